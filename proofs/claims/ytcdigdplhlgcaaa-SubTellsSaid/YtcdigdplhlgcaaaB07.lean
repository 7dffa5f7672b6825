import Derived.Test.YtcdigdplhlgcaaaB00
import Derived.Test.YtcdigdplhlgcaaaB01
import Derived.Test.YtcdigdplhlgcaaaB02
import Derived.Test.YtcdigdplhlgcaaaB03
import Derived.Test.YtcdigdplhlgcaaaB04
import Derived.Test.YtcdigdplhlgcaaaB05
import Derived.Test.YtcdigdplhlgcaaaB06
section
set_option maxRecDepth 100000
set_option linter.unusedVariables false
set_option linter.unusedSectionVars false
set_option linter.unusedSimpArgs false
namespace Go.Proofs.Ytcdigdplhlgcaaa.gx
open Go Ev tp
variable {O O':T AObj} {N:Nat} {G:T (T AV)}
theorem zpW {f hi lk id id2:Nat}(L:LKC G f){k:Int}{nm:List UInt8}{sn sa rv:AV}{ps:List (Option Nat)}{ts:List Ty}{o:Ty}{v:Nat}(hx:Obj O id [.int .i64 k,.str nm,sn,sa,rv])(hxi:id<hi)(hs:SV O 1 pE 0 hi ps sa)(hl:ps.length=ts.length)(hm:ts.length<1000000)(ht:∀ (j:Nat) (x:Ty) (p:Option Nat),ts[j]?=some x→ps[j]?=some p→Tr O hi x p)
 (to:Tr O hi o (some id2)) (oo:okT o=true) (ox:∀ x∈ts,okT x=true) (hc:wq ts+cnt o≤f) (hlk:hi≤lk) (hlN:lk<N) (hob:Obj O lk [.int .u64 (IntKind.u64.wrap ((v:Nat):Int))]) {keep:Nat} {f0:FuncId} {Q:AV→AHeap→Prop} {rest:List AFrame}
 (hK:∀ O' N' td,InvL O N lk O' N' (v+(zn (fun x=>tp.look f x o) ts).2)→Goal P keep f0 Q (AM.mk (RF 108 26 (tX tZ (tX tZ (tY (.bool (zn (fun x=>tp.look f x o) ts).1)))) td) rest ⟨O',N',G⟩)):Goal P keep f0 Q (AM.mk (enF 108 [.ptr lk 0 0,.ptr id 0 0,.ptr id2 0 0]) rest ⟨O,N,G⟩):=by
 obtain ⟨O1,e1,b1,f1⟩:=Obj.mk (c:=(tY (.ptr lk 0 0))) (el:=114) [.ptr lk 0 0] O N 1 rfl (fun u hu=>by rcases u with _ | u <;> first | rfl | omega)
 obtain ⟨O1',e2,b2,f2⟩:=Obj.mk (c:=(tY (.ptr id2 0 0))) (el:=23) [.ptr id2 0 0] O1 (N+1) 1 rfl (fun u hu=>by rcases u with _ | u <;> first | rfl | omega)
 have q2:∀ j,j<N→O1'.get j=O.get j:=fun j hj=>(f2 j (by omega)).trans (f1 j (by omega))
 have b1':=b1.same (f2 N (by omega))
 have loop:∀ (k' i:Nat) (O2:T AObj) (N2:Nat) (s:AV) (bs:List Nat),i+k'=ps.length→N+2≤N2→(∀ j,j<N+2→O2.get j=O1'.get j)→bs.length=i→GV O2 30 1 clE (N+2) N2 (bs.map (fun b=>(127,[N,b,N+1]))) s →
  (∀ (j b:Nat) (y:Option Nat),bs[j]?=some b→ps[j]?=some y→N+2≤b∧b<N2∧Obj O2 b [pv y])→(∀ b,b∈bs→s≠.nils 0 0→b≠sid s)→Goal P keep f0 Q (Weac sa ((ps.length:Nat):Int) ((i:Nat):Int) N (N+1) s rest O2 N2 G):=by
  intro k'
  induction k' with
  | zero =>
   intro i O2 N2 s bs hk hn fr hbl g hb hne
   refine (ot (zon (n:=((ps.length:Nat):Int)) (j:=((i:Nat):Int)) (cc_:=(N+1))) (fkf (decide_eq_false (by omega)) ?_))
   have inv:InvL O N lk O2 N2 v:=⟨by omega,fun j h1 h2=>(fr j (by omega)).trans (q2 j h1),hob.same ((fr lk (by omega)).trans (q2 lk hlN))⟩
   have inv0:InvL O2 N2 lk O2 N2 v:=⟨Nat.le_refl _,fun _ _ _=>rfl,inv.2.2⟩
   have lo':∀ j,j<hi→O2.get j=O.get j:=fun j hj=>(fr j (by omega)).trans (q2 j (by omega))
   have rsl:(ts.map (fun x=>tp.look f x o)).length=ts.length:=by rw [List.length_map]
   refine zeE (rs:=ts.map (fun x=>tp.look f x o)) (g.sv ke) (by rw [List.length_map,List.length_map]; omega) (by omega) (fun j r hr _=>?_) inv0 fun O3 N3 td inv3=>?_
   · rw [List.getElem?_map] at hr
     obtain ⟨x,hx',rfl⟩:=Option.map_eq_some_iff.1 hr
     obtain ⟨hjl,hjx⟩:=List.getElem?_eq_some_iff.1 hx'
     have hxm:x∈ts:=hjx▸List.getElem_mem hjl
     obtain ⟨y,hy,_⟩:=nth (l:=ps) (j:=j) (by omega)
     obtain ⟨b,hb',_⟩:=nth (l:=bs) (j:=j) (by omega)
     obtain ⟨c1,c2,c3⟩:=hb j b y hb' hy
     have hcm:=zA hxm
     exact ask7 L (hi:=hi) (ca:=N) (ob:=N+1) (xb:=b) (idb:=id2) (x:=x) (o:=o) (y:=y) (g.sv ke) (Nat.le_refl _) (by omega) (by rw [List.getElem?_map,hb']; rfl) (by rw [rsl]; omega) (by omega) (b1'.same (fr N (by omega))) (b2.same (fr (N+1) (by omega))) c3 (by omega) (by omega) (by omega) (by omega) (by omega) (by omega) hlk (by omega) (to.same lo' (Nat.le_refl _)) ((ht j x y hx' hy).same lo' (Nat.le_refl _)) oo (ox x hxm) (by omega)
   · rw [vi] at inv3 ⊢
     exact (ot (zjp (bl:=(zn (fun x=>tp.look f x o) ts).1)) (hK O3 N3 _ (inv.trans inv3)))
  | succ k' ih =>
   intro i O2 N2 s bs hk hn fr hbl g hb hne
   obtain ⟨y,hy,_⟩:=nth (l:=ps) (j:=i) (by omega)
   have s2:=hs.keep (O':=O2) (fun j _ hj=>(fr j (by omega)).trans (q2 j (by omega))) (Nat.le_refl 0) (Nat.le_refl hi)
   obtain ⟨i1,i2,i3,lo1,hi1,eA,rd,_⟩:=s2.at pSl pEn hy
   obtain ⟨O3,e3,b3,f3⟩:=Obj.mk (c:=(tY .nilp)) (el:=23) [.nilp] O2 N2 1 rfl (fun u hu=>by rcases u with _ | u <;> first | rfl | omega)
   obtain ⟨O4,s4,b4,f4⟩:=b3.store 0 [pv y] (N2+1) G (Nat.le_of_ble_eq_true rfl) (by cases y <;> rfl)
   obtain ⟨O5,e5,sv5,gv5,f5⟩:=qi ke (127,[N,N2,N+1]) O4 (N2+1) G (st:=131) (el:=30) (v:=.fn (Fn.func 127) [] [.ptr N 0 0,.ptr N2 0 0,.ptr (N+1) 0 0]) (fun h=>by kernel_rfl)
   have g5:GV O5 30 1 clE (N+2) (N2+2) (bs.map (fun b=>(127,[N,b,N+1]))) s:=g.keep (fun j h1 h2=>(f5 j (by omega)).trans ((f4 j (by omega)).trans (f3 j (by omega)))) (Nat.le_refl _) (by omega)
   obtain ⟨O6,N6,s6,e6,g6,n6,n6',fr6,sd6⟩:=g5.app zjD ke sv5 (by omega) (by rw [List.length_map]; simp only [List.length_cons,List.length_nil]; omega) G
   have pcs:(pv y).cells=[pv y]:=by cases y <;> rfl
   have nx:=ih (i+1) O6 N6 s6 (bs++[N2]) (by omega) (by omega) (fun j hj=>(fr6 j (by omega) (fun hne'=>by have:=(g.sid_lt hne').1; omega)).trans ((f5 j (by omega)).trans ((f4 j (by omega)).trans ((f3 j (by omega)).trans (fr j hj))))) (by rw [List.length_append]; simp; omega) (by rw [List.map_append]; exact g6) (fun j b y' hb1 hy1=>?_) (fun b hb1 hne1=>?_)
   · rw [← zx (i:=i) (by omega)] at nx
     exact (ot (zon (n:=((ps.length:Nat):Int)) (j:=((i:Nat):Int)) (cc_:=(N+1))) (fkt (decide_eq_true (by omega)) ⟨_,_,_,(pv y),O3,O4,O5,s6,O6,N6,eA,rd.load rfl _ _,e3,⟨by rw [pcs]; rfl,by rw [pcs]; exact s4⟩,e5,e6,nx⟩))
   · by_cases hj:j<bs.length
     · rw [List.getElem?_append_left hj] at hb1
       obtain ⟨c1,c2,c3⟩:=hb j b y' hb1 hy1
       have hbm:b∈bs:=List.mem_of_getElem? hb1
       exact ⟨c1,by omega,c3.same ((fr6 b (by omega) (fun hne'=>hne b hbm hne')).trans ((f5 b (by omega)).trans ((f4 b (by omega)).trans (f3 b (by omega)))))⟩
     · have hjl:j=bs.length:=by
        have:=(List.getElem?_eq_some_iff.1 hb1).1
        rw [List.length_append] at this
        simp at this
        omega
       rw [List.getElem?_append_right (by omega),hjl,Nat.sub_self] at hb1
       cases hb1
       rw [hjl,hbl,hy] at hy1
       cases hy1
       exact ⟨by omega,by omega,b4.same ((fr6 N2 (by omega) (fun hne'=>by have:=(g.sid_lt hne').2; omega)).trans (f5 N2 (by omega)))⟩
   · rcases sd6 with h | h | ⟨h,h'⟩
     · exact absurd h hne1
     · rcases List.mem_append.1 hb1 with hm1 | hm1
       · obtain ⟨jj,hjj⟩:=List.mem_iff_getElem?.1 hm1
         obtain ⟨yy,hyy,_⟩:=nth (l:=ps) (j:=jj) (by have:=(List.getElem?_eq_some_iff.1 hjj).1; omega)
         have:=(hb jj b yy hjj hyy).2.1
         omega
       · simp at hm1
         omega
     · rcases List.mem_append.1 hb1 with hm1 | hm1
       · rw [h']
         exact hne b hm1 h
       · simp at hm1
         have:=(g.sid_lt h).2
         omega
 refine (ot (t_eac (sa:=sa)) ⟨O1,O1',((ps.length:Nat):Int),e1,e2,(hx.same (q2 id (by omega))).load 3 _ _ (Nat.le_of_ble_eq_true rfl),(hs.keep (fun j _ hj=>q2 j (by omega)) (Nat.le_refl 0) (Nat.le_refl hi)).len pSl _ _,?_⟩)
 exact loop ps.length 0 O1' (N+2) (.nils 0 0) [] (Nat.zero_add _) (Nat.le_refl _) (fun _ _=>rfl) rfl GV.nil (fun j b y h=>by simp at h) (fun b h=>by simp at h)
theorem zqM {f hi lk id id2:Nat}(L:LKC G f){k:Int}{nm:List UInt8}{sn sa2 rv:AV}{ps:List (Option Nat)}{ts:List Ty}{o:Ty}{v:Nat}(hx:Obj O id2 [.int .i64 k,.str nm,sn,sa2,rv])(hxi:id2<hi)(hs:SV O 1 pE 0 hi ps sa2)(hl:ps.length=ts.length)(hm:ts.length<1000000)(ht:∀ (j:Nat) (x:Ty) (p:Option Nat),ts[j]?=some x→ps[j]?=some p→Tr O hi x p)
 (to:Tr O hi o (some id)) (oo:okT o=true) (ox:∀ x∈ts,okT x=true) (hc:wq ts+cnt o≤f) (hlk:hi≤lk) (hlN:lk<N) (hob:Obj O lk [.int .u64 (IntKind.u64.wrap ((v:Nat):Int))]) {keep:Nat} {f0:FuncId} {Q:AV→AHeap→Prop} {rest:List AFrame}
 (hK:∀ O' N' td,InvL O N lk O' N' (v+(ya (fun x=>tp.look f o x) ts).2)→Goal P keep f0 Q (AM.mk (RF 109 27 (tX tZ (tX tZ (tY (.bool (ya (fun x=>tp.look f o x) ts).1)))) td) rest ⟨O',N',G⟩)):Goal P keep f0 Q (AM.mk (enF 109 [.ptr lk 0 0,.ptr id 0 0,.ptr id2 0 0]) rest ⟨O,N,G⟩):=by
 obtain ⟨O1,e1,b1,f1⟩:=Obj.mk (c:=(tY (.ptr lk 0 0))) (el:=114) [.ptr lk 0 0] O N 1 rfl (fun u hu=>by rcases u with _ | u <;> first | rfl | omega)
 obtain ⟨O1',e2,b2,f2⟩:=Obj.mk (c:=(tY (.ptr id 0 0))) (el:=23) [.ptr id 0 0] O1 (N+1) 1 rfl (fun u hu=>by rcases u with _ | u <;> first | rfl | omega)
 have q2:∀ j,j<N→O1'.get j=O.get j:=fun j hj=>(f2 j (by omega)).trans (f1 j (by omega))
 have b1':=b1.same (f2 N (by omega))
 have loop:∀ (k' i:Nat) (O2:T AObj) (N2:Nat) (s:AV) (bs:List Nat),i+k'=ps.length→N+2≤N2→(∀ j,j<N+2→O2.get j=O1'.get j)→bs.length=i→GV O2 30 1 clE (N+2) N2 (bs.map (fun b=>(129,[N,N+1,b]))) s →
  (∀ (j b:Nat) (y:Option Nat),bs[j]?=some b→ps[j]?=some y→N+2≤b∧b<N2∧Obj O2 b [pv y])→(∀ b,b∈bs→s≠.nils 0 0→b≠sid s)→Goal P keep f0 Q (Wone sa2 ((ps.length:Nat):Int) ((i:Nat):Int) N (N+1) s rest O2 N2 G):=by
  intro k'
  induction k' with
  | zero =>
   intro i O2 N2 s bs hk hn fr hbl g hb hne
   refine (ot (zoC (n:=((ps.length:Nat):Int)) (j:=((i:Nat):Int)) (cb:=(N+1))) (fkf (decide_eq_false (by omega)) ?_))
   have inv:InvL O N lk O2 N2 v:=⟨by omega,fun j h1 h2=>(fr j (by omega)).trans (q2 j h1),hob.same ((fr lk (by omega)).trans (q2 lk hlN))⟩
   have inv0:InvL O2 N2 lk O2 N2 v:=⟨Nat.le_refl _,fun _ _ _=>rfl,inv.2.2⟩
   have lo':∀ j,j<hi→O2.get j=O.get j:=fun j hj=>(fr j (by omega)).trans (q2 j (by omega))
   have rsl:(ts.map (fun x=>(!(tp.look f o x).1,(tp.look f o x).2))).length=ts.length:=by rw [List.length_map]
   refine zeE (rs:=ts.map (fun x=>(!(tp.look f o x).1,(tp.look f o x).2))) (g.sv ke) (by rw [List.length_map,List.length_map]; omega) (by omega) (fun j r hr _=>?_) inv0 fun O3 N3 td inv3=>?_
   · rw [List.getElem?_map] at hr
     obtain ⟨x,hx',rfl⟩:=Option.map_eq_some_iff.1 hr
     obtain ⟨hjl,hjx⟩:=List.getElem?_eq_some_iff.1 hx'
     have hxm:x∈ts:=hjx▸List.getElem_mem hjl
     obtain ⟨y,hy,_⟩:=nth (l:=ps) (j:=j) (by omega)
     obtain ⟨b,hb',_⟩:=nth (l:=bs) (j:=j) (by omega)
     obtain ⟨c1,c2,c3⟩:=hb j b y hb' hy
     have hcm:=zA hxm
     exact ask9 L (hi:=hi) (ca:=N) (ob:=N+1) (xb:=b) (idb:=id) (x:=x) (o:=o) (y:=y) (g.sv ke) (Nat.le_refl _) (by omega) (by rw [List.getElem?_map,hb']; rfl) (by rw [rsl]; omega) (by omega) (b1'.same (fr N (by omega))) (b2.same (fr (N+1) (by omega))) c3 (by omega) (by omega) (by omega) (by omega) (by omega) (by omega) hlk (by omega) (to.same lo' (Nat.le_refl _)) ((ht j x y hx' hy).same lo' (Nat.le_refl _)) oo (ox x hxm) (by omega)
   · rw [zcz] at inv3 ⊢
     exact (ot (zi7 (bl:=(!(ya (fun x=>tp.look f o x) ts).1))) (by rw [Bool.not_not]; exact hK O3 N3 _ (inv.trans inv3)))
  | succ k' ih =>
   intro i O2 N2 s bs hk hn fr hbl g hb hne
   obtain ⟨y,hy,_⟩:=nth (l:=ps) (j:=i) (by omega)
   have s2:=hs.keep (O':=O2) (fun j _ hj=>(fr j (by omega)).trans (q2 j (by omega))) (Nat.le_refl 0) (Nat.le_refl hi)
   obtain ⟨i1,i2,i3,lo1,hi1,eA,rd,_⟩:=s2.at pSl pEn hy
   obtain ⟨O3,e3,b3,f3⟩:=Obj.mk (c:=(tY .nilp)) (el:=23) [.nilp] O2 N2 1 rfl (fun u hu=>by rcases u with _ | u <;> first | rfl | omega)
   obtain ⟨O4,s4,b4,f4⟩:=b3.store 0 [pv y] (N2+1) G (Nat.le_of_ble_eq_true rfl) (by cases y <;> rfl)
   obtain ⟨O5,e5,sv5,gv5,f5⟩:=qi ke (129,[N,N+1,N2]) O4 (N2+1) G (st:=131) (el:=30) (v:=.fn (Fn.func 129) [] [.ptr N 0 0,.ptr (N+1) 0 0,.ptr N2 0 0]) (fun h=>by kernel_rfl)
   have g5:GV O5 30 1 clE (N+2) (N2+2) (bs.map (fun b=>(129,[N,N+1,b]))) s:=g.keep (fun j h1 h2=>(f5 j (by omega)).trans ((f4 j (by omega)).trans (f3 j (by omega)))) (Nat.le_refl _) (by omega)
   obtain ⟨O6,N6,s6,e6,g6,n6,n6',fr6,sd6⟩:=g5.app zjD ke sv5 (by omega) (by rw [List.length_map]; simp only [List.length_cons,List.length_nil]; omega) G
   have pcs:(pv y).cells=[pv y]:=by cases y <;> rfl
   have nx:=ih (i+1) O6 N6 s6 (bs++[N2]) (by omega) (by omega) (fun j hj=>(fr6 j (by omega) (fun hne'=>by have:=(g.sid_lt hne').1; omega)).trans ((f5 j (by omega)).trans ((f4 j (by omega)).trans ((f3 j (by omega)).trans (fr j hj))))) (by rw [List.length_append]; simp; omega) (by rw [List.map_append]; exact g6) (fun j b y' hb1 hy1=>?_) (fun b hb1 hne1=>?_)
   · rw [← zx (i:=i) (by omega)] at nx
     exact (ot (zoC (n:=((ps.length:Nat):Int)) (j:=((i:Nat):Int)) (cb:=(N+1))) (fkt (decide_eq_true (by omega)) ⟨_,_,_,(pv y),O3,O4,O5,s6,O6,N6,eA,rd.load rfl _ _,e3,⟨by rw [pcs]; rfl,by rw [pcs]; exact s4⟩,e5,e6,nx⟩))
   · by_cases hj:j<bs.length
     · rw [List.getElem?_append_left hj] at hb1
       obtain ⟨c1,c2,c3⟩:=hb j b y' hb1 hy1
       have hbm:b∈bs:=List.mem_of_getElem? hb1
       exact ⟨c1,by omega,c3.same ((fr6 b (by omega) (fun hne'=>hne b hbm hne')).trans ((f5 b (by omega)).trans ((f4 b (by omega)).trans (f3 b (by omega)))))⟩
     · have hjl:j=bs.length:=by
        have:=(List.getElem?_eq_some_iff.1 hb1).1
        rw [List.length_append] at this
        simp at this
        omega
       rw [List.getElem?_append_right (by omega),hjl,Nat.sub_self] at hb1
       cases hb1
       rw [hjl,hbl,hy] at hy1
       cases hy1
       exact ⟨by omega,by omega,b4.same ((fr6 N2 (by omega) (fun hne'=>by have:=(g.sid_lt hne').2; omega)).trans (f5 N2 (by omega)))⟩
   · rcases sd6 with h | h | ⟨h,h'⟩
     · exact absurd h hne1
     · rcases List.mem_append.1 hb1 with hm1 | hm1
       · obtain ⟨jj,hjj⟩:=List.mem_iff_getElem?.1 hm1
         obtain ⟨yy,hyy,_⟩:=nth (l:=ps) (j:=jj) (by have:=(List.getElem?_eq_some_iff.1 hjj).1; omega)
         have:=(hb jj b yy hjj hyy).2.1
         omega
       · simp at hm1
         omega
     · rcases List.mem_append.1 hb1 with hm1 | hm1
       · rw [h']
         exact hne b hm1 h
       · simp at hm1
         have:=(g.sid_lt h).2
         omega
 refine (ot (t_one (sa2:=sa2)) ⟨O1,O1',((ps.length:Nat):Int),e1,e2,(hx.same (q2 id2 (by omega))).load 3 _ _ (Nat.le_of_ble_eq_true rfl),(hs.keep (fun j _ hj=>q2 j (by omega)) (Nat.le_refl 0) (Nat.le_refl hi)).len pSl _ _,?_⟩)
 exact loop ps.length 0 O1' (N+2) (.nils 0 0) [] (Nat.zero_add _) (Nat.le_refl _) (fun _ _=>rfl) rfl GV.nil (fun j b y h=>by simp at h) (fun b h=>by simp at h)
end Go.Proofs.Ytcdigdplhlgcaaa.gx
end
section
set_option maxRecDepth 100000
set_option linter.unusedVariables false
set_option linter.unusedSectionVars false
set_option linter.unusedSimpArgs false
namespace Go.Proofs.Ytcdigdplhlgcaaa.gx
open Go Ev tp
section
variable (p:Nat) (sn:AV) (w:List UInt8) (sn2:AV) (q:Nat) (sa2:AV) (n j:Int) (i1 i2 i3 i1c i2c i3c:Nat) (sa:AV) (i4 i5 i6:Nat) (s1 rp rp2:AV) (lk ca cb xb:Nat) (xx:AV) (cc_:Nat) (fs:AV) (rest:List AFrame) (O:T AObj) (N:Nat) (G:T (T AV)) (nb1 ib1:Nat) (x1v:AV) (isb:Bool) (jx:Int) (wn:List UInt8)
noncomputable def Wpfi:AM:=⟨⟨131,29,(tW (tW (tX tZ (tY sn)) (.str w) (tX tZ (tY (.int .i64 j)))) (.ptr p 0 0) (tX (tX tZ (tY (.int .i64 n))) tZ)),   [.code (cd P 131 [1,0,1,0,0]),.inLoop (cd P 131 [1,0,1,0,0]),.inBlock 0,.code (cd P 131 [1,1])],[],.run,CallKind.normal,none⟩,rest,⟨O,N,G⟩⟩
noncomputable def zqA:AM:=⟨⟨110,27,(tX (tX (tW (tW (tY (.int .i64 j)) fs tZ) (.ptr ca 0 0) tZ) (tW tZ (.ptr cc_ 0 0) (tY sn2))) (tX (tY (.ptr cb 0 0)) (tX tZ (tY (.int .i64 n))))),   [.code (cd P 110 [1,1,0,1,0,0]),.inLoop (cd P 110 [1,1,0,1,0,0]),.inBlock 0,.code (cd P 110 [1,1,1])],[],.run,CallKind.normal,none⟩,rest,⟨O,N,G⟩⟩
noncomputable def znC:AFrame:=⟨110,27,(tX (tX tZ (tX (tX tZ (tY fs)) tZ)) tZ),   [.ops (rg P 110 [1,1,1,0]).toList ((rg P 110 [1,1,1,0]).toList.drop 1),.code (cd P 110 [1,1,1,1])],[],.run,CallKind.normal,none⟩
noncomputable def zrm:AM:=⟨⟨111,33,(tX (tX (tW (tW (tY sa2) fs tZ) (.ptr ca 0 0) tZ) (tW (tX (tY (.int .i64 j)) tZ) (.ptr cc_ 0 0) tZ)) (tX (tW (tX (tY (.int .i64 n)) tZ) (.ptr cb 0 0) tZ) tZ)),   [.code (cd P 111 [1,1,0,1,0,0]),.inLoop (cd P 111 [1,1,0,1,0,0]),.inBlock 0,.code (cd P 111 [1,1,1])],[],.run,CallKind.normal,none⟩,rest,⟨O,N,G⟩⟩
noncomputable def zoz:AFrame:=⟨111,33,(tX (tX (tX (tX (tX (tY s1) tZ) tZ) tZ) tZ) tZ),   [.ops (rg P 111 [1,1,1,1,0]).toList ((rg P 111 [1,1,1,1,0]).toList.drop 1),.code (cd P 111 [1,1,1,1,1])],[],.run,CallKind.normal,none⟩
noncomputable def Fq0y:AFrame:=⟨130,27,(tX (tX (tY (.ptr cc_ 0 0)) (tX (tY (.ptr p 0 0)) tZ)) (tW (tY (.ptr ib1 0 0)) (.ptr ca 0 0) (tX (tY (.str wn)) tZ))),   [.ops (rg P 130 [1,0]).toList ((rg P 130 [1,0]).toList.drop 2),.code (cd P 130 [1,1])],[],.run,CallKind.normal,none⟩
noncomputable def znR:AFrame:=⟨128,15,(tX (tX (tX (tY (.int .i64 j)) (tY (.fn (Fn.func (130:FuncId)) [] [.ptr cb 0 0,.ptr nb1 0 0,.ptr ca 0 0,.ptr cc_ 0 0,.ptr ib1 0 0]))) (tW (tY (.ptr i1 i2 i3)) fs tZ)) (tX (tW (tY (.bool true)) (.fn (Fn.func (130:FuncId)) [] [.ptr cb 0 0,.ptr nb1 0 0,.ptr ca 0 0,.ptr cc_ 0 0,.ptr ib1 0 0]) tZ) (tW (tY (.fn (Fn.func (130:FuncId)) [] [.ptr cb 0 0,.ptr nb1 0 0,.ptr ca 0 0,.ptr cc_ 0 0,.ptr ib1 0 0])) (.int .i64 n) tZ))),   [.ops (rg P 128 [1,0,1,0,0,1,1,0,0,1,0]).toList ((rg P 128 [1,0,1,0,0,1,1,0,0,1,0]).toList.drop 1),.code (cd P 128 [1,0,1,0,0,1,1,0,0,1,1]),.inBlock 1,.code (cd P 128 [1,0,1,0,0,1,1,1]),.inLoop (cd P (128:FuncId) [1,0,1,0,0]),.inBlock 0,.code (cd P (128:FuncId) [1,1])],[],.run,CallKind.normal,none⟩
noncomputable def zhG:AFrame:=⟨130,27,(tX (tX (tW (tW (tY (.bool true)) (.bool isb) (tY (.ptr i1 i2 i3))) (.ptr cc_ 0 0) (tW (tY (.ptr q 0 0)) (.tup [x1v,.bool isb]) tZ)) (tX (tW (tY x1v) (.ptr p 0 0) tZ) (tW (tY sa2) (.bool isb) tZ))) (tW (tW (tW (tY (.ptr lk 0 0)) (.tup [x1v,.bool isb]) (tY s1)) (.ptr ib1 0 0) (tW (tY (.ptr q 0 3)) x1v tZ)) (.ptr ca 0 0) (tW (tW (tY (.ptr q 0 0)) (.str wn) tZ) x1v (tW (tY (.int .i64 jx)) (.bool isb) tZ)))),   [.drw (rg P 130 [1,1,0]) [11,12,13] [10,9,8,7,6,5,4,3,2,1,0],.code (cd P 131 [1,0,1,0,0,1,1,0,0,1,1,0,1])],[],.run,CallKind.normal,none⟩
noncomputable def zcH:AFrame:=⟨128,15,(tX (tX (tX (tY (.int .i64 j)) (tY (.fn (Fn.func (130:FuncId)) [] [.ptr cb 0 0,.ptr nb1 0 0,.ptr ca 0 0,.ptr cc_ 0 0,.ptr ib1 0 0]))) (tW (tY (.ptr i1c i2c i3c)) fs tZ)) (tX (tW (tY (.bool true)) (.fn (Fn.func (130:FuncId)) [] [.ptr cb 0 0,.ptr nb1 0 0,.ptr ca 0 0,.ptr cc_ 0 0,.ptr ib1 0 0]) tZ) (tW (tY (.fn (Fn.func (130:FuncId)) [] [.ptr cb 0 0,.ptr nb1 0 0,.ptr ca 0 0,.ptr cc_ 0 0,.ptr ib1 0 0])) (.int .i64 n) tZ))),   [.ops (rg P (128:FuncId) [1,0,1,0,0,1,1,0,0,1,0]).toList ((rg P (128:FuncId) [1,0,1,0,0,1,1,0,0,1,0]).toList.drop 1),.code (cd P (128:FuncId) [1,0,1,0,0,1,1,0,0,1,1]),.inBlock 1,.code (cd P (128:FuncId) [1,0,1,0,0,1,1,1]),.inLoop (cd P (128:FuncId) [1,0,1,0,0]),.inBlock 0,.code (cd P (128:FuncId) [1,1])],[],.run,CallKind.normal,none⟩
noncomputable def Fq3y:AFrame:=⟨133,15,(tW (tW (tW (tY (.ptr p 0 0)) (.ptr ib1 0 0) (tY (.int .i64 jx))) (.ptr xb 0 0) (tW (tY (.ptr p 0 3)) (.ptr lk 0 0) (tY s1))) (.ptr ca 0 0) (tW (tW (tY (.ptr p 0 0)) (.bool false) (tY (.ptr i4 i5 i6))) (.ptr cb 0 0) (tW (tY sa) xx tZ))),   [.drw (rg P 133 [1,0]) [9,10] [8,7,6,5,4,3,2,1,0],.code (cd P 128 [1,0,1,0,0,1,1,0,0,1,1,0,1])],[],.run,CallKind.normal,none⟩
noncomputable def znW:AFrame:=⟨128,15,(tX (tX (tX (tY (.int .i64 j)) (tY (.fn (Fn.func (133:FuncId)) [] [.ptr ca 0 0,.ptr xb 0 0,.ptr cb 0 0,.ptr ib1 0 0]))) (tW (tY (.ptr i1 i2 i3)) fs tZ)) (tX (tW (tY (.bool true)) (.fn (Fn.func (133:FuncId)) [] [.ptr ca 0 0,.ptr xb 0 0,.ptr cb 0 0,.ptr ib1 0 0]) tZ) (tW (tY (.fn (Fn.func (133:FuncId)) [] [.ptr ca 0 0,.ptr xb 0 0,.ptr cb 0 0,.ptr ib1 0 0])) (.int .i64 n) tZ))),   [.ops (rg P 128 [1,0,1,0,0,1,1,0,0,1,0]).toList ((rg P 128 [1,0,1,0,0,1,1,0,0,1,0]).toList.drop 1),.code (cd P 128 [1,0,1,0,0,1,1,0,0,1,1]),.inBlock 1,.code (cd P 128 [1,0,1,0,0,1,1,1]),.inLoop (cd P (128:FuncId) [1,0,1,0,0]),.inBlock 0,.code (cd P (128:FuncId) [1,1])],[],.run,CallKind.normal,none⟩
noncomputable def Fq4y:AFrame:=⟨134,14,(tW (tW (tW (tY (.ptr p 0 4)) (.bool false) (tY (.ptr q 0 4))) (.ptr cb 0 0) (tW (tY (.ptr q 0 0)) (.ptr p 0 0) tZ)) (.ptr ca 0 0) (tW (tW (tY rp) (.ptr lk 0 0) (tY rp2)) (.ptr cc_ 0 0) (tW (tY (.ptr q 0 0)) (.ptr p 0 0) tZ))),   [.drw (rg P 134 [1,0]) [9,10] [8,7,6,5,4,3,2,1,0],.code (cd P 128 [1,0,1,0,0,1,1,0,0,1,1,0,1])],[],.run,CallKind.normal,none⟩
noncomputable def zm7:AFrame:=⟨128,15,(tX (tX (tX (tY (.int .i64 j)) (tY (.fn (Fn.func (134:FuncId)) [] [.ptr ca 0 0,.ptr cb 0 0,.ptr cc_ 0 0]))) (tW (tY (.ptr i1 i2 i3)) fs tZ)) (tX (tW (tY (.bool true)) (.fn (Fn.func (134:FuncId)) [] [.ptr ca 0 0,.ptr cb 0 0,.ptr cc_ 0 0]) tZ) (tW (tY (.fn (Fn.func (134:FuncId)) [] [.ptr ca 0 0,.ptr cb 0 0,.ptr cc_ 0 0])) (.int .i64 n) tZ))),   [.ops (rg P 128 [1,0,1,0,0,1,1,0,0,1,0]).toList ((rg P 128 [1,0,1,0,0,1,1,0,0,1,0]).toList.drop 1),.code (cd P 128 [1,0,1,0,0,1,1,0,0,1,1]),.inBlock 1,.code (cd P 128 [1,0,1,0,0,1,1,1]),.inLoop (cd P (128:FuncId) [1,0,1,0,0]),.inBlock 0,.code (cd P (128:FuncId) [1,1])],[],.run,CallKind.normal,none⟩
end
section
variable {R:AV→AHeap→Prop} {keep N p q lk ca cb cc_ nb1 ib1 i1c i2c i3c i1cc i2cc i3cc xb i4c i5c i6c:Nat} {f0:FuncId} {rest:List AFrame} {O:T AObj} {w wn:List UInt8} {sn sa sn2 sa2 fs s1c x1v xx rp rp2:AV} {G:T (T AV)} {K:AM→Prop} {n j jx:Int} {td:List AItem} {bl isb:Bool}
theorem t_pfi:(∃ (z1:Int),(lC O N G p 2 sn)∧(lN O N G 32 sn z1)∧K (Wpfi p sn w z1 0 rest O N G))=OT f0 R keep K (.ex fun z1:Int=>(.seq [.run 11,.hop (sn) O,.hopn (.int .i64 z1) O (N),.run 4,.keep [0,1,11,12,13]] .fin)) ((AM.mk (enF 131 [.ptr p 0 0,.str w]) rest ⟨O,N,G⟩)):=by kernel_rfl
theorem zo8:(((decide (j<n))=true→(∃ (i1:Nat) (i2:Nat) (i3:Nat) (l1:List UInt8),(iX 32 sn j i1 i2 i3)∧(lR O N G i1 i2 i3 (.str l1))∧(((l1==w))=true→(∃ (i4:Nat) (i5:Nat) (i6:Nat) (s1:AV),(lC O N G p 3 sa)∧(iX 33 sa j i4 i5 i6)∧(lR O N G i4 i5 i6 s1)∧K (AM.mk (RF 131 29 (tX (tX tZ (tY (.bool true))) (tX (tY s1) tZ)) [.code (cd P 131 [1,0,1,0,0,1,1,0,0,1,1,0,1]),.inBlock 1,.code (cd P 131 [1,0,1,0,0,1,1,1]),.inLoop (cd P (131:FuncId) [1,0,1,0,0]),.inBlock 0,.code (cd P (131:FuncId) [1,1])]) rest ⟨O,N,G⟩)))∧(((l1==w))=false→(K (Wpfi p sn w n (IntKind.i64.wrap (j+(1:Int))) rest O N G)))))∧((decide (j<n))=false→(K (AM.mk (RF 131 29 (tX (tX tZ (tY (.bool false))) (tX (tY .nilp) tZ)) [.code (cd P 131 [1,0,1,0,0,1,1,0,0,1,1,0,1])]) rest ⟨O,N,G⟩))))=OT f0 R keep K (.seq [.run 5] (.fork 14 (.ex fun i1:Nat=>(.ex fun i2:Nat=>(.ex fun i3:Nat=>(.ex fun l1:List UInt8=>(.seq [.run 7,.hopn (.ptr i1 i2 i3) O (N),.hop (.str l1) O,.run 9] (.fork 20 (.ex fun i4:Nat=>(.ex fun i5:Nat=>(.ex fun i6:Nat=>(.ex fun s1:AV=>(.seq [.run 6,.hop (sa) O,.run 1,.hopn (.ptr i4 i5 i6) O (N),.hop (s1) O,.run 4,.keep [4,5]] .fin))))) (.seq [.run 8,.keep [0,1,11,12,13]] .fin))))))) (.seq [.run 8,.keep [4,5]] .fin))) ((Wpfi p sn w n j rest O N G)):=by kernel_rfl
theorem t_fds:(∃ (O1:T AObj) (O2:T AObj) (O3:T AObj) (z1:Int),(T.set ((some (.cells (tY (.ptr lk 0 0)) 1 114 0 0 1 0 false .leaf))) (O) (N)=O1)∧(T.set ((some (.cells (tY (.ptr p 0 0)) 1 23 0 0 1 0 false .leaf))) (O1) (N+1)=O2)∧(T.set ((some (.cells (tY (.ptr q 0 0)) 1 23 0 0 1 0 false .leaf))) (O2) (N+2)=O3)∧(zb (⟨O3,N+3,G⟩) (N+2) (0) (0) (1)=(some [.ptr q 0 0]))∧(lC O3 (N+3) G q 2 sn2)∧(lN O3 (N+3) G 32 sn2 z1)∧K (zqA sn2 z1 0 N (N+1) (N+2) (.nils 0 0) rest O3 (N+3) G))=OT f0 R keep K (.ex fun O1:T AObj=>(.ex fun O2:T AObj=>(.ex fun O3:T AObj=>(.ex fun z1:Int=>(.seq [.run 2,.hop (.nilp) O1,.hop (.nilp) O2,.hop (.nilp) O3,.run 9,.hop (.ptr q 0 0) O3,.run 2,.hop (sn2) O3,.hopn (.int .i64 z1) O3 (N+3),.run 4,.keep [3,4,5,7,13,14,15]] .fin))))) ((AM.mk (enF 110 [.ptr lk 0 0,.ptr p 0 0,.ptr q 0 0]) rest ⟨O,N,G⟩)):=by kernel_rfl
theorem t_fns:(∃ (O1:T AObj) (O2:T AObj) (O3:T AObj) (O4:T AObj) (z1:Int),(T.set ((some (.cells (tY (.ptr lk 0 0)) 1 114 0 0 1 0 false .leaf))) (O) (N)=O1)∧(T.set ((some (.cells (tY (.ptr p 0 0)) 1 23 0 0 1 0 false .leaf))) (O1) (N+1)=O2)∧(T.set ((some (.cells (tY (.ptr q 0 0)) 1 23 0 0 1 0 false .leaf))) (O2) (N+2)=O3)∧(zd P (⟨O3,N+3,G⟩) (131) (1) ([(0,.fn (Fn.func 132) [] [.ptr (N+1) 0 0,.ptr (N+2) 0 0])])=(some (.slc (N+3) 0 0 1 1,⟨O4,N+4,G⟩)))∧(zb (⟨O4,N+4,G⟩) (N+2) (0) (0) (1)=(some [.ptr q 0 0]))∧(lC O4 (N+4) G q 3 sa2)∧(lN O4 (N+4) G 33 sa2 z1)∧K (zrm sa2 z1 0 N (N+1) (N+2) (.slc (N+3) 0 0 1 1) rest O4 (N+4) G))=OT f0 R keep K (.ex fun O1:T AObj=>(.ex fun O2:T AObj=>(.ex fun O3:T AObj=>(.ex fun O4:T AObj=>(.ex fun z1:Int=>(.seq [.run 2,.hop (.nilp) O1,.hop (.nilp) O2,.hop (.nilp) O3,.run 5,.hopn (.slc (N+3) 0 0 1 1) O4 (N+4),.run 5,.hop (.ptr q 0 0) O4,.run 2,.hop (sa2) O4,.hopn (.int .i64 z1) O4 (N+4),.run 4,.keep [3,4,5,7,15,16,17]] .fin)))))) ((AM.mk (enF 111 [.ptr lk 0 0,.ptr p 0 0,.ptr q 0 0]) rest ⟨O,N,G⟩)):=by kernel_rfl
theorem zoa:(((decide (j<n))=true→(∃ (i1:Nat) (i2:Nat) (i3:Nat) (l1:List UInt8) (O1:T AObj) (O2:T AObj) (O3:T AObj) (O4:T AObj) (O5:T AObj) (s1:AV) (O6:T AObj) (N1:Nat),(iX 32 sn2 j i1 i2 i3)∧(lR O N G i1 i2 i3 (.str l1))∧(T.set ((some (.cells (tY (.int .i64 0)) 1 3 0 0 1 0 false .leaf))) (O) (N)=O1)∧(T.set ((some (.cells (tY (.str [])) 1 9 0 0 1 0 false .leaf))) (O1) (N+1)=O2)∧(zc (⟨O2,N+2,G⟩) (N) (0) (0) ([.int .i64 j])=(some ⟨O3,N+2,G⟩))∧(zc (⟨O3,N+2,G⟩) (N+1) (0) (0) ([.str l1])=(some ⟨O4,N+2,G⟩))∧(zd P (⟨O4,N+2,G⟩) (131) (1) ([(0,.fn (Fn.func 130) [] [.ptr cb 0 0,.ptr (N+1) 0 0,.ptr ca 0 0,.ptr cc_ 0 0,.ptr N 0 0])])=(some (.slc (N+2) 0 0 1 1,⟨O5,N+3,G⟩)))∧(zf P (⟨O5,N+3,G⟩) (Builtin.append) ((some 131)) ((some 131)) ([fs,.slc (N+2) 0 0 1 1])=(some (.val s1 ⟨O6,N1,G⟩)))∧K (zqA sn2 n (IntKind.i64.wrap (j+(1:Int))) ca cb cc_ s1 rest O6 N1 G)))∧((decide (j<n))=false→(K (AM.mk (enF 128 [fs]) ((znC fs)::rest) ⟨O,N,G⟩))))=OT f0 R keep K (.seq [.run 5] (.fork 16 (.ex fun i1:Nat=>(.ex fun i2:Nat=>(.ex fun i3:Nat=>(.ex fun l1:List UInt8=>(.ex fun O1:T AObj=>(.ex fun O2:T AObj=>(.ex fun O3:T AObj=>(.ex fun O4:T AObj=>(.ex fun O5:T AObj=>(.ex fun s1:AV=>(.ex fun O6:T AObj=>(.ex fun N1:Nat=>(.seq [.run 7,.hopn (.ptr i1 i2 i3) O (N),.hop (.str l1) O,.hop (.nilp) O1,.hop (.nilp) O2,.hop (.nilp) O3,.hop (.nilp) O4,.run 4,.hopn (.slc (N+2) 0 0 1 1) O5 (N+3),.hopn (s1) O6 (N1),.run 8,.keep [3,4,5,7,13,14,15]] .fin))))))))))))) (.seq [.run 5,.keep [25],.run 1] .fin))) ((zqA sn2 n j ca cb cc_ fs rest O N G)):=by kernel_rfl
theorem zjv:(K (AM.mk (RF 110 27 (tX tZ (tX tZ (tY (.bool bl)))) [.code (cd P (110:FuncId) [1,1,1,1])]) rest ⟨O,N,G⟩))=OT f0 R keep K (.seq [.run 4,.keep [6]] .fin) ((AM.mk (RF 128 15 (tX tZ (tY (.bool bl))) td) ((znC fs)::rest) ⟨O,N,G⟩)):=by kernel_rfl
theorem zow:(((decide (j<n))=true→(∃ (i1:Nat) (i2:Nat) (i3:Nat) (s1:AV) (O1:T AObj) (O2:T AObj) (O3:T AObj) (O4:T AObj) (O5:T AObj) (s2:AV) (O6:T AObj) (N1:Nat),(iX 33 sa2 j i1 i2 i3)∧(lR O N G i1 i2 i3 s1)∧(T.set ((some (.cells (tY (.int .i64 0)) 1 3 0 0 1 0 false .leaf))) (O) (N)=O1)∧(T.set ((some (.cells (tY .nilp) 1 23 0 0 1 0 false .leaf))) (O1) (N+1)=O2)∧(zc (⟨O2,N+2,G⟩) (N) (0) (0) ([.int .i64 j])=(some ⟨O3,N+2,G⟩))∧(s1.cells.length.beq (1)=true∧zc (⟨O3,N+2,G⟩:AHeap) (N+1) (0) (0) s1.cells=some (⟨O4,(N+2),G⟩:AHeap))∧(zd P (⟨O4,N+2,G⟩) (131) (1) ([(0,.fn (Fn.func 133) [] [.ptr ca 0 0,.ptr (N+1) 0 0,.ptr cb 0 0,.ptr N 0 0])])=(some (.slc (N+2) 0 0 1 1,⟨O5,N+3,G⟩)))∧(zf P (⟨O5,N+3,G⟩) (Builtin.append) ((some 131)) ((some 131)) ([fs,.slc (N+2) 0 0 1 1])=(some (.val s2 ⟨O6,N1,G⟩)))∧K (zrm sa2 n (IntKind.i64.wrap (j+(1:Int))) ca cb cc_ s2 rest O6 N1 G)))∧((decide (j<n))=false→(∃ (O1:T AObj) (s1:AV) (O2:T AObj) (N1:Nat),(zd P (⟨O,N,G⟩) (131) (1) ([(0,.fn (Fn.func 134) [] [.ptr ca 0 0,.ptr cb 0 0,.ptr cc_ 0 0])])=(some (.slc N 0 0 1 1,⟨O1,N+1,G⟩)))∧(zf P (⟨O1,N+1,G⟩) (Builtin.append) ((some 131)) ((some 131)) ([fs,.slc N 0 0 1 1])=(some (.val s1 ⟨O2,N1,G⟩)))∧K (AM.mk (enF 128 [s1]) ((zoz s1)::rest) ⟨O2,N1,G⟩))))=OT f0 R keep K (.seq [.run 5] (.fork 18 (.ex fun i1:Nat=>(.ex fun i2:Nat=>(.ex fun i3:Nat=>(.ex fun s1:AV=>(.ex fun O1:T AObj=>(.ex fun O2:T AObj=>(.ex fun O3:T AObj=>(.ex fun O4:T AObj=>(.ex fun O5:T AObj=>(.ex fun s2:AV=>(.ex fun O6:T AObj=>(.ex fun N1:Nat=>(.seq [.run 7,.hopn (.ptr i1 i2 i3) O (N),.hop (s1) O,.hop (.nilp) O1,.hop (.nilp) O2,.hop (.nilp) O3,.hopn (.nilp) O4 (N+2),.run 4,.hopn (.slc (N+2) 0 0 1 1) O5 (N+3),.hopn (s2) O6 (N1),.run 8,.keep [3,4,5,7,15,16,17]] .fin))))))))))))) (.ex fun O1:T AObj=>(.ex fun s1:AV=>(.ex fun O2:T AObj=>(.ex fun N1:Nat=>(.seq [.run 6,.hopn (.slc N 0 0 1 1) O1 (N+1),.hopn (s1) O2 (N1),.run 5,.keep [31],.run 1] .fin))))))) ((zrm sa2 n j ca cb cc_ fs rest O N G)):=by kernel_rfl
theorem zcQ:(K (AM.mk (RF 111 33 (tX tZ (tX tZ (tY (.bool bl)))) [.code (cd P (111:FuncId) [1,1,1,1,1])]) rest ⟨O,N,G⟩))=OT f0 R keep K (.seq [.run 4,.keep [6]] .fin) ((AM.mk (RF 128 15 (tX tZ (tY (.bool bl))) td) ((zoz s1c)::rest) ⟨O,N,G⟩)):=by kernel_rfl
theorem t_q0:(((decide (j<n))=true→(∃ (i1:Nat) (i2:Nat) (i3:Nat),(iX 131 fs j i1 i2 i3)∧(zb (⟨O,N,G⟩) (i1) (i2) (i3) (1)=(some [.fn (Fn.func (130:FuncId)) [] [.ptr cb 0 0,.ptr nb1 0 0,.ptr ca 0 0,.ptr cc_ 0 0,.ptr ib1 0 0]]))∧(lC O N G cb 0 (.ptr p 0 0))∧(lC O N G nb1 0 (.str wn))∧K (AM.mk (enF 131 [.ptr p 0 0,.str wn]) ((Fq0y p ca cc_ ib1 wn)::(znR n j i1 i2 i3 ca cb cc_ fs nb1 ib1)::rest) ⟨O,N,G⟩)))∧((decide (j<n))=false→(K (AM.mk (RF 128 15 (tX tZ (tY (.bool true))) [.code (cd P 128 [1,0,1,0,0,1,1,0,0,1,1,0,1])]) rest ⟨O,N,G⟩))))=OT f0 R keep K (.seq [.run 5] (.fork 8 (.ex fun i1:Nat=>(.ex fun i2:Nat=>(.ex fun i3:Nat=>(.seq [.run 6,.hopn (.ptr i1 i2 i3) O (N),.hop (.fn (Fn.func (130:FuncId)) [] [.ptr cb 0 0,.ptr nb1 0 0,.ptr ca 0 0,.ptr cc_ 0 0,.ptr ib1 0 0]) O,.run 12,.hop (.ptr p 0 0) O,.hop (.str wn) O,.keep [2,3,4,9,10],.run 1] .fin)))) (.seq [.run 7,.keep [2]] .fin))) ((zfY n j fs rest O N G)):=by kernel_rfl
theorem zig:(((isb)=true→(∃ (i1:Nat) (i2:Nat) (i3:Nat) (s1:AV),(lC O N G ca 0 (.ptr lk 0 0))∧(lC O N G cc_ 0 (.ptr q 0 0))∧(lC O N G q 3 sa2)∧(lC O N G ib1 0 (.int .i64 jx))∧(iX 33 sa2 jx i1 i2 i3)∧(lR O N G i1 i2 i3 s1)∧K (AM.mk (enF 75 [.ptr lk 0 0,x1v,s1]) ((zhG p q sa2 i1 i2 i3 s1 lk ca cc_ ib1 x1v isb jx wn)::(zcH n j i1c i2c i3c ca cb cc_ fs nb1 ib1)::rest) ⟨O,N,G⟩)))∧((isb)=false→(K (AM.mk (RF 128 15 (tX tZ (tY (.bool false))) [.code (cd P 131 [1,0,1,0,0,1,1,0,0,1,1,0,1]),.inBlock 1,.code (cd P (128:FuncId) [1,0,1,0,0,1,1,1]),.inLoop (cd P (128:FuncId) [1,0,1,0,0]),.inBlock 0,.code (cd P (128:FuncId) [1,1])]) rest ⟨O,N,G⟩))))=OT f0 R keep K (.seq [.run 11] (.fork 15 (.ex fun i1:Nat=>(.ex fun i2:Nat=>(.ex fun i3:Nat=>(.ex fun s1:AV=>(.seq [.hop (.ptr lk 0 0) O,.run 1,.hop (.ptr q 0 0) O,.run 2,.hop (sa2) O,.hop (.int .i64 jx) O,.hopn (.ptr i1 i2 i3) O (N),.hop (s1) O,.run 1] .fin))))) (.seq [.run 23,.keep [2]] .fin))) ((AM.mk (RF 131 29 (tX (tX tZ (tY (.bool isb))) (tX (tY x1v) tZ)) td) ((Fq0y p ca cc_ ib1 wn)::(znR n j i1c i2c i3c ca cb cc_ fs nb1 ib1)::rest) ⟨O,N,G⟩)):=by kernel_rfl
theorem zag:((((!bl))=true→(K (AM.mk (RF 128 15 (tX tZ (tY (.bool false))) [.code (cd P 75 [1,1,0,0,0,0,0,0,0,0,0,0,0,0,0,0,1,0,1]),.inBlock 1,.code (cd P (128:FuncId) [1,0,1,0,0,1,1,1]),.inLoop (cd P (128:FuncId) [1,0,1,0,0]),.inBlock 0,.code (cd P (128:FuncId) [1,1])]) rest ⟨O,N,G⟩)))∧(((!bl))=false→(K (zfY n (IntKind.i64.wrap (j+(1:Int))) fs rest O N G))))=OT f0 R keep K (.seq [.run 8] (.fork 13 (.seq [.run 6,.keep [2]] .fin) (.seq [.run 8,.keep [5,6,7]] .fin))) ((AM.mk (RF 75 91 (tX tZ (tX tZ (tY (.bool bl)))) td) ((zhG p q sa2 i1cc i2cc i3cc s1c lk ca cc_ ib1 x1v isb jx wn)::(zcH n j i1c i2c i3c ca cb cc_ fs nb1 ib1)::rest) ⟨O,N,G⟩)):=by kernel_rfl
theorem t_q2:(((decide (j<n))=true→(∃ (i1:Nat) (i2:Nat) (i3:Nat) (z1:Int) (z2:Int),(iX 131 fs j i1 i2 i3)∧(zb (⟨O,N,G⟩) (i1) (i2) (i3) (1)=(some [.fn (Fn.func (132:FuncId)) [] [.ptr cb 0 0,.ptr cc_ 0 0]]))∧(lC O N G cb 0 (.ptr p 0 0))∧(lC O N G p 3 sa)∧(lN O N G 33 sa z1)∧(lC O N G cc_ 0 (.ptr q 0 0))∧(lC O N G q 3 sa2)∧(lN O N G 33 sa2 z2)∧(((!z1==z2))=true→(K (AM.mk (RF 128 15 (tX tZ (tY (.bool false))) [.code (cd P 128 [1,0,1,0,0,1,1,0,0,1,1,0,1]),.inBlock 1,.code (cd P 128 [1,0,1,0,0,1,1,1]),.inLoop (cd P (128:FuncId) [1,0,1,0,0]),.inBlock 0,.code (cd P (128:FuncId) [1,1])]) rest ⟨O,N,G⟩)))∧(((!z1==z2))=false→(K (zfY n (IntKind.i64.wrap (j+(1:Int))) fs rest O N G)))))∧((decide (j<n))=false→(K (AM.mk (RF 128 15 (tX tZ (tY (.bool true))) [.code (cd P 128 [1,0,1,0,0,1,1,0,0,1,1,0,1])]) rest ⟨O,N,G⟩))))=OT f0 R keep K (.seq [.run 5] (.fork 8 (.ex fun i1:Nat=>(.ex fun i2:Nat=>(.ex fun i3:Nat=>(.ex fun z1:Int=>(.ex fun z2:Int=>(.seq [.run 6,.hopn (.ptr i1 i2 i3) O (N),.hop (.fn (Fn.func (132:FuncId)) [] [.ptr cb 0 0,.ptr cc_ 0 0]) O,.run 12,.hop (.ptr p 0 0) O,.run 2,.hop (sa) O,.hopn (.int .i64 z1) O (N),.hop (.ptr q 0 0) O,.run 2,.hop (sa2) O,.hopn (.int .i64 z2) O (N),.run 7] (.fork 13 (.seq [.run 6,.keep [2]] .fin) (.seq [.run 8,.keep [5,6,7]] .fin)))))))) (.seq [.run 7,.keep [2]] .fin))) ((zfY n j fs rest O N G)):=by kernel_rfl
theorem t_q3:(((decide (j<n))=true→(∃ (i1:Nat) (i2:Nat) (i3:Nat) (i4:Nat) (i5:Nat) (i6:Nat) (s1:AV),(iX 131 fs j i1 i2 i3)∧(zb (⟨O,N,G⟩) (i1) (i2) (i3) (1)=(some [.fn (Fn.func (133:FuncId)) [] [.ptr ca 0 0,.ptr xb 0 0,.ptr cb 0 0,.ptr ib1 0 0]]))∧(lC O N G ca 0 (.ptr lk 0 0))∧(lC O N G xb 0 xx)∧(lC O N G cb 0 (.ptr p 0 0))∧(lC O N G p 3 sa)∧(lC O N G ib1 0 (.int .i64 jx))∧(iX 33 sa jx i4 i5 i6)∧(lR O N G i4 i5 i6 s1)∧K (AM.mk (enF 75 [.ptr lk 0 0,xx,s1]) ((Fq3y p sa i4 i5 i6 s1 lk ca cb xb xx ib1 jx)::(znW n j i1 i2 i3 ca cb xb fs ib1)::rest) ⟨O,N,G⟩)))∧((decide (j<n))=false→(K (AM.mk (RF 128 15 (tX tZ (tY (.bool true))) [.code (cd P 128 [1,0,1,0,0,1,1,0,0,1,1,0,1])]) rest ⟨O,N,G⟩))))=OT f0 R keep K (.seq [.run 5] (.fork 8 (.ex fun i1:Nat=>(.ex fun i2:Nat=>(.ex fun i3:Nat=>(.ex fun i4:Nat=>(.ex fun i5:Nat=>(.ex fun i6:Nat=>(.ex fun s1:AV=>(.seq [.run 6,.hopn (.ptr i1 i2 i3) O (N),.hop (.fn (Fn.func (133:FuncId)) [] [.ptr ca 0 0,.ptr xb 0 0,.ptr cb 0 0,.ptr ib1 0 0]) O,.run 12,.hop (.ptr lk 0 0) O,.hop (xx) O,.hop (.ptr p 0 0) O,.run 2,.hop (sa) O,.hop (.int .i64 jx) O,.hopn (.ptr i4 i5 i6) O (N),.hop (s1) O,.run 1] .fin)))))))) (.seq [.run 7,.keep [2]] .fin))) ((zfY n j fs rest O N G)):=by kernel_rfl
theorem zhj:((((!bl))=true→(K (AM.mk (RF 128 15 (tX tZ (tY (.bool false))) [.code (cd P 75 [1,1,0,0,0,0,0,0,0,0,0,0,0,0,0,0,1,0,1]),.inBlock 1,.code (cd P (128:FuncId) [1,0,1,0,0,1,1,1]),.inLoop (cd P (128:FuncId) [1,0,1,0,0]),.inBlock 0,.code (cd P (128:FuncId) [1,1])]) rest ⟨O,N,G⟩)))∧(((!bl))=false→(K (zfY n (IntKind.i64.wrap (j+(1:Int))) fs rest O N G))))=OT f0 R keep K (.seq [.run 7] (.fork 13 (.seq [.run 6,.keep [2]] .fin) (.seq [.run 8,.keep [5,6,7]] .fin))) ((AM.mk (RF 75 91 (tX tZ (tX tZ (tY (.bool bl)))) td) ((Fq3y p sa i4c i5c i6c s1c lk ca cb xb xx ib1 jx)::(znW n j i1c i2c i3c ca cb xb fs ib1)::rest) ⟨O,N,G⟩)):=by kernel_rfl
theorem t_q4:(((decide (j<n))=true→(∃ (i1:Nat) (i2:Nat) (i3:Nat),(iX 131 fs j i1 i2 i3)∧(zb (⟨O,N,G⟩) (i1) (i2) (i3) (1)=(some [.fn (Fn.func (134:FuncId)) [] [.ptr ca 0 0,.ptr cb 0 0,.ptr cc_ 0 0]]))∧(lC O N G ca 0 (.ptr lk 0 0))∧(lC O N G cb 0 (.ptr p 0 0))∧(lC O N G p 4 rp)∧(lC O N G cc_ 0 (.ptr q 0 0))∧(lC O N G q 4 rp2)∧K (AM.mk (enF 75 [.ptr lk 0 0,rp,rp2]) ((Fq4y p q rp rp2 lk ca cb cc_)::(zm7 n j i1 i2 i3 ca cb cc_ fs)::rest) ⟨O,N,G⟩)))∧((decide (j<n))=false→(K (AM.mk (RF 128 15 (tX tZ (tY (.bool true))) [.code (cd P 128 [1,0,1,0,0,1,1,0,0,1,1,0,1])]) rest ⟨O,N,G⟩))))=OT f0 R keep K (.seq [.run 5] (.fork 8 (.ex fun i1:Nat=>(.ex fun i2:Nat=>(.ex fun i3:Nat=>(.seq [.run 6,.hopn (.ptr i1 i2 i3) O (N),.hop (.fn (Fn.func (134:FuncId)) [] [.ptr ca 0 0,.ptr cb 0 0,.ptr cc_ 0 0]) O,.run 12,.hop (.ptr lk 0 0) O,.hop (.ptr p 0 0) O,.run 2,.hop (rp) O,.hop (.ptr q 0 0) O,.run 2,.hop (rp2) O,.run 1] .fin)))) (.seq [.run 7,.keep [2]] .fin))) ((zfY n j fs rest O N G)):=by kernel_rfl
theorem zib:((((!bl))=true→(K (AM.mk (RF 128 15 (tX tZ (tY (.bool false))) [.code (cd P 75 [1,1,0,0,0,0,0,0,0,0,0,0,0,0,0,0,1,0,1]),.inBlock 1,.code (cd P (128:FuncId) [1,0,1,0,0,1,1,1]),.inLoop (cd P (128:FuncId) [1,0,1,0,0]),.inBlock 0,.code (cd P (128:FuncId) [1,1])]) rest ⟨O,N,G⟩)))∧(((!bl))=false→(K (zfY n (IntKind.i64.wrap (j+(1:Int))) fs rest O N G))))=OT f0 R keep K (.seq [.run 7] (.fork 13 (.seq [.run 6,.keep [2]] .fin) (.seq [.run 8,.keep [5,6,7]] .fin))) ((AM.mk (RF 75 91 (tX tZ (tX tZ (tY (.bool bl)))) td) ((Fq4y p q rp rp2 lk ca cb cc_)::(zm7 n j i1c i2c i3c ca cb cc_ fs)::rest) ⟨O,N,G⟩)):=by kernel_rfl
end
variable {O O':T AObj} {N:Nat} {G:T (T AV)}
theorem zqG {k:Int}{nm:List UInt8}{ns:List (List UInt8)}{ts:List Ty}{ps:List (Option Nat)}{id:Nat}{sn sa rv:AV}{hi:Nat}(i2':Obj O id [.int .i64 k,.str nm,sn,sa,rv])(i3':SV O 1 sE 0 hi ns sn)(i4':SV O 1 pE 0 hi ps sa)(i5':ps.length=ts.length)(hl:ns.length=ts.length)(hm:ns.length<1000000)(w:List UInt8){keep:Nat}{f0:FuncId}{Q:AV→AHeap→Prop}{rest:List AFrame}
 (hN:fld w ns ts=none→∀ td,Goal P keep f0 Q (AM.mk (RF 131 29 (tX (tX tZ (tY (.bool false))) (tX (tY .nilp) tZ)) td) rest ⟨O,N,G⟩))
 (hS:∀ (j:Nat) (x:Ty) (y:Option Nat),ts[j]?=some x→ps[j]?=some y→fld w ns ts=some x→∀ td,Goal P keep f0 Q (AM.mk (RF 131 29 (tX (tX tZ (tY (.bool true))) (tX (tY (pv y)) tZ)) td) rest ⟨O,N,G⟩)):Goal P keep f0 Q (AM.mk (enF 131 [.ptr id 0 0,.str w]) rest ⟨O,N,G⟩):=by
 have loop:∀ (k' i:Nat),i+k'=ns.length→fld w ns ts=fld w (ns.drop i) (ts.drop i)→Goal P keep f0 Q (Wpfi id sn w ((ns.length:Nat):Int) ((i:Nat):Int) rest O N G):=by
  intro k'
  induction k' with
  | zero =>
   intro i hk hv
   rw [List.drop_of_length_le (l:=ns) (by omega)] at hv
   exact (ot (zo8 (sa:=.nilp) (n:=((ns.length:Nat):Int)) (j:=((i:Nat):Int))) (fkf (decide_eq_false (by omega)) (hN hv _)))
  | succ k' ih =>
   intro i hk hv
   obtain ⟨n,hw2,_⟩:=nth (l:=ns) (j:=i) (by omega)
   obtain ⟨x,hx,_⟩:=nth (l:=ts) (j:=i) (by omega)
   obtain ⟨y,hy,_⟩:=nth (l:=ps) (j:=i) (by omega)
   obtain ⟨i1,i2,i3,lo1,hi1,eA,rd,_⟩:=i3'.at sSl sEn hw2
   obtain ⟨i4,i5,i6,lo2,hi2,eB,rdB,_⟩:=i4'.at pSl pEn hy
   rw [zk hw2,zk hx,zhZ] at hv
   rcases Bool.eq_false_or_eq_true (n==w) with h | h
   · rw [if_pos h] at hv
     exact (ot (zo8 (sa:=sa) (n:=((ns.length:Nat):Int)) (j:=((i:Nat):Int))) (fkt (decide_eq_true (by omega)) ⟨_,_,_,n,eA,rd.load rfl _ _,fkt h ⟨_,_,_,(pv y),i2'.ld 3 rfl,eB,rdB.load rfl _ _,hS i x y hx hy hv _⟩⟩))
   · rw [if_neg (by rw [h]; simp)] at hv
     have nx:=ih (i+1) (by omega) hv
     rw [← zx (i:=i) (by omega)] at nx
     exact (ot (zo8 (sa:=.nilp) (n:=((ns.length:Nat):Int)) (j:=((i:Nat):Int))) (fkt (decide_eq_true (by omega)) ⟨_,_,_,n,eA,rd.load rfl _ _,fkf h nx⟩))
 refine (ot (t_pfi (sn:=sn)) ⟨((ns.length:Nat):Int),i2'.ld 2 rfl,i3'.len sSl _ _,?_⟩)
 exact loop ns.length 0 (Nat.zero_add _) rfl
theorem ask0 {f hi:Nat}(L:LKC G f){O0:T AObj}{N0 lk ca cb cc:Nat}{fs:AV}{n:Int}{j:Nat}{cs:List (Nat × List Nat)}{lo hi' ida idb:Nat}(hs:SV O0 1 clE lo hi' cs fs)(hh:hi'≤N0)(hlo:lk<lo)(hj:((j:Nat):Int)<n)(hjm:j<3000000)
 (hca:Obj O0 ca [.ptr lk 0 0]) (hcb:Obj O0 cb [.ptr ida 0 0]) (hcc:Obj O0 cc [.ptr idb 0 0]) (hca1:ca<N0) (hcb1:cb<N0) (hcc1:cc<N0) (hca2:lk<ca) (hcb2:lk<cb) (hcc2:lk<cc) (hlk:hi≤lk) {nb1 ib1 i:Nat} {wn:List UInt8} (hcj:cs[j]?=some (130,[cb,nb1,ca,cc,ib1])) (hnb:Obj O0 nb1 [.str wn]) (hib:Obj O0 ib1 [.int .i64 ((i:Nat):Int)]) (hnb1:nb1<N0) (hib1:ib1<N0) (hnb2:lk<nb1) (hib2:lk<ib1) (hlN:lk<N0)
 {ka:Int} {na:zi} {nsa:List zi} {tsa:List Ty} {ra:Ty} {kb:Int} {nb:List UInt8} {sn2 sa2 rv2:AV} {ps2:List (Option Nat)} {o:Ty} {y:Option Nat} (ta:Tr O0 hi (.mk ka na nsa tsa ra) (some ida)) (hla:nsa.length=tsa.length) (oka:∀ x∈tsa,okT x=true) (hib3:idb<hi)
 (hbo:Obj O0 idb [.int .i64 kb,.str nb,sn2,sa2,rv2]) (hbs:SV O0 1 pE 0 hi ps2 sa2) (hy:ps2[i]?=some y) (to:Tr O0 hi o y) (oo:okT o=true) (hc:wq tsa+cnt o≤f) :
 Ask G O0 N0 lk fs n j (match fld wn nsa tsa with | none=>(false,0) | some x=>tp.look f x o):=by
 intro keep f0 Q rest O N v hinv hT hF
 have hn:=hinv.1
 have s0:=hs.keep (O':=O) (fun i h1 h2=>hinv.2.1 i (by omega) (by omega)) (Nat.le_refl lo) (Nat.le_refl hi')
 obtain ⟨i1,i2,i3,_,_,eA,rd,_⟩:=s0.at zjD ke hcj
 have lo':∀ i,i<hi→O.get i=O0.get i:=fun i h=>hinv.2.1 i (by omega) (by omega)
 obtain ⟨id,sn,sa,ps,q,hide,i1',i2',i3',i4',i5',i6',i7',i8',i9'⟩:=ta.inv
 cases hide
 have i2o:=i2'.same (lo' ida i1')
 have i3o:=i3'.keep (O':=O) (fun i _ h=>lo' i h) (Nat.le_refl 0) (Nat.le_refl hi)
 have i4o:=i4'.keep (O':=O) (fun i _ h=>lo' i h) (Nat.le_refl 0) (Nat.le_refl hi)
 refine (ot (t_q0 (p:=ida) (ca:=ca) (cb:=cb) (cc_:=cc) (nb1:=nb1) (ib1:=ib1) (wn:=wn) (j:=((j:Nat):Int))) (fkt (decide_eq_true hj) ⟨_,_,_,eA,rd.load rfl _ _,(hcb.same (hinv.2.1 cb (by omega) (by omega))).load 0 _ _ (Nat.le_of_ble_eq_true rfl),(hnb.same (hinv.2.1 nb1 (by omega) (by omega))).load 0 _ _ (Nat.le_of_ble_eq_true rfl),?_⟩))
 refine zqG i2o i3o i4o i5' hla i7' wn (fun hfd td=>?_) (fun jx x yx hx hyx hfd td=>?_)
 · rw [hfd] at hF
   exact (ot (zig (q:=0) (sa2:=.nilp) (lk:=0) (jx:=0) (j:=((j:Nat):Int))) (fkf rfl (hF rfl O N _ hinv)))
 · rw [hfd] at hF hT
   obtain ⟨j1,j2,j3,_,_,eB,rdB,_⟩:=(hbs.keep (O':=O) (fun i _ h=>lo' i h) (Nat.le_refl 0) (Nat.le_refl hi)).at pSl pEn hy
   have hxm:=zjJ hfd
   have hcm:=zA hxm
   refine (ot (zig (q:=idb) (sa2:=sa2) (lk:=lk) (jx:=((i:Nat):Int)) (j:=((j:Nat):Int)) (x1v:=(pv yx))) (fkt rfl ⟨j1,j2,j3,(pv y),(hca.same (hinv.2.1 ca (by omega) (by omega))).load 0 _ _ (Nat.le_of_ble_eq_true rfl),(hcc.same (hinv.2.1 cc (by omega) (by omega))).load 0 _ _ (Nat.le_of_ble_eq_true rfl),(hbo.same (lo' idb hib3)).load 3 _ _ (Nat.le_of_ble_eq_true rfl),(hib.same (hinv.2.1 ib1 (by omega) (by omega))).load 0 _ _ (Nat.le_of_ble_eq_true rfl),eB,rdB.load rfl _ _,?_⟩))
   refine L keep f0 Q hi lk x o yx y _ O N v (by omega) (oka x hxm) oo ((i8' jx x yx hx hyx).same lo' (Nat.le_refl _)) (to.same lo' (Nat.le_refl _)) hlk (by omega) hinv.2.2 fun O' N' td hi2=>?_
   have hi3:=hinv.trans hi2
   rcases Bool.eq_false_or_eq_true ((tp.look f x o).1) with hb | hb
   · exact (ot (zag (j:=((j:Nat):Int)) (s1c:=(pv y)) (bl:=(tp.look f x o).1) (x1v:=(pv yx)) (jx:=((i:Nat):Int))) (fkf (by rw [hb]; rfl) (by rw [zx (by omega)]; exact hT hb O' N' hi3)))
   · exact (ot (zag (j:=((j:Nat):Int)) (s1c:=(pv y)) (bl:=(tp.look f x o).1) (x1v:=(pv yx)) (jx:=((i:Nat):Int))) (fkt (by rw [hb]; rfl) (hF hb O' N' _ hi3)))
theorem ask2 {f hi:Nat}(L:LKC G f){O0:T AObj}{N0 lk ca cb cc:Nat}{fs:AV}{n:Int}{j:Nat}{cs:List (Nat × List Nat)}{lo hi' ida idb:Nat}(hs:SV O0 1 clE lo hi' cs fs)(hh:hi'≤N0)(hlo:lk<lo)(hj:((j:Nat):Int)<n)(hjm:j<3000000)
 (hca:Obj O0 ca [.ptr lk 0 0]) (hcb:Obj O0 cb [.ptr ida 0 0]) (hcc:Obj O0 cc [.ptr idb 0 0]) (hca1:ca<N0) (hcb1:cb<N0) (hcc1:cc<N0) (hca2:lk<ca) (hcb2:lk<cb) (hcc2:lk<cc) (hlk:hi≤lk) (hcj:cs[j]?=some (132,[cb,cc])) {ka kb:Int} {na nb:List UInt8} {sna sna2 sa sa2 rva rvb:AV} {ps ps2:List (Option Nat)} (hida:ida<hi) (hidb:idb<hi) (ha:Obj O0 ida [.int .i64 ka,.str na,sna,sa,rva]) (hb:Obj O0 idb [.int .i64 kb,.str nb,sna2,sa2,rvb]) (hsa:SV O0 1 pE 0 hi ps sa) (hsb:SV O0 1 pE 0 hi ps2 sa2) :
 Ask G O0 N0 lk fs n j (decide (ps.length=ps2.length),0):=by
 intro keep f0 Q rest O N v hinv hT hF
 have hn:=hinv.1
 have s0:=hs.keep (O':=O) (fun i h1 h2=>hinv.2.1 i (by omega) (by omega)) (Nat.le_refl lo) (Nat.le_refl hi')
 obtain ⟨i1,i2,i3,_,_,eA,rd,_⟩:=s0.at zjD ke hcj
 have lo':∀ i,i<hi→O.get i=O0.get i:=fun i h=>hinv.2.1 i (by omega) (by omega)
 have aO:=ha.same (lo' ida hida)
 have bO:=hb.same (lo' idb hidb)
 have saO:=hsa.keep (O':=O) (fun i _ h=>lo' i h) (Nat.le_refl 0) (Nat.le_refl hi)
 have sbO:=hsb.keep (O':=O) (fun i _ h=>lo' i h) (Nat.le_refl 0) (Nat.le_refl hi)
 by_cases h:ps.length=ps2.length
 · exact (ot (t_q2 (p:=ida) (q:=idb) (sa:=sa) (sa2:=sa2) (cb:=cb) (cc_:=cc) (j:=((j:Nat):Int))) (fkt (decide_eq_true hj) ⟨_,_,_,((ps.length:Nat):Int),((ps2.length:Nat):Int),eA,rd.load rfl _ _,(hcb.same (hinv.2.1 cb (by omega) (by omega))).load 0 _ _ (Nat.le_of_ble_eq_true rfl),aO.ld 3 rfl,saO.len pSl _ _,(hcc.same (hinv.2.1 cc (by omega) (by omega))).load 0 _ _ (Nat.le_of_ble_eq_true rfl),bO.ld 3 rfl,sbO.len pSl _ _,fkf (by rw [h,beq_self_eq_true]; rfl) (by rw [zx (by omega)]; exact hT (decide_eq_true h) O N hinv)⟩))
 · exact (ot (t_q2 (p:=ida) (q:=idb) (sa:=sa) (sa2:=sa2) (cb:=cb) (cc_:=cc) (j:=((j:Nat):Int))) (fkt (decide_eq_true hj) ⟨_,_,_,((ps.length:Nat):Int),((ps2.length:Nat):Int),eA,rd.load rfl _ _,(hcb.same (hinv.2.1 cb (by omega) (by omega))).load 0 _ _ (Nat.le_of_ble_eq_true rfl),aO.ld 3 rfl,saO.len pSl _ _,(hcc.same (hinv.2.1 cc (by omega) (by omega))).load 0 _ _ (Nat.le_of_ble_eq_true rfl),bO.ld 3 rfl,sbO.len pSl _ _,fkt (by rw [beq_eq_false_iff_ne.2 (by omega)]; rfl) (hF (decide_eq_false h) O N _ hinv)⟩))
theorem ask3 {f hi:Nat}(L:LKC G f){O0:T AObj}{N0 lk ca cb cc:Nat}{fs:AV}{n:Int}{j:Nat}{cs:List (Nat × List Nat)}{lo hi' ida idb:Nat}(hs:SV O0 1 clE lo hi' cs fs)(hh:hi'≤N0)(hlo:lk<lo)(hj:((j:Nat):Int)<n)(hjm:j<3000000)
 (hca:Obj O0 ca [.ptr lk 0 0]) (hcb:Obj O0 cb [.ptr ida 0 0]) (hcc:Obj O0 cc [.ptr idb 0 0]) (hca1:ca<N0) (hcb1:cb<N0) (hcc1:cc<N0) (hca2:lk<ca) (hcb2:lk<cb) (hcc2:lk<cc) (hlk:hi≤lk) {xb ib1 i:Nat} (hcj:cs[j]?=some (133,[ca,xb,cb,ib1])) (hib:Obj O0 ib1 [.int .i64 ((i:Nat):Int)]) {x:Ty} {y:Option Nat} (hxb:Obj O0 xb [pv y]) (hxb1:xb<N0) (hib1:ib1<N0) (hxb2:lk<xb) (hib2:lk<ib1) (hlN:lk<N0)
 {ka:Int} {na:List UInt8} {sn sa rv:AV} {ps:List (Option Nat)} {o:Ty} {yo:Option Nat} (hib3:ida<hi) (ha:Obj O0 ida [.int .i64 ka,.str na,sn,sa,rv]) (hsa:SV O0 1 pE 0 hi ps sa) (hy:ps[i]?=some yo) (to:Tr O0 hi o yo) (oo:okT o=true) (tx:Tr O0 hi x y) (ox:okT x=true) (hc:cnt x+cnt o≤f) :
 Ask G O0 N0 lk fs n j (tp.look f x o):=by
 intro keep f0 Q rest O N v hinv hT hF
 have hn:=hinv.1
 have s0:=hs.keep (O':=O) (fun i h1 h2=>hinv.2.1 i (by omega) (by omega)) (Nat.le_refl lo) (Nat.le_refl hi')
 obtain ⟨i1,i2,i3,_,_,eA,rd,_⟩:=s0.at zjD ke hcj
 have lo':∀ i,i<hi→O.get i=O0.get i:=fun i h=>hinv.2.1 i (by omega) (by omega)
 obtain ⟨j1,j2,j3,_,_,eB,rdB,_⟩:=(hsa.keep (O':=O) (fun i _ h=>lo' i h) (Nat.le_refl 0) (Nat.le_refl hi)).at pSl pEn hy
 refine (ot (t_q3 (p:=ida) (sa:=sa) (lk:=lk) (ca:=ca) (cb:=cb) (xb:=xb) (xx:=(pv y)) (ib1:=ib1) (jx:=((i:Nat):Int)) (j:=((j:Nat):Int))) (fkt (decide_eq_true hj) ⟨_,_,_,j1,j2,j3,(pv yo),eA,rd.load rfl _ _,(hca.same (hinv.2.1 ca (by omega) (by omega))).load 0 _ _ (Nat.le_of_ble_eq_true rfl),(hxb.same (hinv.2.1 xb (by omega) (by omega))).load 0 _ _ (Nat.le_of_ble_eq_true rfl),(hcb.same (hinv.2.1 cb (by omega) (by omega))).load 0 _ _ (Nat.le_of_ble_eq_true rfl),(ha.same (lo' ida hib3)).load 3 _ _ (Nat.le_of_ble_eq_true rfl),(hib.same (hinv.2.1 ib1 (by omega) (by omega))).load 0 _ _ (Nat.le_of_ble_eq_true rfl),eB,rdB.load rfl _ _,?_⟩))
 refine L keep f0 Q hi lk x o y yo _ O N v (by omega) ox oo (tx.same lo' (Nat.le_refl _)) (to.same lo' (Nat.le_refl _)) hlk (by omega) hinv.2.2 fun O' N' td hi2=>?_
 have hi3:=hinv.trans hi2
 rcases Bool.eq_false_or_eq_true ((tp.look f x o).1) with hb | hb
 · exact (ot (zhj (j:=((j:Nat):Int)) (s1c:=(pv yo)) (bl:=(tp.look f x o).1) (xx:=(pv y)) (jx:=((i:Nat):Int))) (fkf (by rw [hb]; rfl) (by rw [zx (by omega)]; exact hT hb O' N' hi3)))
 · exact (ot (zhj (j:=((j:Nat):Int)) (s1c:=(pv yo)) (bl:=(tp.look f x o).1) (xx:=(pv y)) (jx:=((i:Nat):Int))) (fkt (by rw [hb]; rfl) (hF hb O' N' _ hi3)))
theorem ask4 {f hi:Nat}(L:LKC G f){O0:T AObj}{N0 lk ca cb cc:Nat}{fs:AV}{n:Int}{j:Nat}{cs:List (Nat × List Nat)}{lo hi' ida idb:Nat}(hs:SV O0 1 clE lo hi' cs fs)(hh:hi'≤N0)(hlo:lk<lo)(hj:((j:Nat):Int)<n)(hjm:j<3000000)
 (hca:Obj O0 ca [.ptr lk 0 0]) (hcb:Obj O0 cb [.ptr ida 0 0]) (hcc:Obj O0 cc [.ptr idb 0 0]) (hca1:ca<N0) (hcb1:cb<N0) (hcc1:cc<N0) (hca2:lk<ca) (hcb2:lk<cb) (hcc2:lk<cc) (hlk:hi≤lk) (hcj:cs[j]?=some (134,[ca,cb,cc])) {ka kb:Int} {na nb:List UInt8} {sna sna2 sa sa2:AV} {x o:Ty} {y yo:Option Nat} (hlN:lk<N0) (hida:ida<hi) (hidb:idb<hi) (ha:Obj O0 ida [.int .i64 ka,.str na,sna,sa,pv y]) (hb:Obj O0 idb [.int .i64 kb,.str nb,sna2,sa2,pv yo]) (tx:Tr O0 hi x y) (to:Tr O0 hi o yo) (ox:okT x=true) (oo:okT o=true) (hc:cnt x+cnt o≤f) :
 Ask G O0 N0 lk fs n j (tp.look f x o):=by
 intro keep f0 Q rest O N v hinv hT hF
 have hn:=hinv.1
 have s0:=hs.keep (O':=O) (fun i h1 h2=>hinv.2.1 i (by omega) (by omega)) (Nat.le_refl lo) (Nat.le_refl hi')
 obtain ⟨i1,i2,i3,_,_,eA,rd,_⟩:=s0.at zjD ke hcj
 have lo':∀ i,i<hi→O.get i=O0.get i:=fun i h=>hinv.2.1 i (by omega) (by omega)
 have aO:=ha.same (lo' ida hida)
 have bO:=hb.same (lo' idb hidb)
 refine (ot (t_q4 (p:=ida) (q:=idb) (rp:=(pv y)) (rp2:=(pv yo)) (lk:=lk) (ca:=ca) (cb:=cb) (cc_:=cc) (j:=((j:Nat):Int))) (fkt (decide_eq_true hj) ⟨_,_,_,eA,rd.load rfl _ _,(hca.same (hinv.2.1 ca (by omega) (by omega))).load 0 _ _ (Nat.le_of_ble_eq_true rfl),(hcb.same (hinv.2.1 cb (by omega) (by omega))).load 0 _ _ (Nat.le_of_ble_eq_true rfl),aO.ld 4 rfl,(hcc.same (hinv.2.1 cc (by omega) (by omega))).load 0 _ _ (Nat.le_of_ble_eq_true rfl),bO.ld 4 rfl,?_⟩))
 refine L keep f0 Q hi lk x o y yo _ O N v (by omega) ox oo (tx.same lo' (Nat.le_refl _)) (to.same lo' (Nat.le_refl _)) hlk (by omega) hinv.2.2 fun O' N' td hi2=>?_
 have hi3:=hinv.trans hi2
 rcases Bool.eq_false_or_eq_true ((tp.look f x o).1) with hb | hb
 · exact (ot (zib (rp:=(pv y)) (rp2:=(pv yo)) (j:=((j:Nat):Int)) (bl:=(tp.look f x o).1)) (fkf (by rw [hb]; rfl) (by rw [zx (by omega)]; exact hT hb O' N' hi3)))
 · exact (ot (zib (rp:=(pv y)) (rp2:=(pv yo)) (j:=((j:Nat):Int)) (bl:=(tp.look f x o).1)) (fkt (by rw [hb]; rfl) (hF hb O' N' _ hi3)))
end Go.Proofs.Ytcdigdplhlgcaaa.gx
end
section
set_option maxRecDepth 100000
set_option linter.unusedVariables false
set_option linter.unusedSectionVars false
set_option linter.unusedSimpArgs false
namespace Go.Proofs.Ytcdigdplhlgcaaa.gx
open Go Ev tp
variable {O O':T AObj} {N:Nat} {G:T (T AV)}
theorem zmc {hi:Nat}{sn2:AV}{nsb:List (List UInt8)}(hs:SV O 1 sE 0 hi nsb sn2)(hm:nsb.length<1000000)(hiN:hi≤N){O1':T AObj}(q2:∀ j,j<N→O1'.get j=O.get j){pre:List (Nat × List Nat)}(hpre:pre.length≤1){M:Nat}(hM:N+3≤M){keep:Nat}{f0:FuncId}{Q:AV→AHeap→Prop}{rest:List AFrame}
 (hK:∀ (O2:T AObj) (N2:Nat) (s:AV) (bs:List (Nat × Nat)),M≤N2→(∀ j,j<N+3→O2.get j=O1'.get j)→bs.length=nsb.length→GV O2 30 1 clE (N+3) N2 (pre++bs.map (fun b=>(130,[N+1,b.2,N,N+2,b.1]))) s →
  (∀ (j:Nat) (b:Nat × Nat) (y:List UInt8),bs[j]?=some b→nsb[j]?=some y→N+3≤b.1∧b.1<N2∧Obj O2 b.1 [.int .i64 ((j:Nat):Int)]∧N+3≤b.2∧b.2<N2∧Obj O2 b.2 [.str y])→(∀ b,b∈bs→s≠.nils 0 0→b.1≠sid s∧b.2≠sid s)→∀ i,i=nsb.length→Goal P keep f0 Q (zqA sn2 ((nsb.length:Nat):Int) ((i:Nat):Int) N (N+1) (N+2) s rest O2 N2 G)) :
 ∀ (k' i:Nat) (O2:T AObj) (N2:Nat) (s:AV) (bs:List (Nat × Nat)),i+k'=nsb.length→M≤N2→(∀ j,j<N+3→O2.get j=O1'.get j)→bs.length=i→GV O2 30 1 clE (N+3) N2 (pre++bs.map (fun b=>(130,[N+1,b.2,N,N+2,b.1]))) s →
  (∀ (j:Nat) (b:Nat × Nat) (y:List UInt8),bs[j]?=some b→nsb[j]?=some y→N+3≤b.1∧b.1<N2∧Obj O2 b.1 [.int .i64 ((j:Nat):Int)]∧N+3≤b.2∧b.2<N2∧Obj O2 b.2 [.str y])→(∀ b,b∈bs→s≠.nils 0 0→b.1≠sid s∧b.2≠sid s)→Goal P keep f0 Q (zqA sn2 ((nsb.length:Nat):Int) ((i:Nat):Int) N (N+1) (N+2) s rest O2 N2 G):=by
 intro k'
 induction k' with
 | zero =>
  intro i O2 N2 s bs hk hn fr hbl g hb hne
  exact hK O2 N2 s bs hn fr (by omega) g hb hne i (by omega)
 | succ k' ih =>
  intro i O2 N2 s bs hk hn fr hbl g hb hne
  obtain ⟨y,hy,_⟩:=nth (l:=nsb) (j:=i) (by omega)
  have s2:=hs.keep (O':=O2) (fun j _ hj=>(fr j (by omega)).trans (q2 j (by omega))) (Nat.le_refl 0) (Nat.le_refl hi)
  obtain ⟨i1,i2,i3,lo1,hi1,eA,rd,_⟩:=s2.at sSl sEn hy
  obtain ⟨O3,e3,b3,f3⟩:=Obj.mk (c:=(tY (.int .i64 0))) (el:=3) [.int .i64 0] O2 N2 1 rfl (fun u hu=>by rcases u with _ | u <;> first | rfl | omega)
  obtain ⟨O3b,e3b,b3b,f3b⟩:=Obj.mk (c:=(tY (.str []))) (el:=9) [.str []] O3 (N2+1) 1 rfl (fun u hu=>by rcases u with _ | u <;> first | rfl | omega)
  obtain ⟨O3c,s3c,b3c,f3c⟩:=(b3.same (f3b N2 (by omega))).store 0 [.int .i64 ((i:Nat):Int)] (N2+2) G (Nat.le_of_ble_eq_true rfl) rfl
  obtain ⟨O4,s4,b4,f4⟩:=(b3b.same (f3c (N2+1) (by omega))).store 0 [.str y] (N2+2) G (Nat.le_of_ble_eq_true rfl) rfl
  obtain ⟨O5,e5,sv5,gv5,f5⟩:=qi ke (130,[N+1,N2+1,N,N+2,N2]) O4 (N2+2) G (st:=131) (el:=30) (v:=.fn (Fn.func 130) [] [.ptr (N+1) 0 0,.ptr (N2+1) 0 0,.ptr N 0 0,.ptr (N+2) 0 0,.ptr N2 0 0]) (fun h=>by kernel_rfl)
  have old:∀ j,j<N2→O5.get j=O2.get j:=fun j hj=>(f5 j (by omega)).trans ((f4 j (by omega)).trans ((f3c j (by omega)).trans ((f3b j (by omega)).trans (f3 j (by omega)))))
  have g5:GV O5 30 1 clE (N+3) (N2+3) (pre++bs.map (fun b=>(130,[N+1,b.2,N,N+2,b.1]))) s:=g.keep (fun j h1 h2=>old j h2) (Nat.le_refl _) (by omega)
  obtain ⟨O6,N6,s6,e6,g6,n6,n6',fr6,sd6⟩:=g5.app zjD ke sv5 (by omega) (by rw [List.length_append,List.length_map]; simp only [List.length_cons,List.length_nil]; omega) G
  have nx:=ih (i+1) O6 N6 s6 (bs++[(N2,N2+1)]) (by omega) (by omega) (fun j hj=>(fr6 j (by omega) (fun hne'=>by have:=(g.sid_lt hne').1; omega)).trans ((old j (by omega)).trans (fr j hj))) (by rw [List.length_append]; simp; omega) (by rw [List.map_append,← List.append_assoc]; exact g6) (fun j b y' hb1 hy1=>?_) (fun b hb1 hne1=>?_)
  · rw [← zx (i:=i) (by omega)] at nx
    exact (ot (zoa (n:=((nsb.length:Nat):Int)) (j:=((i:Nat):Int)) (cb:=(N+1)) (cc_:=(N+2))) (fkt (decide_eq_true (by omega)) ⟨_,_,_,y,O3,O3b,O3c,O4,O5,s6,O6,N6,eA,rd.load rfl _ _,e3,e3b,s3c,s4,e5,e6,nx⟩))
  · by_cases hj:j<bs.length
    · rw [List.getElem?_append_left hj] at hb1
      obtain ⟨c1,c2,c3,c4,c5,c6⟩:=hb j b y' hb1 hy1
      have hbm:b∈bs:=List.mem_of_getElem? hb1
      exact ⟨c1,by omega,c3.same ((fr6 b.1 (by omega) (fun hne'=>(hne b hbm hne').1)).trans (old b.1 c2)),c4,by omega,c6.same ((fr6 b.2 (by omega) (fun hne'=>(hne b hbm hne').2)).trans (old b.2 c5))⟩
    · have hjl:j=bs.length:=by
       have:=(List.getElem?_eq_some_iff.1 hb1).1
       rw [List.length_append] at this
       simp at this
       omega
      rw [List.getElem?_append_right (by omega),hjl,Nat.sub_self] at hb1
      cases hb1
      rw [hjl,hbl,hy] at hy1
      cases hy1
      have o1:=b3c.same (f4 N2 (by omega))
      exact ⟨by show N+3≤N2; omega,by show N2<N6; omega,by rw [hjl,hbl]; exact o1.same ((fr6 N2 (by omega) (fun hne'=>by have:=(g.sid_lt hne').2; omega)).trans (f5 N2 (by omega))),by show N+3≤N2+1; omega,by show N2+1<N6; omega,b4.same ((fr6 (N2+1) (by omega) (fun hne'=>by have:=(g.sid_lt hne').2; omega)).trans (f5 (N2+1) (by omega)))⟩
  · rcases sd6 with h | h | ⟨h,h'⟩
    · exact absurd h hne1
    · rcases List.mem_append.1 hb1 with hm1 | hm1
      · obtain ⟨jj,hjj⟩:=List.mem_iff_getElem?.1 hm1
        obtain ⟨yy,hyy,_⟩:=nth (l:=nsb) (j:=jj) (by have:=(List.getElem?_eq_some_iff.1 hjj).1; omega)
        have:=hb jj b yy hjj hyy
        omega
      · simp at hm1
        subst hm1
        exact ⟨by show N2≠_; omega,by show N2+1≠_; omega⟩
    · rcases List.mem_append.1 hb1 with hm1 | hm1
      · rw [h']
        exact hne b hm1 h
      · simp at hm1
        subst hm1
        have:=(g.sid_lt h).2
        rw [h']
        exact ⟨by show N2≠_; omega,by show N2+1≠_; omega⟩
theorem zm1 {hi:Nat}{sa2:AV}{ps2:List (Option Nat)}(hs:SV O 1 pE 0 hi ps2 sa2)(hm:ps2.length<1000000)(hiN:hi≤N){O1':T AObj}(q2:∀ j,j<N→O1'.get j=O.get j){pre:List (Nat × List Nat)}(hpre:pre.length≤1){M:Nat}(hM:N+3≤M){keep:Nat}{f0:FuncId}{Q:AV→AHeap→Prop}{rest:List AFrame}
 (hK:∀ (O2:T AObj) (N2:Nat) (s:AV) (bs:List (Nat × Nat)),M≤N2→(∀ j,j<N+3→O2.get j=O1'.get j)→bs.length=ps2.length→GV O2 30 1 clE (N+3) N2 (pre++bs.map (fun b=>(133,[N,b.2,N+1,b.1]))) s →
  (∀ (j:Nat) (b:Nat × Nat) (y:Option Nat),bs[j]?=some b→ps2[j]?=some y→N+3≤b.1∧b.1<N2∧Obj O2 b.1 [.int .i64 ((j:Nat):Int)]∧N+3≤b.2∧b.2<N2∧Obj O2 b.2 [pv y])→(∀ b,b∈bs→s≠.nils 0 0→b.1≠sid s∧b.2≠sid s)→∀ i,i=ps2.length→Goal P keep f0 Q (zrm sa2 ((ps2.length:Nat):Int) ((i:Nat):Int) N (N+1) (N+2) s rest O2 N2 G)) :
 ∀ (k' i:Nat) (O2:T AObj) (N2:Nat) (s:AV) (bs:List (Nat × Nat)),i+k'=ps2.length→M≤N2→(∀ j,j<N+3→O2.get j=O1'.get j)→bs.length=i→GV O2 30 1 clE (N+3) N2 (pre++bs.map (fun b=>(133,[N,b.2,N+1,b.1]))) s →
  (∀ (j:Nat) (b:Nat × Nat) (y:Option Nat),bs[j]?=some b→ps2[j]?=some y→N+3≤b.1∧b.1<N2∧Obj O2 b.1 [.int .i64 ((j:Nat):Int)]∧N+3≤b.2∧b.2<N2∧Obj O2 b.2 [pv y])→(∀ b,b∈bs→s≠.nils 0 0→b.1≠sid s∧b.2≠sid s)→Goal P keep f0 Q (zrm sa2 ((ps2.length:Nat):Int) ((i:Nat):Int) N (N+1) (N+2) s rest O2 N2 G):=by
 intro k'
 induction k' with
 | zero =>
  intro i O2 N2 s bs hk hn fr hbl g hb hne
  exact hK O2 N2 s bs hn fr (by omega) g hb hne i (by omega)
 | succ k' ih =>
  intro i O2 N2 s bs hk hn fr hbl g hb hne
  obtain ⟨y,hy,_⟩:=nth (l:=ps2) (j:=i) (by omega)
  have s2:=hs.keep (O':=O2) (fun j _ hj=>(fr j (by omega)).trans (q2 j (by omega))) (Nat.le_refl 0) (Nat.le_refl hi)
  obtain ⟨i1,i2,i3,lo1,hi1,eA,rd,_⟩:=s2.at pSl pEn hy
  obtain ⟨O3,e3,b3,f3⟩:=Obj.mk (c:=(tY (.int .i64 0))) (el:=3) [.int .i64 0] O2 N2 1 rfl (fun u hu=>by rcases u with _ | u <;> first | rfl | omega)
  obtain ⟨O3b,e3b,b3b,f3b⟩:=Obj.mk (c:=(tY .nilp)) (el:=23) [.nilp] O3 (N2+1) 1 rfl (fun u hu=>by rcases u with _ | u <;> first | rfl | omega)
  obtain ⟨O3c,s3c,b3c,f3c⟩:=(b3.same (f3b N2 (by omega))).store 0 [.int .i64 ((i:Nat):Int)] (N2+2) G (Nat.le_of_ble_eq_true rfl) rfl
  obtain ⟨O4,s4,b4,f4⟩:=(b3b.same (f3c (N2+1) (by omega))).store 0 [pv y] (N2+2) G (Nat.le_of_ble_eq_true rfl) (by cases y <;> rfl)
  obtain ⟨O5,e5,sv5,gv5,f5⟩:=qi ke (133,[N,N2+1,N+1,N2]) O4 (N2+2) G (st:=131) (el:=30) (v:=.fn (Fn.func 133) [] [.ptr N 0 0,.ptr (N2+1) 0 0,.ptr (N+1) 0 0,.ptr N2 0 0]) (fun h=>by kernel_rfl)
  have old:∀ j,j<N2→O5.get j=O2.get j:=fun j hj=>(f5 j (by omega)).trans ((f4 j (by omega)).trans ((f3c j (by omega)).trans ((f3b j (by omega)).trans (f3 j (by omega)))))
  have g5:GV O5 30 1 clE (N+3) (N2+3) (pre++bs.map (fun b=>(133,[N,b.2,N+1,b.1]))) s:=g.keep (fun j h1 h2=>old j h2) (Nat.le_refl _) (by omega)
  obtain ⟨O6,N6,s6,e6,g6,n6,n6',fr6,sd6⟩:=g5.app zjD ke sv5 (by omega) (by rw [List.length_append,List.length_map]; simp only [List.length_cons,List.length_nil]; omega) G
  have pcs:(pv y).cells=[pv y]:=by cases y <;> rfl
  have nx:=ih (i+1) O6 N6 s6 (bs++[(N2,N2+1)]) (by omega) (by omega) (fun j hj=>(fr6 j (by omega) (fun hne'=>by have:=(g.sid_lt hne').1; omega)).trans ((old j (by omega)).trans (fr j hj))) (by rw [List.length_append]; simp; omega) (by rw [List.map_append,← List.append_assoc]; exact g6) (fun j b y' hb1 hy1=>?_) (fun b hb1 hne1=>?_)
  · rw [← zx (i:=i) (by omega)] at nx
    exact (ot (zow (n:=((ps2.length:Nat):Int)) (j:=((i:Nat):Int)) (cb:=(N+1)) (cc_:=(N+2))) (fkt (decide_eq_true (by omega)) ⟨_,_,_,(pv y),O3,O3b,O3c,O4,O5,s6,O6,N6,eA,rd.load rfl _ _,e3,e3b,s3c,⟨by rw [pcs]; rfl,by rw [pcs]; exact s4⟩,e5,e6,nx⟩))
  · by_cases hj:j<bs.length
    · rw [List.getElem?_append_left hj] at hb1
      obtain ⟨c1,c2,c3,c4,c5,c6⟩:=hb j b y' hb1 hy1
      have hbm:b∈bs:=List.mem_of_getElem? hb1
      exact ⟨c1,by omega,c3.same ((fr6 b.1 (by omega) (fun hne'=>(hne b hbm hne').1)).trans (old b.1 c2)),c4,by omega,c6.same ((fr6 b.2 (by omega) (fun hne'=>(hne b hbm hne').2)).trans (old b.2 c5))⟩
    · have hjl:j=bs.length:=by
       have:=(List.getElem?_eq_some_iff.1 hb1).1
       rw [List.length_append] at this
       simp at this
       omega
      rw [List.getElem?_append_right (by omega),hjl,Nat.sub_self] at hb1
      cases hb1
      rw [hjl,hbl,hy] at hy1
      cases hy1
      have o1:=b3c.same (f4 N2 (by omega))
      exact ⟨by show N+3≤N2; omega,by show N2<N6; omega,by rw [hjl,hbl]; exact o1.same ((fr6 N2 (by omega) (fun hne'=>by have:=(g.sid_lt hne').2; omega)).trans (f5 N2 (by omega))),by show N+3≤N2+1; omega,by show N2+1<N6; omega,b4.same ((fr6 (N2+1) (by omega) (fun hne'=>by have:=(g.sid_lt hne').2; omega)).trans (f5 (N2+1) (by omega)))⟩
  · rcases sd6 with h | h | ⟨h,h'⟩
    · exact absurd h hne1
    · rcases List.mem_append.1 hb1 with hm1 | hm1
      · obtain ⟨jj,hjj⟩:=List.mem_iff_getElem?.1 hm1
        obtain ⟨yy,hyy,_⟩:=nth (l:=ps2) (j:=jj) (by have:=(List.getElem?_eq_some_iff.1 hjj).1; omega)
        have:=hb jj b yy hjj hyy
        omega
      · simp at hm1
        subst hm1
        exact ⟨by show N2≠_; omega,by show N2+1≠_; omega⟩
    · rcases List.mem_append.1 hb1 with hm1 | hm1
      · rw [h']
        exact hne b hm1 h
      · simp at hm1
        subst hm1
        have:=(g.sid_lt h).2
        rw [h']
        exact ⟨by show N2≠_; omega,by show N2+1≠_; omega⟩
end Go.Proofs.Ytcdigdplhlgcaaa.gx
end
section
set_option maxRecDepth 100000
set_option linter.unusedVariables false
set_option linter.unusedSectionVars false
set_option linter.unusedSimpArgs false
namespace Go.Proofs.Ytcdigdplhlgcaaa.gx
open Go Ev tp
section
variable (p q lk:Nat)
noncomputable def zjR:AFrame:=⟨75,91,(tX (tX (tX tZ (tX (tX (tX (tY (.ptr p 0 0)) tZ) tZ) tZ)) tZ) (tX (tX tZ (tX (tX (tX (tY (.ptr q 0 0)) tZ) tZ) tZ)) (tX (tX (tX (tX (tY (.ptr lk 0 0)) tZ) tZ) tZ) tZ))),   [.ops (rg P 75 [1,1,0,0,0,0,0,0,0,0,0,0,0,0,1,0,0]).toList ((rg P 75 [1,1,0,0,0,0,0,0,0,0,0,0,0,0,1,0,0]).toList.drop 3),.code (cd P 75 [1,1,0,0,0,0,0,0,0,0,0,0,0,0,0,0,1,0,1]),.code (cd P 75 [1,1,0,0,0,0,0,0,0,0,0,0,0,0,0,0,0,0,0,1]),.inBlock 4,.code (cd P 75 [1,1,0,0,0,0,0,0,0,0,0,0,1]),.inBlock 5,.code (cd P 75 [1,1,0,0,0,0,0,0,0,0,1]),.inBlock 6,.code (cd P 75 [1,1,0,0,0,0,0,0,1]),.inBlock 7,.code (cd P 75 [1,1,0,0,0,0,1]),.inBlock 8,.code (cd P 75 [1,1,0,0,1]),.inBlock 0,.code (cd P 75 [1,1,1])],[],.run,CallKind.normal,none⟩
noncomputable def zg7:AFrame:=⟨75,91,(tX (tX (tX (tX tZ (tX (tX (tY (.ptr p 0 0)) tZ) tZ)) tZ) tZ) (tX (tX (tX tZ (tX (tX (tY (.ptr q 0 0)) tZ) tZ)) tZ) (tX tZ (tX (tX (tX (tY (.ptr lk 0 0)) tZ) tZ) tZ)))),   [.ops (rg P 75 [1,1,0,0,0,0,0,0,0,0,0,0,1,0,0]).toList ((rg P 75 [1,1,0,0,0,0,0,0,0,0,0,0,1,0,0]).toList.drop 3),.code (cd P 75 [1,1,0,0,0,0,0,0,0,0,0,0,0,0,0,0,1,0,1]),.code (cd P 75 [1,1,0,0,0,0,0,0,0,0,0,0,0,0,0,0,0,0,0,1]),.inBlock 5,.code (cd P 75 [1,1,0,0,0,0,0,0,0,0,1]),.inBlock 6,.code (cd P 75 [1,1,0,0,0,0,0,0,1]),.inBlock 7,.code (cd P 75 [1,1,0,0,0,0,1]),.inBlock 8,.code (cd P 75 [1,1,0,0,1]),.inBlock 0,.code (cd P 75 [1,1,1])],[],.run,CallKind.normal,none⟩
noncomputable def zbM:AFrame:=⟨75,91,(tX (tX (tX tZ (tX (tX tZ (tX (tY (.ptr lk 0 0)) tZ)) tZ)) (tX tZ (tX (tX tZ (tX (tY (.ptr q 0 0)) tZ)) tZ))) (tX (tX tZ (tX (tX tZ (tX (tY (.ptr p 0 0)) tZ)) tZ)) tZ)),   [.ops (rg P 75 [1,1,0,0,0,0,1,0,0]).toList ((rg P 75 [1,1,0,0,0,0,1,0,0]).toList.drop 3),.code (cd P 75 [1,1,0,0,0,0,0,0,0,0,0,0,0,0,0,0,1,0,1]),.code (cd P 75 [1,1,0,0,0,0,0,0,0,0,0,0,0,0,0,0,0,0,0,1]),.inBlock 8,.code (cd P 75 [1,1,0,0,1]),.inBlock 0,.code (cd P 75 [1,1,1])],[],.run,CallKind.normal,none⟩
noncomputable def zah:AFrame:=⟨75,91,(tX (tX (tX (tX tZ (tX tZ (tX (tY (.ptr lk 0 0)) tZ))) tZ) (tX (tX tZ (tX tZ (tX (tY (.ptr q 0 0)) tZ))) tZ)) (tX (tX (tX tZ (tX tZ (tX (tY (.ptr p 0 0)) tZ))) tZ) tZ)),   [.ops (rg P 75 [1,1,0,0,1,0,0]).toList ((rg P 75 [1,1,0,0,1,0,0]).toList.drop 3),.code (cd P 75 [1,1,0,0,0,0,0,0,0,0,0,0,0,0,0,0,1,0,1]),.code (cd P 75 [1,1,0,0,0,0,0,0,0,0,0,0,0,0,0,0,0,0,0,1]),.inBlock 0,.code (cd P 75 [1,1,1])],[],.run,CallKind.normal,none⟩
end
section
variable {R:AV→AHeap→Prop} {keep N p q lk:Nat} {f0:FuncId} {rest:List AFrame} {O:T AObj} {k k2 pz:Int} {nm nm2:List UInt8} {G:T (T AV)} {K:AM→Prop} {td:List AItem} {bl:Bool}
theorem zc8:(∃ (O1:T AObj),(lC O N G lk 0 (.int .u64 pz))∧(zc (⟨O,N,G⟩) (lk) (0) (0) ([.int .u64 (IntKind.u64.wrap (pz+(1:Int)))])=(some ⟨O1,N,G⟩))∧(lC O1 N G p 0 (.int .i64 k))∧(((k==(1:Int)))=true→(K (AM.mk (RF 75 91 (tX tZ (tX tZ (tY (.bool true)))) [.code (cd P 75 [1,1,0,0,0,0,0,0,0,0,0,0,0,0,0,0,1,0,1]),.code (cd P 75 [1,1,0,0,0,0,0,0,0,0,0,0,0,0,0,0,0,0,0,1]),.inBlock 3,.code (cd P 75 [1,1,0,0,0,0,0,0,0,0,0,0,0,0,1]),.inBlock 4,.code (cd P 75 [1,1,0,0,0,0,0,0,0,0,0,0,1]),.inBlock 5,.code (cd P 75 [1,1,0,0,0,0,0,0,0,0,1]),.inBlock 6,.code (cd P 75 [1,1,0,0,0,0,0,0,1]),.inBlock 7,.code (cd P 75 [1,1,0,0,0,0,1]),.inBlock 8,.code (cd P 75 [1,1,0,0,1]),.inBlock 0,.code (cd P 75 [1,1,1])]) rest ⟨O1,N,G⟩)))∧(((k==(1:Int)))=false→((lC O1 N G q 0 (.int .i64 k2))∧(((k2==(1:Int)))=true→(K (AM.mk (RF 75 91 (tX tZ (tX tZ (tY (.bool true)))) [.code (cd P 75 [1,1,0,0,0,0,0,0,0,0,0,0,0,0,0,0,1,0,1]),.code (cd P 75 [1,1,0,0,0,0,0,0,0,0,0,0,0,0,0,0,0,0,0,1]),.inBlock 3,.code (cd P 75 [1,1,0,0,0,0,0,0,0,0,0,0,0,0,1]),.inBlock 4,.code (cd P 75 [1,1,0,0,0,0,0,0,0,0,0,0,1]),.inBlock 5,.code (cd P 75 [1,1,0,0,0,0,0,0,0,0,1]),.inBlock 6,.code (cd P 75 [1,1,0,0,0,0,0,0,1]),.inBlock 7,.code (cd P 75 [1,1,0,0,0,0,1]),.inBlock 8,.code (cd P 75 [1,1,0,0,1]),.inBlock 0,.code (cd P 75 [1,1,1])]) rest ⟨O1,N,G⟩)))∧(((k2==(1:Int)))=false→((lC O1 N G p 0 (.int .i64 k))∧(((k==(9:Int)))=true→(K (AM.mk (enF 108 [.ptr lk 0 0,.ptr p 0 0,.ptr q 0 0]) ((zjR p q lk)::rest) ⟨O1,N,G⟩)))∧(((k==(9:Int)))=false→((lC O1 N G q 0 (.int .i64 k2))∧(((k2==(9:Int)))=true→(K (AM.mk (enF 109 [.ptr lk 0 0,.ptr p 0 0,.ptr q 0 0]) ((zg7 p q lk)::rest) ⟨O1,N,G⟩)))∧(((k2==(9:Int)))=false→((lC O1 N G p 0 (.int .i64 k))∧(lC O1 N G q 0 (.int .i64 k2))∧(((k != k2))=true→(K (AM.mk (RF 75 91 (tX tZ (tX tZ (tY (.bool false)))) [.code (cd P 75 [1,1,0,0,0,0,0,0,0,0,0,0,0,0,0,0,1,0,1]),.code (cd P 75 [1,1,0,0,0,0,0,0,0,0,0,0,0,0,0,0,0,0,0,1]),.inBlock 6,.code (cd P 75 [1,1,0,0,0,0,0,0,1]),.inBlock 7,.code (cd P 75 [1,1,0,0,0,0,1]),.inBlock 8,.code (cd P 75 [1,1,0,0,1]),.inBlock 0,.code (cd P 75 [1,1,1])]) rest ⟨O1,N,G⟩)))∧(((k != k2))=false→((lC O1 N G p 0 (.int .i64 k))∧(((k==(6:Int)))=true→((lC O1 N G p 1 (.str nm))∧(lC O1 N G q 1 (.str nm2))∧K (AM.mk (RF 75 91 (tX tZ (tX tZ (tY (.bool (nm==nm2))))) [.code (cd P 75 [1,1,0,0,0,0,0,0,0,0,0,0,0,0,0,0,1,0,1]),.code (cd P 75 [1,1,0,0,0,0,0,0,0,0,0,0,0,0,0,0,0,0,0,1]),.inBlock 7,.code (cd P 75 [1,1,0,0,0,0,1]),.inBlock 8,.code (cd P 75 [1,1,0,0,1]),.inBlock 0,.code (cd P 75 [1,1,1])]) rest ⟨O1,N,G⟩)))∧(((k==(6:Int)))=false→((lC O1 N G p 0 (.int .i64 k))∧(((k==(7:Int)))=true→(K (AM.mk (enF 110 [.ptr lk 0 0,.ptr p 0 0,.ptr q 0 0]) ((zbM p q lk)::rest) ⟨O1,N,G⟩)))∧(((k==(7:Int)))=false→((lC O1 N G p 0 (.int .i64 k))∧(((k==(8:Int)))=true→(K (AM.mk (enF 111 [.ptr lk 0 0,.ptr p 0 0,.ptr q 0 0]) ((zah p q lk)::rest) ⟨O1,N,G⟩)))∧(((k==(8:Int)))=false→(K (AM.mk (RF 75 91 (tX tZ (tX tZ (tY (.bool true)))) [.code (cd P 75 [1,1,0,0,0,0,0,0,0,0,0,0,0,0,0,0,1,0,1])]) rest ⟨O1,N,G⟩))))))))))))))))))=OT f0 R keep K (.ex fun O1:T AObj=>(.seq [.run 9,.hop (.int .u64 pz) O,.run 3,.hop (.nilp) O1,.run 25,.hop (.int .i64 k) O1,.run 3] (.fork 14 (.seq [.run 9,.keep [6]] .fin) (.seq [.run 8,.hop (.int .i64 k2) O1,.run 3] (.fork 20 (.seq [.run 8,.keep [6]] .fin) (.seq [.run 8,.hop (.int .i64 k) O1,.run 3] (.fork 26 (.seq [.run 8,.keep [66,67,68],.run 1] .fin) (.seq [.run 8,.hop (.int .i64 k2) O1,.run 3] (.fork 32 (.seq [.run 8,.keep [70,71,72],.run 1] .fin) (.seq [.run 8,.hop (.int .i64 k) O1,.run 3,.hop (.int .i64 k2) O1,.run 3] (.fork 38 (.seq [.run 8,.keep [6]] .fin) (.seq [.run 8,.hop (.int .i64 k) O1,.run 3] (.fork 48 (.seq [.run 8,.hop (.str nm) O1,.run 3,.hop (.str nm2) O1,.run 4,.keep [6]] .fin) (.seq [.run 8,.hop (.int .i64 k) O1,.run 3] (.fork 54 (.seq [.run 8,.keep [83,84,85],.run 1] .fin) (.seq [.run 7,.hop (.int .i64 k) O1,.run 3] (.fork 60 (.seq [.run 8,.keep [87,88,89],.run 1] .fin) (.seq [.run 8,.keep [6]] .fin)))))))))))))))))) ((AM.mk (enF 75 [.ptr lk 0 0,.ptr p 0 0,.ptr q 0 0]) rest ⟨O,N,G⟩)):=by kernel_rfl
theorem zgV:(K (AM.mk (RF 75 91 (tX tZ (tX tZ (tY (.bool bl)))) [.code (cd P (75:FuncId) [1,1,0,0,0,0,0,0,0,0,0,0,0,0,0,0,1,0,1]),.code (cd P (75:FuncId) [1,1,0,0,0,0,0,0,0,0,0,0,0,0,0,0,0,0,0,1]),.inBlock 4,.code (cd P (75:FuncId) [1,1,0,0,0,0,0,0,0,0,0,0,1]),.inBlock 5,.code (cd P (75:FuncId) [1,1,0,0,0,0,0,0,0,0,1]),.inBlock 6,.code (cd P (75:FuncId) [1,1,0,0,0,0,0,0,1]),.inBlock 7,.code (cd P (75:FuncId) [1,1,0,0,0,0,1]),.inBlock 8,.code (cd P (75:FuncId) [1,1,0,0,1]),.inBlock 0,.code (cd P (75:FuncId) [1,1,1])]) rest ⟨O,N,G⟩))=OT f0 R keep K (.seq [.run 4,.keep [6]] .fin) ((AM.mk (RF 108 26 (tX tZ (tX tZ (tY (.bool bl)))) td) ((zjR p q lk)::rest) ⟨O,N,G⟩)):=by kernel_rfl
theorem zfq:(K (AM.mk (RF 75 91 (tX tZ (tX tZ (tY (.bool bl)))) [.code (cd P (75:FuncId) [1,1,0,0,0,0,0,0,0,0,0,0,0,0,0,0,1,0,1]),.code (cd P (75:FuncId) [1,1,0,0,0,0,0,0,0,0,0,0,0,0,0,0,0,0,0,1]),.inBlock 5,.code (cd P (75:FuncId) [1,1,0,0,0,0,0,0,0,0,1]),.inBlock 6,.code (cd P (75:FuncId) [1,1,0,0,0,0,0,0,1]),.inBlock 7,.code (cd P (75:FuncId) [1,1,0,0,0,0,1]),.inBlock 8,.code (cd P (75:FuncId) [1,1,0,0,1]),.inBlock 0,.code (cd P (75:FuncId) [1,1,1])]) rest ⟨O,N,G⟩))=OT f0 R keep K (.seq [.run 4,.keep [6]] .fin) ((AM.mk (RF 109 27 (tX tZ (tX tZ (tY (.bool bl)))) td) ((zg7 p q lk)::rest) ⟨O,N,G⟩)):=by kernel_rfl
theorem za0:(K (AM.mk (RF 75 91 (tX tZ (tX tZ (tY (.bool bl)))) [.code (cd P (75:FuncId) [1,1,0,0,0,0,0,0,0,0,0,0,0,0,0,0,1,0,1]),.code (cd P (75:FuncId) [1,1,0,0,0,0,0,0,0,0,0,0,0,0,0,0,0,0,0,1]),.inBlock 8,.code (cd P (75:FuncId) [1,1,0,0,1]),.inBlock 0,.code (cd P (75:FuncId) [1,1,1])]) rest ⟨O,N,G⟩))=OT f0 R keep K (.seq [.run 4,.keep [6]] .fin) ((AM.mk (RF 110 27 (tX tZ (tX tZ (tY (.bool bl)))) td) ((zbM p q lk)::rest) ⟨O,N,G⟩)):=by kernel_rfl
theorem wl:(K (AM.mk (RF 75 91 (tX tZ (tX tZ (tY (.bool bl)))) [.code (cd P (75:FuncId) [1,1,0,0,0,0,0,0,0,0,0,0,0,0,0,0,1,0,1]),.code (cd P (75:FuncId) [1,1,0,0,0,0,0,0,0,0,0,0,0,0,0,0,0,0,0,1]),.inBlock 0,.code (cd P (75:FuncId) [1,1,1])]) rest ⟨O,N,G⟩))=OT f0 R keep K (.seq [.run 4,.keep [6]] .fin) ((AM.mk (RF 111 33 (tX tZ (tX tZ (tY (.bool bl)))) td) ((zah p q lk)::rest) ⟨O,N,G⟩)):=by kernel_rfl
end
variable {O O':T AObj} {N:Nat} {G:T (T AV)}
theorem zro {f hi lk ida idb:Nat}(L:LKC G f){ka kb:Int}{na nb:zi}{nsa nsb:List zi}{tsa tsb:List Ty}{ra rb:Ty}{v:Nat}(ta:Tr O hi (.mk ka na nsa tsa ra) (some ida))(tb:Tr O hi (.mk kb nb nsb tsb rb) (some idb))(oka:∀ x∈tsa,okT x=true)(okb:∀ x∈tsb,okT x=true)(hlk:hi≤lk)(hlN:lk<N)(hob:Obj O lk [.int .u64 (IntKind.u64.wrap ((v:Nat):Int))])(hla:nsa.length=tsa.length)(hlb:nsb.length=tsb.length)(hc:wq tsa+wq tsb≤f){keep:Nat}{f0:FuncId}{Q:AV→AHeap→Prop}{rest:List AFrame}
 (hK:∀ O' N' td,InvL O N lk O' N' (v+(zn (fun p:List UInt8 × Ty=>match fld p.1 nsa tsa with | none=>(false,0) | some x=>tp.look f x p.2) (nsb.zip tsb)).2)→Goal P keep f0 Q (AM.mk (RF 110 27 (tX tZ (tX tZ (tY (.bool (zn (fun p:List UInt8 × Ty=>match fld p.1 nsa tsa with | none=>(false,0) | some x=>tp.look f x p.2) (nsb.zip tsb)).1)))) td) rest ⟨O',N',G⟩)):Goal P keep f0 Q (AM.mk (enF 110 [.ptr lk 0 0,.ptr ida 0 0,.ptr idb 0 0]) rest ⟨O,N,G⟩):=by
 obtain ⟨id,sn,sa,ps,q,hida,i1',i2',i3',i4',i5',i6',i7',i8',i9'⟩:=ta.inv
 cases hida
 obtain ⟨id2,sn2,sa2,ps2,q2',hidb,k1',k2',k3',k4',k5',k6',k7',k8',k9'⟩:=tb.inv
 cases hidb
 obtain ⟨O1,e1,b1,f1⟩:=Obj.mk (c:=(tY (.ptr lk 0 0))) (el:=114) [.ptr lk 0 0] O N 1 rfl (fun u hu=>by rcases u with _ | u <;> first | rfl | omega)
 obtain ⟨O2a,e2,b2,f2⟩:=Obj.mk (c:=(tY (.ptr ida 0 0))) (el:=23) [.ptr ida 0 0] O1 (N+1) 1 rfl (fun u hu=>by rcases u with _ | u <;> first | rfl | omega)
 obtain ⟨O3a,e3,b3,f3⟩:=Obj.mk (c:=(tY (.ptr idb 0 0))) (el:=23) [.ptr idb 0 0] O2a (N+2) 1 rfl (fun u hu=>by rcases u with _ | u <;> first | rfl | omega)
 have q3:∀ j,j<N→O3a.get j=O.get j:=fun j hj=>(f3 j (by omega)).trans ((f2 j (by omega)).trans (f1 j (by omega)))
 have b1':=b1.same ((f3 N (by omega)).trans (f2 N (by omega)))
 have b2':=b2.same (f3 (N+1) (by omega))
 refine (ot (t_fds (sn2:=sn2)) ⟨O1,O2a,O3a,((nsb.length:Nat):Int),e1,e2,e3,b3.ld 0 rfl,(k2'.same (q3 idb (by omega))).load 2 _ _ (Nat.le_of_ble_eq_true rfl),(k3'.keep (fun j _ hj=>q3 j (by omega)) (Nat.le_refl 0) (Nat.le_refl hi)).len sSl _ _,?_⟩)
 refine zmc (hi:=hi) (O:=O) (N:=N) k3' k7' (by omega) q3 (pre:=[]) (Nat.zero_le _) (M:=N+3) (Nat.le_refl _) ?_ nsb.length 0 O3a (N+3) (.nils 0 0) [] (Nat.zero_add _) (Nat.le_refl _) (fun _ _=>rfl) rfl GV.nil (fun j b y h=>by simp at h) (fun b h=>by simp at h)
 intro O2 N2 s bs hn fr hbl g hb hne i hi'
 rw [List.nil_append] at g
 have lo':∀ j,j<hi→O2.get j=O.get j:=fun j hj=>(fr j (by omega)).trans (q3 j (by omega))
 have inv:InvL O N lk O2 N2 v:=⟨by omega,fun j h1 h2=>(fr j (by omega)).trans (q3 j h1),hob.same ((fr lk (by omega)).trans (q3 lk hlN))⟩
 have inv0:InvL O2 N2 lk O2 N2 v:=⟨Nat.le_refl _,fun _ _ _=>rfl,inv.2.2⟩
 have rsl:((nsb.zip tsb).map (fun p:List UInt8 × Ty=>match fld p.1 nsa tsa with | none=>(false,0) | some x=>tp.look f x p.2)).length=nsb.length:=by rw [List.length_map,List.length_zip]; omega
 refine (ot (zoa (n:=((nsb.length:Nat):Int)) (j:=((i:Nat):Int)) (cb:=(N+1)) (cc_:=(N+2))) (fkf (decide_eq_false (by omega)) ?_))
 refine zeE (rs:=(nsb.zip tsb).map (fun p:List UInt8 × Ty=>match fld p.1 nsa tsa with | none=>(false,0) | some x=>tp.look f x p.2)) (g.sv ke) (by rw [List.length_map]; omega) (by omega) (fun j r hr _=>?_) inv0 fun O3 N3 td inv3=>?_
 · rw [List.getElem?_map] at hr
   obtain ⟨x,hx',rfl⟩:=Option.map_eq_some_iff.1 hr
   obtain ⟨wn,o⟩:=x
   rw [List.getElem?_zip_eq_some] at hx'
   obtain ⟨hw,ho⟩:=hx'
   obtain ⟨hjl,_⟩:=List.getElem?_eq_some_iff.1 ho
   have hom:o∈tsb:=List.mem_of_getElem? ho
   obtain ⟨y,hy,_⟩:=nth (l:=ps2) (j:=j) (by omega)
   obtain ⟨b,hb',_⟩:=nth (l:=bs) (j:=j) (by omega)
   obtain ⟨c1,c2,c3,c4,c5,c6⟩:=hb j b wn hb' hw
   have hcm:=zA hom
   exact ask0 L (hi:=hi) (ca:=N) (cb:=N+1) (cc:=N+2) (ida:=ida) (idb:=idb) (g.sv ke) (Nat.le_refl _) (by omega) (by rw [rsl]; omega) (by omega) (b1'.same (fr N (by omega))) (b2'.same (fr (N+1) (by omega))) (b3.same (fr (N+2) (by omega))) (by omega) (by omega) (by omega) (by omega) (by omega) (by omega) hlk (nb1:=b.2) (ib1:=b.1) (i:=j) (by rw [List.getElem?_map,hb']; rfl) c6 c3 (by omega) (by omega) (by omega) (by omega) (by omega) (ta.same lo' (Nat.le_refl _)) hla oka k1' (k2'.same (lo' idb k1')) (k4'.keep (O':=O2) (fun i _ h=>lo' i h) (Nat.le_refl 0) (Nat.le_refl hi)) hy ((k8' j o y ho hy).same lo' (Nat.le_refl _)) (okb o hom) (show wq tsa+cnt o≤f by omega)
 · rw [vi] at inv3 ⊢
   exact (ot (zjv (bl:=(zn (fun p:List UInt8 × Ty=>match fld p.1 nsa tsa with | none=>(false,0) | some x=>tp.look f x p.2) (nsb.zip tsb)).1)) (hK O3 N3 _ (inv.trans inv3)))
theorem zqR {f hi lk ida idb:Nat}(L:LKC G f){ka kb:Int}{na nb:zi}{nsa nsb:List zi}{tsa tsb:List Ty}{ra rb:Ty}{v:Nat}(ta:Tr O hi (.mk ka na nsa tsa ra) (some ida))(tb:Tr O hi (.mk kb nb nsb tsb rb) (some idb))(oka:∀ x∈tsa,okT x=true)(okb:∀ x∈tsb,okT x=true)(hlk:hi≤lk)(hlN:lk<N)(hob:Obj O lk [.int .u64 (IntKind.u64.wrap ((v:Nat):Int))])(okra:okT ra=true)(okrb:okT rb=true)(hc:wq tsa+wq tsb+cnt ra+cnt rb≤f){keep:Nat}{f0:FuncId}{Q:AV→AHeap→Prop}{rest:List AFrame}
 (hK:∀ O' N' td,InvL O N lk O' N' (v+(if tsa.length=tsb.length then zn (fun p=>tp.look f p.1 p.2) (tsb.zip tsa++[(ra,rb)]) else (false,0)).2)→Goal P keep f0 Q (AM.mk (RF 111 33 (tX tZ (tX tZ (tY (.bool (if tsa.length=tsb.length then zn (fun p=>tp.look f p.1 p.2) (tsb.zip tsa++[(ra,rb)]) else (false,0)).1)))) td) rest ⟨O',N',G⟩)):Goal P keep f0 Q (AM.mk (enF 111 [.ptr lk 0 0,.ptr ida 0 0,.ptr idb 0 0]) rest ⟨O,N,G⟩):=by
 obtain ⟨id,sn,sa,ps,q,hida,i1',i2',i3',i4',i5',i6',i7',i8',i9'⟩:=ta.inv
 cases hida
 obtain ⟨id2,sn2,sa2,ps2,q2',hidb,k1',k2',k3',k4',k5',k6',k7',k8',k9'⟩:=tb.inv
 cases hidb
 obtain ⟨O1,e1,b1,f1⟩:=Obj.mk (c:=(tY (.ptr lk 0 0))) (el:=114) [.ptr lk 0 0] O N 1 rfl (fun u hu=>by rcases u with _ | u <;> first | rfl | omega)
 obtain ⟨O2a,e2,b2,f2⟩:=Obj.mk (c:=(tY (.ptr ida 0 0))) (el:=23) [.ptr ida 0 0] O1 (N+1) 1 rfl (fun u hu=>by rcases u with _ | u <;> first | rfl | omega)
 obtain ⟨O3a,e3,b3,f3⟩:=Obj.mk (c:=(tY (.ptr idb 0 0))) (el:=23) [.ptr idb 0 0] O2a (N+2) 1 rfl (fun u hu=>by rcases u with _ | u <;> first | rfl | omega)
 have q3:∀ j,j<N→O3a.get j=O.get j:=fun j hj=>(f3 j (by omega)).trans ((f2 j (by omega)).trans (f1 j (by omega)))
 have b1':=b1.same ((f3 N (by omega)).trans (f2 N (by omega)))
 have b2':=b2.same (f3 (N+1) (by omega))
 obtain ⟨O4a,e4,sv4,gv4,f4⟩:=qi ke (132,[N+1,N+2]) O3a (N+3) G (st:=131) (el:=30) (v:=.fn (Fn.func 132) [] [.ptr (N+1) 0 0,.ptr (N+2) 0 0]) (fun h=>by kernel_rfl)
 have q4:∀ j,j<N→O4a.get j=O.get j:=fun j hj=>(f4 j (by omega)).trans (q3 j hj)
 refine (ot (t_fns (sa2:=sa2)) ⟨O1,O2a,O3a,O4a,((ps2.length:Nat):Int),e1,e2,e3,e4,(b3.same (f4 (N+2) (by omega))).load 0 _ _ (Nat.le_of_ble_eq_true rfl),(k2'.same (q4 idb (by omega))).load 3 _ _ (Nat.le_of_ble_eq_true rfl),(k4'.keep (fun j _ hj=>q4 j (by omega)) (Nat.le_refl 0) (Nat.le_refl hi)).len pSl _ _,?_⟩)
 refine zm1 (hi:=hi) (O:=O) (N:=N) k4' (by omega) (by omega) q4 (pre:=[(132,[N+1,N+2])]) (Nat.le_refl _) (M:=N+4) (by omega) ?_ ps2.length 0 O4a (N+4) (.slc (N+3) 0 0 1 1) [] (Nat.zero_add _) (Nat.le_refl _) (fun _ _=>rfl) rfl gv4 (fun j b y h=>by simp at h) (fun b h=>by simp at h)
 intro O2 N2 s bs hn fr hbl g0 hb hne i hi'
 obtain ⟨O5,e5,sv5,gv5,f5⟩:=qi ke (134,[N,N+1,N+2]) O2 N2 G (st:=131) (el:=30) (v:=.fn (Fn.func 134) [] [.ptr N 0 0,.ptr (N+1) 0 0,.ptr (N+2) 0 0]) (fun h=>by kernel_rfl)
 have g5:=g0.keep (O':=O5) (fun j h1 h2=>f5 j (by omega)) (Nat.le_refl (N+3)) (show N2≤N2+1 by omega)
 obtain ⟨O6,N6,s6,e6,g,n6,n6',fr6,sd6⟩:=g5.app zjD ke sv5 (by omega) (by rw [List.length_append,List.length_map]; simp only [List.length_cons,List.length_nil]; omega) G
 have fr7:∀ j,j<N+3→O6.get j=O3a.get j:=fun j hj=>(fr6 j (by omega) (fun hne'=>by have:=(g5.sid_lt hne').1; omega)).trans ((f5 j (by omega)).trans ((fr j hj).trans (f4 j (by omega))))
 have lo':∀ j,j<hi→O6.get j=O.get j:=fun j hj=>(fr7 j (by omega)).trans (q3 j (by omega))
 have inv:InvL O N lk O6 N6 v:=⟨by omega,fun j h1 h2=>(fr7 j (by omega)).trans (q3 j h1),hob.same ((fr7 lk (by omega)).trans (q3 lk hlN))⟩
 have inv0:InvL O6 N6 lk O6 N6 v:=⟨Nat.le_refl _,fun _ _ _=>rfl,inv.2.2⟩
 have bx1:=b1'.same (fr7 N (by omega))
 have bx2:=b2'.same (fr7 (N+1) (by omega))
 have bx3:=b3.same (fr7 (N+2) (by omega))
 have aO:=i2'.same (lo' ida i1')
 have bO:=k2'.same (lo' idb k1')
 have saO:=i4'.keep (O':=O6) (fun i _ h=>lo' i h) (Nat.le_refl 0) (Nat.le_refl hi)
 have sbO:=k4'.keep (O':=O6) (fun i _ h=>lo' i h) (Nat.le_refl 0) (Nat.le_refl hi)
 refine (ot (zow (n:=((ps2.length:Nat):Int)) (j:=((i:Nat):Int)) (cb:=(N+1)) (cc_:=(N+2))) (fkf (decide_eq_false (by omega)) ⟨O5,s6,O6,N6,e5,e6,?_⟩))
 have clen:([(132,[N+1,N+2])]++bs.map (fun b:Nat × Nat=>(133,[N,b.2,N+1,b.1]))++[(134,[N,N+1,N+2])]).length=ps2.length+2:=by simp; omega
 have first:([(132,[N+1,N+2])]++bs.map (fun b:Nat × Nat=>(133,[N,b.2,N+1,b.1]))++[(134,[N,N+1,N+2])])[0]?=some (132,[N+1,N+2]):=rfl
 by_cases hl:tsa.length=tsb.length
 · rw [if_pos hl] at hK
   have rsl:((true,0)::((tsb.zip tsa++[(ra,rb)]).map (fun p=>tp.look f p.1 p.2))).length=ps2.length+2:=by simp; omega
   refine zeE (rs:=(true,0)::((tsb.zip tsa++[(ra,rb)]).map (fun p=>tp.look f p.1 p.2))) (g.sv ke) (by rw [clen,rsl]) (by omega) (fun j r hr _=>?_) inv0 fun O3 N3 td inv3=>?_
   · rcases j with _ | j
     · cases hr
       have:=ask2 (j:=0) L (hi:=hi) (ca:=N) (cb:=N+1) (cc:=N+2) (ida:=ida) (idb:=idb) (g.sv ke) (Nat.le_refl _) (by omega) (by rw [rsl]; omega) (by omega) bx1 bx2 bx3 (by omega) (by omega) (by omega) (by omega) (by omega) (by omega) hlk first i1' k1' aO bO saO sbO (n:=(((true,0)::((tsb.zip tsa++[(ra,rb)]).map (fun p=>tp.look f p.1 p.2)):List (Bool × Nat)).length:Nat))
       rw [decide_eq_true (by omega)] at this
       exact this
     · rw [List.getElem?_cons_succ,List.getElem?_map] at hr
       obtain ⟨x,hx',rfl⟩:=Option.map_eq_some_iff.1 hr
       have hjl:=(List.getElem?_eq_some_iff.1 hx').1
       rw [List.length_append,List.length_zip] at hjl
       simp only [List.length_cons,List.length_nil] at hjl
       by_cases hj:j<tsb.length
       · rw [List.getElem?_append_left (by rw [List.length_zip]; omega)] at hx'
         obtain ⟨o2,o1⟩:=x
         rw [List.getElem?_zip_eq_some] at hx'
         obtain ⟨h2,h1⟩:=hx'
         have hom2:o2∈tsb:=List.mem_of_getElem? h2
         have hom1:o1∈tsa:=List.mem_of_getElem? h1
         obtain ⟨y,hy,_⟩:=nth (l:=ps2) (j:=j) (by omega)
         obtain ⟨y1,hy1,_⟩:=nth (l:=ps) (j:=j) (by omega)
         obtain ⟨b,hb',_⟩:=nth (l:=bs) (j:=j) (by omega)
         obtain ⟨c1,c2,c3,c4,c5,c6⟩:=hb j b y hb' hy
         have hcm2:=zA hom2
         have hcm1:=zA hom1
         have keepb:∀ z,z<N2→(s≠.nils 0 0→z≠sid s)→O6.get z=O2.get z:=fun z h1 h3=>(fr6 z (by omega) h3).trans (f5 z (by omega))
         have hbm:=List.mem_of_getElem? hb'
         exact ask3 L (hi:=hi) (ca:=N) (cb:=N+1) (cc:=N+2) (ida:=ida) (idb:=idb) (g.sv ke) (Nat.le_refl _) (by omega) (by rw [rsl]; omega) (by omega) bx1 bx2 bx3 (by omega) (by omega) (by omega) (by omega) (by omega) (by omega) hlk (xb:=b.2) (ib1:=b.1) (i:=j) (by rw [List.append_assoc,List.cons_append,List.nil_append,List.getElem?_cons_succ,List.getElem?_append_left (by rw [List.length_map]; omega),List.getElem?_map,hb']; rfl) (c3.same (keepb b.1 c2 (fun h=>(hne b hbm h).1))) (c6.same (keepb b.2 c5 (fun h=>(hne b hbm h).2))) (by omega) (by omega) (by omega) (by omega) (by omega) i1' aO saO hy1 ((i8' j o1 y1 h1 hy1).same lo' (Nat.le_refl _)) (oka o1 hom1) ((k8' j o2 y h2 hy).same lo' (Nat.le_refl _)) (okb o2 hom2) (show cnt o2+cnt o1≤f by omega)
       · have hje:j=tsb.length:=by omega
         rw [List.getElem?_append_right (by rw [List.length_zip]; omega),List.length_zip,show j - min tsb.length tsa.length=0 by omega] at hx'
         cases hx'
         exact ask4 L (hi:=hi) (ca:=N) (cb:=N+1) (cc:=N+2) (ida:=ida) (idb:=idb) (g.sv ke) (Nat.le_refl _) (by omega) (by rw [rsl]; omega) (by omega) bx1 bx2 bx3 (by omega) (by omega) (by omega) (by omega) (by omega) (by omega) hlk (by rw [List.getElem?_append_right (by rw [List.length_append,List.length_map]; simp only [List.length_cons,List.length_nil]; omega),List.length_append,List.length_map,show j+1 - ([((132,[N+1,N+2]):Nat × List Nat)].length+bs.length)=0 by simp only [List.length_cons,List.length_nil]; omega]; rfl) (by omega) i1' k1' aO bO (x:=ra) (o:=rb) (i9'.same lo' (Nat.le_refl _)) (k9'.same lo' (Nat.le_refl _)) okra okrb (by omega)
   · rw [zX,if_pos (show (id (true,0):Bool × Nat).1=true from rfl),vi] at inv3 ⊢
     simp only [id,Nat.zero_add] at inv3 ⊢
     exact (ot (zcQ (bl:=(zn (fun p=>tp.look f p.1 p.2) (tsb.zip tsa++[(ra,rb)])).1)) (hK O3 N3 _ (inv.trans inv3)))
 · rw [if_neg hl] at hK
   have rsl:((false,0)::(List.replicate (ps2.length+1) (true,0)):List (Bool × Nat)).length=ps2.length+2:=by simp
   refine zeE (rs:=(false,0)::(List.replicate (ps2.length+1) (true,0))) (g.sv ke) (by rw [clen,rsl]) (by omega) (fun j r hr hall=>?_) inv0 fun O3 N3 td inv3=>?_
   · rcases j with _ | j
     · cases hr
       have:=ask2 (j:=0) L (hi:=hi) (ca:=N) (cb:=N+1) (cc:=N+2) (ida:=ida) (idb:=idb) (g.sv ke) (Nat.le_refl _) (by omega) (by rw [rsl]; omega) (by omega) bx1 bx2 bx3 (by omega) (by omega) (by omega) (by omega) (by omega) (by omega) hlk first i1' k1' aO bO saO sbO (n:=(((false,0)::(List.replicate (ps2.length+1) (true,0)):List (Bool × Nat)).length:Nat))
       rw [decide_eq_false (by omega)] at this
       exact this
     · have:=hall 0 (false,0) (by omega) rfl
       cases this
   · rw [zX,if_neg (show ¬ (id (false,0):Bool × Nat).1=true from by simp)] at inv3 ⊢
     simp only [id] at inv3 ⊢
     exact (ot zcQ (hK O3 N3 _ (inv.trans inv3)))
theorem zaW:∀ (f:Nat),LKC G f
 | 0=>by
  intro keep f0 Q hi lk a b pa pb rest O N v hc oa ob
  have:=zdr oa
  omega
 | f+1=>by
  intro keep f0 Q hi lk a b pa pb rest O N v hc oa ob ta tb hlk hlN hobj hK
  cases a with
  | no=>rw [ye] at oa; cases oa
  | mk ka na nsa ts ra =>
  cases b with
  | no=>rw [ye] at ob; cases ob
  | mk kb nb nsb ts2 rb =>
  have ta0:=ta
  have tb0:=tb
  obtain ⟨id,sn,sa,ps,q,rfl,i1',i2',i3',i4',i5',i6',i7',i8',i9'⟩:=ta.inv
  obtain ⟨id2,sn2,sa2,ps2,q2,rfl,k1',k2',k3',k4',k5',k6',k7',k8',k9'⟩:=tb.inv
  have oka:=(xn oa).2.1
  have okb:=(xn ob).2.1
  have hca:cnt (.mk ka na nsa ts ra)=1+wq ts+cnt ra:=xj
  have hcb:cnt (.mk kb nb nsb ts2 rb)=1+wq ts2+cnt rb:=xj
  obtain ⟨O1,s1,h1,f1⟩:=hobj.store 0 [.int .u64 (IntKind.u64.wrap (IntKind.u64.wrap ((v:Nat):Int)+(1:Int)))] N G (Nat.le_of_ble_eq_true rfl) rfl
  have wv:IntKind.u64.wrap (IntKind.u64.wrap ((v:Nat):Int)+(1:Int))=IntKind.u64.wrap (((v+1:Nat):Nat):Int):=by simp only [IntKind.wrap_u64]; omega
  have h1':Obj O1 lk [.int .u64 (IntKind.u64.wrap (((v+1:Nat):Nat):Int))]:=by rw [← wv]; exact h1
  have inv1:InvL O N lk O1 N (v+1):=⟨Nat.le_refl _,fun j hj hne=>f1 j hne,h1'⟩
  have lo':∀ j,j<hi→O1.get j=O.get j:=fun j hj=>f1 j (by omega)
  have i2o:=i2'.same (lo' id i1')
  have k2o:=k2'.same (lo' id2 k1')
  have tao:=ta0.same lo' (Nat.le_refl _)
  have tbo:=tb0.same lo' (Nat.le_refl _)
  have sao:=i4'.keep (O':=O1) (fun j _ h=>lo' j h) (Nat.le_refl 0) (Nat.le_refl hi)
  have sbo:=k4'.keep (O':=O1) (fun j _ h=>lo' j h) (Nat.le_refl 0) (Nat.le_refl hi)
  rw [zl3] at hK
  rcases Bool.eq_false_or_eq_true (ka==1) with a1 | a1
  · rw [if_pos (.inl (eq_of_beq a1))] at hK
    exact (ot (zc8 (k:=ka) (k2:=0) (nm:=[]) (nm2:=[]) (pz:=(IntKind.u64.wrap ((v:Nat):Int)))) ⟨O1,hobj.ld 0 rfl,s1,i2o.ld 0 rfl,fkt a1 (hK O1 N _ inv1)⟩)
  rcases Bool.eq_false_or_eq_true (kb==1) with b1 | b1
  · rw [if_pos (.inr (eq_of_beq b1))] at hK
    exact (ot (zc8 (k:=ka) (k2:=kb) (nm:=[]) (nm2:=[]) (pz:=(IntKind.u64.wrap ((v:Nat):Int)))) ⟨O1,hobj.ld 0 rfl,s1,i2o.ld 0 rfl,fkf a1 ⟨k2o.ld 0 rfl,fkt b1 (hK O1 N _ inv1)⟩⟩)
  rw [if_neg (fun h=>by rcases h with h | h <;> simp_all)] at hK
  rcases Bool.eq_false_or_eq_true (ka==9) with a9 | a9
  · rw [if_pos (eq_of_beq a9)] at hK
    refine (ot (zc8 (k:=ka) (k2:=kb) (nm:=[]) (nm2:=[]) (pz:=(IntKind.u64.wrap ((v:Nat):Int)))) ⟨O1,hobj.ld 0 rfl,s1,i2o.ld 0 rfl,fkf a1 ⟨k2o.ld 0 rfl,fkf b1 ⟨i2o.ld 0 rfl,fkt a9 ?_⟩⟩⟩)
    refine zpW (zaW f) i2o i1' sao i5' i6' (fun j x p a b=>(i8' j x p a b).same lo' (Nat.le_refl _)) tbo ob oka (by omega) hlk hlN h1' fun O' N' td inv2=>?_
    have:=fun td=>hK O' N' td (by have:=inv1.trans inv2; rw [Nat.add_assoc] at this; exact this)
    exact (ot (zgV (bl:=(zn (fun x=>tp.look f x (.mk kb nb nsb ts2 rb)) ts).1)) (this _))
  rw [if_neg (by simpa using a9)] at hK
  rcases Bool.eq_false_or_eq_true (kb==9) with b9 | b9
  · rw [if_pos (eq_of_beq b9)] at hK
    refine (ot (zc8 (k:=ka) (k2:=kb) (nm:=[]) (nm2:=[]) (pz:=(IntKind.u64.wrap ((v:Nat):Int)))) ⟨O1,hobj.ld 0 rfl,s1,i2o.ld 0 rfl,fkf a1 ⟨k2o.ld 0 rfl,fkf b1 ⟨i2o.ld 0 rfl,fkf a9 ⟨k2o.ld 0 rfl,fkt b9 ?_⟩⟩⟩⟩)
    refine zqM (zaW f) k2o k1' sbo k5' k6' (fun j x p a b=>(k8' j x p a b).same lo' (Nat.le_refl _)) tao oa okb (by omega) hlk hlN h1' fun O' N' td inv2=>?_
    have:=fun td=>hK O' N' td (by have:=inv1.trans inv2; rw [Nat.add_assoc] at this; exact this)
    exact (ot (zfq (bl:=(ya (fun y=>tp.look f (.mk ka na nsa ts ra) y) ts2).1)) (this _))
  rw [if_neg (by simpa using b9)] at hK
  rcases Bool.eq_false_or_eq_true (ka != kb) with hne | hne
  · rw [if_pos (by simpa using hne)] at hK
    exact (ot (zc8 (k:=ka) (k2:=kb) (nm:=[]) (nm2:=[]) (pz:=(IntKind.u64.wrap ((v:Nat):Int)))) ⟨O1,hobj.ld 0 rfl,s1,i2o.ld 0 rfl,fkf a1 ⟨k2o.ld 0 rfl,fkf b1 ⟨i2o.ld 0 rfl,fkf a9 ⟨k2o.ld 0 rfl,fkf b9 ⟨i2o.ld 0 rfl,k2o.ld 0 rfl,fkt hne (hK O1 N _ inv1)⟩⟩⟩⟩⟩)
  rw [if_neg (by simpa using hne)] at hK
  have hkk:ka=kb:=by simpa using hne
  rcases Bool.eq_false_or_eq_true (ka==6) with a6 | a6
  · rw [if_pos (eq_of_beq a6)] at hK
    exact (ot (zc8 (k:=ka) (k2:=kb) (nm:=na) (nm2:=nb) (pz:=(IntKind.u64.wrap ((v:Nat):Int)))) ⟨O1,hobj.ld 0 rfl,s1,i2o.ld 0 rfl,fkf a1 ⟨k2o.ld 0 rfl,fkf b1 ⟨i2o.ld 0 rfl,fkf a9 ⟨k2o.ld 0 rfl,fkf b9 ⟨i2o.ld 0 rfl,k2o.ld 0 rfl,fkf hne ⟨i2o.ld 0 rfl,fkt a6 ⟨i2o.ld 1 rfl,k2o.ld 1 rfl,hK O1 N _ inv1⟩⟩⟩⟩⟩⟩⟩)
  rw [if_neg (by simpa using a6)] at hK
  rcases Bool.eq_false_or_eq_true (ka==7) with a7 | a7
  · rw [if_pos (eq_of_beq a7)] at hK
    have h7:=eq_of_beq a7
    refine (ot (zc8 (k:=ka) (k2:=kb) (nm:=[]) (nm2:=[]) (pz:=(IntKind.u64.wrap ((v:Nat):Int)))) ⟨O1,hobj.ld 0 rfl,s1,i2o.ld 0 rfl,fkf a1 ⟨k2o.ld 0 rfl,fkf b1 ⟨i2o.ld 0 rfl,fkf a9 ⟨k2o.ld 0 rfl,fkf b9 ⟨i2o.ld 0 rfl,k2o.ld 0 rfl,fkf hne ⟨i2o.ld 0 rfl,fkf a6 ⟨i2o.ld 0 rfl,fkt a7 ?_⟩⟩⟩⟩⟩⟩⟩)
    refine zro (zaW f) tao tbo oka okb hlk hlN h1' (zdm (k:=ka) (nm:=na) (r:=ra) oa h7) (zdm (k:=kb) (nm:=nb) (r:=rb) ob (by omega)) (by omega) fun O' N' td inv2=>?_
    have:=fun td=>hK O' N' td (by have:=inv1.trans inv2; rw [Nat.add_assoc] at this; exact this)
    exact (ot (za0 (bl:=(zn (fun p:List UInt8 × Ty=>match fld p.1 nsa ts with | none=>(false,0) | some x=>tp.look f x p.2) (nsb.zip ts2)).1)) (this _))
  rw [if_neg (by simpa using a7)] at hK
  rcases Bool.eq_false_or_eq_true (ka==8) with a8 | a8
  · rw [if_pos (eq_of_beq a8)] at hK
    have h8:=eq_of_beq a8
    refine (ot (zc8 (k:=ka) (k2:=kb) (nm:=[]) (nm2:=[]) (pz:=(IntKind.u64.wrap ((v:Nat):Int)))) ⟨O1,hobj.ld 0 rfl,s1,i2o.ld 0 rfl,fkf a1 ⟨k2o.ld 0 rfl,fkf b1 ⟨i2o.ld 0 rfl,fkf a9 ⟨k2o.ld 0 rfl,fkf b9 ⟨i2o.ld 0 rfl,k2o.ld 0 rfl,fkf hne ⟨i2o.ld 0 rfl,fkf a6 ⟨i2o.ld 0 rfl,fkf a7 ⟨i2o.ld 0 rfl,fkt a8 ?_⟩⟩⟩⟩⟩⟩⟩⟩)
    refine zqR (zaW f) tao tbo oka okb hlk hlN h1' (zdF (k:=ka) (nm:=na) (ns:=nsa) (ts:=ts) oa h8) (zdF (k:=kb) (nm:=nb) (ns:=nsb) (ts:=ts2) ob (by omega)) (by omega) fun O' N' td inv2=>?_
    by_cases hl:ts.length=ts2.length
    · rw [if_pos hl] at hK inv2 ⊢
      have:=fun td=>hK O' N' td (by have:=inv1.trans inv2; rw [Nat.add_assoc] at this; exact this)
      exact (ot (wl (bl:=(zn (fun p=>tp.look f p.1 p.2) (ts2.zip ts++[(ra,rb)])).1)) (this _))
    · rw [if_neg hl] at hK inv2 ⊢
      have:=fun td=>hK O' N' td (by have:=inv1.trans inv2; exact this)
      exact (ot wl (this _))
  rw [if_neg (by simpa using a8)] at hK
  exact (ot (zc8 (k:=ka) (k2:=kb) (nm:=[]) (nm2:=[]) (pz:=(IntKind.u64.wrap ((v:Nat):Int)))) ⟨O1,hobj.ld 0 rfl,s1,i2o.ld 0 rfl,fkf a1 ⟨k2o.ld 0 rfl,fkf b1 ⟨i2o.ld 0 rfl,fkf a9 ⟨k2o.ld 0 rfl,fkf b9 ⟨i2o.ld 0 rfl,k2o.ld 0 rfl,fkf hne ⟨i2o.ld 0 rfl,fkf a6 ⟨i2o.ld 0 rfl,fkf a7 ⟨i2o.ld 0 rfl,fkf a8 (hK O1 N _ inv1)⟩⟩⟩⟩⟩⟩⟩⟩)
end Go.Proofs.Ytcdigdplhlgcaaa.gx
end
section
set_option maxRecDepth 100000
set_option linter.unusedVariables false
set_option linter.unusedSectionVars false
set_option linter.unusedSimpArgs false
namespace Go.Proofs.Ytcdigdplhlgcaaa.gx
open Go Ev tp
section
variable (s1 s2:AV) (N:Nat) (s1c s2c:AV) (m2:Int)
noncomputable def Fsub:AFrame:=⟨30,22,(tW (tY s2) s1 (tX (tX (tY s1) tZ) tZ)),   [.ops (rg P 30 [1,0,0]).toList ((rg P 30 [1,0,0]).toList.drop 1),.code (cd P 30 [1,0,1]),.code (cd P 30 [1,1])],[],.run,CallKind.normal,none⟩
noncomputable def zic:AFrame:=⟨30,22,(tW (tW (tX tZ (tY (.bool false))) s2c tZ) s1c (tX (tX tZ (tY s2c)) tZ)),   [.ops (rg P (30:FuncId) [1,0,0]).toList ((rg P (30:FuncId) [1,0,0]).toList.drop 5),.code (cd P (30:FuncId) [1,0,1]),.code (cd P (30:FuncId) [1,1])],[],.run,CallKind.normal,none⟩
noncomputable def j8:AFrame:=⟨30,22,(tX (tX tZ (tX (tX (tY s2c) tZ) tZ)) (tX (tX (tX (tY s1c) tZ) tZ) (tY (.ptr N 0 0)))),   [.ops (rg P 30 [1,1,1,0]).toList ((rg P 30 [1,1,1,0]).toList.drop 2),.code (cd P 30 [1,1,1,1])],[],.run,CallKind.normal,none⟩
noncomputable def Frsu:AFrame:=⟨31,19,(tW (tY s2) s1 (tX tZ (tY s1))),   [.ops (rg P 31 [1,0,0]).toList ((rg P 31 [1,0,0]).toList.drop 1),.code (cd P 31 [1,0,1]),.code (cd P 31 [1,1])],[],.run,CallKind.normal,none⟩
noncomputable def zh8:AFrame:=⟨31,19,(tW (tW tZ s2c (tX (tY (.bool false)) tZ)) s1c (tX tZ (tX (tY s2c) tZ))),   [.ops (rg P (31:FuncId) [1,0,0]).toList ((rg P (31:FuncId) [1,0,0]).toList.drop 5),.code (cd P (31:FuncId) [1,0,1]),.code (cd P (31:FuncId) [1,1])],[],.run,CallKind.normal,none⟩
noncomputable def zae:AFrame:=⟨31,19,(tX (tX (tX (tX (tY s2c) tZ) tZ) tZ) (tX tZ (tX tZ (tY s1c)))),   [.ops (rg P 31 [1,1,0]).toList ((rg P 31 [1,1,0]).toList.drop 2),.code (cd P 13 [1,0,1,0,1])],[],.run,CallKind.normal,none⟩
noncomputable def Fmee:AFrame:=⟨32,27,(tW (tW (tX tZ (tY s2)) s2 tZ) s1 (tX tZ (tX (tY s1) tZ))),   [.ops (rg P 32 [1,0]).toList ((rg P 32 [1,0]).toList.drop 2),.code (cd P 32 [1,1])],[],.run,CallKind.normal,none⟩
noncomputable def zhY:AFrame:=⟨32,27,(tX (tX (tX (tY (.int .u64 m2)) (tX (tY s1c) tZ)) tZ) (tX tZ (tX (tX (tY s2c) tZ) tZ))),   [.ops (rg P 32 [1,1,1,0]).toList ((rg P 32 [1,1,1,0]).toList.drop 2),.code (cd P 32 [1,1,1,1])],[],.run,CallKind.normal,none⟩
noncomputable def Frme:AFrame:=⟨33,28,(tW (tW (tX tZ (tY s1)) s2 tZ) s1 (tX (tX tZ (tY s2)) tZ)),   [.ops (rg P 33 [1,0]).toList ((rg P 33 [1,0]).toList.drop 2),.code (cd P 33 [1,1])],[],.run,CallKind.normal,none⟩
noncomputable def zhQ:AFrame:=⟨33,28,(tX (tX (tX (tY (.int .u64 m2)) (tX (tY s2c) tZ)) tZ) (tX (tX tZ (tX (tY s1c) tZ)) tZ)),   [.ops (rg P 33 [1,1,1,0]).toList ((rg P 33 [1,1,1,0]).toList.drop 2),.code (cd P 33 [1,1,1,1])],[],.run,CallKind.normal,none⟩
end
section
variable {R:AV→AHeap→Prop} {keep N Nc:Nat} {f0:FuncId} {rest:List AFrame} {O:T AObj} {s1 s2 s1c s2c:AV} {G:T (T AV)} {K:AM→Prop} {td:List AItem} {c c2 m2 m3:Int} {bl bl2:Bool}
theorem t_sub:(K (AM.mk (enF 12 [s1]) ((Fsub s1 s2)::rest) ⟨O,N,G⟩))=OT f0 R keep K (.seq [.run 9,.keep [0,1,8],.run 1] .fin) ((AM.mk (enF 30 [s1,s2]) rest ⟨O,N,G⟩)):=by kernel_rfl
theorem zhp:((((c != (0:Int)))=true→(K (AM.mk (RF 30 22 (tX (tX tZ (tY (.int .u64 0))) (tX (tY (.bool false)) tZ)) [.code (cd P 12 [1,0,0,1,0,1]),.code (cd P (30:FuncId) [1,1])]) rest ⟨O,N,G⟩)))∧(((c != (0:Int)))=false→(K (AM.mk (enF 12 [s2c]) ((zic s1c s2c)::rest) ⟨O,N,G⟩))))=OT f0 R keep K (.seq [.run 3] (.fork 11 (.seq [.run 12,.keep [4,5]] .fin) (.seq [.run 1,.keep [0,1,11,12],.run 1] .fin))) ((AM.mk (RF 12 14 (tX tZ (tY (.int .i64 c))) td) ((Fsub s1c s2c)::rest) ⟨O,N,G⟩)):=by kernel_rfl
theorem jW:((((c2 != (0:Int)))=true→(K (AM.mk (RF 30 22 (tX (tX tZ (tY (.int .u64 0))) (tX (tY (.bool false)) tZ)) [.code (cd P 12 [1,0,0,1,0,1]),.code (cd P (30:FuncId) [1,1])]) rest ⟨O,N,G⟩)))∧(((c2 != (0:Int)))=false→(∃ (O1:T AObj),(T.set ((some (.cells (tY (.int .u64 0)) 1 85 0 0 1 0 false .leaf))) (O) (N)=O1)∧K (AM.mk (enF 75 [.ptr N 0 0,s1c,s2c]) ((j8 N s1c s2c)::rest) ⟨O1,N+1,G⟩))))=OT f0 R keep K (.seq [.run 4] (.fork 15 (.seq [.run 7,.keep [4,5]] .fin) (.ex fun O1:T AObj=>(.seq [.run 4,.hop (.nilp) O1,.run 5,.keep [6,16,17],.run 1] .fin)))) ((AM.mk (RF 12 14 (tX tZ (tY (.int .i64 c2))) td) ((zic s1c s2c)::rest) ⟨O,N,G⟩)):=by kernel_rfl
theorem zax:(∃ (z1:Int),(lC O N G Nc 0 (.int .u64 z1))∧(True)∧(lC O N G Nc 0 (.int .u64 z1))∧K (AM.mk (RF 30 22 (tX (tX tZ (tY (.int .u64 z1))) (tX (tY (.bool bl)) tZ)) [.code (cd P 75 [1,1,0,0,0,0,0,0,0,0,0,0,0,0,0,0,1,0,1])]) rest ⟨O,N,G⟩))=OT f0 R keep K (.ex fun z1:Int=>(.seq [.run 7,.hop (.int .u64 z1) O,.hop (.nilp) O,.run 3,.keep [4,5]] .fin)) ((AM.mk (RF 75 91 (tX tZ (tX tZ (tY (.bool bl)))) td) ((j8 Nc s1c s2c)::rest) ⟨O,N,G⟩)):=by kernel_rfl
theorem t_rsu:(K (AM.mk (enF 13 [s1]) ((Frsu s1 s2)::rest) ⟨O,N,G⟩))=OT f0 R keep K (.seq [.run 9,.keep [0,1,6],.run 1] .fin) ((AM.mk (enF 31 [s1,s2]) rest ⟨O,N,G⟩)):=by kernel_rfl
theorem zim:((((c != (0:Int)))=true→(K (AM.mk (RF 31 19 (tX (tX tZ (tY (.int .u64 0))) (tX (tY (.bool false)) tZ)) [.code (cd P 13 [1,0,1,0,1]),.code (cd P (31:FuncId) [1,1])]) rest ⟨O,N,G⟩)))∧(((c != (0:Int)))=false→(K (AM.mk (enF 13 [s2c]) ((zh8 s1c s2c)::rest) ⟨O,N,G⟩))))=OT f0 R keep K (.seq [.run 3] (.fork 9 (.seq [.run 12,.keep [4,5]] .fin) (.seq [.run 1,.keep [0,1,9,10],.run 1] .fin))) ((AM.mk (RF 13 11 (tX tZ (tY (.int .i64 c))) td) ((Frsu s1c s2c)::rest) ⟨O,N,G⟩)):=by kernel_rfl
theorem jU:((((c2 != (0:Int)))=true→(K (AM.mk (RF 31 19 (tX (tX tZ (tY (.int .u64 0))) (tX (tY (.bool false)) tZ)) [.code (cd P 13 [1,0,1,0,1]),.code (cd P (31:FuncId) [1,1])]) rest ⟨O,N,G⟩)))∧(((c2 != (0:Int)))=false→(K (AM.mk (enF 76 [s1c,s2c]) ((zae s1c s2c)::rest) ⟨O,N,G⟩))))=OT f0 R keep K (.seq [.run 4] (.fork 13 (.seq [.run 7,.keep [4,5]] .fin) (.seq [.run 6,.keep [14,15],.run 1] .fin))) ((AM.mk (RF 13 11 (tX tZ (tY (.int .i64 c2))) td) ((zh8 s1c s2c)::rest) ⟨O,N,G⟩)):=by kernel_rfl
theorem zal:(K (AM.mk (RF 31 19 (tX (tX tZ (tY (.int .u64 m2))) (tX (tY (.bool bl)) tZ)) [.code (cd P (13:FuncId) [1,0,1,0,1])]) rest ⟨O,N,G⟩))=OT f0 R keep K (.seq [.run 7,.keep [4,5]] .fin) ((AM.mk (RF 76 250 (tX (tX tZ (tY (.int .u64 m2))) (tX (tY (.bool bl)) tZ)) td) ((zae s1c s2c)::rest) ⟨O,N,G⟩)):=by kernel_rfl
theorem t_mee:(K (AM.mk (enF 30 [s1,s2]) ((Fmee s1 s2)::rest) ⟨O,N,G⟩))=OT f0 R keep K (.seq [.run 9,.keep [0,1,10,11],.run 1] .fin) ((AM.mk (enF 32 [s1,s2]) rest ⟨O,N,G⟩)):=by kernel_rfl
theorem zir:(((bl)=true→(K (AM.mk (RF 32 27 (tX (tX tZ (tY (.int .u64 m2))) (tX (tY (.bool true)) tZ)) [.code (cd P 30 [1,0,1,0,1]),.code (cd P 32 [1,1,1])]) rest ⟨O,N,G⟩)))∧((bl)=false→(K (AM.mk (enF 30 [s2c,s1c]) ((zhY s1c s2c m2)::rest) ⟨O,N,G⟩))))=OT f0 R keep K (.seq [.run 12] (.fork 15 (.seq [.run 8,.keep [4,5]] .fin) (.seq [.run 6,.keep [7,18,19],.run 1] .fin))) ((AM.mk (RF 30 22 (tX (tX tZ (tY (.int .u64 m2))) (tX (tY (.bool bl)) tZ)) td) ((Fmee s1c s2c)::rest) ⟨O,N,G⟩)):=by kernel_rfl
theorem zfO:(K (AM.mk (RF 32 27 (tX (tX tZ (tY (.int .u64 (IntKind.u64.wrap (m2+m3))))) (tX (tY (.bool bl2)) tZ)) [.code (cd P 30 [1,0,1,0,1])]) rest ⟨O,N,G⟩))=OT f0 R keep K (.seq [.run 17,.keep [4,5]] .fin) ((AM.mk (RF 30 22 (tX (tX tZ (tY (.int .u64 m3))) (tX (tY (.bool bl2)) tZ)) td) ((zhY s1c s2c m2)::rest) ⟨O,N,G⟩)):=by kernel_rfl
theorem t_rme:(K (AM.mk (enF 31 [s1,s2]) ((Frme s1 s2)::rest) ⟨O,N,G⟩))=OT f0 R keep K (.seq [.run 9,.keep [0,1,11,12],.run 1] .fin) ((AM.mk (enF 33 [s1,s2]) rest ⟨O,N,G⟩)):=by kernel_rfl
theorem zih:(((bl)=true→(K (AM.mk (RF 33 28 (tX (tX tZ (tY (.int .u64 m2))) (tX (tY (.bool true)) tZ)) [.code (cd P 31 [1,0,1,0,1]),.code (cd P 33 [1,1,1])]) rest ⟨O,N,G⟩)))∧((bl)=false→(K (AM.mk (enF 31 [s2c,s1c]) ((zhQ s1c s2c m2)::rest) ⟨O,N,G⟩))))=OT f0 R keep K (.seq [.run 12] (.fork 16 (.seq [.run 8,.keep [4,5]] .fin) (.seq [.run 6,.keep [7,19,20],.run 1] .fin))) ((AM.mk (RF 31 19 (tX (tX tZ (tY (.int .u64 m2))) (tX (tY (.bool bl)) tZ)) td) ((Frme s1c s2c)::rest) ⟨O,N,G⟩)):=by kernel_rfl
theorem zex:(K (AM.mk (RF 33 28 (tX (tX tZ (tY (.int .u64 (IntKind.u64.wrap (m2+m3))))) (tX (tY (.bool bl2)) tZ)) [.code (cd P 31 [1,0,1,0,1])]) rest ⟨O,N,G⟩))=OT f0 R keep K (.seq [.run 17,.keep [4,5]] .fin) ((AM.mk (RF 31 19 (tX (tX tZ (tY (.int .u64 m3))) (tX (tY (.bool bl2)) tZ)) td) ((zhQ s1c s2c m2)::rest) ⟨O,N,G⟩)):=by kernel_rfl
end
variable {O O':T AObj} {N:Nat} {G:T (T AV)}
def qY (a b:Ty):Bool × Nat:=if chk a=0∧chk b=0 then tp.look (cnt a+cnt b) a b else (false,0)
def zeq (a b:Ty):Bool × Nat:=if (qY a b).1=true then (true,(qY a b).2) else ((qY b a).1,(qY a b).2+(qY b a).2)
theorem zj2:IntKind.u64.wrap ((0:Nat):Int)=0:=by rw [IntKind.wrap_u64]; rfl
theorem qQ {t:Ty}(h:chk t=0):okT t=true:=by
 unfold chk at h
 split at h
 · cases h
 · split at h
   · cases h
   · split at h
     · assumption
     · cases h
theorem zh2 {a b:Ty}{pa pb:Option Nat}{hi:Nat}(ta:Tr O hi a pa)(tb:Tr O hi b pb)(hN:hi≤N){keep:Nat}{f0:FuncId}{Q:AV→AHeap→Prop}{rest:List AFrame}
 (hK:∀ O' N' td,Ext O N O' N'→Goal P keep f0 Q (AM.mk (RF 30 22 (tX (tX tZ (tY (.int .u64 (IntKind.u64.wrap (((qY a b).2:Nat):Int))))) (tX (tY (.bool (qY a b).1)) tZ)) td) rest ⟨O',N',G⟩)):Goal P keep f0 Q (AM.mk (enF 30 [pv pa,pv pb]) rest ⟨O,N,G⟩):=by
 refine (ot (t_sub (s1:=(pv pa)) (s2:=(pv pb))) ?_)
 refine chk_ok ta hN fun O1 N1 td1 ex1=>?_
 rcases Bool.eq_false_or_eq_true (chk a != (0:Int)) with h1 | h1
 · have e:qY a b=(false,0):=if_neg (fun h=>by rw [h.1] at h1; cases h1)
   rw [e] at hK
   simp only [zj2] at hK
   exact (ot (zhp (c:=(chk a)) (s1c:=(pv pa)) (s2c:=(pv pb))) (fkt h1 (hK O1 N1 _ ex1)))
 refine (ot (zhp (c:=(chk a)) (s1c:=(pv pa)) (s2c:=(pv pb))) (fkf h1 ?_))
 refine chk_ok (tb.same (fun j hj=>ex1.2 j (by omega)) (Nat.le_refl _)) (Nat.le_trans hN ex1.1) fun O2 N2 td2 ex2=>?_
 have ex:=ex1.trans ex2
 rcases Bool.eq_false_or_eq_true (chk b != (0:Int)) with h2 | h2
 · have e:qY a b=(false,0):=if_neg (fun h=>by rw [h.2] at h2; cases h2)
   rw [e] at hK
   simp only [zj2] at hK
   exact (ot (jW (s1c:=(pv pa)) (s2c:=(pv pb)) (c2:=(chk b))) (fkt h2 (hK O2 N2 _ ex)))
 have z1:chk a=0:=by simpa using h1
 have z2:chk b=0:=by simpa using h2
 have e:qY a b=tp.look (cnt a+cnt b) a b:=if_pos ⟨z1,z2⟩
 rw [e] at hK
 have ta2:=ta.same (O':=O2) (fun j hj=>ex.2 j (by omega)) (Nat.le_refl _)
 have tb2:=tb.same (O':=O2) (fun j hj=>ex.2 j (by omega)) (Nat.le_refl _)
 have nn:=ex.1
 obtain ⟨O3,e3,b3,f3⟩:=Obj.mk (c:=(tY (.int .u64 0))) (el:=85) [.int .u64 0] O2 N2 1 rfl (fun u hu=>by rcases u with _ | u <;> first | rfl | omega)
 have lo3:∀ j,j<N2→O3.get j=O2.get j:=fun j hj=>f3 j (by omega)
 refine (ot (jW (s1c:=(pv pa)) (s2c:=(pv pb)) (c2:=(chk b))) (fkf (by rw [z2]; rfl) ⟨O3,e3,?_⟩))
 refine zaW (cnt a+cnt b) keep f0 Q hi N2 a b pa pb _ O3 (N2+1) 0 (Nat.le_refl _) (qQ z1) (qQ z2) (ta2.same (fun j hj=>lo3 j (by omega)) (Nat.le_refl _)) (tb2.same (fun j hj=>lo3 j (by omega)) (Nat.le_refl _)) (by omega) (by omega) (by rw [zj2]; exact b3) fun O4 N4 td4 inv=>?_
 have ex4:Ext O N O4 N4:=⟨by have:=inv.1; omega,fun j hj=>(inv.2.1 j (by omega) (by omega)).trans ((lo3 j (by omega)).trans (ex.2 j hj))⟩
 have ob:=inv.2.2
 rw [Nat.zero_add] at ob
 exact (ot (zax (s1c:=(pv pa)) (s2c:=(pv pb)) (bl:=(tp.look (cnt a+cnt b) a b).1)) ⟨(IntKind.u64.wrap (((tp.look (cnt a+cnt b) a b).2:Nat):Int)),ob.ld 0 rfl,trivial,ob.ld 0 rfl,hK O4 N4 _ ex4⟩)
theorem zdS {a b:Ty}{pa pb:Option Nat}{hi:Nat}(ta:Tr O hi a pa)(tb:Tr O hi b pb)(hN:hi≤N){keep:Nat}{f0:FuncId}{Q:AV→AHeap→Prop}{rest:List AFrame}
 (hK:∀ O' N' td,Ext O N O' N'→Goal P keep f0 Q (AM.mk (RF 31 19 (tX (tX tZ (tY (.int .u64 (IntKind.u64.wrap (((qY a b).2:Nat):Int))))) (tX (tY (.bool (qY a b).1)) tZ)) td) rest ⟨O',N',G⟩)):Goal P keep f0 Q (AM.mk (enF 31 [pv pa,pv pb]) rest ⟨O,N,G⟩):=by
 refine (ot (t_rsu (s1:=(pv pa)) (s2:=(pv pb))) ?_)
 refine zdu ta hN fun O1 N1 td1 ex1=>?_
 rcases Bool.eq_false_or_eq_true (chk a != (0:Int)) with h1 | h1
 · have e:qY a b=(false,0):=if_neg (fun h=>by rw [h.1] at h1; cases h1)
   rw [e] at hK
   simp only [zj2] at hK
   exact (ot (zim (c:=(chk a)) (s1c:=(pv pa)) (s2c:=(pv pb))) (fkt h1 (hK O1 N1 _ ex1)))
 refine (ot (zim (c:=(chk a)) (s1c:=(pv pa)) (s2c:=(pv pb))) (fkf h1 ?_))
 refine zdu (tb.same (fun j hj=>ex1.2 j (by omega)) (Nat.le_refl _)) (Nat.le_trans hN ex1.1) fun O2 N2 td2 ex2=>?_
 have ex:=ex1.trans ex2
 rcases Bool.eq_false_or_eq_true (chk b != (0:Int)) with h2 | h2
 · have e:qY a b=(false,0):=if_neg (fun h=>by rw [h.2] at h2; cases h2)
   rw [e] at hK
   simp only [zj2] at hK
   exact (ot (jU (s1c:=(pv pa)) (s2c:=(pv pb)) (c2:=(chk b))) (fkt h2 (hK O2 N2 _ ex)))
 have z1:chk a=0:=by simpa using h1
 have z2:chk b=0:=by simpa using h2
 have e:qY a b=tp.look (cnt a+cnt b) a b:=if_pos ⟨z1,z2⟩
 rw [e] at hK
 have ta2:=ta.same (O':=O2) (fun j hj=>ex.2 j (by omega)) (Nat.le_refl _)
 have tb2:=tb.same (O':=O2) (fun j hj=>ex.2 j (by omega)) (Nat.le_refl _)
 refine (ot (jU (s1c:=(pv pa)) (s2c:=(pv pb)) (c2:=(chk b))) (fkf (by rw [z2]; rfl) ?_))
 refine vd (cnt a+cnt b) a b pa pb _ (Nat.le_refl _) (qQ z1) (qQ z2) ta2 tb2 fun td4=>?_
 exact (ot (zal (s1c:=(pv pa)) (s2c:=(pv pb)) (m2:=(IntKind.u64.wrap (((tp.look (cnt a+cnt b) a b).2:Nat):Int))) (bl:=(tp.look (cnt a+cnt b) a b).1)) (hK O2 N2 _ ex))
theorem zoY {a b:Ty}{pa pb:Option Nat}{hi:Nat}(ta:Tr O hi a pa)(tb:Tr O hi b pb)(hN:hi≤N){keep:Nat}{f0:FuncId}{Q:AV→AHeap→Prop}{rest:List AFrame}
 (hK:∀ O' N' td,Ext O N O' N'→Goal P keep f0 Q (AM.mk (RF 32 27 (tX (tX tZ (tY (.int .u64 (IntKind.u64.wrap (((zeq a b).2:Nat):Int))))) (tX (tY (.bool (zeq a b).1)) tZ)) td) rest ⟨O',N',G⟩)):Goal P keep f0 Q (AM.mk (enF 32 [pv pa,pv pb]) rest ⟨O,N,G⟩):=by
 refine (ot (t_mee (s1:=(pv pa)) (s2:=(pv pb))) ?_)
 refine zh2 ta tb hN fun O1 N1 td1 ex1=>?_
 rcases Bool.eq_false_or_eq_true (qY a b).1 with h1 | h1
 · have e:zeq a b=(true,(qY a b).2):=if_pos h1
   rw [e] at hK
   exact (ot (zir (s1c:=(pv pa)) (s2c:=(pv pb)) (m2:=(IntKind.u64.wrap (((qY a b).2:Nat):Int))) (bl:=(qY a b).1)) (fkt h1 (hK O1 N1 _ ex1)))
 have e:zeq a b=((qY b a).1,(qY a b).2+(qY b a).2):=if_neg (by rw [h1]; simp)
 rw [e] at hK
 refine (ot (zir (s1c:=(pv pa)) (s2c:=(pv pb)) (m2:=(IntKind.u64.wrap (((qY a b).2:Nat):Int))) (bl:=(qY a b).1)) (fkf h1 ?_))
 refine zh2 (tb.same (fun j hj=>ex1.2 j (by omega)) (Nat.le_refl _)) (ta.same (fun j hj=>ex1.2 j (by omega)) (Nat.le_refl _)) (Nat.le_trans hN ex1.1) fun O2 N2 td2 ex2=>?_
 have ex:=ex1.trans ex2
 have hK2:=fun td=>hK O2 N2 td ex
 simp only [← zbg] at hK2
 exact (ot (zfO (s1c:=(pv pa)) (s2c:=(pv pb)) (m2:=(IntKind.u64.wrap (((qY a b).2:Nat):Int))) (m3:=(IntKind.u64.wrap (((qY b a).2:Nat):Int))) (bl2:=(qY b a).1)) (hK2 _))
theorem zma {a b:Ty}{pa pb:Option Nat}{hi:Nat}(ta:Tr O hi a pa)(tb:Tr O hi b pb)(hN:hi≤N){keep:Nat}{f0:FuncId}{Q:AV→AHeap→Prop}{rest:List AFrame}
 (hK:∀ O' N' td,Ext O N O' N'→Goal P keep f0 Q (AM.mk (RF 33 28 (tX (tX tZ (tY (.int .u64 (IntKind.u64.wrap (((zeq a b).2:Nat):Int))))) (tX (tY (.bool (zeq a b).1)) tZ)) td) rest ⟨O',N',G⟩)):Goal P keep f0 Q (AM.mk (enF 33 [pv pa,pv pb]) rest ⟨O,N,G⟩):=by
 refine (ot (t_rme (s1:=(pv pa)) (s2:=(pv pb))) ?_)
 refine zdS ta tb hN fun O1 N1 td1 ex1=>?_
 rcases Bool.eq_false_or_eq_true (qY a b).1 with h1 | h1
 · have e:zeq a b=(true,(qY a b).2):=if_pos h1
   rw [e] at hK
   exact (ot (zih (s1c:=(pv pa)) (s2c:=(pv pb)) (m2:=(IntKind.u64.wrap (((qY a b).2:Nat):Int))) (bl:=(qY a b).1)) (fkt h1 (hK O1 N1 _ ex1)))
 have e:zeq a b=((qY b a).1,(qY a b).2+(qY b a).2):=if_neg (by rw [h1]; simp)
 rw [e] at hK
 refine (ot (zih (s1c:=(pv pa)) (s2c:=(pv pb)) (m2:=(IntKind.u64.wrap (((qY a b).2:Nat):Int))) (bl:=(qY a b).1)) (fkf h1 ?_))
 refine zdS (tb.same (fun j hj=>ex1.2 j (by omega)) (Nat.le_refl _)) (ta.same (fun j hj=>ex1.2 j (by omega)) (Nat.le_refl _)) (Nat.le_trans hN ex1.1) fun O2 N2 td2 ex2=>?_
 have ex:=ex1.trans ex2
 have hK2:=fun td=>hK O2 N2 td ex
 simp only [← zbg] at hK2
 exact (ot (zex (s1c:=(pv pa)) (s2c:=(pv pb)) (m2:=(IntKind.u64.wrap (((qY a b).2:Nat):Int))) (m3:=(IntKind.u64.wrap (((qY b a).2:Nat):Int))) (bl2:=(qY b a).1)) (hK2 _))
end Go.Proofs.Ytcdigdplhlgcaaa.gx
end
section
set_option maxRecDepth 100000
set_option linter.unusedVariables false
set_option linter.unusedSectionVars false
set_option linter.unusedSimpArgs false
namespace Go.Proofs.Ytcdigdplhlgcaaa.gx
open Go Ev tp
section
variable (sa:AV) (j:Int) (rest:List AFrame) (O:T AObj) (N:Nat) (G:T (T AV)) (i1 i2 i3:Nat) (s1:AV) (z1:Int)
noncomputable def Ffit:AFrame:=⟨65,8,(tW (tX (tY (.int .i64 0)) tZ) s1 (tW (tY s1) .nilp tZ)),   [.ops (rg P 65 [1,0,0]).toList ((rg P 65 [1,0,0]).toList.drop 1),.code (cd P 65 [1,0,1]),.code (cd P 65 [1,1])],[],.run,CallKind.normal,none⟩
noncomputable def zp5:AM:=⟨⟨62,16,(tW (tX (tY (.int .i64 j)) tZ) sa tZ),   [.code (cd P 62 [1,0,1,0,0]),.inLoop (cd P 62 [1,0,1,0,0]),.inBlock 0,.code (cd P 62 [1,1])],[],.run,CallKind.normal,none⟩,rest,⟨O,N,G⟩⟩
noncomputable def zkS:AFrame:=⟨62,16,(tW (tX (tW (tY (.bool true)) (.int .i64 j) (tY (.int .i64 j))) (tW tZ sa (tY s1))) sa (tX (tW tZ (.int .i64 j) (tY (.ptr i1 i2 i3))) (tW (tY sa) (.int .i64 z1) tZ))),   [.ops (rg P 62 [1,0,1,0,0,1,0,0,0]).toList ((rg P 62 [1,0,1,0,0,1,0,0,0]).toList.drop 4),.code (cd P 62 [1,0,1,0,0,1,0,0,1]),.inBlock 1,.code (cd P 62 [1,0,1,0,0,1,1]),.inLoop (cd P (62:FuncId) [1,0,1,0,0]),.inBlock 0,.code (cd P (62:FuncId) [1,1])],[],.run,CallKind.normal,none⟩
end
theorem q_ral (R:AV→AHeap→Prop)(keep:Nat)(f0:FuncId)(rest:List AFrame)(N:Nat)(O:T AObj)(sa:AV)(G:T (T AV))(K:AM→Prop):Obl P f0 (fun v h=>R v h) keep K [.run 11,.keep [0,3]] ((AM.mk (enF 62 [sa]) rest ⟨O,N,G⟩))=(K (zp5 sa 0 rest O N G)):=by kernel_rfl
theorem q_fit (R:AV→AHeap→Prop)(keep:Nat)(f0:FuncId)(rest:List AFrame)(N:Nat)(O:T AObj)(s1:AV)(G:T (T AV))(K:AM→Prop):Obl P f0 (fun v h=>R v h) keep K [.run 10] ((AM.mk (enF 65 [s1]) rest ⟨O,N,G⟩))=(K (AM.mk (enF 15 [s1]) ((Ffit s1)::rest) ⟨O,N,G⟩)):=by kernel_rfl
theorem zlM (R:AV→AHeap→Prop)(keep:Nat)(f0:FuncId)(rest:List AFrame)(td:List AItem)(N:Nat)(O:T AObj)(c:Int)(s1c:AV)(G:T (T AV))(K:AM→Prop):Obl P f0 (fun v h=>R v h) keep K [.run 3,.know 6 true,.run 7,.keep [2,3]] ((AM.mk (RF 15 5 (tX tZ (tY (.int .i64 c))) td) ((Ffit s1c)::rest) ⟨O,N,G⟩))=((decide (c > (60:Int))=true)∧K (AM.mk (RF 65 8 (tX (tX (tY (.int .i64 3)) tZ) (tY .nilp)) [.code (cd P 15 [1,1]),.code (cd P (65:FuncId) [1,1])]) rest ⟨O,N,G⟩)):=by kernel_rfl
theorem zk1 (R:AV→AHeap→Prop)(keep:Nat)(f0:FuncId)(rest:List AFrame)(td:List AItem)(N:Nat)(O:T AObj)(c:Int)(s1c:AV)(G:T (T AV))(K:AM→Prop):Obl P f0 (fun v h=>R v h) keep K [.run 3,.know 6 false,.run 9,.keep [2,3]] ((AM.mk (RF 15 5 (tX tZ (tY (.int .i64 c))) td) ((Ffit s1c)::rest) ⟨O,N,G⟩))=((decide (c > (60:Int))=false)∧K (AM.mk (RF 65 8 (tX (tX (tY (.int .i64 0)) tZ) (tY s1c)) [.code (cd P 15 [1,1])]) rest ⟨O,N,G⟩)):=by kernel_rfl
theorem zp0 (R:AV→AHeap→Prop)(keep:Nat)(f0:FuncId)(rest:List AFrame)(N:Nat)(O:T AObj)(n:Int)(mk:Nat)(sl:AV)(z1:Int)(G:T (T AV))(K:AM→Prop):Obl P f0 (fun v h=>R v h) keep K [.run 10,.hop (sl) O,.hopn (.int .i64 z1) O (N),.run 2,.know 11 true,.run 6,.keep [4]] ((AM.mk (enF 73 [.ptr mk 0 0,.int .i64 n]) rest ⟨O,N,G⟩))=((zb (⟨O,N,G⟩) (mk) 0 0 1=(some [sl]))∧(zI P (⟨O,N,G⟩) (Builtin.len) ((some 22)) ([sl])=(some (.int .i64 z1)))∧((z1==(0:Int))=true)∧K (AM.mk (RF 73 30 (tX tZ (tX (tY (.int .i64 0)) tZ)) [.code (cd P 73 [1,0,1,0,1]),.code (cd P 73 [1,1])]) rest ⟨O,N,G⟩)):=by kernel_rfl
theorem zq8 (R:AV→AHeap→Prop)(keep:Nat)(f0:FuncId)(rest:List AFrame)(N:Nat)(O:T AObj)(n:Int)(mk:Nat)(sl:AV)(O1:T AObj)(i1:Nat)(i2:Nat)(i3:Nat)(s1:AV)(z1:Int)(z2:Int)(G:T (T AV))(K:AM→Prop):Obl P f0 (fun v h=>R v h) keep K [.run 10,.hop (sl) O,.hopn (.int .i64 z1) O (N),.run 2,.know 11 false,.run 7,.hop (sl) O,.hopn (.ptr i1 i2 i3) O (N),.hop (.int .u8 z2) O,.run 2,.op,.run 8,.hop (sl) O,.hop (s1) O,.run 2,.hopn (.nilp) O1 (N),.run 7,.keep [4]] ((AM.mk (enF 73 [.ptr mk 0 0,.int .i64 n]) rest ⟨O,N,G⟩))=((zb (⟨O,N,G⟩) (mk) 0 0 1=(some [sl]))∧(zI P (⟨O,N,G⟩) (Builtin.len) ((some 22)) ([sl])=(some (.int .i64 z1)))∧((z1==(0:Int))=false)∧(zb (⟨O,N,G⟩) (mk) 0 0 1=(some [sl]))∧(zq P 22 (sl) (.int .i64 0)=(some (.ptr i1 i2 i3)))∧(zb (⟨O,N,G⟩) (i1) (i2) (i3) 1=(some [.int .u8 z2]))∧(n≠(0:Int))∧(zb (⟨O,N,G⟩) (mk) 0 0 1=(some [sl]))∧(xD P (⟨O,N,G⟩) 22 (sl) ((some 1)) (none) (none)=(some s1))∧(s1.cells.length.beq 1=true∧zc (⟨O,N,G⟩:AHeap) mk 0 0 s1.cells=some (⟨O1,N,G⟩:AHeap))∧K (AM.mk (RF 73 30 (tX tZ (tX (tY (.int .i64 ((IntKind.i64.wrap z2).tmod n))) tZ)) [.code (cd P 73 [1,0,1,0,1])]) rest ⟨O1,N,G⟩)):=by kernel_rfl
theorem zpt (R:AV→AHeap→Prop)(keep:Nat)(f0:FuncId)(rest:List AFrame)(N:Nat)(O:T AObj)(sa:AV)(j:Int)(i1:Nat)(i2:Nat)(i3:Nat)(s1:AV)(z1:Int)(G:T (T AV))(K:AM→Prop):Obl P f0 (fun v h=>R v h) keep K [.run 5,.hopn (.int .i64 z1) O (N),.run 2,.know 7 true,.run 8,.hopn (.ptr i1 i2 i3) O (N),.hop (s1) O,.run 1] ((zp5 sa j rest O N G))=((zI P (⟨O,N,G⟩) (Builtin.len) ((some 33)) ([sa])=(some (.int .i64 z1)))∧(decide (j<z1)=true)∧(zq P 33 (sa) (.int .i64 j)=(some (.ptr i1 i2 i3)))∧(zb (⟨O,N,G⟩) (i1) (i2) (i3) 1=(some [s1]))∧K (AM.mk (enF 13 [s1]) ((zkS sa j i1 i2 i3 s1 z1)::rest) ⟨O,N,G⟩)):=by kernel_rfl
theorem zo7 (R:AV→AHeap→Prop)(keep:Nat)(f0:FuncId)(rest:List AFrame)(N:Nat)(O:T AObj)(sa:AV)(j:Int)(z1:Int)(G:T (T AV))(K:AM→Prop):Obl P f0 (fun v h=>R v h) keep K [.run 5,.hopn (.int .i64 z1) O (N),.run 2,.know 7 false,.run 7,.keep [2]] ((zp5 sa j rest O N G))=((zI P (⟨O,N,G⟩) (Builtin.len) ((some 33)) ([sa])=(some (.int .i64 z1)))∧(decide (j<z1)=false)∧K (AM.mk (RF 62 16 (tX tZ (tY (.bool true))) [.code (cd P 62 [1,0,1,0,0,1,0,0,1,0,1])]) rest ⟨O,N,G⟩)):=by kernel_rfl
theorem zgb (R:AV→AHeap→Prop)(keep:Nat)(f0:FuncId)(rest:List AFrame)(td:List AItem)(N:Nat)(O:T AObj)(sa:AV)(c:Int)(j:Int)(i1c:Nat)(i2c:Nat)(i3c:Nat)(z1c:Int)(s1c:AV)(G:T (T AV))(K:AM→Prop):Obl P f0 (fun v h=>R v h) keep K [.run 3,.know 15 true,.run 6,.keep [2]] ((AM.mk (RF 13 11 (tX tZ (tY (.int .i64 c))) td) ((zkS sa j i1c i2c i3c s1c z1c)::rest) ⟨O,N,G⟩))=(((c != (0:Int))=true)∧K (AM.mk (RF 62 16 (tX tZ (tY (.bool false))) [.code (cd P 13 [1,0,1,0,1]),.inBlock 1,.code (cd P (62:FuncId) [1,0,1,0,0,1,1]),.inLoop (cd P (62:FuncId) [1,0,1,0,0]),.inBlock 0,.code (cd P (62:FuncId) [1,1])]) rest ⟨O,N,G⟩)):=by kernel_rfl
theorem zgX (R:AV→AHeap→Prop)(keep:Nat)(f0:FuncId)(rest:List AFrame)(td:List AItem)(N:Nat)(O:T AObj)(sa:AV)(c:Int)(j:Int)(i1c:Nat)(i2c:Nat)(i3c:Nat)(z1c:Int)(s1c:AV)(G:T (T AV))(K:AM→Prop):Obl P f0 (fun v h=>R v h) keep K [.run 3,.know 15 false,.run 9,.keep [0,3]] ((AM.mk (RF 13 11 (tX tZ (tY (.int .i64 c))) td) ((zkS sa j i1c i2c i3c s1c z1c)::rest) ⟨O,N,G⟩))=(((c != (0:Int))=false)∧K (zp5 sa (IntKind.i64.wrap (j+(1:Int))) rest O N G)):=by kernel_rfl
variable {O O':T AObj} {N:Nat} {G:T (T AV)}
theorem zjI {ts:List Ty}{ps:List (Option Nat)}{sa:AV}{hi:Nat}(hs:SV O 1 pE 0 hi ps sa)(hl:ps.length=ts.length)(hm:ts.length<1000000)(ht:∀ (j:Nat) (x:Ty) (p:Option Nat),ts[j]?=some x→ps[j]?=some p→Tr O hi x p)(hN:hi≤N){keep:Nat}{f0:FuncId}{Q:AV→AHeap→Prop}{rest:List AFrame}
 (hK:∀ O' N' td,Ext O N O' N'→Goal P keep f0 Q (AM.mk (RF 62 16 (tX tZ (tY (.bool (ts.all (fun x=>chk x==0))))) td) rest ⟨O',N',G⟩)):Goal P keep f0 Q (AM.mk (enF 62 [sa]) rest ⟨O,N,G⟩):=by
 have loop:∀ (k' i:Nat) (O2:T AObj) (N2:Nat),i+k'=ts.length→Ext O N O2 N2→ts.all (fun x=>chk x==0)=(ts.drop i).all (fun x=>chk x==0)→Goal P keep f0 Q (zp5 sa ((i:Nat):Int) rest O2 N2 G):=by
  intro k'
  induction k' with
  | zero =>
   intro i O2 N2 hk ex hv
   rw [hv,List.drop_of_length_le (by omega)] at hK
   have sO2:=hs.keep (O':=O2) (fun j _ hj=>ex.2 j (by omega)) (Nat.le_refl 0) (Nat.le_refl hi)
   exact (Obl.goal mix (K:=Goal P keep f0 Q) (fun _ h=>h) (cast (zo7 Q keep f0 rest N2 O2 sa ((i:Nat):Int) ((ts.length:Nat):Int) G (Goal P keep f0 Q)).symm ⟨(by rw [← hl]; exact sO2.len pSl _ _),decide_eq_false (by omega),hK O2 N2 _ ex⟩))
  | succ k' ih =>
   intro i O2 N2 hk ex hv
   have exle:=ex.1
   have sO2:=hs.keep (O':=O2) (fun j _ hj=>ex.2 j (by omega)) (Nat.le_refl 0) (Nat.le_refl hi)
   obtain ⟨x,hx,hxm⟩:=nth (l:=ts) (j:=i) (by omega)
   obtain ⟨y,hy',_⟩:=nth (l:=ps) (j:=i) (by omega)
   obtain ⟨i1,i2,i3,lo1,hi1,eA,rd,_⟩:=sO2.at pSl pEn hy'
   rw [zk hx,List.all_cons] at hv
   have tx:=(ht i x y hx hy').same (O':=O2) (fun j hj=>ex.2 j (by omega)) (Nat.le_refl _)
   refine (Obl.goal mix (K:=Goal P keep f0 Q) (fun _ h=>h) (cast (zpt Q keep f0 rest N2 O2 sa ((i:Nat):Int) i1 i2 i3 (pv y) ((ts.length:Nat):Int) G (Goal P keep f0 Q)).symm ⟨(by rw [← hl]; exact sO2.len pSl _ _),decide_eq_true (by omega),eA,rd.load rfl _ _,?_⟩))
   refine zdu tx (by omega) fun O3 N3 td ex3=>?_
   rcases Bool.eq_false_or_eq_true (chk x != (0:Int)) with hb | hb
   · rw [show (chk x==0)=false by simpa using hb,Bool.false_and] at hv
     rw [hv] at hK
     exact (Obl.goal mix (K:=Goal P keep f0 Q) (fun _ h=>h) (cast (zgb Q keep f0 rest td N3 O3 sa (chk x) ((i:Nat):Int) i1 i2 i3 ((ts.length:Nat):Int) (pv y) G (Goal P keep f0 Q)).symm ⟨hb,hK O3 N3 _ (ex.trans ex3)⟩))
   · rw [show (chk x==0)=true by simpa using hb,Bool.true_and] at hv
     have nx:=ih (i+1) O3 N3 (by omega) (ex.trans ex3) hv
     rw [← zx (i:=i) (by omega)] at nx
     exact (Obl.goal mix (K:=Goal P keep f0 Q) (fun _ h=>h) (cast (zgX Q keep f0 rest td N3 O3 sa (chk x) ((i:Nat):Int) i1 i2 i3 ((ts.length:Nat):Int) (pv y) G (Goal P keep f0 Q)).symm ⟨hb,nx⟩))
 refine (Obl.goal mix (K:=Goal P keep f0 Q) (fun _ h=>h) (cast (q_ral Q keep f0 rest N O sa G (Goal P keep f0 Q)).symm ?_))
 exact loop ts.length 0 O N (Nat.zero_add _) Ext.refl (by rw [List.drop_zero])
theorem zlN {t:Ty}{p:Option Nat}{hi:Nat}(ht:Tr O hi t p){keep:Nat}{f0:FuncId}{Q:AV→AHeap→Prop}{rest:List AFrame}
 (hA:60<cnt t→∀ td,Goal P keep f0 Q (AM.mk (RF 65 8 (tX (tX (tY (.int .i64 3)) tZ) (tY .nilp)) td) rest ⟨O,N,G⟩)) (hB:cnt t≤60→∀ td,Goal P keep f0 Q (AM.mk (RF 65 8 (tX (tX (tY (.int .i64 0)) tZ) (tY (pv p))) td) rest ⟨O,N,G⟩)):Goal P keep f0 Q (AM.mk (enF 65 [pv p]) rest ⟨O,N,G⟩):=by
 refine (Obl.goal mix (K:=Goal P keep f0 Q) (fun _ h=>h) (cast (q_fit Q keep f0 rest N O (pv p) G (Goal P keep f0 Q)).symm ?_))
 refine zg6 ht fun td=>?_
 by_cases h:60<cnt t
 · exact (Obl.goal mix (K:=Goal P keep f0 Q) (fun _ h=>h) (cast (zlM Q keep f0 rest td N O ((min (cnt t) 61:Nat):Int) (pv p) G (Goal P keep f0 Q)).symm ⟨decide_eq_true (by omega),hA h _⟩))
 · exact (Obl.goal mix (K:=Goal P keep f0 Q) (fun _ h=>h) (cast (zk1 Q keep f0 rest td N O ((min (cnt t) 61:Nat):Int) (pv p) G (Goal P keep f0 Q)).symm ⟨decide_eq_false (by omega),hB (by omega) _⟩))
def SVe (O:T AObj) (hi:Nat) (xs:List UInt8) (s:AV):Prop:=SV O 1 bE 0 hi xs s∨(s=.sle∧xs=[])
theorem SVe.keep {hi:Nat}{xs:List UInt8}{s:AV}(h:SVe O hi xs s)(e:∀ j,j<hi→O'.get j=O.get j):SVe O' hi xs s :=
 h.imp (fun h=>h.keep (fun j _ hj=>e j hj) (Nat.le_refl _) (Nat.le_refl _)) id
theorem SVe.one {hi:Nat}{xs:List UInt8}{s:AV}(h:SVe O hi xs s):AV.one s=true:=h.elim (fun h=>h.one) fun h=>by rw [h.1]; rfl
theorem SVe.len {hi:Nat}{xs:List UInt8}{s:AV}(h:SVe O hi xs s)(N:Nat)(G:T (T AV)):zI P ⟨O,N,G⟩ .len (some 22) [s]=some (.int .i64 ((xs.length:Nat):Int)):=by
 rcases h with h | ⟨rfl,rfl⟩
 · exact h.len bSl N G
 · kernel_rfl
def MKo (O:T AObj) (hi mk:Nat) (xs:List UInt8) (nn:Int) (an:Bool):Prop:=∃ sl,Obj O mk [sl,.int .i64 nn,.bool an]∧SVe O hi xs sl
theorem qb {hi mk:Nat}{xs:List UInt8}{nn n:Int}{an:Bool}(hm:MKo O hi mk xs nn an)(hmk:hi≤mk)(hn:0<n){keep:Nat}{f0:FuncId}{Q:AV→AHeap→Prop}{rest:List AFrame}
 (hK:∀ O' td c ys,ys.length≤xs.length→0≤c→c<n→(∀ j,j≠mk→O'.get j=O.get j)→MKo O' hi mk ys nn an→Goal P keep f0 Q (AM.mk (RF 73 30 (tX tZ (tX (tY (.int .i64 c)) tZ)) td) rest ⟨O',N,G⟩)):Goal P keep f0 Q (AM.mk (enF 73 [.ptr mk 0 0,.int .i64 n]) rest ⟨O,N,G⟩):=by
 obtain ⟨sl,ob,sv⟩:=hm
 cases xs with
 | nil=>exact (Obl.goal mix (K:=Goal P keep f0 Q) (fun _ h=>h) (cast (zp0 Q keep f0 rest N O n mk sl (((([]:List UInt8)).length:Nat):Int) G (Goal P keep f0 Q)).symm ⟨ob.ld 0 rfl,sv.len _ _,rfl,hK O _ 0 [] (Nat.le_refl _) (Int.le_refl _) hn (fun _ _=>rfl) ⟨sl,ob,sv⟩⟩))
 | cons x xs =>
  have svl:=sv
  replace sv:=sv.resolve_right (fun h=>by cases h.2)
  obtain ⟨i1,i2,i3,lo1,hi1,eA,rd,_⟩:=sv.at (j:=0) bSl bEn rfl
  obtain ⟨s1,es,sv1,_⟩:=sv.sub bSl bEn (a:=1) (b:=(x::xs).length) (by simp) (Nat.le_refl _) (some 1) none (.inl rfl) (.inr ⟨rfl,rfl⟩) N G
  obtain ⟨O1,st,b1,f1⟩:=ob.store 0 [s1] N G (Nat.le_of_ble_eq_true rfl) (by simp only [List.all_cons,List.all_nil,Bool.and_true]; exact sv1.one)
  have hz:IntKind.i64.wrap (bi x)=bi x:=by
   have:=x.toNat_lt
   unfold bi
   rw [IntKind.wrap_i64]
   omega
  have hb0:0≤bi x:=by unfold bi; omega
  refine (Obl.goal mix (K:=Goal P keep f0 Q) (fun _ h=>h) (cast (zq8 Q keep f0 rest N O n mk sl O1 i1 i2 i3 s1 (((x::xs).length:Nat):Int) (bi x) G (Goal P keep f0 Q)).symm ⟨ob.ld 0 rfl,sv.len bSl _ _,by simp; omega,ob.ld 0 rfl,eA,rd.load rfl _ _,by omega,ob.ld 0 rfl,es,(by rw [sv1.cells]; exact ⟨rfl,st⟩),?_⟩))
  have sv2:=sv1.keep (O':=O1) (fun j _ hj=>f1 j (by omega)) (Nat.le_refl 0) (Nat.le_refl hi)
  refine hK O1 _ _ _ ?_ ?_ ?_ (fun j hj=>f1 j hj) ⟨s1,b1,.inl sv2⟩
  · simp
  · rw [hz]; exact Int.tmod_nonneg _ hb0
  · exact Int.tmod_lt_of_pos _ hn
end Go.Proofs.Ytcdigdplhlgcaaa.gx
end
section
set_option maxRecDepth 100000
set_option linter.unusedVariables false
set_option linter.unusedSectionVars false
namespace Go.Proofs.Ytcdigdplhlgcaaa.gx
open Go Ev tp
variable {O O':T AObj} {N hi hi' mk:Nat} {G:T (T AV)} {t:Ty} {p:Option Nat}
inductive Tra (O:T AObj) (hi:Nat) (A:Nat→Prop):Ty→Option Nat→Prop
 | nil:Tra O hi A .no none
 | node {k:Int} {nm:zi} {ns:List zi} {aa:List Ty} {r:Ty} {id:Nat} {sn sa:AV} {ps:List (Option Nat)} {q:Option Nat} (hid:id<hi) (hm:¬ A id) (h2:Obj O id [.int .i64 k,.str nm,sn,sa,pv q])
  (h3:SV O 1 sE 0 hi ns sn) (m3:sn≠.nils 0 0→¬ A (sid sn)) (h4:SV O 1 pE 0 hi ps sa) (m4:sa≠.nils 0 0→¬ A (sid sa)) (h5:ps.length=aa.length) (h6:aa.length<1000000) (h7:ns.length<1000000)
  (h8:∀ (j:Nat) (x:Ty) (p:Option Nat),aa[j]?=some x→ps[j]?=some p→Tra O hi A x p) (h9:Tra O hi A r q):Tra O hi A (.mk k nm ns aa r) (some id)
variable {A B:Nat→Prop}
theorem Tra.tr (h:Tra O hi A t p):Tr O hi t p:=by
 induction h with
 | nil=>exact .no
 | node h1 hm h2 h3 m3 h4 m4 h5 h6 h7 h8 h9 ih1 ih2=>exact .mk h1 h2 h3 h4 h5 h6 h7 ih1 ih2
theorem Tra.same (h:Tra O hi A t p)(e:∀ j,j<hi→¬ A j→O'.get j=O.get j)(hh:hi≤hi'):Tra O' hi' A t p:=by
 induction h with
 | nil=>exact .nil
 | node h1 hm h2 h3 m3 h4 m4 h5 h6 h7 h8 h9 ih1 ih2 =>
  exact .node (by omega) hm (h2.same (e _ h1 hm)) (h3.same (fun hn=>e _ (h3.sid_lt hn).2 (m3 hn)) (Nat.le_refl _) hh) m3 (h4.same (fun hn=>e _ (h4.sid_lt hn).2 (m4 hn)) (Nat.le_refl _) hh) m4 h5 h6 h7 ih1 ih2
theorem Tra.of (h:Tr O hi t p)(hm:∀ j,j<hi→¬ A j):Tra O hi A t p:=by
 induction h with
 | no=>exact .nil
 | mk h1 h2 h3 h4 h5 h6 h7 h8 h9 ih1 ih2=>exact .node h1 (hm _ h1) h2 h3 (fun hn=>hm _ (h3.sid_lt hn).2) h4 (fun hn=>hm _ (h4.sid_lt hn).2) h5 h6 h7 ih1 ih2
theorem Tra.imp (h:Tra O hi A t p)(e:∀ j,j<hi→B j→A j):Tra O hi B t p:=by
 induction h with
 | nil=>exact .nil
 | node h1 hm h2 h3 m3 h4 m4 h5 h6 h7 h8 h9 ih1 ih2 =>
  exact .node h1 (fun a=>hm (e _ h1 a)) h2 h3 (fun hn a=>m3 hn (e _ (h3.sid_lt hn).2 a)) h4 (fun hn a=>m4 hn (e _ (h4.sid_lt hn).2 a)) h5 h6 h7 ih1 ih2
theorem Tra.inv {k:Int}{nm:zi}{ns:List zi}{aa:List Ty}{r:Ty}(h:Tra O hi A (.mk k nm ns aa r) p):∃ id sn sa ps q,p=some id∧id<hi∧¬ A id∧Obj O id [.int .i64 k,.str nm,sn,sa,pv q]∧SV O 1 sE 0 hi ns sn∧(sn≠.nils 0 0→¬ A (sid sn))∧SV O 1 pE 0 hi ps sa∧(sa≠.nils 0 0→¬ A (sid sa)) ∧
 ps.length=aa.length∧aa.length<1000000∧ns.length<1000000∧(∀ (j:Nat) (x:Ty) (p:Option Nat),aa[j]?=some x→ps[j]?=some p→Tra O hi A x p)∧Tra O hi A r q:=by
 cases h with
 | node h1 hm h2 h3 m3 h4 m4 h5 h6 h7 h8 h9=>exact ⟨_,_,_,_,_,rfl,h1,hm,h2,h3,m3,h4,m4,h5,h6,h7,h8,h9⟩
def MadeT (an:Bool) (t:Ty):Prop:=∃ k nm ns ts r,t=.mk k nm ns ts r∧cnt t≤60∧(∀ x∈ts,okT x=true)∧(k=7→ns.length=ts.length)∧(k=8→okT r=true)∧(an=false→naT t=true)
theorem MadeT.leaf {an:Bool}{k:Int}{nm:zi}(h7:k≠7)(h8:k≠8)(h1:an=false→k≠1):MadeT an (.mk k nm [] [] .no) :=
 ⟨k,nm,[],[],.no,rfl,by simp [cnt,wq],(fun x h=>by cases h),(fun h=>absurd h h7),(fun h=>absurd h h8),fun h=>by simp [naT,naL,h1 h]⟩
theorem zdo {an:Bool}{t:Ty}(h1:okT t=true)(h2:cnt t≤60)(h3:an=false→naT t=true):MadeT an t:=by
 cases t with
 | no=>rw [ye] at h1; cases h1
 | mk k nm ns aa r =>
  obtain ⟨p1,p2,p3,p4⟩:=xn h1
  refine ⟨k,nm,ns,aa,r,rfl,h2,p2,fun h7=>?_,fun h8=>?_,h3⟩
  · unfold okK at p4
    rw [if_neg (by omega),if_pos h7] at p4
    simp only [Bool.and_eq_true,decide_eq_true_eq] at p4
    exact p4.1.1
  · rcases p3 with q | q
    · have:=((yP p1).2.1).1 h8
      rw [q] at this
      cases this
    · exact q
end Go.Proofs.Ytcdigdplhlgcaaa.gx
end
section
set_option maxRecDepth 100000
set_option linter.unusedVariables false
set_option linter.unusedSectionVars false
set_option linter.unusedSimpArgs false
namespace Go.Proofs.Ytcdigdplhlgcaaa.gx
open Go Ev tp
section
variable (N:Nat) (c:Int) (mk:Nat) (an:Bool)
noncomputable def zqt:AFrame:=⟨78,32,(tW (tX tZ (tY (.ptr mk 0 0))) (.ptr mk 0 0) (tY .nilp)),   [.ops (rg P 78 [1,0]).toList ((rg P 78 [1,0]).toList.drop 1),.code (cd P 78 [1,1])],[],.run,CallKind.normal,none⟩
noncomputable def zcL:AFrame:=⟨78,32,(tW (tX (tW (tW (tY (.int .i64 c)) (.bool false) tZ) (.int .i64 c) (tX (tY (.ptr mk 0 0)) tZ)) (tW (tW (tY (.bool true)) (.bool (decide (c<(4:Int)))) (tY (.agg [.str [UInt8.ofNat 97,UInt8.ofNat 46,UInt8.ofNat 78],.str [UInt8.ofNat 98,UInt8.ofNat 46,UInt8.ofNat 78],.str [UInt8.ofNat 97,UInt8.ofNat 47,UInt8.ofNat 98,UInt8.ofNat 46,UInt8.ofNat 77]]))) (.ptr mk 0 0) (tX (tY (.bool an)) tZ))) (.ptr mk 0 0) (tW (tW (tW (tY (.bool (c==(4:Int)))) (.int .i64 c) tZ) (.ptr N 0 0) (tX (tY (.ptr mk 0 2)) tZ)) .nilp (tW (tX (tY (.ptr mk 0 0)) (tY (.ptr mk 0 0))) (.int .i64 c) (tW (tY (.bool an)) (.bool false) tZ)))),   [.ops (rg P 78 [1,1,1,1,0]).toList ((rg P 78 [1,1,1,1,0]).toList.drop 1),.code (cd P 73 [1,0,1,0,1])],[],.run,CallKind.normal,none⟩
noncomputable def zeB:AFrame:=⟨78,32,(tW (tX (tW (tW (tY (.int .i64 c)) (.bool false) tZ) (.int .i64 c) (tX (tY (.tup [])) tZ)) (tW (tW (tY (.bool false)) (.bool (decide (c<(4:Int)))) (tY (.agg [.str [UInt8.ofNat 97,UInt8.ofNat 46,UInt8.ofNat 78],.str [UInt8.ofNat 98,UInt8.ofNat 46,UInt8.ofNat 78],.str [UInt8.ofNat 97,UInt8.ofNat 47,UInt8.ofNat 98,UInt8.ofNat 46,UInt8.ofNat 77]]))) (.ptr mk 0 0) (tX (tY (.tup [])) tZ))) (.ptr mk 0 0) (tW (tW (tW (tY (.bool (c==(4:Int)))) (.int .i64 c) tZ) (.ptr N 0 0) (tX (tY (.tup [])) tZ)) .nilp (tW (tX (tY (.tup [])) (tY (.ptr mk 0 0))) (.int .i64 c) (tW (tY (.bool false)) (.bool false) tZ)))),   [.ops (rg P 78 [1,1,1,1,0]).toList ((rg P 78 [1,1,1,1,0]).toList.drop 1),.code (cd P 73 [1,0,1,0,1])],[],.run,CallKind.normal,none⟩
end
theorem q_lea (R:AV→AHeap→Prop)(keep:Nat)(f0:FuncId)(rest:List AFrame)(N:Nat)(O:T AObj)(mk:Nat)(G:T (T AV))(K:AM→Prop):Obl P f0 (fun v h=>R v h) keep K [.run 8] ((AM.mk (enF 78 [.ptr mk 0 0]) rest ⟨O,N,G⟩))=(K (AM.mk (enF 73 [.ptr mk 0 0,.int .i64 8]) ((zqt mk)::rest) ⟨O,N,G⟩)):=by kernel_rfl
theorem zke (R:AV→AHeap→Prop)(keep:Nat)(f0:FuncId)(rest:List AFrame)(td:List AItem)(N:Nat)(O:T AObj)(c:Int)(mk:Nat)(O1:T AObj)(G:T (T AV))(K:AM→Prop):Obl P f0 (fun v h=>R v h) keep K [.run 11,.know 7 true,.run 6,.hop (.nilp) O1,.run 3,.keep [2]] ((AM.mk (RF 73 30 (tX tZ (tX (tY (.int .i64 c)) tZ)) td) ((zqt mk)::rest) ⟨O,N,G⟩))=((decide (c<(4:Int))=true)∧(T.set ((some (.cells (tW (tW (tY (.nils 0 0)) (.str []) tZ) (.int .i64 (IntKind.i64.wrap ((2:Int)+c))) (tW (tY .nilp) (.nils 0 0) tZ)) 5 44 0 0 1 0 false .leaf))) (O) (N)=O1)∧K (AM.mk (RF 78 32 (tX tZ (tY (.ptr N 0 0))) [.code (cd P 73 [1,0,1,0,1]),.inBlock 0,.code (cd P 78 [1,1,1])]) rest ⟨O1,N+1,G⟩)):=by kernel_rfl
theorem zgT (R:AV→AHeap→Prop)(keep:Nat)(f0:FuncId)(rest:List AFrame)(td:List AItem)(N:Nat)(O:T AObj)(c:Int)(mk:Nat)(an:Bool)(O1:T AObj)(G:T (T AV))(K:AM→Prop):Obl P f0 (fun v h=>R v h) keep K [.run 11,.know 7 false,.run 6,.know 17 true,.run 3,.hop (.bool an) O,.run 3,.know 14 true,.run 4,.hop (.nilp) O1,.run 3,.keep [2]] ((AM.mk (RF 73 30 (tX tZ (tX (tY (.int .i64 c)) tZ)) td) ((zqt mk)::rest) ⟨O,N,G⟩))=((decide (c<(4:Int))=false)∧((c==(4:Int))=true)∧(zb (⟨O,N,G⟩) (mk) 0 2 1=(some [.bool an]))∧(an=true)∧(T.set ((some (.cells (tW (tW (tY (.nils 0 0)) (.str []) tZ) (.int .i64 1) (tW (tY .nilp) (.nils 0 0) tZ)) 5 44 0 0 1 0 false .leaf))) (O) (N)=O1)∧K (AM.mk (RF 78 32 (tX tZ (tY (.ptr N 0 0))) [.code (cd P 73 [1,0,1,0,1]),.inBlock 0,.code (cd P 78 [1,1,1])]) rest ⟨O1,N+1,G⟩)):=by kernel_rfl
theorem zgs (R:AV→AHeap→Prop)(keep:Nat)(f0:FuncId)(rest:List AFrame)(td:List AItem)(N:Nat)(O:T AObj)(c:Int)(mk:Nat)(an:Bool)(O1:T AObj)(O2:T AObj)(G:T (T AV))(K:AM→Prop):Obl P f0 (fun v h=>R v h) keep K [.run 11,.know 7 false,.run 6,.know 17 true,.run 3,.hop (.bool an) O,.run 3,.know 14 false,.run 6,.hop (.nilp) O1,.hop (.nilp) O2,.run 5] ((AM.mk (RF 73 30 (tX tZ (tX (tY (.int .i64 c)) tZ)) td) ((zqt mk)::rest) ⟨O,N,G⟩))=((decide (c<(4:Int))=false)∧((c==(4:Int))=true)∧(zb (⟨O,N,G⟩) (mk) 0 2 1=(some [.bool an]))∧(an=false)∧(T.set ((some (.cells (tW (tY (.str [])) (.str []) (tY (.str []))) 3 90 0 0 1 0 false .leaf))) (O) (N)=O1)∧(zc (⟨O1,N+1,G⟩) (N) 0 0 ([.str [UInt8.ofNat 97,UInt8.ofNat 46,UInt8.ofNat 78],.str [UInt8.ofNat 98,UInt8.ofNat 46,UInt8.ofNat 78],.str [UInt8.ofNat 97,UInt8.ofNat 47,UInt8.ofNat 98,UInt8.ofNat 46,UInt8.ofNat 77]])=(some ⟨O2,N+1,G⟩))∧K (AM.mk (enF 73 [.ptr mk 0 0,.int .i64 3]) ((zcL N c mk an)::rest) ⟨O2,N+1,G⟩)):=by kernel_rfl
theorem zjo (R:AV→AHeap→Prop)(keep:Nat)(f0:FuncId)(rest:List AFrame)(td:List AItem)(N:Nat)(O:T AObj)(c:Int)(mk:Nat)(O1:T AObj)(O2:T AObj)(G:T (T AV))(K:AM→Prop):Obl P f0 (fun v h=>R v h) keep K [.run 11,.know 7 false,.run 6,.know 17 false,.run 13,.hop (.nilp) O1,.hop (.nilp) O2,.run 5] ((AM.mk (RF 73 30 (tX tZ (tX (tY (.int .i64 c)) tZ)) td) ((zqt mk)::rest) ⟨O,N,G⟩))=((decide (c<(4:Int))=false)∧((c==(4:Int))=false)∧(T.set ((some (.cells (tW (tY (.str [])) (.str []) (tY (.str []))) 3 90 0 0 1 0 false .leaf))) (O) (N)=O1)∧(zc (⟨O1,N+1,G⟩) (N) 0 0 ([.str [UInt8.ofNat 97,UInt8.ofNat 46,UInt8.ofNat 78],.str [UInt8.ofNat 98,UInt8.ofNat 46,UInt8.ofNat 78],.str [UInt8.ofNat 97,UInt8.ofNat 47,UInt8.ofNat 98,UInt8.ofNat 46,UInt8.ofNat 77]])=(some ⟨O2,N+1,G⟩))∧K (AM.mk (enF 73 [.ptr mk 0 0,.int .i64 3]) ((zeB N c mk)::rest) ⟨O2,N+1,G⟩)):=by kernel_rfl
theorem zb7 (R:AV→AHeap→Prop)(keep:Nat)(f0:FuncId)(rest:List AFrame)(td:List AItem)(N:Nat)(O:T AObj)(c:Int)(Nc:Nat)(c2:Int)(mk:Nat)(an:Bool)(O1:T AObj)(l1:List UInt8)(G:T (T AV))(K:AM→Prop):Obl P f0 (fun v h=>R v h) keep K [.run 1,.op,.hop (.str l1) O,.run 1,.hop (.nilp) O1,.run 3,.keep [2]] ((AM.mk (RF 73 30 (tX tZ (tX (tY (.int .i64 c2)) tZ)) td) ((zcL Nc c mk an)::rest) ⟨O,N,G⟩))=(((0:Int)≤c2∧c2<(↑3:Int))∧(zb (⟨O,N,G⟩) (Nc) 0 (0+c2.toNat*1) 1=(some [.str l1]))∧(T.set ((some (.cells (tW (tW (tY (.nils 0 0)) (.str l1) tZ) (.int .i64 6) (tW (tY .nilp) (.nils 0 0) tZ)) 5 44 0 0 1 0 false .leaf))) (O) (N)=O1)∧K (AM.mk (RF 78 32 (tX tZ (tY (.ptr N 0 0))) [.code (cd P (73:FuncId) [1,0,1,0,1])]) rest ⟨O1,N+1,G⟩)):=by kernel_rfl
theorem zdI (R:AV→AHeap→Prop)(keep:Nat)(f0:FuncId)(rest:List AFrame)(td:List AItem)(N:Nat)(O:T AObj)(c:Int)(Nc:Nat)(c2:Int)(mk:Nat)(O1:T AObj)(l1:List UInt8)(G:T (T AV))(K:AM→Prop):Obl P f0 (fun v h=>R v h) keep K [.run 1,.op,.hop (.str l1) O,.run 1,.hop (.nilp) O1,.run 3,.keep [2]] ((AM.mk (RF 73 30 (tX tZ (tX (tY (.int .i64 c2)) tZ)) td) ((zeB Nc c mk)::rest) ⟨O,N,G⟩))=(((0:Int)≤c2∧c2<(↑3:Int))∧(zb (⟨O,N,G⟩) (Nc) 0 (0+c2.toNat*1) 1=(some [.str l1]))∧(T.set ((some (.cells (tW (tW (tY (.nils 0 0)) (.str l1) tZ) (.int .i64 6) (tW (tY .nilp) (.nils 0 0) tZ)) 5 44 0 0 1 0 false .leaf))) (O) (N)=O1)∧K (AM.mk (RF 78 32 (tX tZ (tY (.ptr N 0 0))) [.code (cd P (73:FuncId) [1,0,1,0,1])]) rest ⟨O1,N+1,G⟩)):=by kernel_rfl
variable {O O':T AObj} {N:Nat} {G:T (T AV)}
theorem MKo.same {hi mk:Nat}{xs:List UInt8}{nn:Int}{an:Bool}(h:MKo O hi mk xs nn an)(e:∀ j,j<hi→O'.get j=O.get j)(e2:O'.get mk=O.get mk):MKo O' hi mk xs nn an:=by
 obtain ⟨sl,ob,sv⟩:=h
 exact ⟨sl,ob.same e2,sv.keep e⟩
theorem zgJ {A:Nat→Prop}{hi mk:Nat}{xs:List UInt8}{nn:Int}{an:Bool}(hm:MKo O hi mk xs nn an)(hmk:hi≤mk)(hmN:mk<N)(hA:∀ j,A j→j<N){keep:Nat}{f0:FuncId}{Q:AV→AHeap→Prop}{rest:List AFrame}
 (hK:∀ O' N' td ys t p,ys.length≤xs.length→N≤N'→(∀ j,j<N→j≠mk→O'.get j=O.get j)→MKo O' hi mk ys nn an→Tra O' N' A t p→MadeT an t→Goal P keep f0 Q (AM.mk (RF 78 32 (tX tZ (tY (pv p))) td) rest ⟨O',N',G⟩)):Goal P keep f0 Q (AM.mk (enF 78 [.ptr mk 0 0]) rest ⟨O,N,G⟩):=by
 refine (Obl.goal mix (K:=Goal P keep f0 Q) (fun _ h=>h) (cast (q_lea Q keep f0 rest N O mk G (Goal P keep f0 Q)).symm ?_))
 refine qb hm hmk (n:=8) (by omega) fun O1 td c ys hl c0 c8 f1 m1=>?_
 by_cases h4:c<4
 · obtain ⟨O9,e9,b9,f9⟩:=Obj.mk (c:=(tW (tW (tY (.nils 0 0)) (.str []) tZ) (.int .i64 (IntKind.i64.wrap ((2:Int)+c))) (tW (tY .nilp) (.nils 0 0) tZ))) (el:=44) [.int .i64 (IntKind.i64.wrap ((2:Int)+c)),.str [],.nils 0 0,.nils 0 0,.nilp] O1 (N) 5 rfl (fun u hu=>by rcases u with _ | _ | _ | _ | _ | u <;> first | rfl | omega)
   have hw:IntKind.i64.wrap ((2:Int)+c)=2+c:=by rw [IntKind.wrap_i64]; omega
   exact (Obl.goal mix (K:=Goal P keep f0 Q) (fun _ h=>h) (cast (zke Q keep f0 rest td N O1 c mk O9 G (Goal P keep f0 Q)).symm ⟨decide_eq_true h4,e9,hK O9 (N+1) _ ys _ (some N) hl (by omega) (fun j h1 h2=>(f9 j (by omega)).trans (f1 j h2)) (m1.same (fun j hj=>f9 j (by omega)) (f9 mk (by omega))) (Tra.node (ps:=[]) (q:=none) (id:=N) (by omega) (fun h=>by have:=hA _ h; omega) b9 SV.nil (fun h=>absurd rfl h) SV.nil (fun h=>absurd rfl h) rfl (by decide) (by decide) (fun j x p h=>by simp at h) Tra.nil) (MadeT.leaf (by omega) (by omega) (fun _=>by omega))⟩))
 · by_cases h5:c=4
   · rcases Bool.eq_false_or_eq_true an with han | han
     · subst han
       obtain ⟨O9,e9,b9,f9⟩:=Obj.mk (c:=(tW (tW (tY (.nils 0 0)) (.str []) tZ) (.int .i64 (1)) (tW (tY .nilp) (.nils 0 0) tZ))) (el:=44) [.int .i64 (1),.str [],.nils 0 0,.nils 0 0,.nilp] O1 (N) 5 rfl (fun u hu=>by rcases u with _ | _ | _ | _ | _ | u <;> first | rfl | omega)
       exact (Obl.goal mix (K:=Goal P keep f0 Q) (fun _ h=>h) (cast (zgT Q keep f0 rest td N O1 c mk true O9 G (Goal P keep f0 Q)).symm ⟨decide_eq_false h4,by rw [h5]; rfl,(by obtain ⟨sl,ob,_⟩:=m1; exact ob.ld 2 rfl),rfl,e9,hK O9 (N+1) _ ys _ (some N) hl (by omega) (fun j h1 h2=>(f9 j (by omega)).trans (f1 j h2)) (m1.same (fun j hj=>f9 j (by omega)) (f9 mk (by omega))) (Tra.node (ps:=[]) (q:=none) (id:=N) (by omega) (fun h=>by have:=hA _ h; omega) b9 SV.nil (fun h=>absurd rfl h) SV.nil (fun h=>absurd rfl h) rfl (by decide) (by decide) (fun j x p h=>by simp at h) Tra.nil) (MadeT.leaf (by decide) (by decide) (fun h=>by cases h))⟩))
     · skip
       obtain ⟨O2,e2,b2,f2⟩:=Obj.mk (c:=(tW (tY (.str [])) (.str []) (tY (.str [])))) (el:=90) [.str [],.str [],.str []] O1 N 3 rfl (fun u hu=>by rcases u with _ | _ | _ | u <;> first | rfl | omega)
       obtain ⟨O3,s3,b3,f3⟩:=b2.store 0 [.str [97,46,78],.str [98,46,78],.str [97,47,98,46,77]] (N+1) G (Nat.le_of_ble_eq_true rfl) rfl
       have m3:MKo O3 hi mk ys nn an:=m1.same (fun j hj=>(f3 j (by omega)).trans (f2 j (by omega))) ((f3 mk (by omega)).trans (f2 mk (by omega)))
       refine (Obl.goal mix (K:=Goal P keep f0 Q) (fun _ h=>h) (cast (zgs Q keep f0 rest td N O1 c mk an O2 O3 G (Goal P keep f0 Q)).symm ⟨decide_eq_false h4,by rw [h5]; rfl,(by obtain ⟨sl,ob,_⟩:=m1; exact ob.ld 2 rfl),han,e2,s3,?_⟩))
       refine qb m3 hmk (n:=3) (by omega) fun O4 td2 c2 zs hl2 c02 c32 f4 m4=>?_
       have b4:=b3.same (f4 N (by omega))
       have hc3:c2.toNat=0∨c2.toNat=1∨c2.toNat=2:=by omega
       obtain ⟨l1,hl1⟩:∃ l1,zb ⟨O4,N+1,G⟩ N 0 (0+c2.toNat*1) 1=some [.str l1]:=by
        rcases hc3 with h | h | h <;> rw [h]
        · exact ⟨_,b4.ld 0 rfl⟩
        · exact ⟨_,b4.ld 1 rfl⟩
        · exact ⟨_,b4.ld 2 rfl⟩
       obtain ⟨O9,e9,b9,f9⟩:=Obj.mk (c:=(tW (tW (tY (.nils 0 0)) (.str l1) tZ) (.int .i64 (6)) (tW (tY .nilp) (.nils 0 0) tZ))) (el:=44) [.int .i64 (6),.str l1,.nils 0 0,.nils 0 0,.nilp] O4 (N+1) 5 rfl (fun u hu=>by rcases u with _ | _ | _ | _ | _ | u <;> first | rfl | omega)
       exact (Obl.goal mix (K:=Goal P keep f0 Q) (fun _ h=>h) (cast (zb7 Q keep f0 rest td2 (N+1) O4 c N c2 mk an O9 l1 G (Goal P keep f0 Q)).symm ⟨⟨c02,c32⟩,hl1,e9,hK O9 (N+1+1) _ zs _ (some (N+1)) (by omega) (by omega) (fun j h1 h2=>(f9 j (by omega)).trans ((f4 j h2).trans ((f3 j (by omega)).trans ((f2 j (by omega)).trans (f1 j h2))))) (m4.same (fun j hj=>f9 j (by omega)) (f9 mk (by omega))) (Tra.node (ps:=[]) (q:=none) (id:=N+1) (by omega) (fun h=>by have:=hA _ h; omega) b9 SV.nil (fun h=>absurd rfl h) SV.nil (fun h=>absurd rfl h) rfl (by decide) (by decide) (fun j x p h=>by simp at h) Tra.nil) (MadeT.leaf (by decide) (by decide) (fun _=>by decide))⟩))
   · skip
     obtain ⟨O2,e2,b2,f2⟩:=Obj.mk (c:=(tW (tY (.str [])) (.str []) (tY (.str [])))) (el:=90) [.str [],.str [],.str []] O1 N 3 rfl (fun u hu=>by rcases u with _ | _ | _ | u <;> first | rfl | omega)
     obtain ⟨O3,s3,b3,f3⟩:=b2.store 0 [.str [97,46,78],.str [98,46,78],.str [97,47,98,46,77]] (N+1) G (Nat.le_of_ble_eq_true rfl) rfl
     have m3:MKo O3 hi mk ys nn an:=m1.same (fun j hj=>(f3 j (by omega)).trans (f2 j (by omega))) ((f3 mk (by omega)).trans (f2 mk (by omega)))
     refine (Obl.goal mix (K:=Goal P keep f0 Q) (fun _ h=>h) (cast (zjo Q keep f0 rest td N O1 c mk O2 O3 G (Goal P keep f0 Q)).symm ⟨decide_eq_false h4,by simpa using h5,e2,s3,?_⟩))
     refine qb m3 hmk (n:=3) (by omega) fun O4 td2 c2 zs hl2 c02 c32 f4 m4=>?_
     have b4:=b3.same (f4 N (by omega))
     have hc3:c2.toNat=0∨c2.toNat=1∨c2.toNat=2:=by omega
     obtain ⟨l1,hl1⟩:∃ l1,zb ⟨O4,N+1,G⟩ N 0 (0+c2.toNat*1) 1=some [.str l1]:=by
      rcases hc3 with h | h | h <;> rw [h]
      · exact ⟨_,b4.ld 0 rfl⟩
      · exact ⟨_,b4.ld 1 rfl⟩
      · exact ⟨_,b4.ld 2 rfl⟩
     obtain ⟨O9,e9,b9,f9⟩:=Obj.mk (c:=(tW (tW (tY (.nils 0 0)) (.str l1) tZ) (.int .i64 (6)) (tW (tY .nilp) (.nils 0 0) tZ))) (el:=44) [.int .i64 (6),.str l1,.nils 0 0,.nils 0 0,.nilp] O4 (N+1) 5 rfl (fun u hu=>by rcases u with _ | _ | _ | _ | _ | u <;> first | rfl | omega)
     exact (Obl.goal mix (K:=Goal P keep f0 Q) (fun _ h=>h) (cast (zdI Q keep f0 rest td2 (N+1) O4 c N c2 mk O9 l1 G (Goal P keep f0 Q)).symm ⟨⟨c02,c32⟩,hl1,e9,hK O9 (N+1+1) _ zs _ (some (N+1)) (by omega) (by omega) (fun j h1 h2=>(f9 j (by omega)).trans ((f4 j h2).trans ((f3 j (by omega)).trans ((f2 j (by omega)).trans (f1 j h2))))) (m4.same (fun j hj=>f9 j (by omega)) (f9 mk (by omega))) (Tra.node (ps:=[]) (q:=none) (id:=N+1) (by omega) (fun h=>by have:=hA _ h; omega) b9 SV.nil (fun h=>absurd rfl h) SV.nil (fun h=>absurd rfl h) rfl (by decide) (by decide) (fun j x p h=>by simp at h) Tra.nil) (MadeT.leaf (by decide) (by decide) (fun _=>by decide))⟩))
end Go.Proofs.Ytcdigdplhlgcaaa.gx
end
section
set_option maxRecDepth 100000
set_option linter.unusedVariables false
set_option linter.unusedSectionVars false
set_option linter.unusedSimpArgs false
namespace Go.Proofs.Ytcdigdplhlgcaaa.gx
open Go Ev tp
theorem q_fro (R:AV→AHeap→Prop)(keep:Nat)(f0:FuncId)(rest:List AFrame)(N:Nat)(O:T AObj)(an:Bool)(lf:AV)(O1:T AObj)(s1:AV)(z1:Int)(G:T (T AV))(K:AM→Prop):Obl P f0 (fun v h=>R v h) keep K [.run 8,.hopn (.int .i64 z1) O (N),.run 1,.hop (s1) O,.run 1,.hopn (.agg [s1,.int .i64 0,.bool an]) O (N),.hopn (.nilp) O1 (N),.run 3,.keep [4]] ((AM.mk (enF 38 [lf,.bool an]) rest ⟨O,N,G⟩))=((zI P (⟨O,N,G⟩) (Builtin.len) ((some 22)) ([lf])=(some (.int .i64 z1)))∧(xD P (⟨O,N,G⟩) 22 (lf) (none) ((some (if decide ((300:Int)<z1)=true then (300:Int) else z1))) (none)=(some s1))∧(vp P 88 ([(0,s1),(2,.bool an)])=(some (.agg [s1,.int .i64 0,.bool an])))∧((Nat.beq 3 (AV.agg [s1,AV.int .i64 (Int.ofNat 0),AV.bool an]).cells.length&&(AV.agg [s1,AV.int .i64 (Int.ofNat 0),AV.bool an]).cells.all AV.one)=true∧T.set (some (AObj.cells (ze T.leaf 0 (AV.agg [s1,AV.int .i64 (Int.ofNat 0),AV.bool an]).cells) (AV.agg [s1,AV.int .i64 (Int.ofNat 0),AV.bool an]).cells.length 88 0 0 1 0 false T.leaf)) (⟨O,N,G⟩:AHeap).objs N=O1)∧K (AM.mk (RF 38 13 (tX tZ (tX (tY (.ptr N 0 0)) tZ)) [.code (cd P 38 [1,1])]) rest ⟨O1,N+1,G⟩)):=by kernel_rfl
variable {O O':T AObj} {N:Nat} {G:T (T AV)}
theorem bldM {s1:AV}{an:Bool}(hv:AV.one s1=true):vp P 88 [(0,s1),(2,.bool an)]=some (.agg [s1,.int .i64 0,.bool an]):=by
 cases s1 <;> first | (cases hv; done) | kernel_rfl
theorem zl0 {hi:Nat}{xs:List UInt8}{lf:AV}{an:Bool}(sv:SVe O hi xs lf)(hN:hi≤N){keep:Nat}{f0:FuncId}{Q:AV→AHeap→Prop}{rest:List AFrame}
 (hK:∀ O' td,Ext O N O' (N+1)→MKo O' hi N (xs.take 300) 0 an→Goal P keep f0 Q (AM.mk (RF 38 13 (tX tZ (tX (tY (.ptr N 0 0)) tZ)) td) rest ⟨O',N+1,G⟩)):Goal P keep f0 Q (AM.mk (enF 38 [lf,.bool an]) rest ⟨O,N,G⟩):=by
 have hmin:(if decide ((300:Int)<((xs.length:Nat):Int))=true then (300:Int) else ((xs.length:Nat):Int))=((min 300 xs.length:Nat):Int):=by
  by_cases h:(300:Int)<((xs.length:Nat):Int)
  · rw [if_pos (decide_eq_true h)]; omega
  · rw [if_neg (by simpa using h)]; omega
 have hx:((xs.drop 0).take (min 300 xs.length - 0))=xs.take 300:=by
  rw [List.drop_zero,Nat.sub_zero]
  by_cases h:300≤xs.length
  · rw [Nat.min_eq_left h]
  · rw [Nat.min_eq_right (by omega),List.take_length,List.take_of_length_le (by omega)]
 obtain ⟨s1,es,sv1⟩:∃ s1,xD P ⟨O,N,G⟩ 22 lf none (some (if decide ((300:Int)<((xs.length:Nat):Int))=true then (300:Int) else ((xs.length:Nat):Int))) none=some s1∧SVe O hi (xs.take 300) s1:=by
  rcases sv with sv | ⟨rfl,rfl⟩
  · obtain ⟨s1,es,sv1,_⟩:=sv.sub bSl bEn (a:=0) (b:=min 300 xs.length) (Nat.zero_le _) (by omega) none (some (if decide ((300:Int)<((xs.length:Nat):Int))=true then (300:Int) else ((xs.length:Nat):Int))) (.inr ⟨rfl,rfl⟩) (.inl (by rw [hmin])) N G
    rw [hx] at sv1
    exact ⟨s1,es,.inl sv1⟩
  · exact ⟨.sle,by kernel_rfl,.inr ⟨rfl,rfl⟩⟩
 obtain ⟨O1,e1,b1,f1⟩:=Obj.box (t:=88) [s1,.int .i64 0,.bool an] (by simp only [List.all_cons,List.all_nil,Bool.and_true,sv1.one]; rfl) O N 3 rfl
 have lo:∀ j,j<N→O1.get j=O.get j:=fun j hj=>f1 j (by omega)
 exact (Obl.goal mix (K:=Goal P keep f0 Q) (fun _ h=>h) (cast (q_fro Q keep f0 rest N O an lf O1 s1 ((xs.length:Nat):Int) G (Goal P keep f0 Q)).symm ⟨sv.len _ _,es,bldM sv1.one,e1,hK O1 _ ⟨by omega,lo⟩ ⟨s1,b1,sv1.keep (fun j hj=>lo j (by omega))⟩⟩))
end Go.Proofs.Ytcdigdplhlgcaaa.gx
end
section
set_option maxRecDepth 100000
set_option linter.unusedVariables false
set_option linter.unusedSectionVars false
set_option linter.unusedSimpArgs false
namespace Go.Proofs.Ytcdigdplhlgcaaa.gx
open Go Ev tp
section
variable (N:Nat) (sa:AV) (c:Int) (s1 s1c:AV) (bl:Bool)
noncomputable def Frfu:AFrame:=⟨28,31,(tW (tW (tX (tY sa) tZ) s1 (tY (.int .i64 0))) sa (tX (tY .nilp) tZ)),   [.ops (rg P 28 [1,0,0]).toList ((rg P 28 [1,0,0]).toList.drop 1),.code (cd P 28 [1,0,1]),.code (cd P 28 [1,1])],[],.run,CallKind.normal,none⟩
noncomputable def zdD:AFrame:=⟨28,31,(tW (tW (tX (tY sa) (tY s1c)) s1c (tW (tY (.bool !bl)) (.int .i64 0) tZ)) sa (tX (tW (tY (.bool bl)) .nilp tZ) (tX (tY (.bool false)) tZ))),   [.ops (rg P (28:FuncId) [1,0,0]).toList ((rg P (28:FuncId) [1,0,0]).toList.drop 5),.code (cd P (28:FuncId) [1,0,1]),.code (cd P (28:FuncId) [1,1])],[],.run,CallKind.normal,none⟩
noncomputable def jZ:AFrame:=⟨28,31,(tW (tW (tX (tW (tY s1c) sa (tY sa)) (tW (tY (.ptr N 0 0)) s1c (tY (.ptr N 0 0)))) s1c (tW (tW (tY (.ptr N 0 0)) (.bool !bl) (tY (.ptr N 0 0))) (.int .i64 0) (tW (tY (.ptr N 0 3)) (.bool (c != (0:Int))) tZ))) sa (tX (tW (tW (tY (.agg [.int .i64 8,.str [],.nils 0 0,.nils 0 0,s1c])) (.bool bl) (tY s1)) .nilp (tW (tY (.ptr N 0 0)) (.int .i64 c) tZ)) (tW (tW (tY (.ptr N 0 0)) (.bool false) (tY (.ptr N 0 3))) (.ptr N 0 0) (tW (tY (.nils 0 0)) (.bool false) tZ)))),   [.ops (rg P 28 [1,1,1,1,0]).toList ((rg P 28 [1,1,1,1,0]).toList.drop 1),.code (cd P 13 [1,0,1,0,1])],[],.run,CallKind.normal,none⟩
end
theorem q_rfu (R:AV→AHeap→Prop)(keep:Nat)(f0:FuncId)(rest:List AFrame)(N:Nat)(O:T AObj)(sa:AV)(s1:AV)(G:T (T AV))(K:AM→Prop):Obl P f0 (fun v h=>R v h) keep K [.run 10] ((AM.mk (enF 28 [sa,s1]) rest ⟨O,N,G⟩))=(K (AM.mk (enF 62 [sa]) ((Frfu sa s1)::rest) ⟨O,N,G⟩)):=by kernel_rfl
theorem zk8 (R:AV→AHeap→Prop)(keep:Nat)(f0:FuncId)(rest:List AFrame)(td:List AItem)(N:Nat)(O:T AObj)(sa:AV)(s1c:AV)(bl:Bool)(G:T (T AV))(K:AM→Prop):Obl P f0 (fun v h=>R v h) keep K [.run 3,.know 10 true,.run 12,.keep [4,5]] ((AM.mk (RF 62 16 (tX tZ (tY (.bool bl))) td) ((Frfu sa s1c)::rest) ⟨O,N,G⟩))=(((!bl)=true)∧K (AM.mk (RF 28 31 (tX (tX tZ (tY (.int .i64 2))) (tX (tY .nilp) tZ)) [.code (cd P 62 [1,0,1,0,0,1,0,0,1,0,1]),.code (cd P (28:FuncId) [1,1])]) rest ⟨O,N,G⟩)):=by kernel_rfl
theorem zkc (R:AV→AHeap→Prop)(keep:Nat)(f0:FuncId)(rest:List AFrame)(td:List AItem)(N:Nat)(O:T AObj)(sa:AV)(s1c:AV)(bl:Bool)(G:T (T AV))(K:AM→Prop):Obl P f0 (fun v h=>R v h) keep K [.run 3,.know 10 false,.run 2] ((AM.mk (RF 62 16 (tX tZ (tY (.bool bl))) td) ((Frfu sa s1c)::rest) ⟨O,N,G⟩))=(((!bl)=false)∧K (AM.mk (enF 13 [s1c]) ((zdD sa s1c bl)::rest) ⟨O,N,G⟩)):=by kernel_rfl
theorem zc5 (R:AV→AHeap→Prop)(keep:Nat)(f0:FuncId)(rest:List AFrame)(td:List AItem)(N:Nat)(O:T AObj)(sa:AV)(c:Int)(s1c:AV)(bl:Bool)(G:T (T AV))(K:AM→Prop):Obl P f0 (fun v h=>R v h) keep K [.run 4,.know 14 true,.run 7,.keep [4,5]] ((AM.mk (RF 13 11 (tX tZ (tY (.int .i64 c))) td) ((zdD sa s1c bl)::rest) ⟨O,N,G⟩))=(((c != (0:Int))=true)∧K (AM.mk (RF 28 31 (tX (tX tZ (tY (.int .i64 2))) (tX (tY .nilp) tZ)) [.code (cd P 13 [1,0,1,0,1]),.code (cd P (28:FuncId) [1,1])]) rest ⟨O,N,G⟩)):=by kernel_rfl
theorem zds (R:AV→AHeap→Prop)(keep:Nat)(f0:FuncId)(rest:List AFrame)(td:List AItem)(N:Nat)(O:T AObj)(sa:AV)(c:Int)(s1c:AV)(bl:Bool)(O1:T AObj)(O2:T AObj)(O3:T AObj)(N1:Nat)(s1:AV)(G:T (T AV))(K:AM→Prop):Obl P f0 (fun v h=>R v h) keep K [.run 4,.know 14 false,.run 5,.hopn (.agg [.int .i64 8,.str [],.nils 0 0,.nils 0 0,s1c]) O (N),.hopn (.nilp) O1 (N),.run 8,.hop (.nils 0 0) O1,.run 1,.hopn (s1) O2 (N1),.run 2,.hopn (.nilp) O3 (N1),.run 5] ((AM.mk (RF 13 11 (tX tZ (tY (.int .i64 c))) td) ((zdD sa s1c bl)::rest) ⟨O,N,G⟩))=(((c != (0:Int))=false)∧(vp P 44 ([(0,.int .i64 8),(4,s1c)])=(some (.agg [.int .i64 8,.str [],.nils 0 0,.nils 0 0,s1c])))∧((Nat.beq 5 (AV.agg [AV.int .i64 (Int.ofNat 8),AV.str [],AV.nils 0 0,AV.nils 0 0,s1c]).cells.length&&(AV.agg [AV.int .i64 (Int.ofNat 8),AV.str [],AV.nils 0 0,AV.nils 0 0,s1c]).cells.all AV.one)=true∧T.set (some (AObj.cells (ze T.leaf 0 (AV.agg [AV.int .i64 (Int.ofNat 8),AV.str [],AV.nils 0 0,AV.nils 0 0,s1c]).cells) (AV.agg [AV.int .i64 (Int.ofNat 8),AV.str [],AV.nils 0 0,AV.nils 0 0,s1c]).cells.length 44 0 0 1 0 false T.leaf)) (⟨O,N,G⟩:AHeap).objs N=O1)∧(zb (⟨O1,N+1,G⟩) (N) 0 3 1=(some [.nils 0 0]))∧(zf P (⟨O1,N+1,G⟩) (Builtin.append) ((some 33)) ((some 33)) ([.nils 0 0,sa])=(some (.val s1 ⟨O2,N1,G⟩)))∧(s1.cells.length.beq 1=true∧zc (⟨O2,N1,G⟩:AHeap) N 0 3 s1.cells=some (⟨O3,N1,G⟩:AHeap))∧K (AM.mk (enF 65 [.ptr N 0 0]) ((jZ N sa c s1 s1c bl)::rest) ⟨O3,N1,G⟩)):=by kernel_rfl
theorem qZ (R:AV→AHeap→Prop)(keep:Nat)(f0:FuncId)(rest:List AFrame)(td:List AItem)(N:Nat)(O:T AObj)(sa:AV)(c:Int)(s1c:AV)(Nc:Nat)(c2:Int)(bl:Bool)(rp3:AV)(s1cc:AV)(G:T (T AV))(K:AM→Prop):Obl P f0 (fun v h=>R v h) keep K [.run 7,.keep [4,5]] ((AM.mk (RF 65 8 (tX (tX (tY (.int .i64 c2)) tZ) (tY rp3)) td) ((jZ Nc sa c s1cc s1c bl)::rest) ⟨O,N,G⟩))=(K (AM.mk (RF 28 31 (tX (tX tZ (tY (.int .i64 c2))) (tX (tY rp3) tZ)) [.code (cd P (13:FuncId) [1,0,1,0,1])]) rest ⟨O,N,G⟩)):=by kernel_rfl
variable {O O':T AObj} {N:Nat} {G:T (T AV)}
theorem bld44 {k:Int}{q:Option Nat}:vp P 44 [(0,.int .i64 k),(4,pv q)]=some (.agg [.int .i64 k,.str [],.nils 0 0,.nils 0 0,pv q]):=by
 cases q <;> kernel_rfl
theorem zg1 {ts:List Ty}{ps:List (Option Nat)}{sa:AV}{r:Ty}{q:Option Nat}{hi:Nat}{mk:Nat→Prop}{an:Bool}(hs:SV O 1 pE 0 hi ps sa)(hl:ps.length=ts.length)(hm:ts.length<1000000)(ht:∀ (j:Nat) (x:Ty) (p:Option Nat),ts[j]?=some x→ps[j]?=some p→Tra O hi mk x p)(tr:Tra O hi mk r q)(na:an=false→(∀ x∈ts,naT x=true)∧naT r=true)(hN:hi≤N)(hmN:∀ j,mk j→j<N){keep:Nat}{f0:FuncId}{Q:AV→AHeap→Prop}{rest:List AFrame}
 (hK:∀ O' N' td t' p' e,Ext O N O' N'→(e=0→Tra O' N' mk t' p'∧MadeT an t')→Goal P keep f0 Q (AM.mk (RF 28 31 (tX (tX tZ (tY (.int .i64 e))) (tX (tY (pv p')) tZ)) td) rest ⟨O',N',G⟩)):Goal P keep f0 Q (AM.mk (enF 28 [sa,pv q]) rest ⟨O,N,G⟩):=by
 refine (Obl.goal mix (K:=Goal P keep f0 Q) (fun _ h=>h) (cast (q_rfu Q keep f0 rest N O sa (pv q) G (Goal P keep f0 Q)).symm ?_))
 refine zjI hs hl hm (fun j x p a b=>(ht j x p a b).tr) hN fun O1 N1 td1 ex1=>?_
 rcases Bool.eq_false_or_eq_true (ts.all (fun x=>chk x==0)) with hb | hb
 rotate_left
 · exact (Obl.goal mix (K:=Goal P keep f0 Q) (fun _ h=>h) (cast (zk8 Q keep f0 rest td1 N1 O1 sa (pv q) (ts.all (fun x=>chk x==0)) G (Goal P keep f0 Q)).symm ⟨by rw [hb]; rfl,hK O1 N1 _ .no none 2 ex1 (fun h=>absurd h (by decide))⟩))
 refine (Obl.goal mix (K:=Goal P keep f0 Q) (fun _ h=>h) (cast (zkc Q keep f0 rest td1 N1 O1 sa (pv q) (ts.all (fun x=>chk x==0)) G (Goal P keep f0 Q)).symm ⟨by rw [hb]; rfl,?_⟩))
 have tr1:=tr.same (O':=O1) (fun j hj _=>ex1.2 j (by omega)) (Nat.le_refl _)
 refine zdu tr1.tr (Nat.le_trans hN ex1.1) fun O2 N2 td2 ex2=>?_
 have ex:=ex1.trans ex2
 have nn:=ex.1
 rcases Bool.eq_false_or_eq_true (chk r != (0:Int)) with hc | hc
 · exact (Obl.goal mix (K:=Goal P keep f0 Q) (fun _ h=>h) (cast (zc5 Q keep f0 rest td2 N2 O2 sa (chk r) (pv q) (ts.all (fun x=>chk x==0)) G (Goal P keep f0 Q)).symm ⟨hc,hK O2 N2 _ .no none 2 ex (fun h=>absurd h (by decide))⟩))
 obtain ⟨O3,e3,b3,f3⟩:=Obj.box (t:=44) [.int .i64 8,.str [],.nils 0 0,.nils 0 0,pv q] (by cases q <;> rfl) O2 N2 5 rfl
 have sv3:=hs.keep (O':=O3) (fun j _ hj=>(f3 j (by omega)).trans (ex.2 j (by omega))) (Nat.le_refl 0) (Nat.le_refl hi)
 have g3:GV O3 23 1 pE (N2+1) (N2+1) ([]:List (Option Nat)) (.nils 0 0):=GV.nil
 obtain ⟨O4,N4,s4,e4,g4,n4,n4',f4,_⟩:=g3.app pSl pEn sv3 (Nat.le_refl _) (by rw [hl]; simp only [List.length_nil]; omega) G
 rw [List.nil_append] at g4
 have b4:=b3.same (f4 N2 (by omega) (fun h=>absurd rfl h))
 obtain ⟨O5,e5,b5,f5⟩:=b4.store 3 [s4] N4 G (Nat.le_of_ble_eq_true rfl) (by simp only [List.all_cons,List.all_nil,Bool.and_true]; exact (g4.sv pEn).one)
 have sid4:s4≠.nils 0 0→N2+1≤sid s4:=fun h=>(g4.sid_lt h).1
 have lo5:∀ j,j<N2→O5.get j=O2.get j:=fun j hj=>(f5 j (by omega)).trans ((f4 j (by omega) (fun h=>absurd rfl h)).trans (f3 j (by omega)))
 have ex5:Ext O N O5 N4:=⟨by omega,fun j hj=>(lo5 j (by omega)).trans (ex.2 j hj)⟩
 have node:Tra O5 N4 mk (.mk 8 [] [] ts r) (some N2):=Tra.node (by omega) (fun h=>by have:=hmN _ h; omega) b5 SV.nil (fun h=>absurd rfl h) ((g4.sv pEn).same (fun h=>f5 _ (by have:=sid4 h; omega)) (Nat.zero_le _) (Nat.le_refl _)) (fun h hA=>by have:=sid4 h; have:=hmN _ hA; omega) hl hm (by decide) (fun j x p a b=>(ht j x p a b).same (fun i h1 _=>ex5.2 i (by omega)) (by omega)) (tr.same (fun i h1 _=>ex5.2 i (by omega)) (by omega))
 refine (Obl.goal mix (K:=Goal P keep f0 Q) (fun _ h=>h) (cast (zds Q keep f0 rest td2 N2 O2 sa (chk r) (pv q) (ts.all (fun x=>chk x==0)) O3 O4 O5 N4 s4 G (Goal P keep f0 Q)).symm ⟨hc,bld44,e3,(b3.ld 3 rfl),e4,(by rw [(g4.sv pEn).cells]; exact ⟨rfl,e5⟩),?_⟩))
 refine zlN (p:=some N2) node.tr (fun h td=>?_) (fun h td=>?_)
 · exact (Obl.goal mix (K:=Goal P keep f0 Q) (fun _ h=>h) (cast (qZ Q keep f0 rest td N4 O5 sa (chk r) (pv q) N2 3 (ts.all (fun x=>chk x==0)) .nilp s4 G (Goal P keep f0 Q)).symm (hK O5 N4 _ .no none 3 ex5 (fun h=>absurd h (by decide)))))
 · have made:MadeT an (.mk 8 [] [] ts r):=⟨8,[],[],ts,r,rfl,h,fun x hx=>qQ (by simpa using List.all_eq_true.1 hb x hx),fun h=>absurd h (by decide),fun _=>qQ (by simpa using hc),fun h=>by simp only [naT,zc4,Bool.and_eq_true,List.all_eq_true]; exact ⟨⟨rfl,(na h).1⟩,(na h).2⟩⟩
   exact (Obl.goal mix (K:=Goal P keep f0 Q) (fun _ h=>h) (cast (qZ Q keep f0 rest td N4 O5 sa (chk r) (pv q) N2 0 (ts.all (fun x=>chk x==0)) (pv (some N2)) s4 G (Goal P keep f0 Q)).symm (hK O5 N4 _ _ (some N2) 0 ex5 (fun _=>⟨node,made⟩))))
end Go.Proofs.Ytcdigdplhlgcaaa.gx
end
section
set_option maxRecDepth 100000
set_option linter.unusedVariables false
set_option linter.unusedSectionVars false
set_option linter.unusedSimpArgs false
namespace Go.Proofs.Ytcdigdplhlgcaaa.gx
open Go Ev tp
theorem q_ody (R:AV→AHeap→Prop)(keep:Nat)(f0:FuncId)(rest:List AFrame)(N:Nat)(O:T AObj)(n:Int)(G:T (T AV))(K:AM→Prop):Obl P f0 (fun v h=>R v h) keep K [.run 16,.know 5 true,.run 6,.keep [2]] ((AM.mk (enF 74 [.int .i64 n]) rest ⟨O,N,G⟩))=(((n.tmod (6:Int)==(0:Int))=true)∧K (AM.mk (RF 74 31 (tX tZ (tY .nilp)) [.code (cd P 74 [1,0,1,0,1,0,1]),.inBlock 0,.code (cd P 74 [1,1])]) rest ⟨O,N,G⟩)):=by kernel_rfl
theorem zq1 (R:AV→AHeap→Prop)(keep:Nat)(f0:FuncId)(rest:List AFrame)(N:Nat)(O:T AObj)(n:Int)(O1:T AObj)(G:T (T AV))(K:AM→Prop):Obl P f0 (fun v h=>R v h) keep K [.run 16,.know 5 false,.run 6,.know 7 true,.run 4,.hop (.nilp) O1,.run 3,.keep [2]] ((AM.mk (enF 74 [.int .i64 n]) rest ⟨O,N,G⟩))=(((n.tmod (6:Int)==(0:Int))=false)∧((n.tmod (6:Int)==(1:Int))=true)∧(T.set ((some (.cells (tW (tW (tY (.nils 0 0)) (.str []) tZ) (.int .i64 0) (tW (tY .nilp) (.nils 0 0) tZ)) 5 44 0 0 1 0 false .leaf))) (O) (N)=O1)∧K (AM.mk (RF 74 31 (tX tZ (tY (.ptr N 0 0))) [.code (cd P 74 [1,0,1,0,1,0,1]),.inBlock 0,.code (cd P 74 [1,1])]) rest ⟨O1,N+1,G⟩)):=by kernel_rfl
theorem zoR (R:AV→AHeap→Prop)(keep:Nat)(f0:FuncId)(rest:List AFrame)(N:Nat)(O:T AObj)(n:Int)(O1:T AObj)(G:T (T AV))(K:AM→Prop):Obl P f0 (fun v h=>R v h) keep K [.run 16,.know 5 false,.run 6,.know 7 false,.run 6,.know 11 true,.run 4,.hop (.nilp) O1,.run 3,.keep [2]] ((AM.mk (enF 74 [.int .i64 n]) rest ⟨O,N,G⟩))=(((n.tmod (6:Int)==(0:Int))=false)∧((n.tmod (6:Int)==(1:Int))=false)∧((n.tmod (6:Int)==(2:Int))=true)∧(T.set ((some (.cells (tW (tW (tY (.nils 0 0)) (.str []) tZ) (.int .i64 9) (tW (tY .nilp) (.nils 0 0) tZ)) 5 44 0 0 1 0 false .leaf))) (O) (N)=O1)∧K (AM.mk (RF 74 31 (tX tZ (tY (.ptr N 0 0))) [.code (cd P 74 [1,0,1,0,1,0,1]),.inBlock 0,.code (cd P 74 [1,1])]) rest ⟨O1,N+1,G⟩)):=by kernel_rfl
theorem zmK (R:AV→AHeap→Prop)(keep:Nat)(f0:FuncId)(rest:List AFrame)(N:Nat)(O:T AObj)(n:Int)(O1:T AObj)(O2:T AObj)(G:T (T AV))(K:AM→Prop):Obl P f0 (fun v h=>R v h) keep K [.run 16,.know 5 false,.run 6,.know 7 false,.run 6,.know 11 false,.run 6,.know 15 true,.run 3,.hopn (.slc N 0 0 1 1) O1 (N+1),.run 1,.hop (.nilp) O2,.run 3,.keep [2]] ((AM.mk (enF 74 [.int .i64 n]) rest ⟨O,N,G⟩))=(((n.tmod (6:Int)==(0:Int))=false)∧((n.tmod (6:Int)==(1:Int))=false)∧((n.tmod (6:Int)==(2:Int))=false)∧((n.tmod (6:Int)==(3:Int))=true)∧(zd P (⟨O,N,G⟩) 32 1 ([(0,.str [UInt8.ofNat 97])])=(some (.slc N 0 0 1 1,⟨O1,N+1,G⟩)))∧(T.set ((some (.cells (tW (tW (tY (.nils 0 0)) (.str []) tZ) (.int .i64 7) (tW (tY .nilp) (.slc N 0 0 1 1) tZ)) 5 44 0 0 1 0 false .leaf))) (O1) (N+1)=O2)∧K (AM.mk (RF 74 31 (tX tZ (tY (.ptr (N+1) 0 0))) [.code (cd P 74 [1,0,1,0,1,0,1]),.inBlock 0,.code (cd P 74 [1,1])]) rest ⟨O2,N+2,G⟩)):=by kernel_rfl
theorem zkb (R:AV→AHeap→Prop)(keep:Nat)(f0:FuncId)(rest:List AFrame)(N:Nat)(O:T AObj)(n:Int)(O1:T AObj)(G:T (T AV))(K:AM→Prop):Obl P f0 (fun v h=>R v h) keep K [.run 16,.know 5 false,.run 6,.know 7 false,.run 6,.know 11 false,.run 6,.know 15 false,.run 6,.know 20 true,.run 4,.hop (.nilp) O1,.run 3,.keep [2]] ((AM.mk (enF 74 [.int .i64 n]) rest ⟨O,N,G⟩))=(((n.tmod (6:Int)==(0:Int))=false)∧((n.tmod (6:Int)==(1:Int))=false)∧((n.tmod (6:Int)==(2:Int))=false)∧((n.tmod (6:Int)==(3:Int))=false)∧((n.tmod (6:Int)==(4:Int))=true)∧(T.set ((some (.cells (tW (tW (tY (.nils 0 0)) (.str []) tZ) (.int .i64 8) (tW (tY .nilp) (.nils 0 0) tZ)) 5 44 0 0 1 0 false .leaf))) (O) (N)=O1)∧K (AM.mk (RF 74 31 (tX tZ (tY (.ptr N 0 0))) [.code (cd P 74 [1,0,1,0,1,0,1]),.inBlock 0,.code (cd P 74 [1,1])]) rest ⟨O1,N+1,G⟩)):=by kernel_rfl
theorem zlk (R:AV→AHeap→Prop)(keep:Nat)(f0:FuncId)(rest:List AFrame)(N:Nat)(O:T AObj)(n:Int)(O1:T AObj)(O2:T AObj)(O3:T AObj)(O4:T AObj)(G:T (T AV))(K:AM→Prop):Obl P f0 (fun v h=>R v h) keep K [.run 16,.know 5 false,.run 6,.know 7 false,.run 6,.know 11 false,.run 6,.know 15 false,.run 6,.know 20 false,.run 6,.hop (.nilp) O1,.run 1,.hop (.nilp) O2,.hopn (.slc (N+2) 0 0 2 2) O3 (N+3),.run 1,.hop (.nilp) O4,.run 3,.keep [2]] ((AM.mk (enF 74 [.int .i64 n]) rest ⟨O,N,G⟩))=(((n.tmod (6:Int)==(0:Int))=false)∧((n.tmod (6:Int)==(1:Int))=false)∧((n.tmod (6:Int)==(2:Int))=false)∧((n.tmod (6:Int)==(3:Int))=false)∧((n.tmod (6:Int)==(4:Int))=false)∧(T.set ((some (.cells (tW (tW (tY (.nils 0 0)) (.str []) tZ) (.int .i64 4) (tW (tY .nilp) (.nils 0 0) tZ)) 5 44 0 0 1 0 false .leaf))) (O) (N)=O1)∧(T.set ((some (.cells (tW (tW (tY (.nils 0 0)) (.str []) tZ) (.int .i64 2) (tW (tY .nilp) (.nils 0 0) tZ)) 5 44 0 0 1 0 false .leaf))) (O1) (N+1)=O2)∧(zd P (⟨O2,N+2,G⟩) 33 2 ([(0,.ptr N 0 0),(1,.ptr (N+1) 0 0)])=(some (.slc (N+2) 0 0 2 2,⟨O3,N+3,G⟩)))∧(T.set ((some (.cells (tW (tW (tY (.slc (N+2) 0 0 2 2)) (.str []) tZ) (.int .i64 9) (tW (tY .nilp) (.nils 0 0) tZ)) 5 44 0 0 1 0 false .leaf))) (O3) (N+3)=O4)∧K (AM.mk (RF 74 31 (tX tZ (tY (.ptr (N+3) 0 0))) [.code (cd P 74 [1,0,1,0,1,0,1])]) rest ⟨O4,N+4,G⟩)):=by kernel_rfl
variable {O O':T AObj} {N:Nat} {G:T (T AV)}
theorem zlz {α:Type}{sz:Nat}{enc:α→List AV}(E:Enc sz enc){el:TypeId}(a b:α)(O:T AObj)(N:Nat)(G:T (T AV)){st:TypeId}{v w:AV}(hb:∀ h:AHeap,zd P h st 2 [(0,v),(1,w)]=some (.slc h.next 0 0 2 2,xo h el (enc a++enc b) false)) :
 ∃ O',zd P ⟨O,N,G⟩ st 2 [(0,v),(1,w)]=some (.slc N 0 0 2 2,⟨O',N+1,G⟩)∧SV O' sz enc N (N+1) [a,b] (.slc N 0 0 2 2)∧Frm O O' N:=by
 have hf:[a,b].flatMap enc=enc a++enc b:=by simp
 have rd:Rd (O.set (some (.cells (ze .leaf 0 (enc a++enc b)) (enc a++enc b).length el 0 0 1 0 false .leaf)) N) N 0 0 ([a,b].flatMap enc):=by
  rw [hf]
  exact .inl ⟨_,_,_,_,_,_,_,_,_,(enc a++enc b).length,by rw [T.get_set,if_pos rfl],by unfold zF; rw [if_pos rfl],Nat.le_refl _,Nat.le_refl _,by omega,At.stored _ _ _⟩
 refine ⟨_,?_,.inr (.inl ⟨N,0,0,2,rfl,Nat.le_refl _,Nat.le_refl _,Nat.lt_succ_self _,rd⟩),fun j hj=>by rw [T.get_set,if_neg hj]⟩
 rw [hb]
 rfl
theorem zqL {n:Int}{keep:Nat}{f0:FuncId}{Q:AV→AHeap→Prop}{rest:List AFrame}
 (hK:∀ O' N' td t p,Ext O N O' N'→Tr O' N' t p→Goal P keep f0 Q (AM.mk (RF 74 31 (tX tZ (tY (pv p))) td) rest ⟨O',N',G⟩)):Goal P keep f0 Q (AM.mk (enF 74 [.int .i64 n]) rest ⟨O,N,G⟩):=by
 rcases Bool.eq_false_or_eq_true (n.tmod (6:Int)==(0:Int)) with h0 | h0
 · exact (Obl.goal mix (K:=Goal P keep f0 Q) (fun _ h=>h) (cast (q_ody Q keep f0 rest N O n G (Goal P keep f0 Q)).symm ⟨h0,hK O N _ .no none Ext.refl .no⟩))
 rcases Bool.eq_false_or_eq_true (n.tmod (6:Int)==(1:Int)) with h1 | h1
 · skip
   obtain ⟨O9,e9,b9,f9⟩:=Obj.mk (c:=(tW (tW (tY (.nils 0 0)) (.str []) tZ) (.int .i64 (0)) (tW (tY .nilp) (.nils 0 0) tZ))) (el:=44) [.int .i64 (0),.str [],.nils 0 0,.nils 0 0,.nilp] O (N) 5 rfl (fun u hu=>by rcases u with _ | _ | _ | _ | _ | u <;> first | rfl | omega)
   exact (Obl.goal mix (K:=Goal P keep f0 Q) (fun _ h=>h) (cast (zq1 Q keep f0 rest N O n O9 G (Goal P keep f0 Q)).symm ⟨h0,h1,e9,hK O9 (N+1) _ (.mk 0 [] [] [] .no) (some N) ⟨by omega,fun j hj=>f9 j (by omega)⟩ (.mk (ps:=[]) (q:=none) (by omega) b9 SV.nil SV.nil rfl (by decide) (by decide) (fun j x p h=>by simp at h) .no)⟩))
 rcases Bool.eq_false_or_eq_true (n.tmod (6:Int)==(2:Int)) with h2 | h2
 · skip
   obtain ⟨O9,e9,b9,f9⟩:=Obj.mk (c:=(tW (tW (tY (.nils 0 0)) (.str []) tZ) (.int .i64 (9)) (tW (tY .nilp) (.nils 0 0) tZ))) (el:=44) [.int .i64 (9),.str [],.nils 0 0,.nils 0 0,.nilp] O (N) 5 rfl (fun u hu=>by rcases u with _ | _ | _ | _ | _ | u <;> first | rfl | omega)
   exact (Obl.goal mix (K:=Goal P keep f0 Q) (fun _ h=>h) (cast (zoR Q keep f0 rest N O n O9 G (Goal P keep f0 Q)).symm ⟨h0,h1,h2,e9,hK O9 (N+1) _ (.mk 9 [] [] [] .no) (some N) ⟨by omega,fun j hj=>f9 j (by omega)⟩ (.mk (ps:=[]) (q:=none) (by omega) b9 SV.nil SV.nil rfl (by decide) (by decide) (fun j x p h=>by simp at h) .no)⟩))
 rcases Bool.eq_false_or_eq_true (n.tmod (6:Int)==(3:Int)) with h3 | h3
 · obtain ⟨O1,e1,sv1,_,f1⟩:=qi sEn ([97]:zi) O N G (st:=32) (el:=9) (v:=.str [97]) (fun h=>by kernel_rfl)
   obtain ⟨O9,e9,b9,f9⟩:=Obj.mk (c:=(tW (tW (tY (.nils 0 0)) (.str []) tZ) (.int .i64 (7)) (tW (tY .nilp) (.slc N 0 0 1 1) tZ))) (el:=44) [.int .i64 7,.str [],.slc N 0 0 1 1,.nils 0 0,.nilp] O1 (N+1) 5 rfl (fun u hu=>by rcases u with _ | _ | _ | _ | _ | u <;> first | rfl | omega)
   exact (Obl.goal mix (K:=Goal P keep f0 Q) (fun _ h=>h) (cast (zmK Q keep f0 rest N O n O1 O9 G (Goal P keep f0 Q)).symm ⟨h0,h1,h2,h3,e1,e9,hK O9 (N+2) _ (.mk 7 [] [[97]] [] .no) (some (N+1)) ⟨by omega,fun j hj=>(f9 j (by omega)).trans (f1 j (by omega))⟩ (.mk (ps:=[]) (q:=none) (by omega) b9 (sv1.keep (O':=O9) (fun j h1 h2=>f9 j (by omega)) (Nat.zero_le _) (by omega)) SV.nil rfl (by decide) (by decide) (fun j x p h=>by simp at h) .no)⟩))
 rcases Bool.eq_false_or_eq_true (n.tmod (6:Int)==(4:Int)) with h4 | h4
 · skip
   obtain ⟨O9,e9,b9,f9⟩:=Obj.mk (c:=(tW (tW (tY (.nils 0 0)) (.str []) tZ) (.int .i64 (8)) (tW (tY .nilp) (.nils 0 0) tZ))) (el:=44) [.int .i64 (8),.str [],.nils 0 0,.nils 0 0,.nilp] O (N) 5 rfl (fun u hu=>by rcases u with _ | _ | _ | _ | _ | u <;> first | rfl | omega)
   exact (Obl.goal mix (K:=Goal P keep f0 Q) (fun _ h=>h) (cast (zkb Q keep f0 rest N O n O9 G (Goal P keep f0 Q)).symm ⟨h0,h1,h2,h3,h4,e9,hK O9 (N+1) _ (.mk 8 [] [] [] .no) (some N) ⟨by omega,fun j hj=>f9 j (by omega)⟩ (.mk (ps:=[]) (q:=none) (by omega) b9 SV.nil SV.nil rfl (by decide) (by decide) (fun j x p h=>by simp at h) .no)⟩))
 obtain ⟨O1,e1,b1,f1⟩:=Obj.mk (c:=(tW (tW (tY (.nils 0 0)) (.str []) tZ) (.int .i64 (4)) (tW (tY .nilp) (.nils 0 0) tZ))) (el:=44) [.int .i64 (4),.str [],.nils 0 0,.nils 0 0,.nilp] O N 5 rfl (fun u hu=>by rcases u with _ | _ | _ | _ | _ | u <;> first | rfl | omega)
 obtain ⟨O2,e2,b2,f2⟩:=Obj.mk (c:=(tW (tW (tY (.nils 0 0)) (.str []) tZ) (.int .i64 (2)) (tW (tY .nilp) (.nils 0 0) tZ))) (el:=44) [.int .i64 (2),.str [],.nils 0 0,.nils 0 0,.nilp] O1 (N+1) 5 rfl (fun u hu=>by rcases u with _ | _ | _ | _ | _ | u <;> first | rfl | omega)
 obtain ⟨O3,e3,sv3,f3⟩:=zlz pEn (some N) (some (N+1)) O2 (N+2) G (st:=33) (el:=23) (v:=.ptr N 0 0) (w:=.ptr (N+1) 0 0) (fun h=>by kernel_rfl)
 obtain ⟨O9,e9,b9,f9⟩:=Obj.mk (c:=(tW (tW (tY (.slc (N+2) 0 0 2 2)) (.str []) tZ) (.int .i64 (9)) (tW (tY .nilp) (.nils 0 0) tZ))) (el:=44) [.int .i64 9,.str [],.nils 0 0,.slc (N+2) 0 0 2 2,.nilp] O3 (N+3) 5 rfl (fun u hu=>by rcases u with _ | _ | _ | _ | _ | u <;> first | rfl | omega)
 have lo:∀ j,j<N→O9.get j=O.get j:=fun j hj=>(f9 j (by omega)).trans ((f3 j (by omega)).trans ((f2 j (by omega)).trans (f1 j (by omega))))
 have c1:=((b1.same (f2 N (by omega))).same (f3 N (by omega))).same (f9 N (by omega))
 have c2:=(b2.same (f3 (N+1) (by omega))).same (f9 (N+1) (by omega))
 have t1:Tr O9 (N+4) (.mk 4 [] [] [] .no) (some N):=(.mk (ps:=[]) (q:=none) (by omega) c1 SV.nil SV.nil rfl (by decide) (by decide) (fun j x p h=>by simp at h) .no)
 have t2:Tr O9 (N+4) (.mk 2 [] [] [] .no) (some (N+1)):=(.mk (ps:=[]) (q:=none) (by omega) c2 SV.nil SV.nil rfl (by decide) (by decide) (fun j x p h=>by simp at h) .no)
 have sv:=sv3.keep (O':=O9) (fun j h1 h2=>f9 j (by omega)) (Nat.zero_le _) (show N+2+1≤N+4 by omega)
 exact (Obl.goal mix (K:=Goal P keep f0 Q) (fun _ h=>h) (cast (zlk Q keep f0 rest N O n O1 O2 O3 O9 G (Goal P keep f0 Q)).symm ⟨h0,h1,h2,h3,h4,e1,e2,e3,e9,hK O9 (N+4) _ (.mk 9 [] [] [.mk 4 [] [] [] .no,.mk 2 [] [] [] .no] .no) (some (N+3)) ⟨by omega,lo⟩ (.mk (ps:=[some N,some (N+1)]) (q:=none) (by omega) b9 SV.nil sv rfl (by decide) (by decide) (fun j x p a b=>by rcases j with _ | _ | j <;> simp at a b <;> subst a <;> subst b <;> assumption) .no)⟩))
end Go.Proofs.Ytcdigdplhlgcaaa.gx
end
