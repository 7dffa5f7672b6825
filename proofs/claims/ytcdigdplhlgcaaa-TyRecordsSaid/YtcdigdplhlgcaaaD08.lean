import Derived.Test.YtcdigdplhlgcaaaD00
import Derived.Test.YtcdigdplhlgcaaaD01
import Derived.Test.YtcdigdplhlgcaaaD02
import Derived.Test.YtcdigdplhlgcaaaD03
import Derived.Test.YtcdigdplhlgcaaaD04
import Derived.Test.YtcdigdplhlgcaaaD05
import Derived.Test.YtcdigdplhlgcaaaD06
import Derived.Test.YtcdigdplhlgcaaaD07
section
set_option maxRecDepth 100000
set_option linter.unusedVariables false
set_option linter.unusedSectionVars false
set_option linter.unusedSimpArgs false
namespace Go.Proofs.Ytcdigdplhlgcaaa.gx
open Go Ev tp
section
variable (sa:AV) (n j:Int) (rest:List AFrame) (O:T AObj) (N:Nat) (G:T (T AV)) (s1 v:AV)
noncomputable def Wsm:AM:=⟨⟨55,17,(tX (tW (tX (tY sa) tZ) (.fn (Fn.func (56:FuncId)) [] []) (tX (tY (.int .i64 j)) tZ)) (tX (tX (tY (.int .i64 n)) tZ) tZ)),   [.code (cd P 55 [1,0,1,0,0]),.inLoop (cd P 55 [1,0,1,0,0]),.inBlock 0,.code (cd P 55 [1,1])],[],.run,CallKind.normal,none⟩,rest,⟨O,N,G⟩⟩
noncomputable def zmw:AFrame:=⟨55,17,(tX (tW (tX (tY sa) tZ) (.fn (Fn.func (56:FuncId)) [] []) (tX (tY (.int .i64 j)) (tY (.fn (Fn.func (56:FuncId)) [] [])))) (tX (tX (tY (.int .i64 n)) tZ) (tX tZ (tY s1)))),   [.ops (rg P 55 [1,0,1,0,0,1,1,0,0,1,0]).toList ((rg P 55 [1,0,1,0,0,1,1,0,0,1,0]).toList.drop 2),.code (cd P 55 [1,0,1,0,0,1,1,0,0,1,1]),.inBlock 1,.code (cd P 55 [1,0,1,0,0,1,1,1]),.inLoop (cd P (55:FuncId) [1,0,1,0,0]),.inBlock 0,.code (cd P (55:FuncId) [1,1])],[],.run,CallKind.normal,none⟩
noncomputable def Fmnt:AFrame:=⟨56,6,(tX (tX (tY v) tZ) tZ),   [.ops (rg P 56 [1,0]).toList ((rg P 56 [1,0]).toList.drop 1),.code (cd P 56 [1,1])],[],.run,CallKind.normal,none⟩
noncomputable def Fw61:AFrame:=⟨61,8,(tW tZ v (tX (tY v) tZ)),   [.ops (rg P 61 [1,0,0]).toList ((rg P 61 [1,0,0]).toList.drop 1),.code (cd P 61 [1,0,1]),.code (cd P 61 [1,1])],[],.run,CallKind.normal,none⟩
end
section
variable {R:AV→AHeap→Prop} {keep N Nc:Nat} {f0:FuncId} {rest:List AFrame} {O:T AObj} {v sa s1c prq2 prq3:AV} {G:T (T AV)} {K:AM→Prop} {td:List AItem} {blq0 blq1:Bool} {n j crq0 crq3:Int}
theorem t_mnt:(K (AM.mk (enF 46 [v]) ((Fmnt v)::rest) ⟨O,N,G⟩))=OT f0 R keep K (.seq [.run 7,.keep [3],.run 1] .fin) ((AM.mk (enF 56 [v]) rest ⟨O,N,G⟩)):=by kernel_rfl
theorem zlW:(K (AM.mk (RF 56 6 (tX tZ (tY (.bool !blq0))) [.code (cd P (56:FuncId) [1,1])]) rest ⟨O,N,G⟩))=OT f0 R keep K (.seq [.run 5,.keep [2]] .fin) ((AM.mk (RF 46 6 (tX tZ (tY (.bool blq0))) td) ((Fmnt v)::rest) ⟨O,N,G⟩)):=by kernel_rfl
theorem znZ:(∃ (z1:Int),(lN O N G 33 sa z1)∧K (Wsm sa z1 0 rest O N G))=OT f0 R keep K (.ex fun z1:Int=>(.seq [.run 8,.hopn (.int .i64 z1) O (N),.run 4,.keep [1,7,8,9]] .fin)) ((AM.mk (enF 55 [sa,.fn (Fn.func 56) [] []]) rest ⟨O,N,G⟩)):=by kernel_rfl
theorem zmX:(((decide (j<n))=true→(∃ (i1:Nat) (i2:Nat) (i3:Nat) (s1:AV),(iX 33 sa j i1 i2 i3)∧(lR O N G i1 i2 i3 s1)∧K (AM.mk (enF 56 [s1]) ((zmw sa n j s1)::rest) ⟨O,N,G⟩)))∧((decide (j<n))=false→(K (AM.mk (RF 55 17 (tX tZ (tX (tY (.bool false)) tZ)) [.code (cd P 55 [1,0,1,0,0,1,1,0,0,1,1,0,1])]) rest ⟨O,N,G⟩))))=OT f0 R keep K (.seq [.run 5] (.fork 10 (.ex fun i1:Nat=>(.ex fun i2:Nat=>(.ex fun i3:Nat=>(.ex fun s1:AV=>(.seq [.run 6,.hopn (.ptr i1 i2 i3) O (N),.hop (s1) O,.run 6,.keep [1,7,8,9,13,14],.run 1] .fin))))) (.seq [.run 7,.keep [4]] .fin))) ((Wsm sa n j rest O N G)):=by kernel_rfl
theorem zhB:(((blq0)=true→(K (AM.mk (RF 55 17 (tX tZ (tX (tY (.bool true)) tZ)) [.code (cd P 56 [1,1]),.inBlock 1,.code (cd P (55:FuncId) [1,0,1,0,0,1,1,1]),.inLoop (cd P (55:FuncId) [1,0,1,0,0]),.inBlock 0,.code (cd P (55:FuncId) [1,1])]) rest ⟨O,N,G⟩)))∧((blq0)=false→(K (Wsm sa n (IntKind.i64.wrap (j+(1:Int))) rest O N G))))=OT f0 R keep K (.seq [.run 2] (.fork 15 (.seq [.run 6,.keep [4]] .fin) (.seq [.run 8,.keep [1,7,8,9]] .fin))) ((AM.mk (RF 56 6 (tX tZ (tY (.bool blq0))) td) ((zmw sa n j s1c)::rest) ⟨O,N,G⟩)):=by kernel_rfl
theorem t_w61:(K (AM.mk (enF 14 [v]) ((Fw61 v)::rest) ⟨O,N,G⟩))=OT f0 R keep K (.seq [.run 9,.keep [0,4],.run 1] .fin) ((AM.mk (enF 61 [v]) rest ⟨O,N,G⟩)):=by kernel_rfl
theorem zgS:(((decide (crq0 > (60:Int)))=true→(K (AM.mk (RF 61 8 (tX (tX (tY (.int .i64 3)) tZ) (tY .nilp)) [.code (cd P 14 [1,1,1,1]),.code (cd P (61:FuncId) [1,1])]) rest ⟨O,N,G⟩)))∧((decide (crq0 > (60:Int)))=false→(K (AM.mk (RF 61 8 (tX (tX (tY (.int .i64 0)) tZ) (tY v)) [.code (cd P 14 [1,1,1,1])]) rest ⟨O,N,G⟩))))=OT f0 R keep K (.seq [.run 3] (.fork 6 (.seq [.run 7,.keep [2,3]] .fin) (.seq [.run 9,.keep [2,3]] .fin))) ((AM.mk (RF 14 12 (tX tZ (tY (.int .i64 crq0))) td) ((Fw61 v)::rest) ⟨O,N,G⟩)):=by kernel_rfl
end
variable {O O':T AObj} {N:Nat} {G:T (T AV)}
theorem zqi {t:Ty}{p:Option Nat}{hi:Nat}(ht:Tr O hi t p)(hN:hi≤N){keep:Nat}{f0:FuncId}{Q:AV→AHeap→Prop}{rest:List AFrame}
 (hK:∀ O' N' td,Ext O N O' N'→Goal P keep f0 Q (AM.mk (RF 56 6 (tX tZ (tY (.bool (!(chk t==0))))) td) rest ⟨O',N',G⟩)):Goal P keep f0 Q (AM.mk (enF 56 [pv p]) rest ⟨O,N,G⟩):=by
 refine ot t_mnt ?_
 refine ot zmv ?_
 refine gx.chk_ok ht hN fun O1 N1 td1 ex1=>?_
 refine ot zfc ?_
 exact ot zlW (hK O1 N1 _ ex1)
theorem zqy {ts:List Ty}{ps:List (Option Nat)}{sa:AV}{hi:Nat}(hs:SV O 1 pE 0 hi ps sa)(hl:ps.length=ts.length)(hm:ts.length<1000000)(ht:∀ (j:Nat) (x:Ty) (p:Option Nat),ts[j]?=some x→ps[j]?=some p→Tr O hi x p)(hN:hi≤N){keep:Nat}{f0:FuncId}{Q:AV→AHeap→Prop}{rest:List AFrame}
 (hK:∀ O' N' td,Ext O N O' N'→Goal P keep f0 Q (AM.mk (RF 55 17 (tX tZ (tX (tY (.bool (ts.any (fun x=>!(chk x==0))))) tZ)) td) rest ⟨O',N',G⟩)):Goal P keep f0 Q (AM.mk (enF 55 [sa,.fn (Fn.func 56) [] []]) rest ⟨O,N,G⟩):=by
 have loop:∀ (c i:Nat) (O2:T AObj) (N2:Nat),i+c=ts.length→Ext O N O2 N2→ts.any (fun x=>!(chk x==0))=(ts.drop i).any (fun x=>!(chk x==0))→Goal P keep f0 Q (Wsm sa ((ps.length:Nat):Int) ((i:Nat):Int) rest O2 N2 G):=by
  intro c
  induction c with
  | zero =>
   intro i O2 N2 hi' ex hd
   refine ot zmX (fkf (decide_eq_false (by omega)) ?_)
   have hf:ts.any (fun x=>!(chk x==0))=false:=by rw [hd,List.drop_of_length_le (by omega)]; rfl
   rw [hf] at hK
   exact hK O2 N2 _ ex
  | succ c ih =>
   intro i O2 N2 hi' ex hd
   obtain ⟨x,hx,_⟩:=nth (l:=ts) (j:=i) (by omega)
   obtain ⟨p,hp,_⟩:=nth (l:=ps) (j:=i) (by omega)
   refine ot zmX (fkt (decide_eq_true (by omega)) ?_)
   obtain ⟨i1,i2,i3,lo59,hi59,eA59,rd59,_⟩:=(hs.keep (O':=O2) (fun j _ hj=>ex.2 j (by omega)) (Nat.le_refl 0) (Nat.le_refl hi)).at pSl pEn hp
   refine ⟨i1,i2,i3,_,eA59,rd59.load rfl _ _,?_⟩
   refine zqi ((ht i x p hx hp).ext ex hN) (Nat.le_trans hN ex.1) fun O3 N3 td3 ex3=>?_
   refine ot zhB ⟨fun hc58=>?_,fun hc58=>?_⟩
   ·
    have hf:ts.any (fun x=>!(chk x==0))=true:=by rw [hd,zx hx,List.any_cons,hc58]; rfl
    rw [hf] at hK
    exact hK O3 N3 _ (ex.trans ex3)
   ·
    have nx:=ih (i+1) O3 N3 (by omega) (ex.trans ex3) (by rw [hd,zx hx,List.any_cons,hc58,Bool.false_or])
    rw [← zG (i:=i) (by omega)] at nx
    exact nx
 exact ot znZ ⟨_,hs.len pSl _ _,loop ts.length 0 O N (Nat.zero_add _) Ext.refl rfl⟩
theorem zmf {t:Ty}{p:Option Nat}{hi:Nat}(ht:Tr O hi t p)(hN:hi≤N){keep:Nat}{f0:FuncId}{Q:AV→AHeap→Prop}{rest:List AFrame}
 (hK:∀ O' N' td p',Ext O N O' N'→Tr O' N' (zbT t).2 p'→Goal P keep f0 Q (AM.mk (RF 61 8 (tX (tX (tY (.int .i64 (zbT t).1)) tZ) (tY (pv p'))) td) rest ⟨O',N',G⟩)):Goal P keep f0 Q (AM.mk (enF 61 [pv p]) rest ⟨O,N,G⟩):=by
 refine ot t_w61 ?_
 refine zc2 ht hN fun O1 N1 td1 ex1=>?_
 by_cases h:60<cnt t
 · have e:zbT t=(3,.no):=if_pos h
   rw [e] at hK
   exact ot zgS (fkt (decide_eq_true (by omega)) (hK O1 N1 _ none ex1 Tr.no))
 · have e:zbT t=(0,t):=if_neg h
   rw [e] at hK
   exact ot zgS (fkf (decide_eq_false (by omega)) (hK O1 N1 _ p ex1 ((ht.ext ex1 hN).same (fun _ _=>rfl) (Nat.le_trans hN ex1.1))))
end Go.Proofs.Ytcdigdplhlgcaaa.gx
end
section
set_option maxRecDepth 100000
set_option linter.unusedVariables false
set_option linter.unusedSimpArgs false
namespace Go.Proofs.Ytcdigdplhlgcaaa.tp
open Go
theorem zjE:∀ (x:zi),Op.bytesLess x x=false
 | []=>rfl
 | a::x=>by
  show (decide (a<a) || (a==a&&Op.bytesLess x x))=false
  rw [zjE x,Bool.and_false,Bool.or_false]
  exact decide_eq_false (by simp)
theorem vX:∀ {x y z:zi},Op.bytesLess x y=true→Op.bytesLess y z=true→Op.bytesLess x z=true
 | x,[],_,h,_=>by
  rw [show Op.bytesLess x []=false from by cases x <;> rfl] at h
  cases h
 | _,_::_,[],_,h=>by cases h
 | [],_::_,_::_,_,_=>rfl
 | a::x,b::y,c::z,h,g=>by
  have h1:(decide (a<b) || (a==b&&Op.bytesLess x y))=true:=h
  have g1:(decide (b<c) || (b==c&&Op.bytesLess y z))=true:=g
  show (decide (a<c) || (a==c&&Op.bytesLess x z))=true
  simp only [Bool.or_eq_true,Bool.and_eq_true,decide_eq_true_eq,beq_iff_eq] at h1 g1 ⊢
  rcases h1 with h2 | ⟨e1,h2⟩
  · rcases g1 with g2 | ⟨e2,g2⟩
    · exact .inl (UInt8.lt_trans h2 g2)
    · exact .inl (e2▸h2)
  · rcases g1 with g2 | ⟨e2,g2⟩
    · exact .inl (e1▸g2)
    · exact .inr ⟨e1.trans e2,vX h2 g2⟩
theorem ziY {x y:zi}(h:Op.bytesLess x y=true):Op.bytesLess y x=false:=by
 cases e:Op.bytesLess y x with
 | false=>rfl
 | true =>
  have:=vX h e
  rw [zjE] at this
  cases this
theorem zjm:∀ {x y:zi},Op.bytesLess x y=false→Op.bytesLess y x=false→x=y
 | [],[],_,_=>rfl
 | [],_::_,h,_=>by cases h
 | _::_,[],_,h=>by cases h
 | a::x,b::y,h,g=>by
  have h1:(decide (a<b) || (a==b&&Op.bytesLess x y))=false:=h
  have g1:(decide (b<a) || (b==a&&Op.bytesLess y x))=false:=g
  simp only [Bool.or_eq_false_iff,decide_eq_false_iff_not,Bool.and_eq_false_iff,beq_eq_false_iff_ne] at h1 g1
  have hab:a=b:=UInt8.le_antisymm (UInt8.not_lt.1 g1.1) (UInt8.not_lt.1 h1.1)
  rw [hab,zjm (h1.2.resolve_left (fun e=>e hab)) (g1.2.resolve_left (fun e=>e hab.symm))]
theorem zqH {x a y:zi}(h:Op.bytesLess x a=true)(g:Op.bytesLess y a=false):Op.bytesLess x y=true:=by
 cases e:Op.bytesLess a y with
 | true=>exact vX h e
 | false=>rw [zjm g e]; exact h
def Srt {α:Type} (f:α→zi) (l:List α):Prop:=l.Pairwise fun x y=>Op.bytesLess (f y) (f x)=false
section
variable {α:Type} {f:α→zi}
theorem Srt.nil:Srt f ([]:List α):=List.Pairwise.nil
theorem Srt.left {l m:List α}(h:Srt f (l++m)):Srt f l:=(List.pairwise_append.1 h).1
theorem zjo {p q:List α}{x:α}(h:Srt f (p++q))(hq:∀ z∈q,Op.bytesLess (f x) (f z)=true)(hp:∀ z∈p,Op.bytesLess (f x) (f z)=false):Srt f (p++x::q):=by
 obtain ⟨h1,h2,h3⟩:=List.pairwise_append.1 h
 refine List.pairwise_append.2 ⟨h1,List.pairwise_cons.2 ⟨fun z hz=>ziY (hq z hz),h2⟩,fun a ha b hb=>?_⟩
 rcases List.mem_cons.1 hb with rfl | hb
 · exact hp a ha
 · exact h3 a ha b hb
theorem znK {p:List α}{y x:α}(h:Srt f (p++[y]))(hx:Op.bytesLess (f x) (f y)=false):∀ z∈p++[y],Op.bytesLess (f x) (f z)=false:=by
 intro z hz
 rcases List.mem_append.1 hz with hz | hz
 · have h3:=(List.pairwise_append.1 h).2.2 z hz y (List.mem_singleton.2 rfl)
   cases e:Op.bytesLess (f x) (f z) with
   | false=>rfl
   | true=>rw [zqH e h3] at hx; cases hx
 · rw [List.mem_singleton.1 hz]; exact hx
theorem zfZ:∀ {l m:List α},l.Perm m→Srt f l→Srt f m→(∀ x∈l,∀ y∈l,f x=f y→x=y)→l=m
 | [],m,h,_,_,_=>(List.nil_perm.1 h).symm
 | x::l,[],h,_,_,_=>by cases (List.perm_nil.1 h)
 | x::l,y::m,h,hl,hm,hi=>by
  obtain ⟨h1,h2⟩:=List.pairwise_cons.1 hl
  obtain ⟨g1,g2⟩:=List.pairwise_cons.1 hm
  have hxy:x=y:=by
   have hy:y∈x::l:=h.mem_iff.2 (List.mem_cons_self ..)
   have hx:x∈y::m:=h.mem_iff.1 (List.mem_cons_self ..)
   rcases List.mem_cons.1 hy with rfl | hy
   · rfl
   rcases List.mem_cons.1 hx with rfl | hx
   · rfl
   exact hi x (List.mem_cons_self ..) y (List.mem_cons_of_mem _ hy) (zjm (g1 x hx) (h1 y hy))
  subst hxy
  rw [zfZ (List.Perm.cons_inv h) h2 g2 (fun a ha b hb=>hi a (List.mem_cons_of_mem _ ha) b (List.mem_cons_of_mem _ hb))]
end
end Go.Proofs.Ytcdigdplhlgcaaa.tp
end
section
set_option maxRecDepth 100000
set_option linter.unusedVariables false
set_option linter.unusedSectionVars false
set_option linter.unusedSimpArgs false
namespace Go.Proofs.Ytcdigdplhlgcaaa.gx
open Go Ev tp
section
variable (n:Int) (sn:AV) (j j2:Int) (v:AV) (mk:Nat) (sl:AV) (rest:List AFrame) (O:T AObj) (N:Nat) (G:T (T AV)) (i1 i2 i3 i4 i5 i6:Nat) (l1 l2 w w2:List UInt8) (blq0:Bool) (z1 z2 crq0 z1c:Int)
noncomputable def Fbln:AFrame:=⟨104,8,(tX tZ (tX tZ (tY (.int .u64 n)))),   [.ops (rg P 104 [1,1,0]).toList ((rg P 104 [1,1,0]).toList.drop 1),.code (cd P 104 [1,0,0,1])],[],.run,CallKind.normal,none⟩
noncomputable def Wpdq:AM:=⟨⟨103,148,(tW (tW (tW tZ (.int .i64 j2) (tY (.bool true))) (.int .i64 j) tZ) sl (tW (tY v) (.int .i64 n) (tX (tY (.bool true)) tZ))),   [.code (cd P 103 [1,1,0,0]),.inLoop (cd P 103 [1,1,0,0]),.inBlock 0],[],.run,CallKind.normal,none⟩,rest,⟨O,N,G⟩⟩
noncomputable def Fcmq:AFrame:=⟨58,15,(tW (tW (tX (tY (.int .i64 j)) (tY (.int .i64 j2))) (.int .i64 j2) (tW (tY (.str l1)) (.int .i64 0) (tY (.str l2)))) (.int .i64 j) (tW (tX (tY (.ptr i1 i2 i3)) (tY (.ptr i4 i5 i6))) (.ptr mk 0 0) (tW (tY sn) sn tZ))),   [.drw (rg P 58 [1,0]) [8,9] [7,6,5,4,3,2,1,0],.code (cd P 58 [1,1])],[],.run,CallKind.normal,none⟩
noncomputable def Fcmp:AFrame:=⟨59,20,(tW (tW (tX (tY (.str w)) tZ) (.str w2) tZ) (.str w) tZ),   [.ops (rg P 59 [1,0]).toList ((rg P 59 [1,0]).toList.drop 1),.code (cd P 59 [1,1])],[],.run,CallKind.normal,none⟩
noncomputable def zjs:AFrame:=⟨59,20,(tW (tW tZ (.str w2) (tW (tY (.str w2)) (.bool blq0) tZ)) (.str w) tZ),   [.ops (rg P 59 [1,1,0]).toList ((rg P 59 [1,1,0]).toList.drop 1),.code (cd P 59 [1,1,1])],[],.run,CallKind.normal,none⟩
noncomputable def zoZ:AM:=⟨⟨115,53,(tW (tW (tY (.fn (Fn.func (58:FuncId)) [] [.ptr mk 0 0])) (.int .i64 0) tZ) sl (tW (tX (tY (.int .i64 j)) tZ) (.int .i64 n) tZ)),   [.code (cd P 115 [1,0,0]),.inLoop (cd P 115 [1,0,0]),.inBlock 0],[],.run,CallKind.normal,none⟩,rest,⟨O,N,G⟩⟩
noncomputable def Winl:AM:=⟨⟨115,53,(tW (tW (tY (.fn (Fn.func (58:FuncId)) [] [.ptr mk 0 0])) (.int .i64 0) (tX (tY (.int .i64 j2)) tZ)) sl (tW (tX (tY (.int .i64 j)) tZ) (.int .i64 n) tZ)),   [.code (cd P 115 [1,0,0,1,0,0,1,0,0]),.inLoop (cd P 115 [1,0,0,1,0,0,1,0,0]),.inBlock 2,.inBlock 1,.code (cd P 115 [1,0,0,1,1]),.inLoop (cd P (115:FuncId) [1,0,0]),.inBlock 0],[],.run,CallKind.normal,none⟩,rest,⟨O,N,G⟩⟩
noncomputable def zqr:AFrame:=⟨115,53,(tW (tW (tW (tX (tX (tY (.int .i64 z2)) tZ) (tY sl)) (.fn (Fn.func (58:FuncId)) [] [.ptr mk 0 0]) (tX (tY (.int .i64 0)) (tY sl))) (.int .i64 0) (tX (tW tZ (.int .i64 j2) (tY (.ptr i1 i2 i3))) (tX (tY (.bool true)) (tY (.int .i64 (IntKind.i64.wrap (j2 - (1:Int)))))))) sl (tW (tX (tW tZ (.int .i64 j) (tY (.int .i64 j2))) (tX (tY (.bool (decide (j2 > Int.ofNat 0)))) (tY (.int .i64 j2)))) (.int .i64 n) (tX (tX (tY (.int .i64 j2)) (tY (.int .i64 z1))) (tX (tY (.fn (Fn.func (58:FuncId)) [] [.ptr mk 0 0])) (tY (.ptr i4 i5 i6)))))),   [.drw (rg P 115 [1,0,0,1,0,0,1,0,0,0,0]) [14,15,16] [13,12,11,10,9,8,7,6,5,4,3,2,1,0],.code (cd P 115 [1,0,0,1,0,0,1,0,0,0,1]),.code (cd P 115 [1,0,0,1,0,0,1,0,0,1]),.inLoop (cd P (115:FuncId) [1,0,0,1,0,0,1,0,0]),.inBlock 2,.inBlock 1,.code (cd P (115:FuncId) [1,0,0,1,1]),.inLoop (cd P (115:FuncId) [1,0,0]),.inBlock 0],[],.run,CallKind.normal,none⟩
noncomputable def zpE:AFrame:=⟨103,148,(tX (tX (tX tZ (tX tZ (tY (.int .i64 j)))) (tX tZ (tX tZ (tY v)))) (tX (tX tZ (tX tZ (tY (.int .i64 n)))) (tX (tX tZ (tY sl)) tZ))),   [.ops (rg P 103 [1,1,0,0,0,1,0,1,0,0]).toList ((rg P 103 [1,1,0,0,0,1,0,1,0,0]).toList.drop 4),.code (cd P 103 [1,1,0,0,0,1,0,1,0,1]),.code (cd P 103 [1,1,0,0,0,1,1]),.inBlock 1,.inLoop (cd P (103:FuncId) [1,1,0,0]),.inBlock 0],[],.run,CallKind.normal,none⟩
noncomputable def Fsrt:AFrame:=⟨57,14,(tX (tW (tX (tY sl) tZ) v tZ) (tX (tX (tY (.int .i64 z1)) tZ) (tX (tY (.int .u64 (IntKind.u64.wrap z1))) tZ))),   [.ops (rg P 57 [1]).toList ((rg P 57 [1]).toList.drop 4)],[],.run,CallKind.normal,none⟩
noncomputable def ziH:AFrame:=⟨57,14,(tX (tX (tX (tY sl) (tY (.int .i64 crq0))) tZ) (tX (tX (tY (.int .i64 z1c)) (tY v)) tZ)),   [.ops (rg P (57:FuncId) [1]).toList ((rg P (57:FuncId) [1]).toList.drop 6)],[],.run,CallKind.normal,none⟩
end
section
variable {R:AV→AHeap→Prop} {keep N mk i1c i2c i3c i4c i5c i6c:Nat} {f0:FuncId} {rest:List AFrame} {O:T AObj} {w w2 l1c l2c:List UInt8} {G:T (T AV)} {K:AM→Prop} {td:List AItem} {blq0 blq1:Bool} {j j2 crq0 n z1c z2c:Int} {sn sl v:AV}
theorem zqx:(K (AM.mk (RF 105 6 (tX tZ (tY (.bool (!w==w)))) [.code (cd P 105 [1,1])]) rest ⟨O,N,G⟩))=OT f0 R keep K (.seq [.run 12,.keep [2]] .fin) ((AM.mk (enF 105 [.str w]) rest ⟨O,N,G⟩)):=by kernel_rfl
theorem t_cmp:(K (AM.mk (enF 105 [.str w]) ((Fcmp w w2)::rest) ⟨O,N,G⟩))=OT f0 R keep K (.seq [.run 7,.keep [0,1,7],.run 1] .fin) ((AM.mk (enF 59 [.str w,.str w2]) rest ⟨O,N,G⟩)):=by kernel_rfl
theorem zmk:(K (AM.mk (enF 105 [.str w2]) ((zjs w w2 blq0)::rest) ⟨O,N,G⟩))=OT f0 R keep K (.seq [.run 6,.keep [0,1,5,9],.run 1] .fin) ((AM.mk (RF 105 6 (tX tZ (tY (.bool blq0))) td) ((Fcmp w w2)::rest) ⟨O,N,G⟩)):=by kernel_rfl
theorem zfx:(((blq0)=true→(((blq1)=true→(K (AM.mk (RF 59 20 (tX tZ (tX (tY (.int .i64 0)) tZ)) [.code (cd P 105 [1,1]),.code (cd P 59 [1,1,1,0,1,0,1]),.code (cd P 59 [1,1,1,1])]) rest ⟨O,N,G⟩)))∧((blq1)=false→(K (AM.mk (RF 59 20 (tX tZ (tX (tY (.int .i64 (-1))) tZ)) [.code (cd P 105 [1,1]),.code (cd P 59 [1,1,1,1])]) rest ⟨O,N,G⟩)))))∧((blq0)=false→(((blq1)=true→(K (AM.mk (RF 59 20 (tX tZ (tX (tY (.int .i64 1)) tZ)) [.code (cd P 105 [1,1]),.code (cd P 59 [1,1,1,1,1])]) rest ⟨O,N,G⟩)))∧((blq1)=false→(((Op.bytesLess w w2)=true→(K (AM.mk (RF 59 20 (tX tZ (tX (tY (.int .i64 (-1))) tZ)) [.code (cd P 105 [1,1]),.code (cd P 59 [1,1,1,1,1,1])]) rest ⟨O,N,G⟩)))∧((Op.bytesLess w w2)=false→((((!(Op.bytesLess w w2 || w==w2)))=true→(K (AM.mk (RF 59 20 (tX tZ (tX (tY (.int .i64 1)) tZ)) [.code (cd P 105 [1,1]),.code (cd P 59 [1,1,1,1,1,1,1])]) rest ⟨O,N,G⟩)))∧(((!(Op.bytesLess w w2 || w==w2)))=false→(K (AM.mk (RF 59 20 (tX tZ (tX (tY (.int .i64 0)) tZ)) [.code (cd P 105 [1,1])]) rest ⟨O,N,G⟩))))))))))=OT f0 R keep K (.seq [.run 8] (.fork 11 (.seq [.run 6] (.fork 12 (.seq [.run 6,.keep [4]] .fin) (.seq [.run 7,.keep [4]] .fin))) (.seq [.run 7] (.fork 13 (.seq [.run 6,.keep [4]] .fin) (.seq [.run 9] (.fork 16 (.seq [.run 6,.keep [4]] .fin) (.seq [.run 9] (.fork 19 (.seq [.run 6,.keep [4]] .fin) (.seq [.run 7,.keep [4]] .fin))))))))) ((AM.mk (RF 105 6 (tX tZ (tY (.bool blq1))) td) ((zjs w w2 blq0)::rest) ⟨O,N,G⟩)):=by kernel_rfl
theorem t_cmq:(∃ (i1:Nat) (i2:Nat) (i3:Nat) (l1:List UInt8) (i4:Nat) (i5:Nat) (i6:Nat) (l2:List UInt8),(lC O N G mk 0 sn)∧(iX 32 sn j i1 i2 i3)∧(lR O N G i1 i2 i3 (.str l1))∧(lC O N G mk 0 sn)∧(iX 32 sn j2 i4 i5 i6)∧(lR O N G i4 i5 i6 (.str l2))∧K (AM.mk (enF 59 [.str l1,.str l2]) ((Fcmq sn j j2 mk i1 i2 i3 i4 i5 i6 l1 l2)::rest) ⟨O,N,G⟩))=OT f0 R keep K (.ex fun i1:Nat=>(.ex fun i2:Nat=>(.ex fun i3:Nat=>(.ex fun l1:List UInt8=>(.ex fun i4:Nat=>(.ex fun i5:Nat=>(.ex fun i6:Nat=>(.ex fun l2:List UInt8=>(.seq [.run 6,.hop (sn) O,.run 1,.hopn (.ptr i1 i2 i3) O (N),.hop (.str l1) O,.hop (sn) O,.run 1,.hopn (.ptr i4 i5 i6) O (N),.hop (.str l2) O,.run 1] .fin))))))))) ((AM.mk (enF 58 [.int .i64 j,.int .i64 j2,.ptr mk 0 0]) rest ⟨O,N,G⟩)):=by kernel_rfl
theorem zl9:(K (AM.mk (RF 58 15 (tX (tX tZ (tY (.int .i64 crq0))) tZ) [.code (cd P (58:FuncId) [1,1])]) rest ⟨O,N,G⟩))=OT f0 R keep K (.seq [.run 4,.keep [5]] .fin) ((AM.mk (RF 59 20 (tX tZ (tX (tY (.int .i64 crq0)) tZ)) td) ((Fcmq sn j j2 mk i1c i2c i3c i4c i5c i6c l1c l2c)::rest) ⟨O,N,G⟩)):=by kernel_rfl
theorem t_ins:(K (zoZ n 1 mk sl rest O N G))=OT f0 R keep K (.seq [.run 8,.keep [0,1,2,3,8]] .fin) ((AM.mk (enF 115 [sl,.int .i64 0,.int .i64 n,.fn (Fn.func 58) [] [.ptr mk 0 0]]) rest ⟨O,N,G⟩)):=by kernel_rfl
theorem znX:(((decide (j<n))=true→(K (Winl n j j mk sl rest O N G)))∧((decide (j<n))=false→(K (AM.mk (RF 115 53 .leaf []) rest ⟨O,N,G⟩))))=OT f0 R keep K (.seq [.run 7] (.fork 14 (.seq [.run 11,.keep [0,1,2,3,8,9]] .fin) (.seq [.run 3,.keep []] .fin))) ((zoZ n j mk sl rest O N G)):=by kernel_rfl
theorem zp6:(((decide (j2 > Int.ofNat (0)))=true→(∃ (i1:Nat) (i2:Nat) (i3:Nat) (z1:Int) (i4:Nat) (i5:Nat) (i6:Nat) (z2:Int),(iX 67 sl j2 i1 i2 i3)∧(lR O N G i1 i2 i3 (.int .i64 z1))∧(zk P (67) (sl) (.int .i64 (IntKind.i64.wrap (j2 - (1:Int))))=(some (.ptr i4 i5 i6)))∧(lR O N G i4 i5 i6 (.int .i64 z2))∧K (AM.mk (enF 58 [.int .i64 z1,.int .i64 z2,.ptr mk 0 0]) ((zqr n j j2 mk sl i1 i2 i3 i4 i5 i6 z1 z2)::rest) ⟨O,N,G⟩)))∧((decide (j2 > Int.ofNat (0)))=false→(K (zoZ n (IntKind.i64.wrap (j+(1:Int))) mk sl rest O N G))))=OT f0 R keep K (.seq [.run 7] (.fork 21 (.ex fun i1:Nat=>(.ex fun i2:Nat=>(.ex fun i3:Nat=>(.ex fun z1:Int=>(.ex fun i4:Nat=>(.ex fun i5:Nat=>(.ex fun i6:Nat=>(.ex fun z2:Int=>(.seq [.run 3,.hopn (.ptr i1 i2 i3) O (N),.hop (.int .i64 z1) O,.run 3,.hopn (.ptr i4 i5 i6) O (N),.hop (.int .i64 z2) O,.run 1] .fin))))))))) (.seq [.run 23,.keep [0,1,2,3,8]] .fin))) ((Winl n j j2 mk sl rest O N G)):=by kernel_rfl
theorem zkJ:(((decide (crq0<(0:Int)))=true→(∃ (i1:Nat) (i2:Nat) (i3:Nat) (z1:Int) (i4:Nat) (i5:Nat) (i6:Nat) (z2:Int) (i7:Nat) (i8:Nat) (i9:Nat) (O1:T AObj) (i10:Nat) (i11:Nat) (i12:Nat) (O2:T AObj),(zk P (67) (sl) (.int .i64 (IntKind.i64.wrap (j2 - (1:Int))))=(some (.ptr i1 i2 i3)))∧(lR O N G i1 i2 i3 (.int .i64 z1))∧(iX 67 sl j2 i4 i5 i6)∧(lR O N G i4 i5 i6 (.int .i64 z2))∧(iX 67 sl j2 i7 i8 i9)∧(zb (⟨O,N,G⟩) (i7) (i8) (i9) ([.int .i64 z1])=(some ⟨O1,N,G⟩))∧(wy P (⟨O1,N,G⟩) (BinOp.sub) (3) (true) (.int .i64 j2) (.int .i64 1)=(some (.int .i64 (IntKind.i64.wrap (j2 - (1:Int))))))∧(zk P (67) (sl) (.int .i64 (IntKind.i64.wrap (j2 - (1:Int))))=(some (.ptr i10 i11 i12)))∧(zb (⟨O1,N,G⟩) (i10) (i11) (i12) ([.int .i64 z2])=(some ⟨O2,N,G⟩))∧K (Winl n j (IntKind.i64.wrap (j2 - (1:Int))) mk sl rest O2 N G)))∧((decide (crq0<(0:Int)))=false→(K (zoZ n (IntKind.i64.wrap (j+(1:Int))) mk sl rest O N G))))=OT f0 R keep K (.seq [.run 4] (.fork 34 (.ex fun i1:Nat=>(.ex fun i2:Nat=>(.ex fun i3:Nat=>(.ex fun z1:Int=>(.ex fun i4:Nat=>(.ex fun i5:Nat=>(.ex fun i6:Nat=>(.ex fun z2:Int=>(.ex fun i7:Nat=>(.ex fun i8:Nat=>(.ex fun i9:Nat=>(.ex fun O1:T AObj=>(.ex fun i10:Nat=>(.ex fun i11:Nat=>(.ex fun i12:Nat=>(.ex fun O2:T AObj=>(.seq [.run 13,.hopn (.ptr i1 i2 i3) O (N),.hop (.int .i64 z1) O,.run 2,.hopn (.ptr i4 i5 i6) O (N),.hop (.int .i64 z2) O,.hopn (.ptr i7 i8 i9) O (N),.hop (.nilp) O1,.hopn (.ptr i10 i11 i12) O1 (N),.hop (.nilp) O2,.run 8,.keep [0,1,2,3,8,9]] .fin))))))))))))))))) (.seq [.run 9,.keep [0,1,2,3,8]] .fin))) ((AM.mk (RF 58 15 (tX (tX tZ (tY (.int .i64 crq0))) tZ) td) ((zqr n j j2 mk sl i1c i2c i3c i4c i5c i6c z1c z2c)::rest) ⟨O,N,G⟩)):=by kernel_rfl
theorem t_bln:(K (AM.mk (enF 124 [.int .u64 n]) ((Fbln n)::rest) ⟨O,N,G⟩))=OT f0 R keep K (.seq [.run 10,.keep [6],.run 1] .fin) ((AM.mk (enF 104 [.int .u64 n]) rest ⟨O,N,G⟩)):=by kernel_rfl
theorem zlO:(K (AM.mk (RF 104 8 (tX tZ (tY (.int .i64 crq0))) [.code (cd P (104:FuncId) [1,0,0,1])]) rest ⟨O,N,G⟩))=OT f0 R keep K (.seq [.run 4,.keep [2]] .fin) ((AM.mk (RF 124 25 (tX tZ (tY (.int .i64 crq0))) td) ((Fbln n)::rest) ⟨O,N,G⟩)):=by kernel_rfl
theorem t_srt:(∃ (z1:Int),(lN O N G 67 sl z1)∧K (AM.mk (enF 104 [.int .u64 (IntKind.u64.wrap z1)]) ((Fsrt v sl z1)::rest) ⟨O,N,G⟩))=OT f0 R keep K (.ex fun z1:Int=>(.seq [.run 3,.hopn (.int .i64 z1) O (N),.run 7,.keep [1,7,8,10],.run 1] .fin)) ((AM.mk (enF 57 [sl,v]) rest ⟨O,N,G⟩)):=by kernel_rfl
theorem zlj:(K (AM.mk (enF 103 [sl,.int .i64 0,.int .i64 z1c,.int .i64 crq0,v]) ((ziH v sl crq0 z1c)::rest) ⟨O,N,G⟩))=OT f0 R keep K (.seq [.run 2,.keep [7,8,11,12],.run 1] .fin) ((AM.mk (RF 104 8 (tX tZ (tY (.int .i64 crq0))) td) ((Fsrt v sl z1c)::rest) ⟨O,N,G⟩)):=by kernel_rfl
theorem zf9:(K (AM.mk (RF 57 14 .leaf []) rest ⟨O,N,G⟩))=OT f0 R keep K (.seq [.run 3,.keep []] .fin) ((AM.mk (RF 103 148 .leaf td) ((ziH v sl crq0 z1c)::rest) ⟨O,N,G⟩)):=by kernel_rfl
theorem t_pdq:(K (Wpdq n j j2 v sl rest O N G))=OT f0 R keep K (.seq [.run 10,.keep [0,1,2,3,4,10,11]] .fin) ((AM.mk (enF 103 [sl,.int .i64 j,.int .i64 n,.int .i64 j2,v]) rest ⟨O,N,G⟩)):=by kernel_rfl
theorem zjQ:(K (AM.mk (RF 103 148 .leaf [.code (cd P (103:FuncId) [1,1,0,0,0,1,0,1,0,1]),.code (cd P (103:FuncId) [1,1,0,0,0,1,1]),.inBlock 1,.inLoop (cd P (103:FuncId) [1,1,0,0]),.inBlock 0]) rest ⟨O,N,G⟩))=OT f0 R keep K (.seq [.run 3,.keep []] .fin) ((AM.mk (RF 115 53 .leaf td) ((zpE n j v sl)::rest) ⟨O,N,G⟩)):=by kernel_rfl
theorem zmd:((decide (n≥(4294967296:Int))=false)∧(decide (n≥(65536:Int))=false)∧(decide (n≥(256:Int))=false)∧((0:Int)≤IntKind.u8.wrap n∧IntKind.u8.wrap n<(↑(ByteArray.mk (([(0:UInt8),(1:UInt8),(2:UInt8),(2:UInt8),(3:UInt8),(3:UInt8),(3:UInt8),(3:UInt8),(4:UInt8),(4:UInt8),(4:UInt8),(4:UInt8),(4:UInt8),(4:UInt8),(4:UInt8),(4:UInt8),(5:UInt8),(5:UInt8),(5:UInt8),(5:UInt8),(5:UInt8),(5:UInt8),(5:UInt8),(5:UInt8),(5:UInt8),(5:UInt8),(5:UInt8),(5:UInt8),(5:UInt8),(5:UInt8),(5:UInt8),(5:UInt8),(6:UInt8),(6:UInt8),(6:UInt8),(6:UInt8),(6:UInt8),(6:UInt8),(6:UInt8),(6:UInt8),(6:UInt8),(6:UInt8),(6:UInt8),(6:UInt8),(6:UInt8),(6:UInt8),(6:UInt8),(6:UInt8),(6:UInt8),(6:UInt8),(6:UInt8),(6:UInt8),(6:UInt8),(6:UInt8),(6:UInt8),(6:UInt8),(6:UInt8),(6:UInt8),(6:UInt8),(6:UInt8),(6:UInt8),(6:UInt8),(6:UInt8),(6:UInt8)].append [(7:UInt8),(7:UInt8),(7:UInt8),(7:UInt8),(7:UInt8),(7:UInt8),(7:UInt8),(7:UInt8),(7:UInt8),(7:UInt8),(7:UInt8),(7:UInt8),(7:UInt8),(7:UInt8),(7:UInt8),(7:UInt8),(7:UInt8),(7:UInt8),(7:UInt8),(7:UInt8),(7:UInt8),(7:UInt8),(7:UInt8),(7:UInt8),(7:UInt8),(7:UInt8),(7:UInt8),(7:UInt8),(7:UInt8),(7:UInt8),(7:UInt8),(7:UInt8),(7:UInt8),(7:UInt8),(7:UInt8),(7:UInt8),(7:UInt8),(7:UInt8),(7:UInt8),(7:UInt8),(7:UInt8),(7:UInt8),(7:UInt8),(7:UInt8),(7:UInt8),(7:UInt8),(7:UInt8),(7:UInt8),(7:UInt8),(7:UInt8),(7:UInt8),(7:UInt8),(7:UInt8),(7:UInt8),(7:UInt8),(7:UInt8),(7:UInt8),(7:UInt8),(7:UInt8),(7:UInt8),(7:UInt8),(7:UInt8),(7:UInt8),(7:UInt8)]).append ([(8:UInt8),(8:UInt8),(8:UInt8),(8:UInt8),(8:UInt8),(8:UInt8),(8:UInt8),(8:UInt8),(8:UInt8),(8:UInt8),(8:UInt8),(8:UInt8),(8:UInt8),(8:UInt8),(8:UInt8),(8:UInt8),(8:UInt8),(8:UInt8),(8:UInt8),(8:UInt8),(8:UInt8),(8:UInt8),(8:UInt8),(8:UInt8),(8:UInt8),(8:UInt8),(8:UInt8),(8:UInt8),(8:UInt8),(8:UInt8),(8:UInt8),(8:UInt8),(8:UInt8),(8:UInt8),(8:UInt8),(8:UInt8),(8:UInt8),(8:UInt8),(8:UInt8),(8:UInt8),(8:UInt8),(8:UInt8),(8:UInt8),(8:UInt8),(8:UInt8),(8:UInt8),(8:UInt8),(8:UInt8),(8:UInt8),(8:UInt8),(8:UInt8),(8:UInt8),(8:UInt8),(8:UInt8),(8:UInt8),(8:UInt8),(8:UInt8),(8:UInt8),(8:UInt8),(8:UInt8),(8:UInt8),(8:UInt8),(8:UInt8),(8:UInt8)].append [(8:UInt8),(8:UInt8),(8:UInt8),(8:UInt8),(8:UInt8),(8:UInt8),(8:UInt8),(8:UInt8),(8:UInt8),(8:UInt8),(8:UInt8),(8:UInt8),(8:UInt8),(8:UInt8),(8:UInt8),(8:UInt8),(8:UInt8),(8:UInt8),(8:UInt8),(8:UInt8),(8:UInt8),(8:UInt8),(8:UInt8),(8:UInt8),(8:UInt8),(8:UInt8),(8:UInt8),(8:UInt8),(8:UInt8),(8:UInt8),(8:UInt8),(8:UInt8),(8:UInt8),(8:UInt8),(8:UInt8),(8:UInt8),(8:UInt8),(8:UInt8),(8:UInt8),(8:UInt8),(8:UInt8),(8:UInt8),(8:UInt8),(8:UInt8),(8:UInt8),(8:UInt8),(8:UInt8),(8:UInt8),(8:UInt8),(8:UInt8),(8:UInt8),(8:UInt8),(8:UInt8),(8:UInt8),(8:UInt8),(8:UInt8),(8:UInt8),(8:UInt8),(8:UInt8),(8:UInt8),(8:UInt8),(8:UInt8),(8:UInt8),(8:UInt8)])).toArray).data.toList.length:Int))∧K (AM.mk (RF 124 25 (tX tZ (tY (.int .i64 (IntKind.i64.wrap (Int.ofNat (0)+IntKind.i64.wrap (↑((ByteArray.mk (([(0:UInt8),(1:UInt8),(2:UInt8),(2:UInt8),(3:UInt8),(3:UInt8),(3:UInt8),(3:UInt8),(4:UInt8),(4:UInt8),(4:UInt8),(4:UInt8),(4:UInt8),(4:UInt8),(4:UInt8),(4:UInt8),(5:UInt8),(5:UInt8),(5:UInt8),(5:UInt8),(5:UInt8),(5:UInt8),(5:UInt8),(5:UInt8),(5:UInt8),(5:UInt8),(5:UInt8),(5:UInt8),(5:UInt8),(5:UInt8),(5:UInt8),(5:UInt8),(6:UInt8),(6:UInt8),(6:UInt8),(6:UInt8),(6:UInt8),(6:UInt8),(6:UInt8),(6:UInt8),(6:UInt8),(6:UInt8),(6:UInt8),(6:UInt8),(6:UInt8),(6:UInt8),(6:UInt8),(6:UInt8),(6:UInt8),(6:UInt8),(6:UInt8),(6:UInt8),(6:UInt8),(6:UInt8),(6:UInt8),(6:UInt8),(6:UInt8),(6:UInt8),(6:UInt8),(6:UInt8),(6:UInt8),(6:UInt8),(6:UInt8),(6:UInt8)].append [(7:UInt8),(7:UInt8),(7:UInt8),(7:UInt8),(7:UInt8),(7:UInt8),(7:UInt8),(7:UInt8),(7:UInt8),(7:UInt8),(7:UInt8),(7:UInt8),(7:UInt8),(7:UInt8),(7:UInt8),(7:UInt8),(7:UInt8),(7:UInt8),(7:UInt8),(7:UInt8),(7:UInt8),(7:UInt8),(7:UInt8),(7:UInt8),(7:UInt8),(7:UInt8),(7:UInt8),(7:UInt8),(7:UInt8),(7:UInt8),(7:UInt8),(7:UInt8),(7:UInt8),(7:UInt8),(7:UInt8),(7:UInt8),(7:UInt8),(7:UInt8),(7:UInt8),(7:UInt8),(7:UInt8),(7:UInt8),(7:UInt8),(7:UInt8),(7:UInt8),(7:UInt8),(7:UInt8),(7:UInt8),(7:UInt8),(7:UInt8),(7:UInt8),(7:UInt8),(7:UInt8),(7:UInt8),(7:UInt8),(7:UInt8),(7:UInt8),(7:UInt8),(7:UInt8),(7:UInt8),(7:UInt8),(7:UInt8),(7:UInt8),(7:UInt8)]).append ([(8:UInt8),(8:UInt8),(8:UInt8),(8:UInt8),(8:UInt8),(8:UInt8),(8:UInt8),(8:UInt8),(8:UInt8),(8:UInt8),(8:UInt8),(8:UInt8),(8:UInt8),(8:UInt8),(8:UInt8),(8:UInt8),(8:UInt8),(8:UInt8),(8:UInt8),(8:UInt8),(8:UInt8),(8:UInt8),(8:UInt8),(8:UInt8),(8:UInt8),(8:UInt8),(8:UInt8),(8:UInt8),(8:UInt8),(8:UInt8),(8:UInt8),(8:UInt8),(8:UInt8),(8:UInt8),(8:UInt8),(8:UInt8),(8:UInt8),(8:UInt8),(8:UInt8),(8:UInt8),(8:UInt8),(8:UInt8),(8:UInt8),(8:UInt8),(8:UInt8),(8:UInt8),(8:UInt8),(8:UInt8),(8:UInt8),(8:UInt8),(8:UInt8),(8:UInt8),(8:UInt8),(8:UInt8),(8:UInt8),(8:UInt8),(8:UInt8),(8:UInt8),(8:UInt8),(8:UInt8),(8:UInt8),(8:UInt8),(8:UInt8),(8:UInt8)].append [(8:UInt8),(8:UInt8),(8:UInt8),(8:UInt8),(8:UInt8),(8:UInt8),(8:UInt8),(8:UInt8),(8:UInt8),(8:UInt8),(8:UInt8),(8:UInt8),(8:UInt8),(8:UInt8),(8:UInt8),(8:UInt8),(8:UInt8),(8:UInt8),(8:UInt8),(8:UInt8),(8:UInt8),(8:UInt8),(8:UInt8),(8:UInt8),(8:UInt8),(8:UInt8),(8:UInt8),(8:UInt8),(8:UInt8),(8:UInt8),(8:UInt8),(8:UInt8),(8:UInt8),(8:UInt8),(8:UInt8),(8:UInt8),(8:UInt8),(8:UInt8),(8:UInt8),(8:UInt8),(8:UInt8),(8:UInt8),(8:UInt8),(8:UInt8),(8:UInt8),(8:UInt8),(8:UInt8),(8:UInt8),(8:UInt8),(8:UInt8),(8:UInt8),(8:UInt8),(8:UInt8),(8:UInt8),(8:UInt8),(8:UInt8),(8:UInt8),(8:UInt8),(8:UInt8),(8:UInt8),(8:UInt8),(8:UInt8),(8:UInt8),(8:UInt8)])).toArray).data.toList.getD (IntKind.u8.wrap n).toNat (0:UInt8)).toNat:Int)))))) [.code (cd P 124 [1,1,1,1,1])]) rest ⟨O,N,G⟩))=OT f0 R keep K (.seq [.run 10,.know 4 false,.run 8,.know 8 false,.run 8,.know 14 false,.run 7,.op,.run 5,.keep [2]] .fin) ((AM.mk (enF 124 [.int .u64 n]) rest ⟨O,N,G⟩)):=by kernel_rfl
theorem zqf:((decide (IntKind.i64.wrap (n - j)≤(12:Int))=true)∧K (AM.mk (enF 115 [sl,.int .i64 j,.int .i64 n,v]) ((zpE n j v sl)::rest) ⟨O,N,G⟩))=OT f0 R keep K (.seq [.run 14,.know 25 true,.run 7,.keep [26,27,28,29],.run 1] .fin) ((Wpdq n j j2 v sl rest O N G)):=by kernel_rfl
end
variable {O O':T AObj} {N:Nat} {G:T (T AV)}
def kE (k:Nat):AV:=.int .i64 ((k:Nat):Int)
theorem iSl:SlT 67 3 1 8:=SlT.mk' (by kernel_rfl) (by kernel_rfl) (by kernel_rfl) (by kernel_rfl) (by kernel_rfl) rfl rfl
theorem zlL {id n j:Nat}(h:j<n):zk P 67 (.slc id 0 0 n n) (.int .i64 ((j:Nat):Int))=some (.ptr id 0 j):=by
 have hx:xX id 0 0 n 1 ((j:Nat):Int)=some (.ptr id 0 (0+j*1)):=by
  unfold xX
  rw [if_pos ⟨by omega,by omega⟩]
  rfl
 rw [show 0+j*1=j by omega] at hx
 unfold zk
 rw [iSl.und]
 simp only [iSl.size]
 exact hx
theorem znJ {id n:Nat}(N:Nat)(G:T (T AV)):zI P ⟨O,N,G⟩ .len (some 67) [.slc id 0 0 n n]=some (.int .i64 ((n:Nat):Int)):=by
 have h:∀ s,zI P ⟨O,N,G⟩ .len (some 67) [s]=lenE P ⟨O,N,G⟩ 67 s:=fun _=>rfl
 rw [h]
 unfold lenE zn3
 rw [iSl.und]
 rfl
theorem zpf {id j k:Nat}{ks:List Nat}(h:Obj O id (ks.map kE))(hk:ks[j]?=some k)(N:Nat)(G:T (T AV)):zc ⟨O,N,G⟩ id 0 j 1=some [.int .i64 ((k:Nat):Int)]:=by
 obtain ⟨h1,h2⟩:=List.getElem?_eq_some_iff.1 hk
 have e:=h.load j N G (by rw [List.length_map]; omega)
 rw [List.getD_eq_getElem?_getD,List.getElem?_map,hk] at e
 exact e
theorem st67 {id j:Nat}(k:Nat){ks:List Nat}(h:Obj O id (ks.map kE))(hj:j<ks.length)(N:Nat)(G:T (T AV)):∃ O',zb ⟨O,N,G⟩ id 0 j [.int .i64 ((k:Nat):Int)]=some ⟨O',N,G⟩∧Obj O' id ((ks.set j k).map kE)∧Frm O O' id:=by
 obtain ⟨O',e,b,f⟩:=h.store j [kE k] N G (by rw [List.length_map]; exact hj) rfl
 refine ⟨O',e,?_,f⟩
 rw [List.set_eq_take_append_cons_drop,if_pos hj,List.map_append,List.map_cons,List.map_take,List.map_drop]
 rw [List.append_assoc] at b
 exact b
theorem zjB {α:Type}{p t:List α}{x y:α}:((p++y::x::t).set (p.length+1) y).set p.length x=p++x::y::t:=by
 rw [List.set_append_right _ _ (by omega),Nat.add_sub_cancel_left]
 show (p++y::y::t).set p.length x=_
 rw [List.set_append_right _ _ (Nat.le_refl _),Nat.sub_self]
 rfl
theorem zpe {w w2:List UInt8}{keep:Nat}{f0:FuncId}{Q:AV→AHeap→Prop}{rest:List AFrame}(hK:∀ z td,(z<0 ↔ Op.bytesLess w w2=true)→Goal P keep f0 Q (AM.mk (RF 59 20 (tX tZ (tX (tY (.int .i64 z)) tZ)) td) rest ⟨O,N,G⟩)):Goal P keep f0 Q (AM.mk (enF 59 [.str w,.str w2]) rest ⟨O,N,G⟩):=by
 refine ot t_cmp ?_
 refine ot zqx ?_
 refine ot zmk ?_
 refine ot zqx ?_
 refine ot zfx (fkf ((by simp)) ?_)
 refine fkf ((by simp)) ?_
 refine ⟨fun hc2=>?_,fun hc2=>?_⟩
 ·
  exact hK _ _ ⟨fun _=>hc2,fun _=>by decide⟩
 ·
  refine ⟨fun hc3=>?_,fun hc3=>?_⟩
  ·
   exact hK _ _ ⟨fun h=>absurd h (by decide),fun h=>by rw [h] at hc2; cases hc2⟩
  ·
   exact hK _ _ ⟨fun h=>absurd h (by decide),fun h=>by rw [h] at hc2; cases hc2⟩
theorem zpZ {ns:List zi}{sn:AV}{mk hi a b:Nat}{x y:zi}(hn:SV O 1 sE 0 hi ns sn)(ob:Obj O mk [sn])(ha:ns[a]?=some x)(hb:ns[b]?=some y){keep:Nat}{f0:FuncId}{Q:AV→AHeap→Prop}{rest:List AFrame}
 (hK:∀ z td,(z<0 ↔ Op.bytesLess x y=true)→Goal P keep f0 Q (AM.mk (RF 58 15 (tX (tX tZ (tY (.int .i64 z))) tZ) td) rest ⟨O,N,G⟩)):Goal P keep f0 Q (AM.mk (enF 58 [.int .i64 ((a:Nat):Int),.int .i64 ((b:Nat):Int),.ptr mk 0 0]) rest ⟨O,N,G⟩):=by
 obtain ⟨i1v,i2v,i3v,lo5,hi5,eA5,rd5,_⟩:=hn.at sSl sEn ha
 obtain ⟨i4v,i5v,i6v,lo6,hi6,eA6,rd6,_⟩:=hn.at sSl sEn hb
 refine ot (t_cmq (sn:=sn)) ⟨i1v,i2v,i3v,_,i4v,i5v,i6v,_,ob.ld 0 rfl,eA5,rd5.load rfl _ _,ob.ld 0 rfl,eA6,rd6.load rfl _ _,?_⟩
 refine zpe fun z td hz=>?_
 exact ot zl9 (hK z _ hz)
end Go.Proofs.Ytcdigdplhlgcaaa.gx
end
section
set_option maxRecDepth 100000
set_option linter.unusedVariables false
set_option linter.unusedSectionVars false
set_option linter.unusedSimpArgs false
namespace Go.Proofs.Ytcdigdplhlgcaaa.gx
open Go Ev tp
variable {O O':T AObj} {N:Nat} {G:T (T AV)}
theorem zog {ns:List zi}{k:Nat}(h:k<ns.length):ns[k]?=some (ns.getD k []):=by
 rw [List.getD_eq_getElem?_getD,List.getElem?_eq_getElem h]; rfl
theorem zpb {id mk hi n i:Nat}{ns:List zi}{sn:AV}(hn:SV O 1 sE 0 hi ns sn)(ob:Obj O mk [sn])(hmk:mk≠id)(hid:hi≤id)(hn1:n<1000){keep:Nat}{f0:FuncId}{Q:AV→AHeap→Prop}{rest:List AFrame}{r:List Nat}{x:Nat}:∀ (m:Nat) (p q:List Nat) (O2:T AObj),p.length=m→p.length+q.length=i→(p++x::(q++r)).length=n→(∀ k∈p++x::(q++r),k<ns.length)→(∀ j,j≠id→O2.get j=O.get j)→Obj O2 id ((p++x::(q++r)).map kE) →
 Srt (fun k=>ns.getD k []) (p++q)→(∀ z∈q,Op.bytesLess (ns.getD x []) (ns.getD z [])=true)→(∀ O3 l,(∀ j,j≠id→O3.get j=O.get j)→Obj O3 id ((l++r).map kE)→l.Perm (p++x::q)→Srt (fun k=>ns.getD k []) l→Goal P keep f0 Q (zoZ ((n:Nat):Int) (IntKind.i64.wrap (((i:Nat):Int)+(1:Int))) mk (.slc id 0 0 n n) rest O3 N G))→Goal P keep f0 Q (Winl ((n:Nat):Int) ((i:Nat):Int) ((m:Nat):Int) mk (.slc id 0 0 n n) rest O2 N G):=by
 intro m
 induction m with
 | zero =>
  intro p q O2 hm hi' hlen hlt f2 ob2 hs hq hK
  obtain rfl:p=[]:=List.eq_nil_of_length_eq_zero hm
  refine ot zp6 (fkf (decide_eq_false (by decide)) ?_)
  exact hK O2 (x::q) f2 ob2 (List.Perm.refl _) (zjo (p:=[]) hs hq (fun z hz=>by cases hz))
 | succ m ih =>
  intro p0 q O2 hm hi' hlen hlt f2 ob2 hs hq hK
  rcases List.eq_nil_or_concat p0 with rfl | ⟨p,y,rfl⟩
  · cases hm
  rw [List.concat_eq_append] at *
  rw [List.append_assoc] at hlen hlt ob2
  rw [List.length_append] at hm hi'
  simp only [List.length_cons,List.length_nil,Nat.zero_add] at hm hi'
  have hm:p.length=m:=by omega
  have hlen2:=hlen
  simp only [List.length_append,List.length_cons,List.length_nil] at hlen2
  have hx:(p++([y]++x::(q++r)))[m+1]?=some x:=by rw [← hm,List.getElem?_append_right (by omega),Nat.add_sub_cancel_left]; rfl
  have hy:(p++([y]++x::(q++r)))[m]?=some y:=by rw [← hm,List.getElem?_append_right (Nat.le_refl _),Nat.sub_self]; rfl
  have w1:IntKind.i64.wrap (((m+1:Nat):Int) - (1:Int))=((m:Nat):Int):=by rw [IntKind.wrap_i64]; omega
  have eA:=zlL (id:=id) (n:=n) (j:=m+1) (by omega)
  have eB:zk P 67 (.slc id 0 0 n n) (.int .i64 (IntKind.i64.wrap (((m+1:Nat):Int) - (1:Int))))=some (.ptr id 0 m):=by rw [w1]; exact zlL (by omega)
  obtain ⟨O3,e3,b3,f3⟩:=st67 y ob2 (j:=m+1) (by rw [List.length_append,List.length_append]; simp only [List.length_cons,List.length_nil]; omega) N G
  obtain ⟨O4,e4,b4,f4⟩:=st67 x b3 (j:=m) (by rw [List.length_set,List.length_append,List.length_append]; simp only [List.length_cons,List.length_nil]; omega) N G
  have sw:((p++([y]++x::(q++r))).set (m+1) y).set m x=p++x::(y::q++r):=by rw [← hm]; exact zjB
  rw [sw] at b4
  refine ot zp6 (fkt (decide_eq_true (by show (0:Int)<_; omega)) ?_)
  refine ⟨id,0,(m+1),((x:Nat):Int),id,0,m,((y:Nat):Int),eA,(zpf ob2 hx N G),eB,(zpf ob2 hy N G),?_⟩
  refine zpZ (ns:=ns) (x:=ns.getD x []) (y:=ns.getD y []) (hn.keep (O':=O2) (fun j _ hj=>f2 j (by omega)) (Nat.le_refl 0) (Nat.le_refl hi)) (ob.same (f2 mk hmk)) (zog (hlt x (by simp))) (zog (hlt y (by simp))) fun z td hz=>?_
  refine ot zkJ ⟨fun hc10=>?_,fun hc10=>?_⟩
  ·
   refine ⟨id,0,m,((y:Nat):Int),id,0,(m+1),((x:Nat):Int),id,0,(m+1),O3,id,0,m,O4,eB,(zpf ob2 hy N G),eA,(zpf ob2 hx N G),eA,e3,rfl,eB,e4,?_⟩
   have hc:Op.bytesLess (ns.getD x []) (ns.getD y [])=true:=hz.1 (of_decide_eq_true hc10)
   rw [w1]
   exact ih p (y::q) O4 hm (by simp only [List.length_cons]; omega) (by simp only [List.length_append,List.length_cons]; omega) (fun k hk=>hlt k (by simp at hk ⊢; rcases hk with h | h | h | h | h <;> simp [h])) (fun j hj=>(f4 j hj).trans ((f3 j hj).trans (f2 j hj))) b4 (by rw [List.append_assoc] at hs; exact hs) (fun z hz=>by rcases List.mem_cons.1 hz with rfl | hz; exact hc; exact hq z hz) (fun O5 l5 g5 o5 p5 s5=>hK O5 l5 g5 o5 (p5.trans (by rw [List.append_assoc]; exact (List.Perm.swap _ _ _).append_left p)) s5)
  ·
   have hc:Op.bytesLess (ns.getD x []) (ns.getD y [])=false:=by
    cases h:Op.bytesLess (ns.getD x []) (ns.getD y []) with
    | false=>rfl
    | true=>have:=hz.2 h; have:=of_decide_eq_false hc10; omega
   exact hK O2 (p++y::x::q) f2 (by rw [List.append_assoc]; exact ob2) (by simp) (by have:=zjo (x:=x) hs hq (znK hs.left hc); rw [List.append_assoc] at this; exact this)
end Go.Proofs.Ytcdigdplhlgcaaa.gx
end
section
set_option maxRecDepth 100000
set_option linter.unusedVariables false
set_option linter.unusedSectionVars false
set_option linter.unusedSimpArgs false
namespace Go.Proofs.Ytcdigdplhlgcaaa.gx
open Go Ev tp
variable {O O':T AObj} {N:Nat} {G:T (T AV)}
theorem zpK {id mk hi n:Nat}{ns:List zi}{sn:AV}{ks:List Nat}(hn:SV O 1 sE 0 hi ns sn)(ob:Obj O mk [sn])(hmk:mk≠id)(hid:hi≤id)(hlt:∀ k∈ks,k<ns.length)(hk:Obj O id (ks.map kE))(hlen:ks.length=n)(hn1:n<1000){keep:Nat}{f0:FuncId}{Q:AV→AHeap→Prop}{rest:List AFrame}
 (hK:(∀ O' l td,(∀ j,j≠id→O'.get j=O.get j)→Obj O' id (l.map kE)→l.Perm ks→Srt (fun k=>ns.getD k []) l→Goal P keep f0 Q (AM.mk (RF 115 53 .leaf td) rest ⟨O',N,G⟩))):Goal P keep f0 Q (AM.mk (enF 115 [(.slc id 0 0 n n),.int .i64 0,.int .i64 ((n:Nat):Int),(.fn (Fn.func 58) [] [.ptr mk 0 0])]) rest ⟨O,N,G⟩):=by
 have loop:∀ (c:Nat) (l m:List Nat) (O2:T AObj),m.length=c→l.length+c=n→(∀ j,j≠id→O2.get j=O.get j)→Obj O2 id ((l++m).map kE)→(l++m).Perm ks→Srt (fun k=>ns.getD k []) l→Goal P keep f0 Q (zoZ ((n:Nat):Int) ((l.length:Nat):Int) mk (.slc id 0 0 n n) rest O2 N G):=by
  intro c
  induction c with
  | zero =>
   intro l m O2 hm hc f2 b2 p2 s2
   refine ot znX (fkf (decide_eq_false (by omega)) ?_)
   rw [List.length_eq_zero_iff.1 hm,List.append_nil] at b2 p2
   exact hK O2 l _ f2 b2 p2 s2
  | succ c ih =>
   intro l m0 O2 hm hc f2 b2 p2 s2
   obtain ⟨x,m,rfl⟩:∃ x m,m0=x::m:=by
    cases m0 with
    | nil=>cases hm
    | cons x m=>exact ⟨x,m,rfl⟩
   have hm:m.length=c:=by simpa using hm
   refine ot znX (fkt (decide_eq_true (by omega)) ?_)
   refine zpb hn ob hmk hid hn1 (r:=m) (x:=x) l.length l [] O2 rfl rfl (by simp only [List.length_append,List.length_cons,List.nil_append]; omega) (fun k hk=>hlt k (p2.mem_iff.1 hk)) f2 b2 (by rw [List.append_nil]; exact s2) (fun z hz=>by cases hz) fun O3 l3 f3 b3 p3 s3=>?_
   have hl3:l3.length=l.length+1:=by rw [p3.length_eq,List.length_append]; rfl
   have nx:=ih l3 m O3 hm (by omega) f3 b3 (((p3.append_right m).trans (by rw [List.append_assoc]; exact List.Perm.refl _)).trans p2) s3
   rw [hl3,← zG (i:=l.length) (by omega)] at nx
   exact nx
 refine ot t_ins ?_
 cases ks with
 | nil =>
  obtain rfl:n=0:=hlen.symm
  exact ot znX (fkf (decide_eq_false (by decide)) (hK O [] _ (fun _ _=>rfl) hk (List.Perm.refl _) Srt.nil))
 | cons k m=>exact loop m.length [k] m O rfl (by rw [← hlen]; simp only [List.length_cons,List.length_nil]; omega) (fun _ _=>rfl) hk (List.Perm.refl _) (List.pairwise_singleton ..)
theorem lb_ok {n:Nat}(h:n<256){keep:Nat}{f0:FuncId}{Q:AV→AHeap→Prop}{rest:List AFrame}(hK:∀ z td,Goal P keep f0 Q (AM.mk (RF 104 8 (tX tZ (tY (.int .i64 z))) td) rest ⟨O,N,G⟩)):Goal P keep f0 Q (AM.mk (enF 104 [.int .u64 (IntKind.u64.wrap ((n:Nat):Int))]) rest ⟨O,N,G⟩):=by
 have w:IntKind.u64.wrap ((n:Nat):Int)=((n:Nat):Int):=by rw [IntKind.wrap_u64]; omega
 have w8:IntKind.u8.wrap ((n:Nat):Int)=((n:Nat):Int):=by rw [IntKind.wrap_u8]; omega
 rw [w]
 refine ot t_bln ?_
 refine ot zmd ⟨decide_eq_false (by omega),decide_eq_false (by omega),decide_eq_false (by omega),⟨by rw [w8]; omega,by rw [w8]; exact Int.lt_of_lt_of_le (show ((n:Nat):Int)<256 by omega) (Int.ofNat_le.2 (Nat.le_of_ble_eq_true (by kernel_rfl)))⟩,?_⟩
 exact ot zlO (hK _ _)
theorem zo6 {id mk hi n:Nat}{ns:List zi}{sn:AV}{ks:List Nat}(hn:SV O 1 sE 0 hi ns sn)(ob:Obj O mk [sn])(hmk:mk≠id)(hid:hi≤id)(hlt:∀ k∈ks,k<ns.length)(hk:Obj O id (ks.map kE))(hlen:ks.length=n)(hn1:n≤12){keep:Nat}{f0:FuncId}{Q:AV→AHeap→Prop}{rest:List AFrame}
 (hK:(∀ O' l td,(∀ j,j≠id→O'.get j=O.get j)→Obj O' id (l.map kE)→l.Perm ks→Srt (fun k=>ns.getD k []) l→Goal P keep f0 Q (AM.mk (RF 57 14 .leaf td) rest ⟨O',N,G⟩))):Goal P keep f0 Q (AM.mk (enF 57 [(.slc id 0 0 n n),(.fn (Fn.func 58) [] [.ptr mk 0 0])]) rest ⟨O,N,G⟩):=by
 refine ot t_srt ⟨_,znJ N G,?_⟩
 refine lb_ok (by omega) fun z td=>?_
 refine ot zlj ?_
 refine ot t_pdq ?_
 refine ot zqf ⟨decide_eq_true (by rw [IntKind.wrap_i64]; omega),?_⟩
 refine zpK hn ob hmk hid hlt hk hlen (by omega) fun O' l td2 f b p s=>?_
 refine ot zjQ ?_
 exact ot zf9 (hK O' l _ f b p s)
end Go.Proofs.Ytcdigdplhlgcaaa.gx
end
section
set_option maxRecDepth 100000
set_option linter.unusedVariables false
set_option linter.unusedSimpArgs false
namespace Go.Proofs.Ytcdigdplhlgcaaa.tp
open Go
def Up (l:List zi):Prop:=l.Pairwise fun x y=>Op.bytesLess x y=true
theorem Up.nodup {l:List zi}(h:Up l):l.Nodup:=h.imp fun {a b} h e=>by rw [e,zjE] at h; cases h
theorem zkS:∀ {l:List zi},wP l=true→Up l
 | [],_=>List.Pairwise.nil
 | [a],_=>List.pairwise_singleton ..
 | a::b::l,h=>by
  have h:(Op.bytesLess a b&&wP (b::l))=true:=h
  rw [Bool.and_eq_true] at h
  have ih:=zkS h.2
  refine List.pairwise_cons.2 ⟨fun z hz=>?_,ih⟩
  rcases List.mem_cons.1 hz with rfl | hz
  · exact h.1
  · exact vX h.1 ((List.pairwise_cons.1 ih).1 z hz)
theorem zdk:∀ {l:List zi},Srt (fun x=>x) l→l.Nodup→wP l=true
 | [],_,_=>rfl
 | [a],_,_=>rfl
 | a::b::l,h,n=>by
  obtain ⟨h1,h2⟩:=List.pairwise_cons.1 h
  obtain ⟨n1,n2⟩:=List.nodup_cons.1 n
  show (Op.bytesLess a b&&wP (b::l))=true
  rw [zdk h2 n2,Bool.and_true]
  cases e:Op.bytesLess a b with
  | true=>rfl
  | false=>exact absurd (zjm e (h1 b (List.mem_cons_self ..))▸List.mem_cons_self ..) n1
theorem ins_perm {α:Type}{a:Nat}{v:α}{l:List α}:(ins a v l).Perm (v::l):=by
 have h:=(List.perm_middle (a:=v) (l₁:=l.take a) (l₂:=l.drop a))
 rw [List.take_append_drop] at h
 exact h
theorem znH {α β:Type}{a:Nat}{v:α}{w:β}{l:List α}{m:List β}(h:l.length=m.length):(ins a v l).zip (ins a w m)=ins a (v,w) (l.zip m):=by
 unfold ins
 rw [List.zip_append (by rw [List.length_take,List.length_take,h]),List.zip_cons_cons]
 simp only [List.zip_eq_zipWith,List.take_zipWith,List.drop_zipWith]
theorem zp8 {xs:List zi}{n:zi}(h:Up xs)(hn:xs[vI (fun x=>Op.bytesLess x n) xs]?≠some n):Up (ins (vI (fun x=>Op.bytesLess x n) xs) n xs):=by
 have h1:xs.take (vI (fun x=>Op.bytesLess x n) xs)=xs.takeWhile (fun x=>Op.bytesLess x n):=by
  unfold vI
  have e:=List.takeWhile_append_dropWhile (p:=fun x=>Op.bytesLess x n) (l:=xs)
  conv=>lhs; rhs; rw [← e]
  exact List.take_left ..
 have h2:xs.drop (vI (fun x=>Op.bytesLess x n) xs)=xs.dropWhile (fun x=>Op.bytesLess x n):=by
  unfold vI
  have e:=List.takeWhile_append_dropWhile (p:=fun x=>Op.bytesLess x n) (l:=xs)
  conv=>lhs; rhs; rw [← e]
  exact List.drop_left ..
 have hd:∀ y l,xs.drop (vI (fun x=>Op.bytesLess x n) xs)=y::l→Op.bytesLess n y=true:=by
  intro y l e
  have hy:xs[vI (fun x=>Op.bytesLess x n) xs]?=some y:=by
   have:=congrArg (fun l=>l[0]?) e
   simpa using this
  have hf:Op.bytesLess y n=false:=by
   rw [h2] at e
   have hne:xs.dropWhile (fun x=>Op.bytesLess x n)≠[]:=by rw [e]; exact fun h=>by cases h
   have:=List.head_dropWhile_not (fun x=>Op.bytesLess x n) (l:=xs) hne
   simp only [e,List.head_cons] at this
   exact this
  cases g:Op.bytesLess n y with
  | true=>rfl
  | false=>exact absurd (hy.trans (by rw [zjm hf g])) hn
 have hs:Up (xs.take (vI (fun x=>Op.bytesLess x n) xs)++xs.drop (vI (fun x=>Op.bytesLess x n) xs)):=by rw [List.take_append_drop]; exact h
 obtain ⟨g1,g2,g3⟩:=List.pairwise_append.1 hs
 unfold ins
 have below:∀ z∈xs.take (vI (fun x=>Op.bytesLess x n) xs),Op.bytesLess z n=true:=by
  intro z hz
  rw [h1] at hz
  exact List.all_eq_true.1 (List.all_takeWhile (p:=fun x=>Op.bytesLess x n) (l:=xs)) z hz
 have above:∀ z∈xs.drop (vI (fun x=>Op.bytesLess x n) xs),Op.bytesLess n z=true:=by
  intro z hz
  cases e:xs.drop (vI (fun x=>Op.bytesLess x n) xs) with
  | nil=>rw [e] at hz; cases hz
  | cons y l =>
   have hy:=hd y l e
   rw [e] at hz g2
   rcases List.mem_cons.1 hz with rfl | hz
   · exact hy
   · exact vX hy ((List.pairwise_cons.1 g2).1 z hz)
 refine List.pairwise_append.2 ⟨g1,List.pairwise_cons.2 ⟨above,g2⟩,fun a ha b hb=>?_⟩
 rcases List.mem_cons.1 hb with rfl | hb
 · exact below a ha
 · exact g3 a ha b hb
theorem ki:∀ {ns:List zi} {ts:List Ty} {xs:List zi} {us:List Ty} {ys:List zi} {vs:List Ty},ns.length=ts.length→xs.length=us.length→Up xs→zcT ns ts xs us=some (ys,vs) →
 Up ys∧ys.length=vs.length∧(ys.zip vs).Perm (ns.zip ts++xs.zip us)
 | [],[],xs,us,ys,vs,_,hl,hu,h=>by
  obtain ⟨rfl,rfl⟩:xs=ys∧us=vs:=Prod.mk.inj (Option.some.inj (recS_nil.symm.trans h))
  exact ⟨hu,hl,List.Perm.refl _⟩
 | [],t::ts,xs,us,ys,vs,hn,_,_,_=>by cases hn
 | n::ns,[],xs,us,ys,vs,hn,_,_,_=>by cases hn
 | n::ns,t::ts,xs,us,ys,vs,hn,hl,hu,h=>by
  rw [vT] at h
  split at h
  · split at h
    · cases h
    · rename_i hf hd
      obtain ⟨h1,h2,h3⟩:=ki (by simpa using hn) (by rw [y0 zbo,y0 (hl▸zbo),hl]) (zp8 hu hd) h
      refine ⟨h1,h2,h3.trans ?_⟩
      rw [znH hl,List.zip_cons_cons,List.cons_append]
      exact (List.Perm.append_left _ ins_perm).trans List.perm_middle
  · cases h
theorem za2:∀ {ns:List zi} {ts:List Ty} {xs:List zi} {us:List Ty},ns.length=ts.length→zcT ns ts xs us=none→(∀ n∈ns,ze n=true)→¬ (ns++xs).Nodup
 | [],[],xs,us,_,h,_=>by rw [recS_nil] at h; cases h
 | [],t::ts,xs,us,hn,_,_=>by cases hn
 | n::ns,[],xs,us,hn,_,_=>by cases hn
 | n::ns,t::ts,xs,us,hn,h,hf=>by
  rw [vT,if_pos (hf n (List.mem_cons_self ..))] at h
  split at h
  · rename_i hd
    intro hnd
    exact (List.nodup_cons.1 hnd).1 (List.mem_append.2 (.inr (List.mem_of_getElem? hd)))
  · intro hnd
    refine za2 (by simpa using hn) h (fun z hz=>hf z (List.mem_cons_of_mem _ hz)) ?_
    refine (List.Perm.nodup_iff ?_).1 hnd
    exact (List.perm_middle.symm.trans (List.Perm.append_left _ ins_perm.symm))
theorem zcO:∀ {ns:List zi} {ts:List Ty} {xs:List zi} {us:List Ty},ns.length=ts.length→ns.any (fun s=>!ze s)=true→zcT ns ts xs us=none
 | [],ts,xs,us,_,h=>by cases h
 | n::ns,[],xs,us,hn,_=>by cases hn
 | n::ns,t::ts,xs,us,hn,h=>by
  rw [vT]
  cases hf:ze n with
  | false=>rfl
  | true =>
   rw [if_pos rfl]
   split
   · rfl
   · rw [List.any_cons,hf] at h
     exact zcO (by simpa using hn) h
end Go.Proofs.Ytcdigdplhlgcaaa.tp
end
section
set_option maxRecDepth 100000
set_option linter.unusedVariables false
set_option linter.unusedSimpArgs false
namespace Go.Proofs.Ytcdigdplhlgcaaa.tp
open Go
theorem wi {α β:Type}{f:α→β}:∀ {l:List α},(l.map f).Nodup→∀ x∈l,∀ y∈l,f x=f y→x=y
 | [],_,x,hx,_,_,_=>by cases hx
 | a::l,h,x,hx,y,hy,e=>by
  obtain ⟨h1,h2⟩:=List.nodup_cons.1 h
  rcases List.mem_cons.1 hx with hx | hx
  · rcases List.mem_cons.1 hy with hy | hy
    · rw [hx,hy]
    · exact absurd (List.mem_map.2 ⟨y,hy,by rw [← e,hx]⟩) h1
  · rcases List.mem_cons.1 hy with hy | hy
    · exact absurd (List.mem_map.2 ⟨x,hx,by rw [e,hy]⟩) h1
    · exact wi h2 x hx y hy e
theorem zbe {α:Type}{l:List α}{d:α}:(List.range l.length).map (fun k=>l.getD k d)=l:=by
 refine List.ext_getElem? fun i=>?_
 rw [List.getElem?_map]
 by_cases h:i<l.length
 · rw [List.getElem?_eq_getElem (by rw [List.length_range]; exact h),List.getElem_range,List.getElem?_eq_getElem h,Option.map_some,List.getD_eq_getElem?_getD,List.getElem?_eq_getElem h]
   rfl
 · rw [List.getElem?_eq_none (by rw [List.length_range]; omega),List.getElem?_eq_none (by omega)]
   rfl
theorem zdz {α β γ:Type}{f:α→β}{g:α→γ}:∀ {l:List α},(l.map f).zip (l.map g)=l.map fun k=>(f k,g k)
 | []=>rfl
 | a::l=>by rw [List.map_cons,List.map_cons,List.map_cons,List.zip_cons_cons,zdz]
theorem xf {α β:Type}:∀ {l:List α} {m:List β},l.length=m.length→(l.zip m).map Prod.fst=l
 | [],[],_=>rfl
 | [],_::_,h=>by cases h
 | _::_,[],h=>by cases h
 | a::l,b::m,h=>by rw [List.zip_cons_cons,List.map_cons,xf (by simpa using h)]
theorem qw {α β:Type}:∀ {l:List α} {m:List β},l.length=m.length→(l.zip m).map Prod.snd=m
 | [],[],_=>rfl
 | [],_::_,h=>by cases h
 | _::_,[],h=>by cases h
 | a::l,b::m,h=>by rw [List.zip_cons_cons,List.map_cons,qw (by simpa using h)]
theorem zbz {α:Type}{f:α→zi}{l:List α}:Srt (fun x=>x) (l.map f) ↔ Srt f l:=List.pairwise_map
theorem Up.srt {l:List zi}(h:Up l):Srt (fun x=>x) l:=h.imp fun {a b} h=>ziY h
theorem zqw {ns:List zi}{ts:List Ty}{ks:List Nat}(hl:ns.length=ts.length)(hc:ts.all (fun x=>chk x==0)=true)(hf:ns.any (fun s=>!ze s)=false)(hp:ks.Perm (List.range ns.length))(hs:Srt (fun k=>ns.getD k []) ks) :
 y8 ns ts=if wP (ks.map fun k=>ns.getD k [])=true then zbT (.mk 7 [] (ks.map fun k=>ns.getD k []) (ks.map fun k=>ts.getD k .no) .no) else (2,.no):=by
 unfold y8
 rw [if_pos ⟨hl,hc⟩]
 have px:(ks.map fun k=>ns.getD k []).Perm ns:=by
  have:=hp.map (fun k=>ns.getD k [])
  rw [zbe] at this
  exact this
 have pz:((ks.map fun k=>ns.getD k []).zip (ks.map fun k=>ts.getD k .no)).Perm (ns.zip ts):=by
  have:=hp.map (fun k=>(ns.getD k [],ts.getD k .no))
  rw [← zdz,← zdz,zbe,hl,zbe] at this
  exact this
 have hlen:(ks.map fun k=>ns.getD k []).length=(ks.map fun k=>ts.getD k .no).length:=by rw [List.length_map,List.length_map]
 have hsx:=zbz.2 hs
 cases hr:wP (ks.map fun k=>ns.getD k []) with
 | true =>
  rw [if_pos rfl]
  have hup:=zkS hr
  have hnd:ns.Nodup:=px.nodup_iff.1 hup.nodup
  cases h:zcT ns ts [] [] with
  | none =>
   refine absurd ?_ (za2 hl h (fun n hn=>?_))
   · rw [List.append_nil]; exact hnd
   · have:=List.any_eq_false.1 hf n hn
     simpa using this
  | some r =>
   obtain ⟨ys,vs⟩:=r
   obtain ⟨h1,h2,h3⟩:=ki hl rfl List.Pairwise.nil h
   rw [List.zip_nil_left,List.append_nil] at h3
   have e:ys.zip vs=(ks.map fun k=>ns.getD k []).zip (ks.map fun k=>ts.getD k .no):=by
    refine zfZ (f:=Prod.fst) (h3.trans pz.symm) (zbz.1 ?_) (zbz.1 ?_) (wi ?_)
    · rw [xf h2]; exact h1.srt
    · rw [xf hlen]; exact hsx
    · rw [xf h2]; exact h1.nodup
   have e1:=congrArg (List.map Prod.fst) e
   have e2:=congrArg (List.map Prod.snd) e
   rw [xf h2,xf hlen] at e1
   rw [qw h2,qw hlen] at e2
   rw [e1,e2]
 | false =>
  rw [if_neg (by simp)]
  cases h:zcT ns ts [] [] with
  | none=>rfl
  | some r =>
   obtain ⟨ys,vs⟩:=r
   obtain ⟨h1,h2,h3⟩:=ki hl rfl List.Pairwise.nil h
   rw [List.zip_nil_left,List.append_nil] at h3
   have py:ys.Perm ns:=by
    have:=h3.map Prod.fst
    rw [xf h2,xf hl] at this
    exact this
   have:=zdk hsx ((px.trans py.symm).nodup_iff.2 h1.nodup)
   rw [hr] at this
   cases this
theorem zdb {ns:List zi}{ts:List Ty}(h:ns.length≠ts.length∨ns.any (fun s=>!ze s)=true∨ts.any (fun x=>!(chk x==0))=true):y8 ns ts=(2,.no):=by
 unfold y8
 by_cases hc:ns.length=ts.length∧ts.all (fun x=>chk x==0)=true
 · rw [if_pos hc]
   rcases h with h | h | h
   · exact absurd hc.1 h
   · rw [zcO hc.1 h]
   · rw [List.not_all_eq_any_not.symm,hc.2] at h
     cases h
 · rw [if_neg hc]
end Go.Proofs.Ytcdigdplhlgcaaa.tp
end
section
set_option maxRecDepth 100000
set_option linter.unusedVariables false
set_option linter.unusedSectionVars false
set_option linter.unusedSimpArgs false
namespace Go.Proofs.Ytcdigdplhlgcaaa.gx
open Go Ev tp
noncomputable def Wra (sa:AV) (n:Int) (j:Int) (mk:Nat) (sl:AV) (rest:List AFrame) (O:T AObj) (N:Nat) (G:T (T AV)):AM:=⟨⟨22,85,(tX (tW tZ sa (tX tZ (tX tZ (tY (.int .i64 j))))) (tW (tX tZ (tX tZ (tY (.int .i64 n)))) (.ptr mk 0 0) (tY sl))),   [.code (cd P 22 [1,1,1,0,1,0,0]),.inLoop (cd P 22 [1,1,1,0,1,0,0]),.inBlock 0,.code (cd P 22 [1,1,1,1])],[],.run,CallKind.normal,none⟩,rest,⟨O,N,G⟩⟩
noncomputable def zji (sa:AV) (mk:Nat) (sl:AV):AFrame:=⟨22,85,(tX (tW tZ sa (tX tZ (tX (tX (tY sl) tZ) tZ))) (tW tZ (.ptr mk 0 0) (tW tZ sl (tX (tX (tY (.fn (Fn.func 58) [] [.ptr mk 0 0])) tZ) tZ)))),   [.ops (rg P 22 [1,1,1,1,0]).toList ((rg P 22 [1,1,1,1,0]).toList.drop 2),.code (cd P 22 [1,1,1,1,1])],[],.run,CallKind.normal,none⟩
noncomputable def Wrn (sa:AV) (n:Int) (j:Int) (m:Nat) (mk:Nat) (sl:AV) (rest:List AFrame) (O:T AObj) (N:Nat) (G:T (T AV)):AM:=⟨⟨22,85,(tX (tW (tX tZ (tX tZ (tX (tY (.int .i64 n)) tZ))) sa tZ) (tW (tX (tY (.ptr m 0 0)) (tX tZ (tX (tY (.int .i64 j)) tZ))) (.ptr mk 0 0) (tX (tX tZ (tX (tY sl) tZ)) tZ))),   [.code (cd P 22 [1,1,1,1,1,1,0,1,0,0]),.inLoop (cd P 22 [1,1,1,1,1,1,0,1,0,0]),.inBlock 2,.code (cd P 22 [1,1,1,1,1,1,1])],[],.run,CallKind.normal,none⟩,rest,⟨O,N,G⟩⟩
noncomputable def zn4 (sn2:AV) (m:Nat):AFrame:=⟨22,85,(tX tZ (tX (tX (tY (.ptr m 0 0)) tZ) (tX tZ (tX tZ (tX (tX (tY sn2) tZ) tZ))))),   [.ops (rg P 22 [1,1,1,1,1,1,1,0,0]).toList ((rg P 22 [1,1,1,1,1,1,1,0,0]).toList.drop 4),.code (cd P 22 [1,1,1,1,1,1,1,0,1]),.code (cd P 22 [1,1,1,1,1,1,1,1])],[],.run,CallKind.normal,none⟩
noncomputable def zey (m:Nat):AFrame:=⟨22,85,(tX (tX tZ (tX (tX (tX tZ (tX (tY (.ptr m 0 0)) tZ)) tZ) tZ)) tZ),   [.ops (rg P 22 [1,1,1,1,1,1,1,1,0]).toList ((rg P 22 [1,1,1,1,1,1,1,1,0]).toList.drop 1),.code (cd P 60 [1,0,1,0,0,1,0,0,1,0,1])],[],.run,CallKind.normal,none⟩
noncomputable def zqe (N:Nat) (sn:AV) (sa:AV):AFrame:=⟨22,85,(tX (tW tZ sa (tX (tX (tY sn) tZ) tZ)) (tW (tX (tX (tY (.bool false)) tZ) tZ) (.ptr N 0 0) tZ)),   [.ops (rg P 22 [1,0,0]).toList ((rg P 22 [1,0,0]).toList.drop 7),.code (cd P 22 [1,0,1]),.code (cd P 22 [1,1])],[],.run,CallKind.normal,none⟩
noncomputable def zeQ (sa:AV) (Nc:Nat):AFrame:=⟨22,85,(tX (tW tZ sa (tX tZ (tX (tY sa) tZ))) (tW (tX tZ (tX (tY (.bool false)) tZ)) (.ptr Nc 0 0) tZ)),   [.ops (rg P (22:FuncId) [1,0,0]).toList ((rg P (22:FuncId) [1,0,0]).toList.drop 11),.code (cd P (22:FuncId) [1,0,1]),.code (cd P (22:FuncId) [1,1])],[],.run,CallKind.normal,none⟩
section
variable {R:AV→AHeap→Prop} {keep N mk m Nc:Nat} {f0:FuncId} {rest:List AFrame} {O:T AObj} {sa sl sn sn2 sa2 prq1:AV} {n j crq1:Int} {G:T (T AV)} {K:AM→Prop} {td:List AItem} {blq0 blq1:Bool}
theorem znB:(((decide (j<n))=true→(∃ (i1:Nat) (i2:Nat) (i3:Nat) (O1:T AObj),(iX 67 sl j i1 i2 i3)∧(zb (⟨O,N,G⟩) (i1) (i2) (i3) ([.int .i64 j])=(some ⟨O1,N,G⟩))∧K (Wra sa n (IntKind.i64.wrap (j+(1:Int))) mk sl rest O1 N G)))∧((decide (j<n))=false→(K (AM.mk (enF 57 [sl,.fn (Fn.func 58) [] [.ptr mk 0 0]]) ((zji sa mk sl)::rest) ⟨O,N,G⟩))))=OT f0 R keep K (.seq [.run 5] (.fork 30 (.ex fun i1:Nat=>(.ex fun i2:Nat=>(.ex fun i3:Nat=>(.ex fun O1:T AObj=>(.seq [.run 13,.hopn (.ptr i1 i2 i3) O (N),.hop (.nilp) O1,.run 7,.keep [1,2,6,28,29]] .fin))))) (.seq [.run 6,.keep [1,2,6,37,38],.run 1] .fin))) ((Wra sa n j mk sl rest O N G)):=by kernel_rfl
theorem zpV:(((decide (j<n))=true→(∃ (i1:Nat) (i2:Nat) (i3:Nat) (z1:Int) (i4:Nat) (i5:Nat) (i6:Nat) (l1:List UInt8) (O1:T AObj) (i7:Nat) (i8:Nat) (i9:Nat) (s1:AV) (O2:T AObj) (s2:AV) (O3:T AObj) (N1:Nat) (s3:AV) (O4:T AObj) (N2:Nat) (O5:T AObj) (O6:T AObj),(iX 67 sl j i1 i2 i3)∧(lR O N G i1 i2 i3 (.int .i64 z1))∧(lC O N G m 2 sn2)∧(lC O N G mk 0 sn)∧(iX 32 sn z1 i4 i5 i6)∧(lR O N G i4 i5 i6 (.str l1))∧(zf P (⟨O,N,G⟩) (32) (1) ([(0,.str l1)])=(some (.slc N 0 0 1 1,⟨O1,N+1,G⟩)))∧(lR O1 (N+1) G i4 i5 i6 (.str l1))∧(lC O1 (N+1) G mk 0 sn)∧(okD 300 sn=true)∧(lC O1 (N+1) G m 2 sn2)∧(okD 300 sn2=true)∧(lC O1 (N+1) G m 3 sa2)∧(iX 33 sa z1 i7 i8 i9)∧(lR O1 (N+1) G i7 i8 i9 s1)∧(zf P (⟨O1,N+1,G⟩) (33) (1) ([(0,s1)])=(some (.slc (N+1) 0 0 1 1,⟨O2,N+2,G⟩)))∧(lR O2 (N+2) G i7 i8 i9 s1)∧(okD 300 s1=true)∧(lC O2 (N+2) G m 3 sa2)∧(okD 300 sa2=true)∧(lR O2 (N+2) G i4 i5 i6 (.str l1))∧(lC O2 (N+2) G mk 0 sn)∧(okD 300 sn=true)∧(lC O2 (N+2) G m 2 sn2)∧(okD 300 sn2=true)∧(zg P (⟨O2,N+2,G⟩) (Builtin.append) ((some 32)) ((some 32)) ([sn2,.slc N 0 0 1 1])=(some (.val s2 ⟨O3,N1,G⟩)))∧(lR O3 N1 G i7 i8 i9 s1)∧(okD 300 s1=true)∧(lC O3 N1 G m 3 sa2)∧(okD 300 sa2=true)∧(zg P (⟨O3,N1,G⟩) (Builtin.append) ((some 33)) ((some 33)) ([sa2,.slc (N+1) 0 0 1 1])=(some (.val s3 ⟨O4,N2,G⟩)))∧(s2.cells.length.beq (1)=true∧zb (⟨O4,N2,G⟩:AHeap) m (0) (2) s2.cells=some (⟨O5,N2,G⟩:AHeap))∧(s3.cells.length.beq (1)=true∧zb (⟨O5,N2,G⟩:AHeap) m (0) (3) s3.cells=some (⟨O6,N2,G⟩:AHeap))∧K (Wrn sa n (IntKind.i64.wrap (j+(1:Int))) m mk sl rest O6 N2 G)))∧((decide (j<n))=false→((lC O N G m 2 sn2)∧K (AM.mk (enF 60 [sn2]) ((zn4 sn2 m)::rest) ⟨O,N,G⟩))))=OT f0 R keep K (.seq [.run 5] (.fork 45 (.ex fun i1:Nat=>(.ex fun i2:Nat=>(.ex fun i3:Nat=>(.ex fun z1:Int=>(.ex fun i4:Nat=>(.ex fun i5:Nat=>(.ex fun i6:Nat=>(.ex fun l1:List UInt8=>(.ex fun O1:T AObj=>(.ex fun i7:Nat=>(.ex fun i8:Nat=>(.ex fun i9:Nat=>(.ex fun s1:AV=>(.ex fun O2:T AObj=>(.ex fun s2:AV=>(.ex fun O3:T AObj=>(.ex fun N1:Nat=>(.ex fun s3:AV=>(.ex fun O4:T AObj=>(.ex fun N2:Nat=>(.ex fun O5:T AObj=>(.ex fun O6:T AObj=>(.seq [.run 6,.hopn (.ptr i1 i2 i3) O (N),.hop (.int .i64 z1) O,.run 8,.hop (sn2) O,.hop (sn) O,.run 1,.hopn (.ptr i4 i5 i6) O (N),.hop (.str l1) O,.hopn (.slc N 0 0 1 1) O1 (N+1),.run 3,.hop (sa2) O1,.run 2,.hopn (.ptr i7 i8 i9) O1 (N+1),.hop (s1) O1,.hopn (.slc (N+1) 0 0 1 1) O2 (N+2),.hopn (s2) O3 (N1),.hopn (s3) O4 (N2),.run 2,.hopn (.nilp) O5 (N2),.run 2,.hopn (.nilp) O6 (N2),.run 7,.keep [1,2,8,42,43,44]] .fin))))))))))))))))))))))) (.seq [.run 8,.hop (sn2) O,.keep [8,78],.run 1] .fin))) ((Wrn sa n j m mk sl rest O N G)):=by kernel_rfl
theorem zjI:((((!blq0))=true→(K (AM.mk (RF 22 85 (tX (tX tZ (tY (.int .i64 2))) (tX (tY .nilp) tZ)) [.code (cd P 60 [1,0,1,0,0,1,0,0,1,0,1]),.code (cd P (22:FuncId) [1,1,1,1,1,1,1,1])]) rest ⟨O,N,G⟩)))∧(((!blq0))=false→(K (AM.mk (enF 61 [.ptr m 0 0]) ((zey m)::rest) ⟨O,N,G⟩))))=OT f0 R keep K (.seq [.run 3] (.fork 80 (.seq [.run 7,.keep [4,5]] .fin) (.seq [.run 5,.keep [81],.run 1] .fin))) ((AM.mk (RF 60 20 (tX tZ (tY (.bool blq0))) td) ((zn4 sn2 m)::rest) ⟨O,N,G⟩)):=by kernel_rfl
theorem zcM:(K (AM.mk (RF 22 85 (tX (tX tZ (tY (.int .i64 crq1))) (tX (tY prq1) tZ)) [.code (cd P (60:FuncId) [1,0,1,0,0,1,0,0,1,0,1])]) rest ⟨O,N,G⟩))=OT f0 R keep K (.seq [.run 7,.keep [4,5]] .fin) ((AM.mk (RF 61 8 (tX (tX (tY (.int .i64 crq1)) tZ) (tY prq1)) td) ((zey m)::rest) ⟨O,N,G⟩)):=by kernel_rfl
theorem t_rcz:(∃ (O1:T AObj) (z1:Int) (z2:Int),((Nat.beq (1) sn.cells.length&&sn.cells.all AV.one)=true∧T.set (some (AObj.cells (zd T.leaf 0 sn.cells) sn.cells.length 32 0 0 1 0 false T.leaf)) (⟨O,N,G⟩:AHeap).objs N=O1)∧(lC O1 (N+1) G N 0 sn)∧(lN O1 (N+1) G 32 sn z1)∧(lN O1 (N+1) G 33 sa z2)∧(((z1 != z2))=true→(K (AM.mk (RF 22 85 (tX (tX tZ (tY (.int .i64 2))) (tX (tY .nilp) tZ)) [.code (cd P 22 [1,0,1,0,1]),.code (cd P 22 [1,1])]) rest ⟨O1,N+1,G⟩)))∧(((z1 != z2))=false→((lC O1 (N+1) G N 0 sn)∧K (AM.mk (enF 53 [sn,.fn (Fn.func 54) [] []]) ((zqe N sn sa)::rest) ⟨O1,N+1,G⟩))))=OT f0 R keep K (.ex fun O1:T AObj=>(.ex fun z1:Int=>(.ex fun z2:Int=>(.seq [.run 2,.hopn (.nilp) O1 (N),.run 6,.hop (sn) O1,.hopn (.int .i64 z1) O1 (N+1),.run 1,.hopn (.int .i64 z2) O1 (N+1),.run 2] (.fork 16 (.seq [.run 15,.keep [4,5]] .fin) (.seq [.hop (sn) O1,.keep [1,2,16,17],.run 1] .fin)))))) ((AM.mk (enF 22 [sn,sa]) rest ⟨O,N,G⟩)):=by kernel_rfl
theorem zkr:(((blq0)=true→(K (AM.mk (RF 22 85 (tX (tX tZ (tY (.int .i64 2))) (tX (tY .nilp) tZ)) [.code (cd P 53 [1,0,1,0,0,1,1,0,0,1,1,0,1]),.code (cd P (22:FuncId) [1,1])]) rest ⟨O,N,G⟩)))∧((blq0)=false→(K (AM.mk (enF 55 [sa,.fn (Fn.func 56) [] []]) ((zeQ sa Nc)::rest) ⟨O,N,G⟩))))=OT f0 R keep K (.seq [.run 3] (.fork 20 (.seq [.run 11,.keep [4,5]] .fin) (.seq [.run 1,.keep [1,2,20,21],.run 1] .fin))) ((AM.mk (RF 53 17 (tX tZ (tX (tY (.bool blq0)) tZ)) td) ((zqe Nc sn sa)::rest) ⟨O,N,G⟩)):=by kernel_rfl
theorem zcP:(((blq1)=true→(K (AM.mk (RF 22 85 (tX (tX tZ (tY (.int .i64 2))) (tX (tY .nilp) tZ)) [.code (cd P 55 [1,0,1,0,0,1,1,0,0,1,1,0,1]),.code (cd P (22:FuncId) [1,1])]) rest ⟨O,N,G⟩)))∧((blq1)=false→(∃ (s1:AV) (z1:Int) (s2:AV) (O1:T AObj) (z2:Int),(lC O N G Nc 0 s1)∧(lN O N G 32 s1 z1)∧(zN P (⟨O,N,G⟩) (67) (.int .i64 z1) (.int .i64 z1)=(some (s2,⟨O1,N+1,G⟩)))∧(lN O1 (N+1) G 67 s2 z2)∧K (Wra sa z2 0 Nc s2 rest O1 (N+1) G))))=OT f0 R keep K (.seq [.run 3] (.fork 23 (.seq [.run 7,.keep [4,5]] .fin) (.ex fun s1:AV=>(.ex fun z1:Int=>(.ex fun s2:AV=>(.ex fun O1:T AObj=>(.ex fun z2:Int=>(.seq [.run 4,.hop (s1) O,.hopn (.int .i64 z1) O (N),.hopn (s2) O1 (N+1),.run 6,.hopn (.int .i64 z2) O1 (N+1),.run 4,.keep [1,2,6,28,29]] .fin)))))))) ((AM.mk (RF 55 17 (tX tZ (tX (tY (.bool blq1)) tZ)) td) ((zeQ sa Nc)::rest) ⟨O,N,G⟩)):=by kernel_rfl
theorem zih:(∃ (O1:T AObj) (z1:Int),(T.set ((some (.cells (tW (tW (tY (.nils 0 0)) (.str []) tZ) (.int .i64 7) (tW (tY .nilp) (.nils 0 0) tZ)) 5 44 0 0 1 0 false .leaf))) (O) (N)=O1)∧(lN O1 (N+1) G 67 sl z1)∧K (Wrn sa z1 0 N mk sl rest O1 (N+1) G))=OT f0 R keep K (.ex fun O1:T AObj=>(.ex fun z1:Int=>(.seq [.run 5,.hop (.nilp) O1,.run 6,.hopn (.int .i64 z1) O1 (N+1),.run 4,.keep [1,2,8,42,43,44]] .fin))) ((AM.mk (RF 57 14 .leaf td) ((zji sa mk sl)::rest) ⟨O,N,G⟩)):=by kernel_rfl
end
variable {O O':T AObj} {N:Nat} {G:T (T AV)}
theorem zqn:∀ n,z8 [.int .i64 0] n=(List.replicate n 0).map kE
 | 0=>rfl
 | n+1=>by
  show [AV.int .i64 0]++z8 _ n=_
  rw [zqn n,List.replicate_succ]
  rfl
theorem zpl {n:Nat}(h:n≤1000)(O:T AObj)(N:Nat)(G:T (T AV)):∃ O1,zN P ⟨O,N,G⟩ 67 (.int .i64 ((n:Nat):Int)) (.int .i64 ((n:Nat):Int))=some (.slc N 0 0 n n,⟨O1,N+1,G⟩)∧Obj O1 N ((List.replicate n 0).map kE)∧Frm O O1 N:=by
 obtain ⟨i,h1,h2,h3⟩:=iSl.info
 have hz:qc P 3=some (.int .i64 0):=by kernel_rfl
 obtain ⟨O1,e1,b1,f1⟩:=Obj.mk (c:=zd .leaf 0 ((List.replicate n 0).map kE)) (el:=3) ((List.replicate n 0).map kE) O N _ rfl (fun k hk=>by rw [zj,if_pos ⟨Nat.zero_le _,by omega⟩,Nat.sub_zero,List.getD_eq_getElem?_getD,List.getElem?_eq_getElem hk]; rfl)
 refine ⟨O1,?_,b1,f1⟩
 unfold zN
 rw [iSl.und]
 show yA P _ 3 _ _=_
 unfold yA
 rw [h1,hz]
 show (if 0≤((n:Nat):Int)∧((n:Nat):Int)≤((n:Nat):Int)∧((n:Nat):Int)<2 ^ 40∧i.bytes*((n:Nat):Int)≤2 ^ 48∧(AV.int .i64 0).cells.length=i.size∧0<i.size∧(AV.int .i64 0).cells.all AV.one=true then _ else _)=_
 rw [if_pos ⟨by omega,by omega,by omega,by rw [h3]; omega,by rw [h2]; rfl,by rw [h2]; decide,rfl⟩]
 show some (AV.slc N 0 0 n n,xz ⟨O,N,G⟩ 3 (z8 [.int .i64 0] n) false)=_
 rw [zqn,← e1]
 rfl
theorem zn7 {id n mk:Nat}{sa:AV}(hn1:n<1000){keep:Nat}{f0:FuncId}{Q:AV→AHeap→Prop}{rest:List AFrame}(hK:∀ O3,(∀ j,j≠id→O3.get j=O.get j)→Obj O3 id ((List.range n).map kE)→Goal P keep f0 Q (AM.mk (enF 57 [(.slc id 0 0 n n),.fn (Fn.func 58) [] [.ptr mk 0 0]]) (zji sa mk (.slc id 0 0 n n)::rest) ⟨O3,N,G⟩)):∀ (c i:Nat) (O2:T AObj),i+c=n→(∀ j,j≠id→O2.get j=O.get j)→Obj O2 id ((List.range i++List.replicate c 0).map kE)→Goal P keep f0 Q (Wra sa ((n:Nat):Int) ((i:Nat):Int) mk (.slc id 0 0 n n) rest O2 N G):=by
 intro c
 induction c with
 | zero =>
  intro i O2 hi' f2 b2
  refine ot znB (fkf (decide_eq_false (by omega)) ?_)
  rw [List.replicate_zero,List.append_nil] at b2
  obtain rfl:i=n:=by omega
  exact hK O2 f2 b2
 | succ c ih =>
  intro i O2 hi' f2 b2
  obtain ⟨O3,e3,b3,f3⟩:=st67 i b2 (j:=i) (by rw [List.length_append,List.length_range,List.length_replicate]; omega) N G
  have hset:(List.range i++List.replicate (c+1) 0).set i i=List.range (i+1)++List.replicate c 0:=by
   rw [List.set_append_right _ _ (by rw [List.length_range]; omega),List.length_range,Nat.sub_self,List.replicate_succ,List.set_cons_zero,List.range_succ,List.append_assoc]
   rfl
  rw [hset] at b3
  refine ot znB (fkt (decide_eq_true (by omega)) ?_)
  refine ⟨id,0,i,O3,zlL (by omega),e3,?_⟩
  have nx:=ih (i+1) O3 (by omega) (fun j hj=>(f3 j hj).trans (f2 j hj)) b3
  rw [← zG (i:=i) (by omega)] at nx
  exact nx
end Go.Proofs.Ytcdigdplhlgcaaa.gx
end
section
set_option maxRecDepth 100000
set_option linter.unusedVariables false
set_option linter.unusedSectionVars false
set_option linter.unusedSimpArgs false
namespace Go.Proofs.Ytcdigdplhlgcaaa.gx
open Go Ev tp
variable {O O':T AObj} {N:Nat} {G:T (T AV)}
theorem zp9 {ps:List (Option Nat)}{k:Nat}(h:k<ps.length):ps[k]?=some (ps.getD k none):=by
 rw [List.getD_eq_getElem?_getD,List.getElem?_eq_getElem h]; rfl
theorem zgD {α β:Type}{f:α→β}{l:List α}{i:Nat}{k:α}(h:l[i]?=some k):(l.take (i+1)).map f=(l.take i).map f++[f k]:=by
 rw [List.take_add_one,h,List.map_append]; rfl
theorem zp0 {ns:List zi}{ps:List (Option Nat)}{sn sa:AV}{hi mk id m n:Nat}{l:List Nat}(hn:SV O 1 sE 0 hi ns sn)(hs:SV O 1 pE 0 hi ps sa)(ob:Obj O mk [sn])(hr:Obj O id (l.map kE))(hll:l.length=n)(hn1:n<1000)(hb:∀ k∈l,k<ns.length)(hps:ps.length=ns.length)(hm:m<N)(hmk:mk<N)(hid:id<N)(hmm:mk≠m)(hidm:id≠m)(hhi:hi≤m){keep:Nat}{f0:FuncId}{Q:AV→AHeap→Prop}{rest:List AFrame}
 (hK:∀ O' N' s2 s3,N≤N'→(∀ j,j<N→j≠m→O'.get j=O.get j)→Obj O' m [.int .i64 7,.str [],s2,s3,.nilp]→GV O' 9 1 sE N N' (l.map fun k=>ns.getD k []) s2→GV O' 23 1 pE N N' (l.map fun k=>ps.getD k none) s3→Goal P keep f0 Q (AM.mk (enF 60 [s2]) (zn4 s2 m::rest) ⟨O',N',G⟩)) :
 ∀ (c i:Nat) (O2:T AObj) (N2:Nat) (s2 s3:AV),i+c=n→N≤N2→(∀ j,j<N→j≠m→O2.get j=O.get j)→Obj O2 m [.int .i64 7,.str [],s2,s3,.nilp]→GV O2 9 1 sE N N2 ((l.take i).map fun k=>ns.getD k []) s2→GV O2 23 1 pE N N2 ((l.take i).map fun k=>ps.getD k none) s3→(s2≠.nils 0 0→s3≠.nils 0 0→sid s2≠sid s3)→Goal P keep f0 Q (Wrn sa ((n:Nat):Int) ((i:Nat):Int) m mk (.slc id 0 0 n n) rest O2 N2 G):=by
 intro c
 induction c with
 | zero =>
  intro i O2 N2 s2 s3 hi' hN2 f2 om gs gp hd
  rw [List.take_of_length_le (by omega)] at gs gp
  exact ot (zpV (sn:=sn) (sn2:=s2) (sa2:=s3)) (fkf (decide_eq_false (by omega)) ⟨om.ld 2 rfl,hK O2 N2 s2 s3 hN2 f2 om gs gp⟩)
 | succ c ih =>
  intro i O2 N2 s2 s3 hi' hN2 f2 om gs gp hd
  obtain ⟨k,hk,hmem⟩:=nth (l:=l) (j:=i) (by omega)
  have hkn:=hb k hmem
  have hx:=zog hkn
  have hy:=zp9 (ps:=ps) (k:=k) (by omega)
  have hn2:=hn.keep (O':=O2) (fun j _ hj=>f2 j (by omega) (by omega)) (Nat.le_refl 0) (Nat.le_refl hi)
  have hs2:=hs.keep (O':=O2) (fun j _ hj=>f2 j (by omega) (by omega)) (Nat.le_refl 0) (Nat.le_refl hi)
  have ob2:=ob.same (f2 mk hmk hmm)
  have hr2:=hr.same (f2 id hid hidm)
  obtain ⟨a1,a2,a3,la,ha,ea,ra,_⟩:=hn2.at sSl sEn hx
  obtain ⟨c1,c2,c3,lc,hc,ec,rc,_⟩:=hs2.at pSl pEn hy
  obtain ⟨O3,e3,v3,_,f3⟩:=zaW sEn (ns.getD k []) O2 N2 G (st:=32) (el:=9) (litS _)
  obtain ⟨O4,e4,v4,_,f4⟩:=zaW pEn (ps.getD k none) O3 (N2+1) G (st:=33) (el:=23) (zpw _)
  have g2:=gs.keep (O':=O4) (fun j h1 h2=>(f4 j (by omega)).trans (f3 j (by omega))) (Nat.le_refl _) (show N2≤N2+2 by omega)
  have g3:=gp.keep (O':=O4) (fun j h1 h2=>(f4 j (by omega)).trans (f3 j (by omega))) (Nat.le_refl _) (show N2≤N2+2 by omega)
  obtain ⟨O5,N3,s4,e5,g5,n5,m5,f5,h5⟩:=g2.app sSl sEn (v3.keep (O':=O4) (fun j h1 h2=>f4 j (by omega)) (Nat.le_refl _) (Nat.le_refl _)) (by omega) (by rw [List.length_map,List.length_take]; simp only [List.length_cons,List.length_nil]; omega) G
  have g3b:=g3.same (O':=O5) (fun h=>f5 _ (g3.sid_lt h).2 (fun h2 h3=>hd h2 h h3.symm)) (Nat.le_refl _) n5
  obtain ⟨O6,N4,s5,e6,g6,n6,m6,f6,h6⟩:=g3b.app pSl pEn (v4.keep (O':=O5) (fun j h1 h2=>f5 j (by omega) (fun h=>by have:=(gs.sid_lt h).2; omega)) (Nat.le_refl _) (Nat.le_refl _)) (by omega) (by rw [List.length_map,List.length_take]; simp only [List.length_cons,List.length_nil]; omega) G
  have g5b:=g5.same (O':=O6) (fun h=>f6 _ (g5.sid_lt h).2 (fun h3 h4=>by
   have:=(gp.sid_lt h3).2
   rcases h5 with h5 | h5 | ⟨h5,h7⟩
   · exact h h5
   · omega
   · exact hd h5 h3 (by omega))) (Nat.le_refl _) n6
  have om3:=om.same (f3 m (by omega))
  have om4:=om3.same (f4 m (by omega))
  have om5:=om4.same (f5 m (by omega) (fun h=>by have:=(gs.sid_lt h).1; omega))
  have om6:=om5.same (f6 m (by omega) (fun h=>by have:=(gp.sid_lt h).1; omega))
  have ob3:=ob2.same (f3 mk (by omega))
  have ob4:=ob3.same (f4 mk (by omega))
  have ra3:=ra.same (f3 a1 (by omega))
  have ra4:=ra3.same (f4 a1 (by omega))
  have rc3:=rc.same (f3 c1 (by omega))
  have rc4:=rc3.same (f4 c1 (by omega))
  have rc5:=rc4.same (f5 c1 (by omega) (fun h=>by have:=(gs.sid_lt h).1; omega))
  obtain ⟨O7,e7,b7,f7⟩:=om6.store 2 [s4] N4 G (Nat.le_of_ble_eq_true rfl) (by rw [List.all_cons,(g5.sv sEn).one]; rfl)
  obtain ⟨O8,e8,b8,f8⟩:=Obj.store (l:=[.int .i64 7,.str [],s4,s3,.nilp]) b7 3 [s5] N4 G (Nat.le_of_ble_eq_true rfl) (by rw [List.all_cons,(g6.sv pEn).one]; rfl)
  refine ot (zpV (sn:=sn) (sn2:=s2) (sa2:=s3)) (fkt (decide_eq_true (by omega)) ?_)
  refine ⟨id,0,i,_,a1,a2,a3,_,O3,c1,c2,c3,pv (ps.getD k none),O4,s4,O5,N3,s5,O6,N4,O7,O8,zlL (by omega),zpf hr2 hk _ _,om.ld 2 rfl,ob2.ld 0 rfl,ea,ra.load rfl _ _,e3,ra3.load rfl _ _,ob3.ld 0 rfl,yU hn,om3.ld 2 rfl,yU (gs.sv sEn),om3.ld 3 rfl,ec,rc3.load rfl _ _,e4,rc4.load rfl _ _,zaS _,om4.ld 3 rfl,yU (gp.sv pEn),ra4.load rfl _ _,ob4.ld 0 rfl,yU hn,om4.ld 2 rfl,yU (gs.sv sEn),e5,rc5.load rfl _ _,zaS _,om5.ld 3 rfl,yU (gp.sv pEn),e6,st1 (g5.sv sEn).cells e7,st1 (g6.sv pEn).cells e8,?_⟩
  have nx:=ih (i+1) O8 N4 s4 s5 (by omega) (by omega) (fun j hj hjm=>(f8 j hjm).trans ((f7 j hjm).trans ((f6 j (by omega) (fun h=>by have:=(gp.sid_lt h).1; omega)).trans ((f5 j (by omega) (fun h=>by have:=(gs.sid_lt h).1; omega)).trans ((f4 j (by omega)).trans ((f3 j (by omega)).trans (f2 j hj hjm))))))) b8
   (by rw [zgD hk]; exact g5b.same (fun h=>(f8 _ (by have:=(g5.sid_lt h).1; omega)).trans (f7 _ (by have:=(g5.sid_lt h).1; omega))) (Nat.le_refl _) (Nat.le_refl _))
   (by rw [zgD hk]; exact g6.same (fun h=>(f8 _ (by have:=(g6.sid_lt h).1; omega)).trans (f7 _ (by have:=(g6.sid_lt h).1; omega))) (Nat.le_refl _) (Nat.le_refl _))
   (fun h2 h3=>by
    have q5:=(g5.sid_lt h2).2
    rcases h5 with h5 | h5 | ⟨h5,h7⟩
    · exact absurd h5 h2
    · rcases h6 with h6 | h6 | ⟨h6,h8⟩
      · exact absurd h6 h3
      · omega
      · have:=(gp.sid_lt h6).2; omega
    · have q2:=(gs.sid_lt h5).2
      rcases h6 with h6 | h6 | ⟨h6,h8⟩
      · exact absurd h6 h3
      · omega
      · have:=hd h5 h6; omega)
  rw [← zG (i:=i) (by omega)] at nx
  exact nx
end Go.Proofs.Ytcdigdplhlgcaaa.gx
end
section
set_option maxRecDepth 100000
set_option linter.unusedVariables false
set_option linter.unusedSectionVars false
set_option linter.unusedSimpArgs false
namespace Go.Proofs.Ytcdigdplhlgcaaa.gx
open Go Ev tp
variable {O O':T AObj} {N:Nat} {G:T (T AV)}
theorem box1 {t:TypeId}{s:AV}(hs:s.cells=[s])(h1:AV.one s=true)(O:T AObj)(N:Nat):∃ O',((Nat.beq 1 s.cells.length&&s.cells.all AV.one)=true∧T.set (some (AObj.cells (zd T.leaf 0 s.cells) s.cells.length t 0 0 1 0 false T.leaf)) O N=O')∧Obj O' N [s]∧Frm O O' N:=by
 rw [hs]
 obtain ⟨O',e,b,f⟩:=Obj.mk (c:=zd .leaf 0 [s]) (el:=t) [s] O N 1 rfl (fun k hk=>by rcases k with _ | k; rfl; omega)
 exact ⟨O',⟨by rw [List.all_cons,h1]; rfl,e⟩,b,f⟩
theorem zgn {ns:List zi}{ts:List Ty}{ps:List (Option Nat)}{sn sa:AV}{hi:Nat}(hn:SV O 1 sE 0 hi ns sn)(hs:SV O 1 pE 0 hi ps sa)(hl:ps.length=ts.length)(hm:ts.length<1000000)(h12:ns.length=ts.length→ns.length≤12)(ht:∀ (j:Nat) (x:Ty) (p:Option Nat),ts[j]?=some x→ps[j]?=some p→Tr O hi x p)(hN:hi≤N){keep:Nat}{f0:FuncId}{Q:AV→AHeap→Prop}{rest:List AFrame}
 (hK:∀ O' N' td p',Ext O N O' N'→Tr O' N' (y8 ns ts).2 p'→Goal P keep f0 Q (AM.mk (RF 22 85 (tX (tX tZ (tY (.int .i64 (y8 ns ts).1))) (tX (tY (pv p')) tZ)) td) rest ⟨O',N',G⟩)):Goal P keep f0 Q (AM.mk (enF 22 [sn,sa]) rest ⟨O,N,G⟩):=by
 have bad:y8 ns ts=(2,.no)→∀ O' N' td,Ext O N O' N'→Goal P keep f0 Q (AM.mk (RF 22 85 (tX (tX tZ (tY (.int .i64 2))) (tX (tY .nilp) tZ)) td) rest ⟨O',N',G⟩):=fun e O' N' td ex=>by
  have:=hK O' N' td none ex (by rw [e]; exact Tr.no)
  rw [e] at this
  exact this
 obtain ⟨O1,eb,b1,f1⟩:=box1 (t:=32) hn.cells hn.one O N
 have x1:Ext O N O1 (N+1):=⟨Nat.le_succ N,fun j hj=>f1 j (by omega)⟩
 have hn1:=hn.keep (O':=O1) (fun j _ hj=>x1.2 j (by omega)) (Nat.le_refl 0) (Nat.le_refl hi)
 have hs1:=hs.keep (O':=O1) (fun j _ hj=>x1.2 j (by omega)) (Nat.le_refl 0) (Nat.le_refl hi)
 refine ot t_rcz ⟨O1,_,_,eb,b1.ld 0 rfl,hn1.len sSl _ _,hs1.len pSl _ _,fun hc=>?_,fun hc=>?_⟩
 · exact bad (zdb (.inl fun h=>by have:=bne_iff_ne.1 hc; omega)) _ _ _ x1
 have hlen:ns.length=ts.length:=by
  have:((ns.length:Nat):Int)=((ps.length:Nat):Int):=by simpa using hc
  omega
 have hn12:=h12 hlen
 refine ⟨b1.ld 0 rfl,?_⟩
 refine zmH hn1 (by omega) (by omega) fun O2 N2 td2 x2=>?_
 refine ot zkr ⟨fun hc=>bad (zdb (.inr (.inl hc))) _ _ _ (x1.trans x2),fun hf=>?_⟩
 have x12:=x1.trans x2
 have hn2:=hn.keep (O':=O2) (fun j _ hj=>x12.2 j (by omega)) (Nat.le_refl 0) (Nat.le_refl hi)
 have hs2:=hs.keep (O':=O2) (fun j _ hj=>x12.2 j (by omega)) (Nat.le_refl 0) (Nat.le_refl hi)
 refine zqy hs2 hl hm (fun j x p a b=>(ht j x p a b).ext x12 hN) (by have:=x12.1; omega) fun O3 N3 td3 x3=>?_
 have x13:=x12.trans x3
 refine ot zcP ⟨fun hc=>bad (zdb (.inr (.inr hc))) _ _ _ x13,fun hcm=>?_⟩
 have n3:N+1≤N3:=Nat.le_trans x2.1 x3.1
 have hn3:=hn.keep (O':=O3) (fun j _ hj=>x13.2 j (by omega)) (Nat.le_refl 0) (Nat.le_refl hi)
 have hs3:=hs.keep (O':=O3) (fun j _ hj=>x13.2 j (by omega)) (Nat.le_refl 0) (Nat.le_refl hi)
 have b3:=(b1.same (x2.2 N (by omega))).same (x3.2 N (by have:=x2.1; omega))
 obtain ⟨O4,e4,b4,f4⟩:=zpl (n:=ns.length) (by omega) O3 N3 G
 refine ⟨sn,_,_,O4,_,b3.ld 0 rfl,hn3.len sSl _ _,e4,znJ _ _,?_⟩
 have hn4:=hn3.keep (O':=O4) (fun j _ hj=>f4 j (by omega)) (Nat.le_refl 0) (Nat.le_refl hi)
 have hs4:=hs3.keep (O':=O4) (fun j _ hj=>f4 j (by omega)) (Nat.le_refl 0) (Nat.le_refl hi)
 have b4m:=b3.same (f4 N (by omega))
 refine zn7 (O:=O4) (id:=N3) (n:=ns.length) (mk:=N) (by omega) (fun O5 f5 b5=>?_) ns.length 0 O4 (Nat.zero_add _) (fun _ _=>rfl) (by rw [List.range_zero,List.nil_append]; exact b4)
 have hn5:=hn4.keep (O':=O5) (fun j _ hj=>f5 j (by omega)) (Nat.le_refl 0) (Nat.le_refl hi)
 have hs5:=hs4.keep (O':=O5) (fun j _ hj=>f5 j (by omega)) (Nat.le_refl 0) (Nat.le_refl hi)
 have b5m:=b4m.same (f5 N (by omega))
 refine zo6 (O:=O5) (id:=N3) hn5 b5m (by omega) (by omega) (fun k hk=>List.mem_range.1 hk) b5 List.length_range hn12 fun O6 l td6 f6 b6 p6 s6=>?_
 have hn6:=hn5.keep (O':=O6) (fun j _ hj=>f6 j (by omega)) (Nat.le_refl 0) (Nat.le_refl hi)
 have hs6:=hs5.keep (O':=O6) (fun j _ hj=>f6 j (by omega)) (Nat.le_refl 0) (Nat.le_refl hi)
 have b6m:=b5m.same (f6 N (by omega))
 have ll:l.length=ns.length:=by rw [p6.length_eq,List.length_range]
 have lm:∀ k∈l,k<ns.length:=fun k hk=>List.mem_range.1 (p6.mem_iff.1 hk)
 obtain ⟨O7,e7,b7,f7⟩:=Obj.mk (c:=(tW (tW (tY (.nils 0 0)) (.str []) tZ) (.int .i64 7) (tW (tY .nilp) (.nils 0 0) tZ))) (el:=44) [.int .i64 7,.str [],.nils 0 0,.nils 0 0,.nilp] O6 (N3+1) 5 rfl (fun k hk=>by rcases k with _ | _ | _ | _ | _ | k <;> first | rfl | omega)
 refine ot zih ⟨O7,_,e7,znJ _ _,?_⟩
 have hn7:=hn6.keep (O':=O7) (fun j _ hj=>f7 j (by omega)) (Nat.le_refl 0) (Nat.le_refl hi)
 have hs7:=hs6.keep (O':=O7) (fun j _ hj=>f7 j (by omega)) (Nat.le_refl 0) (Nat.le_refl hi)
 have x7:Ext O N O7 (N3+2):=⟨by omega,fun j hj=>(f7 j (by omega)).trans ((f6 j (by omega)).trans ((f5 j (by omega)).trans ((f4 j (by omega)).trans (x13.2 j hj))))⟩
 have hcm':ts.all (fun x=>chk x==0)=true:=by rw [List.all_eq_not_any_not,hcm]; rfl
 have re:=zqw hlen hcm' hf p6 s6
 refine zp0 (O:=O7) (id:=N3) (l:=l) (m:=N3+1) (mk:=N) (n:=ns.length) hn7 hs7 (b6m.same (f7 N (by omega))) (b6.same (f7 N3 (by omega))) ll (by omega) lm (by omega) (by omega) (by omega) (by omega) (by omega) (by omega) (by omega) (fun O8 N8 s2 s3 n8 f8 b8 gs gp=>?_) ns.length 0 O7 (N3+2) (.nils 0 0) (.nils 0 0) (Nat.zero_add _) (Nat.le_refl _) (fun _ _ _=>rfl) b7 GV.nil GV.nil (fun h=>absurd rfl h)
 have x8:Ext O N O8 N8:=⟨by omega,fun j hj=>(f8 j (by omega) (by omega)).trans (x7.2 j hj)⟩
 refine zk6 (gs.sv sEn) (by rw [List.length_map]; omega) fun td8=>?_
 refine ot zjI ⟨fun hc=>?_,fun hc=>?_⟩
 · refine bad ?_ _ _ _ x8
   rw [re,if_neg]
   intro h
   rw [h] at hc
   cases hc
 have hris:wP (l.map fun k=>ns.getD k [])=true:=by
  cases h:wP (l.map fun k=>ns.getD k []) with
  | true=>rfl
  | false=>rw [h] at hc; cases hc
 rw [if_pos hris] at re
 refine zmf (t:=.mk 7 [] (l.map fun k=>ns.getD k []) (l.map fun k=>ts.getD k .no) .no) (p:=some (N3+1)) (hi:=N8) (Tr.mk (q:=none) (by omega) b8 ((gs.sv sEn).keep (fun _ _ _=>rfl) (Nat.zero_le _) (Nat.le_refl _)) ((gp.sv pEn).keep (fun _ _ _=>rfl) (Nat.zero_le _) (Nat.le_refl _)) (by rw [List.length_map,List.length_map]) (by rw [List.length_map]; omega) (by rw [List.length_map]; omega) (fun j x p a b=>?_) Tr.no) (Nat.le_refl _) fun O9 N9 td9 p' x9 t9=>?_
 · rw [List.getElem?_map] at a b
   cases hj:l[j]? with
   | none=>rw [hj] at a; cases a
   | some k =>
    rw [hj,Option.map_some] at a b
    cases a
    cases b
    have hk:=lm k (List.mem_of_getElem? hj)
    exact (ht k _ _ (by rw [List.getD_eq_getElem?_getD,List.getElem?_eq_getElem (by omega)]; rfl) (zp9 (by omega))).ext x8 hN |>.same (O':=O8) (fun _ _=>rfl) (show hi≤N8 from Nat.le_trans hN x8.1)
 · refine ot zcM ?_
   rw [re] at hK
   exact hK O9 N9 _ p' (x8.trans x9) t9
end Go.Proofs.Ytcdigdplhlgcaaa.gx
end
section
set_option maxRecDepth 100000
set_option linter.unusedVariables false
set_option linter.unusedSimpArgs false
namespace Go.Proofs.Ytcdigdplhlgcaaa.tp
open Go
theorem zll {α:Type}{p:α→Bool}{l m:List α}(h:l.Perm m):l.all p=m.all p:=by
 refine Bool.eq_iff_iff.2 ?_
 rw [List.all_eq_true,List.all_eq_true]
 exact ⟨fun g x hx=>g x (h.mem_iff.2 hx),fun g x hx=>g x (h.mem_iff.1 hx)⟩
theorem zdc {ns:List zi}{ts:List Ty}{r:List zi × List Ty}(hl:ns.length=ts.length)(h:zcT ns ts [] []=some r):(∀ n∈ns,ze n=true)∧Up r.1∧r.1.length=r.2.length∧(r.1.zip r.2).Perm (ns.zip ts):=by
 obtain ⟨ys,vs⟩:=r
 obtain ⟨h1,h2,h3⟩:=ki hl rfl List.Pairwise.nil h
 rw [List.zip_nil_left,List.append_nil] at h3
 refine ⟨fun n hn=>?_,h1,h2,h3⟩
 cases hf:ze n with
 | true=>rfl
 | false =>
  have:zcT ns ts [] []=none:=zcO hl (List.any_eq_true.2 ⟨n,hn,by rw [hf]; rfl⟩)
  rw [this] at h
  cases h
theorem ziF {xs ys:List zi}{us vs:List Ty}(h1:xs.length=us.length)(h2:ys.length=vs.length)(p1:xs.Perm ys)(h:zcT xs us [] []=none):zcT ys vs [] []=none:=by
 cases hs:zcT ys vs [] [] with
 | none=>rfl
 | some r =>
  obtain ⟨g1,g2,g3,g4⟩:=zdc h2 hs
  have py:r.1.Perm ys:=by
   have:=g4.map Prod.fst
   rwa [xf g3,xf h2] at this
  refine absurd ?_ (za2 h1 h fun n hn=>g1 n (p1.mem_iff.1 hn))
  rw [List.append_nil]
  exact (p1.trans py.symm).nodup_iff.2 g2.nodup
theorem ziU {xs ys:List zi}{us vs:List Ty}(h1:xs.length=us.length)(h2:ys.length=vs.length)(hp:(xs.zip us).Perm (ys.zip vs)):y8 xs us=y8 ys vs:=by
 have p1:xs.Perm ys:=by
  have:=hp.map Prod.fst
  rwa [xf h1,xf h2] at this
 have p2:us.Perm vs:=by
  have:=hp.map Prod.snd
  rwa [qw h1,qw h2] at this
 unfold y8
 rw [zll p2]
 by_cases hc:vs.all (fun x=>chk x==0)=true
 · rw [if_pos ⟨h1,hc⟩,if_pos ⟨h2,hc⟩]
   cases hr:zcT xs us [] [] with
   | none=>rw [ziF h1 h2 p1 hr]
   | some r =>
    cases hs:zcT ys vs [] [] with
    | none =>
     rw [ziF h2 h1 p1.symm hs] at hr
     cases hr
    | some q =>
     obtain ⟨_,g2,g3,g4⟩:=zdc h1 hr
     obtain ⟨_,k2,k3,k4⟩:=zdc h2 hs
     have e:r.1.zip r.2=q.1.zip q.2:=by
      refine zfZ (f:=Prod.fst) ((g4.trans hp).trans k4.symm) (zbz.1 ?_) (zbz.1 ?_) (wi ?_)
      · rw [xf g3]; exact g2.srt
      · rw [xf k3]; exact k2.srt
      · rw [xf g3]; exact g2.nodup
     have e1:=congrArg (List.map Prod.fst) e
     have e2:=congrArg (List.map Prod.snd) e
     rw [xf g3,xf k3] at e1
     rw [qw g3,qw k3] at e2
     rw [Prod.ext e1 e2]
 · rw [if_neg fun h=>hc h.2,if_neg fun h=>hc h.2]
theorem zlZ {a b:List zi}{c d:List Ty}(h1:a.length=c.length)(h2:b.length=d.length):y8 (b++a) (d++c)=y8 (a++b) (c++d):=by
 refine ziU (by rw [List.length_append,List.length_append,h1,h2]) (by rw [List.length_append,List.length_append,h1,h2]) ?_
 rw [List.zip_append h2,List.zip_append h1]
 exact List.perm_append_comm
theorem zd2 {ns:List zi}{ts:List Ty}(h:(y8 ns ts).1=0):chk (y8 ns ts).2=0∧∃ xs us,(y8 ns ts).2=.mk 7 [] xs us .no∧xs.length=ns.length:=by
 unfold y8 at h ⊢
 split at h
 · rename_i hc
   rw [if_pos hc]
   split at h
   · cases h
   · rename_i xs us hr
     obtain ⟨g1,g2,g3,g4⟩:=zdc hc.1 hr
     have px:xs.Perm ns:=by
      have:=g4.map Prod.fst
      rwa [xf g3,xf hc.1] at this
     have pu:us.Perm ts:=by
      have:=g4.map Prod.snd
      rwa [qw g3,qw hc.1] at this
     unfold zbT at h ⊢
     split at h
     · cases h
     · rename_i hs
       rw [if_neg hs]
       have g3':xs.length=us.length:=g3
       have ok:okT (.mk 7 [] xs us .no)=true:=by
        rw [zeC,jz]
        have a1:own 7 [] xs us .no=true:=rfl
        have a2:us.all okT=true:=List.all_eq_true.2 fun x hx=>(chk_ok (by simpa using List.all_eq_true.1 hc.2 x (pu.mem_iff.1 hx))).1
        have a3:okK 7 [] xs us=true:=by
         show (decide (xs.length=us.length)&&xs.all ze&&wP xs)=true
         rw [decide_eq_true g3',List.all_eq_true.2 fun n hn=>g1 n (px.mem_iff.1 hn),zdk g2.srt g2.nodup]
         rfl
        rw [a1,a2,a3]
        rfl
       refine ⟨?_,xs,us,rfl,px.length_eq⟩
       unfold chk
       rw [if_neg (by intro h; cases h),if_neg hs,if_pos ok]
 · cases h
end Go.Proofs.Ytcdigdplhlgcaaa.tp
end
