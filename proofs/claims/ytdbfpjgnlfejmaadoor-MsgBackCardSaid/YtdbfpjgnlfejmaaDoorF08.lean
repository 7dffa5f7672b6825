import Derived.Test.YtdbfpjgnlfejmaaDoorF00
import Derived.Test.YtdbfpjgnlfejmaaDoorF01
import Derived.Test.YtdbfpjgnlfejmaaDoorF02
import Derived.Test.YtdbfpjgnlfejmaaDoorF03
import Derived.Test.YtdbfpjgnlfejmaaDoorF04
import Derived.Test.YtdbfpjgnlfejmaaDoorF05
import Derived.Test.YtdbfpjgnlfejmaaDoorF06
import Derived.Test.YtdbfpjgnlfejmaaDoorF07
section
set_option maxRecDepth 100000
set_option linter.unusedVariables false
namespace Go.Proofs.YtdbfpjgnlfejmaaDoor.mq
open Go Ev
theorem enY (R:AV→Prop)(k e:Int)(a b c:List UInt8)(G:T (T AV))(_K:AM→Prop):Obl P 33 (fun v _=>R v) 0 _K [.run 11,.callv [0] (.int .i64 e),.run 7,.know 11 true,.run 8,.done] ((zb P 33 [.agg [.int .i64 k,.str a,.str b,.str c]] G))=((Goal P 0 64 (fun x x_1=>x=AV.int .i64 e) (zb P 64 [.agg [.int .i64 k,.str a,.str b,.str c]] G))∧((e != (0:Int))=true)∧(R (.tup [.str [],.int .i64 e]))):=by kernel_rfl
theorem enS (R:AV→Prop)(k e:Int)(a b c s0 s1 s2 s3:List UInt8)(G:T (T AV))(_K:AM→Prop):Obl P 33 (fun v _=>R v) 0 _K [.run 11,.callv [0] (.int .i64 e),.run 7,.know 11 false,.run 8,.callv [0,1] (.str s0),.run 47,.callv [0,1] (.str s1),.run 26,.callv [0,1] (.str s2),.run 26,.callv [0,1] (.str s3),.run 22,.done] ((zb P 33 [.agg [.int .i64 k,.str a,.str b,.str c]] G))=((Goal P 0 64 (fun x x_1=>x=AV.int .i64 e) (zb P 64 [.agg [.int .i64 k,.str a,.str b,.str c]] G))∧((e != (0:Int))=false)∧(Goal P 0 48 (fun x x_1=>x=AV.str s0) (zb P 48 [.str [],.int .u64 (IntKind.u64.wrap k)] G))∧(Goal P 0 49 (fun x x_1=>x=AV.str s1) (zb P 49 [.str s0,.str a] G))∧(Goal P 0 49 (fun x x_1=>x=AV.str s2) (zb P 49 [.str s1,.str b] G))∧(Goal P 0 49 (fun x x_1=>x=AV.str s3) (zb P 49 [.str s2,.str c] G))∧(R (.tup [.str s3,.int .i64 0]))):=by kernel_rfl
def lay (k:Int) (a b c:List UInt8):List UInt8 :=
 []++row (IntKind.u64.wrap k)++row (IntKind.u64.wrap a.length)++a++row (IntKind.u64.wrap b.length)++b++row (IntKind.u64.wrap c.length)++c
def znd (k:Int) (a b c:List UInt8):AV:=if chk k a b c=0 then .tup [.str (lay k a b c),.int .i64 0] else .tup [.str [],.int .i64 (chk k a b c)]
theorem zeY (k:Int):0≤IntKind.u64.wrap k∧IntKind.u64.wrap k≤18446744073709551615:=by
 rw [IntKind.wrap_u64]
 omega
theorem x7 {k:Int}{a b c:List UInt8}(ha:a.length≤100000)(hb:b.length≤100000)(hc:c.length≤100000):Goal P 0 33 (fun v _=>v=znd k a b c) (zb P 33 [.agg [.int .i64 k,.str a,.str b,.str c]] GW):=by
 have hk:=zeY k
 have r1:=zh (IntKind.u64.wrap k)
 have r2:=zh (IntKind.u64.wrap a.length)
 have r3:=zh (IntKind.u64.wrap b.length)
 by_cases h:chk k a b c=0
 · refine (oh (enS (fun v=>v=znd k a b c) k (chk k a b c) a b c _ _ _ _ GW _).symm ⟨zlJ k a b c,by rw [h]; rfl,zcD [] _ hk.1 hk.2 (by decide),zoG _ a ?_,zoG _ b ?_,zoG _ c ?_,?_⟩)
   · simp only [List.length_append,List.length_nil]; omega
   · simp only [List.length_append,List.length_nil]; omega
   · simp only [List.length_append,List.length_nil]; omega
   · unfold znd
     rw [if_pos h]
     rfl
 · refine (oh (enY (fun v=>v=znd k a b c) k (chk k a b c) a b c GW _).symm ⟨zlJ k a b c,by simpa using h,?_⟩)
   unfold znd
   rw [if_neg h]
end Go.Proofs.YtdbfpjgnlfejmaaDoor.mq
end
section
set_option maxRecDepth 100000
set_option linter.unusedVariables false
namespace Go.Proofs.YtdbfpjgnlfejmaaDoor.dg
open Go Ev mq
noncomputable abbrev HQ (k:Int) (a b c:List UInt8) (G:T (T AV)):AHeap:=⟨(.node .leaf (some (.cells (.node (.node (.node .leaf (some (.str c)) .leaf) (some (.str a)) .leaf) (some (.int .i64 k)) (.node .leaf (some (.str b)) .leaf)) 4 39 0 0 1 0 false .leaf)) .leaf),1,G⟩
noncomputable def MDN (A:AV) (s:List UInt8) (G:T (T AV)):AM:=⟨⟨23,33,(.node .leaf none (.node (.node (.node .leaf (some (.ptr 1 0 0)) .leaf) none .leaf) (some (.ptr 0 0 0)) .leaf)),
 [.ops (rg P 23 [1,0]).toList ((rg P 23 [1,0]).toList.drop 2),.code (cd P (23:Nat) [(1:Nat),(1:Nat)])],[],.run,CallKind.normal,none⟩,
 [],
 ⟨(.node (.node .leaf (some (.cells (.node (.node .leaf (some (.bool false)) .leaf) (some A) .leaf) 2 101 0 0 1 0 false .leaf)) .leaf) (some (.cells (.node (.node (.node .leaf (some (.str [])) .leaf) (some (.str [])) .leaf) (some (.int .i64 0)) (.node .leaf (some (.str [])) .leaf)) 4 39 0 0 1 0 false .leaf)) (.node .leaf (some (.cells (.fn fun j=>some (AV.int IntKind.u8 (yy s j))) s.length 5 0 0 1 0 true .leaf)) .leaf)),3,G⟩⟩
theorem q0 (R:AV→AHeap→Prop)(s:List UInt8)(G:T (T AV))(K:AM→Prop):Obl P 23 (fun v h=>R v h) 0 K [.run 9,.callh [] [0] (.ptr 1 0 0) (RN s G),.can 0 [0,2,1] [2,8] []] ((zb P 23 [.str s] G))=((za fun j=>some (.int .u8 (yy s j)))∧(Goal P 0 54 (fun v h=>v=AV.ptr 1 0 0∧h=RN s G) (zb P 54 [.str s] G))∧(za fun j=>some (.int .u8 (yy s j)))∧K (MDN (.slg 2 0 0 s.length 0) s G)):=by kernel_rfl
theorem qz (R:AV→AHeap→Prop)(s a b c:List UInt8)(n e:Int)(x cp x1 y1 x2 y2 x3 y3 y4:Nat)(G:T (T AV))(_K:AM→Prop):Obl P 23 (fun v h=>R v h) 0 _K [.run 6,.callh [(1,0,[]),(2,0,[0])] [0] (.int .u64 n) (RG s y1 x1 x1 G),.run 8,.know 12 false,.run 8,.callh [(1,0,[]),(2,0,[0])] [0] (.str a) (RG s y2 x2 x2 G),.run 2,.callh [(1,0,[]),(2,0,[0])] [0] (.str b) (RG s y3 x3 x3 G),.run 2,.callh [(1,0,[]),(2,0,[0])] [0] (.str c) (RG s y4 0 0 G),.run 52,.callv [0] (.int .i64 e),.run 3,.know 30 false,.run 8,.can 0 [0] [2,3] [],.run 1,.done] ((MDN (.slc 2 0 0 x cp) s G))=((za fun j=>some (.int .u8 (yy s j)))∧(za fun j=>some (.int .u8 (yy s j)))∧(Goal P 2 55 (fun v h=>v=AV.int .u64 n∧h=RG s y1 x1 x1 G) (zf P 55 [.ptr 0 0 0] (RG s 0 x cp G)))∧(decide (n > (9:Int))=false)∧(za fun j=>some (.int .u8 (yy s j)))∧(za fun j=>some (.int .u8 (yy s j)))∧(Goal P 2 56 (fun v h=>v=AV.str a∧h=RG s y2 x2 x2 G) (zf P 56 [.ptr 0 0 0] (RG s y1 x1 x1 G)))∧(za fun j=>some (.int .u8 (yy s j)))∧(za fun j=>some (.int .u8 (yy s j)))∧(Goal P 2 56 (fun v h=>v=AV.str b∧h=RG s y3 x3 x3 G) (zf P 56 [.ptr 0 0 0] (RG s y2 x2 x2 G)))∧(za fun j=>some (.int .u8 (yy s j)))∧(za fun j=>some (.int .u8 (yy s j)))∧(Goal P 2 56 (fun v h=>v=AV.str c∧h=RG s y4 0 0 G) (zf P 56 [.ptr 0 0 0] (RG s y3 x3 x3 G)))∧(Goal P 0 64 (fun v _=>v=AV.int .i64 e) (zb P 64 [.agg [.int .i64 (IntKind.i64.wrap n),.str a,.str b,.str c]] G))∧((e != (0:Int))=false)∧(R (.tup [.agg [.int .i64 (IntKind.i64.wrap n),.str a,.str b,.str c],.int .i64 0]) ((HQ (IntKind.i64.wrap n) a b c G)))):=by kernel_rfl
theorem zn8 (s:List UInt8)(Q:AV→AHeap→Prop)(G:T (T AV))(K:AM→Prop):Obl P 23 Q 0 K [.cap 1 0] (MDN (.slg 2 0 0 s.length 0) s G)=(0<s.length∧∀ cap,s.length≤cap→K (MDN (.slc 2 0 0 s.length cap) s G)):=by kernel_rfl
theorem j8 {k:Int}{a b c:List UInt8}(h:chk k a b c=0):1≤k∧k≤9∧a.length≤64∧b.length≤200∧c.length≤5000:=by
 unfold chk at h
 split at h
 · cases h
 · rename_i hk
   unfold zeU at h
   split at h
   · cases h
   · split at h
     · cases h
     · rename_i h1 h2
       have hA:limA k≤64:=by unfold limA; split <;> omega
       have hB:limB k≤200:=by unfold limB; split <;> omega
       have hC:limC k≤5000:=by unfold limC; split <;> omega
       omega
theorem zfI {k:Int}{a b c:List UInt8}(h:chk k a b c=0):lay k a b c=row k++(row (a.length:Nat)++(a++(row (b.length:Nat)++(b++(row (c.length:Nat)++c))))):=by
 obtain ⟨h1,h2,h3,h4,h5⟩:=j8 h
 have w:IntKind.u64.wrap k=k:=IntWalk.u64_in _ (by omega)
 unfold lay
 rw [w,zmA _ (by omega),zmA _ (by omega),zmA _ (by omega)]
 simp only [List.nil_append,List.append_assoc]
section
variable {s:List UInt8}
theorem znJ (h0:0<s.length){Q:AV→AHeap→Prop}(h:∀ cap,s.length≤cap→Goal P 0 23 Q (MDN (.slc 2 0 0 s.length cap) s GW)):Goal P 0 23 Q (zb P 23 [.str s] GW) :=
 (og (q0 _ _ GW _).symm ⟨zg s,zeG 0 s,zg s,(og (zn8 s _ GW _).symm ⟨h0,h⟩)⟩)
theorem qV (hs:s.length≤200000){k:Int}{a b c:List UInt8}(hc:chk k a b c=0)(he:lay k a b c=s) :
 Goal P 0 23 (fun v h=>v=.tup [.agg [.int .i64 k,.str a,.str b,.str c],.int .i64 0]∧h=HQ k a b c GW) (zb P 23 [.str s] GW):=by
 obtain ⟨l1,l2,l3,l4,l5⟩:=j8 hc
 rw [zfI hc] at he
 have hp:=zJ k
 have h0:0<s.length:=by rw [← he,List.length_append]; omega
 refine znJ h0 fun cap hcap=>?_
 obtain ⟨x1,y1,g0,s1,e1⟩:=zcH hs (st0 s) hcap (n:=k) (by omega) (by omega) ((zdU s).trans he.symm)
 obtain ⟨x2,y2,g1,s2,e2⟩:=q8 hs s1 (Nat.le_refl _) e1
 obtain ⟨x3,y3,g2,s3,e3⟩:=q8 hs s2 (Nat.le_refl _) e2
 obtain ⟨x4,y4,g3,s4,e4⟩:=q8 hs s3 (Nat.le_refl _) (t:=c) (rest:=[]) (by rw [List.append_nil]; exact e3)
 have hx:x4=0:=by
  have:=wW s4
  rw [e4] at this
  exact this.symm
 subst hx
 have w:IntKind.i64.wrap k=k:=IntWalk.i64_in _ (by omega)
 have hk:=zlJ k a b c
 rw [hc] at hk
 exact (og (qz _ (s) _ _ _ _ (0) (s.length) (cap) _ _ _ _ _ _ _ GW _).symm ⟨zg s,zg s,g0,decide_eq_false (by omega),zg s,zg s,g1,zg s,zg s,g2,zg s,zg s,g3,by rw [w]; exact hk,by decide,by rw [w],by rw [w]⟩)
end
end Go.Proofs.YtdbfpjgnlfejmaaDoor.dg
end
section
set_option maxRecDepth 100000
set_option linter.unusedVariables false
namespace Go.Proofs.YtdbfpjgnlfejmaaDoor.dg
open Go Ev mq
noncomputable def HRn (k:Int) (t:List UInt8) (nu:Int) (G:T (T AV)):AHeap:=⟨(.node .leaf (some (.cells (.node (.node (.node .leaf (some (.nils 0 0)) .leaf) (some (.str t)) .leaf) (some (.int .i64 k)) (.node (.node .leaf (some (.int .u64 nu)) .leaf) (some (.nils 0 0)) .leaf)) 5 45 0 0 1 0 false .leaf)) .leaf),1,G⟩
noncomputable def HRd (k:Int) (t:List UInt8) (nu:Int) (f:Nat→Dg) (m:Nat) (G:T (T AV)):AHeap:=⟨(.node (.node .leaf (some (.cells (.fn fun c=>some (el f c)) (m*3) 35 0 0 1 0 false .leaf)) .leaf) (some (.cells (.node (.node (.node .leaf (some (.slg 1 0 0 m 0)) .leaf) (some (.str t)) .leaf) (some (.int .i64 k)) (.node (.node .leaf (some (.int .u64 nu)) .leaf) (some (.nils 0 0)) .leaf)) 5 45 0 0 1 0 false .leaf)) .leaf),2,G⟩
noncomputable def HRp (k:Int) (t:List UInt8) (nu:Int) (g:Nat→List UInt8) (q:Nat) (G:T (T AV)):AHeap:=⟨(.node (.node .leaf (some (.cells (.fn fun c=>some (es g c)) (q*1) 9 0 0 1 0 false .leaf)) .leaf) (some (.cells (.node (.node (.node .leaf (some (.nils 0 0)) .leaf) (some (.str t)) .leaf) (some (.int .i64 k)) (.node (.node .leaf (some (.int .u64 nu)) .leaf) (some (.slg 1 0 0 q 0)) .leaf)) 5 45 0 0 1 0 false .leaf)) .leaf),2,G⟩
noncomputable def HRb (k:Int) (t:List UInt8) (nu:Int) (g:Nat→List UInt8) (q:Nat) (f:Nat→Dg) (m:Nat) (G:T (T AV)):AHeap:=⟨(.node (.node .leaf (some (.cells (.fn fun c=>some (el f c)) (m*3) 35 0 0 1 0 false .leaf)) .leaf) (some (.cells (.node (.node (.node .leaf (some (.slg 1 0 0 m 0)) .leaf) (some (.str t)) .leaf) (some (.int .i64 k)) (.node (.node .leaf (some (.int .u64 nu)) .leaf) (some (.slg 2 0 0 q 0)) .leaf)) 5 45 0 0 1 0 false .leaf)) (.node .leaf (some (.cells (.fn fun c=>some (es g c)) (q*1) 9 0 0 1 0 false .leaf)) .leaf)),3,G⟩
def OkA (k:Int) (t:List UInt8) (ms:List Dg) (nu:Int) (M:AM):Prop :=
 (ms=[]∧Goal P 0 25 (fun v h=>v=.tup [.agg [.int .i64 k,.str t,.nils 0 0,.nils 0 0,.int .u64 nu],.int .i64 0]∧h=HRn k t nu GW) M) ∨
  (0<ms.length∧∃ f,sl f 0 ms.length=ms∧Goal P 0 25 (fun v h=>v=.tup [.agg [.int .i64 k,.str t,.nils 0 0,.slg 1 0 0 ms.length 0,.int .u64 nu],.int .i64 0]∧h=HRd k t nu f ms.length GW) M)
def OkB (k:Int) (t:List UInt8) (g:Nat→List UInt8) (q:Nat) (ms:List Dg) (nu:Int) (M:AM):Prop :=
 (ms=[]∧Goal P 0 25 (fun v h=>v=.tup [.agg [.int .i64 k,.str t,.slg 1 0 0 q 0,.nils 0 0,.int .u64 nu],.int .i64 0]∧h=HRp k t nu g q GW) M) ∨
  (0<ms.length∧∃ f,sl f 0 ms.length=ms∧Goal P 0 25 (fun v h=>v=.tup [.agg [.int .i64 k,.str t,.slg 2 0 0 q 0,.slg 1 0 0 ms.length 0,.int .u64 nu],.int .i64 0]∧h=HRb k t nu g q f ms.length GW) M)
section
variable {s:List UInt8}
theorem zmH (hs:s.length≤200000) {code:Int} {t:List UInt8} {ms:List Dg} (hm:So ms ms) {nu:Int} (v0:0≤nu) (v1:nu≤18446744073709551615) {k:Int} {x y:Nat} (st:St s x y) (hi:¬ (0:Int)<k)
 (ha:mq.ahead s x=row ((xi ms).length:Nat)++(xi ms++row nu)):OkA code t ms nu (ALA s t code k 0 x y GW):=by
 obtain ⟨x2,y2,g1,s2,e1⟩:=q8 hs st (Nat.le_refl _) (t:=xi ms) (rest:=row nu) ha
 obtain ⟨x3,y3,g2,s3,e2⟩:=zcH hs s2 (Nat.le_refl _) v0 v1 (rest:=[]) (by rw [List.append_nil]; exact e1)
 have hx:x3=0:=by
  have:=wW s3
  rw [e2] at this
  exact this.symm
 subst hx
 have hu:(xi ms).length≤200000:=by
  have:=wW st
  rw [ha] at this
  simp only [List.length_append] at this
  have:=st.1
  omega
 rcases zma hu hm rfl with ⟨h0,hg⟩ | ⟨h0,f,hf,hg⟩
 · exact .inl ⟨h0,(og (eAnz _ _ _ _ _ _ _ _ _ _ _ _ _ GW _).symm ⟨decide_eq_false hi,zg s,zg s,g1,hg,zg s,zg s,g2,rfl,rfl⟩)⟩
 · exact .inr ⟨h0,f,hf,(og (eArz _ (el f) _ _ _ _ _ _ _ _ _ _ _ _ _ _ GW _).symm ⟨decide_eq_false hi,zg s,zg s,g1,ze _,hg,zg s,zg s,g2,ze _,rfl,rfl⟩)⟩
theorem znU (hs:s.length≤200000) {code:Int} {t:List UInt8} {ms:List Dg} (hm:So ms ms) {nu:Int} (v0:0≤nu) (v1:nu≤18446744073709551615) {x y m z:Nat} {g:Nat→List UInt8} (hz:z=m*1) (st:St s x y) (hi:¬ (m:Int)<(m:Int))
 (ha:mq.ahead s x=row ((xi ms).length:Nat)++(xi ms++row nu)):OkB code t g m ms nu (ALB (es g) s t code m m x y m z GW):=by
 subst hz
 obtain ⟨x2,y2,g1,s2,e1⟩:=q8 hs st (Nat.le_refl _) (t:=xi ms) (rest:=row nu) ha
 obtain ⟨x3,y3,g2,s3,e2⟩:=zcH hs s2 (Nat.le_refl _) v0 v1 (rest:=[]) (by rw [List.append_nil]; exact e1)
 have hx:x3=0:=by
  have:=wW s3
  rw [e2] at this
  exact this.symm
 subst hx
 have hu:(xi ms).length≤200000:=by
  have:=wW st
  rw [ha] at this
  simp only [List.length_append] at this
  have:=st.1
  omega
 rcases zma hu hm rfl with ⟨h0,hg⟩ | ⟨h0,f,hf,hg⟩
 · exact .inl ⟨h0,(og (eBnz _ (es g) _ _ _ _ _ _ _ _ _ _ _ _ _ _ GW _).symm ⟨decide_eq_false hi,zg s,zg s,g1,hg,zg s,zg s,g2,zn g,rfl,rfl⟩)⟩
 · exact .inr ⟨h0,f,hf,(og (eBrz _ (el f) (es g) _ _ _ _ _ _ _ _ _ _ _ _ _ _ _ _ GW _).symm ⟨decide_eq_false hi,zg s,zg s,g1,ze _,hg,zg s,zg s,g2,ze _,zn g,rfl,rfl⟩)⟩
theorem OkA.mono {k:Int}{t:List UInt8}{ms:List Dg}{nu:Int}{M M':AM}(h:∀ Q:AV→AHeap→Prop,Goal P 0 25 Q M→Goal P 0 25 Q M')(a:OkA k t ms nu M):OkA k t ms nu M':=by
 rcases a with ⟨a1,a2⟩ | ⟨a1,f,a2,a3⟩
 · exact .inl ⟨a1,h _ a2⟩
 · exact .inr ⟨a1,f,a2,h _ a3⟩
theorem OkB.mono {k:Int}{t:List UInt8}{g:Nat→List UInt8}{q:Nat}{ms:List Dg}{nu:Int}{M M':AM}(h:∀ Q:AV→AHeap→Prop,Goal P 0 25 Q M→Goal P 0 25 Q M')(a:OkB k t g q ms nu M):OkB k t g q ms nu M':=by
 rcases a with ⟨a1,a2⟩ | ⟨a1,f,a2,a3⟩
 · exact .inl ⟨a1,h _ a2⟩
 · exact .inr ⟨a1,f,a2,h _ a3⟩
theorem zf2 (hs:s.length≤200000){code:Int}{t:List UInt8}{ms:List Dg}(hm:So ms ms){nu:Int}(v0:0≤nu)(v1:nu≤18446744073709551615){w:Nat→List UInt8}{q:Nat}:∀ (r m x y z:Nat) (g:Nat→List UInt8),m+r=q→0<m→z=m*1→m+x≤s.length→(∀ j,j<m→g j=w j)→St s x y→mq.ahead s x=(sl w m r).flatMap zR++(row ((xi ms).length:Nat)++(xi ms++row nu)) →
 ∃ g',sl g' 0 q=sl w 0 q∧OkB code t g' q ms nu (ALB (es g) s t code q m x y m z GW)
 | 0,m,x,y,z,g,hr,h0,hz,hmx,hg,st,ha=>by
  obtain rfl:m=q:=by omega
  exact ⟨g,xw m 0 fun j _ h=>hg j (by omega),znU hs hm v0 v1 hz st (by omega) ha⟩
 | r+1,m,x,y,z,g,hr,h0,hz,hmx,hg,st,ha=>by
  subst hz
  have hx:=st.1
  rw [jb,List.flatMap_cons] at ha
  unfold zR at ha
  simp only [List.append_assoc] at ha
  have hl:=wW st
  rw [ha] at hl
  simp only [List.length_append] at hl
  have hr1:=zJ ((w m).length:Nat)
  obtain ⟨x2,y2,g1,s2,e1⟩:=q8 hs st (Nat.le_refl _) ha
  have hl2:=wW s2
  rw [e1] at hl2
  simp only [List.length_append] at hl2
  obtain ⟨g',q1,q2⟩:=zf2 hs (code:=code) (t:=t) hm v0 v1 (w:=w) (q:=q) r (m+1) x2 y2 (0+m*1+1) (upd g m (w m)) (by omega) (by omega) (by omega) (by omega) (fun j hj=>by
   unfold upd
   by_cases h:j=m
   · rw [if_pos h,h]
   · rw [if_neg h]; exact hg j (by omega)) s2 (by rw [e1]; unfold zR; rfl)
  refine ⟨g',q1,q2.mono fun Q h=>?_⟩
  exact (og (lBg _ (es g) (es (upd g m (w m))) _ _ (w m) _ _ _ _ _ _ _ _ _ _ GW _).symm ⟨decide_eq_true (by omega),zg s,zg s,g1,⟨⟨by omega,fun k hk=>by
   obtain rfl:k=0:=by omega
   exact ⟨_,rfl,rfl⟩⟩,by omega,by omega,by omega,by omega,by
    unfold zY
    rw [Bool.and_eq_true,Nat.ble_eq,Nat.blt_eq]
    constructor <;> omega,by omega⟩,ze6 g m (w m),rfl,zg s,zn _,by rw [up64 m (by omega)]; exact h⟩)
theorem zfj (hs:s.length≤200000) {code:Int} (hc0:0≤code) (hc1:code≤14) {t:List UInt8} {k:Int} (k0:0≤k) (k1:k≤18446744073709551615) {rest:List UInt8} (hrest:0<rest.length) (he:row code++(row (t.length:Nat)++(t++(row k++rest)))=s) :
 ∃ x y,St s x y∧mq.ahead s x=rest∧x+1≤s.length∧∀ Q:AV→AHeap→Prop,Goal P 0 25 Q (ALA s t code k 0 x y GW)→Goal P 0 25 Q (zb P 25 [.str s] GW):=by
 have hp:=zJ code
 have hlen:=congrArg List.length he
 simp only [List.length_append] at hlen
 have h0:0<s.length:=by omega
 have w:IntKind.i64.wrap code=code:=IntWalk.i64_in _ (by omega)
 have x3:rest.length+1≤s.length:=by omega
 have key:∀ cap,s.length≤cap→∃ x y,St s x y∧mq.ahead s x=rest∧∀ Q:AV→AHeap→Prop,Goal P 0 25 Q (ALA s t code k 0 x y GW)→Goal P 0 25 Q (AN (.slc 2 0 0 s.length cap) s GW):=by
  intro cap hcap
  obtain ⟨x1,y1,g0,s1,e1⟩:=zcH hs (st0 s) hcap hc0 (by omega) ((zdU s).trans he.symm)
  obtain ⟨x2,y2,g1,s2,e2⟩:=q8 hs s1 (Nat.le_refl _) e1
  obtain ⟨x3,y3,g2,s3,e3⟩:=zcH hs s2 (Nat.le_refl _) k0 k1 e2
  exact ⟨x3,y3,s3,e3,fun Q h=>(og (s5 _ (s) _ _ _ (s.length) (cap) _ _ _ _ _ _ GW _).symm ⟨zg s,zg s,g0,decide_eq_false (by omega),zg s,zg s,g1,zg s,zg s,g2,zg s,by rw [w]; exact h⟩)⟩
 have uniq:∀ x y,St s x y→mq.ahead s x=rest→x=rest.length:=fun x y h1 h2=>by rw [← wW h1,h2]
 refine ⟨rest.length,s.length - rest.length,⟨by omega,fun _=>by omega⟩,?_,by omega,fun Q h=>zm8 h0 fun cap hcap=>?_⟩
 · obtain ⟨x,y,h1,h2,_⟩:=key s.length (Nat.le_refl _)
   rw [← uniq x y h1 h2]
   exact h2
 · obtain ⟨x,y,h1,h2,h3⟩:=key cap hcap
   have e:=uniq x y h1 h2
   have hy:=h1.2 (by omega)
   have:y=s.length - rest.length:=by omega
   rw [e,this] at h3
   exact h3 _ h
theorem zeQ (hs:s.length≤200000){k:Int}(h0:0≤k)(h1:k≤14){t:List UInt8}{ms:List Dg}(hm:So ms ms){nu:Int}(v0:0≤nu)(v1:nu≤18446744073709551615)(he:wP k t [] ms nu=s):OkA k t ms nu (zb P 25 [.str s] GW):=by
 have hr:0<(row ((xi ms).length:Nat)++(xi ms++row nu)).length:=by
  have:=zJ nu
  simp only [List.length_append]
  omega
 obtain ⟨x,y,st,ha,_,hgo⟩:=zfj hs h0 h1 (t:=t) (k:=0) (by omega) (by omega) hr he
 exact (zmH hs hm v0 v1 st (by omega) ha).mono hgo
theorem zex (hs:s.length≤200000){k:Int}(h0:0≤k)(h1:k≤14){t:List UInt8}{ms:List Dg}(hm:So ms ms){nu:Int}(v0:0≤nu)(v1:nu≤18446744073709551615){ps:List (List UInt8)}(hp:0<ps.length)(he:wP k t ps ms nu=s):∃ g,sl g 0 ps.length=ps∧OkB k t g ps.length ms nu (zb P 25 [.str s] GW):=by
 obtain ⟨q,hq⟩:∃ q,ps.length=q+1:=⟨ps.length - 1,by omega⟩
 have hw:sl (fun i=>ps.getD i []) 0 (q+1)=ps:=by
  refine List.ext_getElem? fun i=>?_
  by_cases hi:i<q+1
  · rw [zbc _ _ _ _ hi,Nat.zero_add,List.getD_eq_getElem?_getD,List.getElem?_eq_getElem (by omega)]
    rfl
  · rw [List.getElem?_eq_none (by rw [xl]; omega),List.getElem?_eq_none (by omega)]
 generalize (fun i=>ps.getD i [])=w at hw
 have hlen:=congrArg List.length he
 unfold wP at hlen
 simp only [List.length_append] at hlen
 have hll:ps.length≤(ps.flatMap zR).length:=by
  have:∀ l:List (List UInt8),l.length≤(l.flatMap zR).length:=by
   intro l
   induction l with
   | nil=>simp
   | cons a r ih =>
    have h1:(zR a).length=(row (a.length:Nat)).length+a.length:=List.length_append
    have:=zJ (a.length:Nat)
    simp only [List.flatMap_cons,List.length_append,List.length_cons,h1]
    omega
  exact this ps
 have hr:0<(ps.flatMap zR++(row ((xi ms).length:Nat)++(xi ms++row nu))).length:=by
  have:=zJ nu
  simp only [List.length_append]
  omega
 obtain ⟨x,y,st,ha,_,hgo⟩:=zfj hs h0 h1 (t:=t) (k:=(ps.length:Nat)) (by omega) (by omega) hr he
 have hps:ps.flatMap zR=zR (w 0)++(sl w 1 q).flatMap zR:=by
  rw [← hw,jb,List.flatMap_cons]
 rw [hps] at ha
 unfold zR at ha
 simp only [List.append_assoc] at ha
 have hl:=wW st
 rw [ha] at hl
 simp only [List.length_append] at hl
 have hr1:=zJ ((w 0).length:Nat)
 obtain ⟨x2,y2,g1,s2,e1⟩:=q8 hs st (Nat.le_refl _) ha
 have hl2:=wW s2
 rw [e1] at hl2
 simp only [List.length_append] at hl2
 have hx:=st.1
 obtain ⟨g',q1,q2⟩:=zf2 hs (code:=k) (t:=t) hm v0 v1 (w:=w) (q:=q+1) q 1 x2 y2 1 (fun _=>w 0) (by omega) (by omega) (by omega) (by omega) (fun j hj=>by
  obtain rfl:j=0:=by omega
  rfl) s2 (by rw [e1]; unfold zR; rfl)
 rw [hw] at q1
 rw [← hq] at q1 q2
 refine ⟨g',q1,q2.mono fun Q h=>hgo Q ?_⟩
 exact (og (lAg _ (es (fun _=>w 0)) _ _ (w 0) _ _ _ _ _ _ _ (1) GW _).symm ⟨decide_eq_true (by omega),zg s,zg s,g1,zfv (w 0),rfl,zg s,zn _,h⟩)
end
end Go.Proofs.YtdbfpjgnlfejmaaDoor.dg
end
section
set_option maxRecDepth 100000
set_option linter.unusedVariables false
namespace Go.Proofs.YtdbfpjgnlfejmaaDoor.dg
open Go Ev mq
noncomputable def O1 (w:List UInt8) (G:T (T AV)):AM:=⟨⟨10,95,(.node .leaf (some (.str w)) .leaf),
 [.ops (rg P 10 [1,1,1,1,0]).toList (rg P 10 [1,1,1,1,0]).toList,.code (cd P (10:Nat) [(1:Nat),(1:Nat),(1:Nat),(1:Nat),(1:Nat)])],[],.run,CallKind.normal,none⟩,
 [],
 ⟨.leaf,0,G⟩⟩
noncomputable def OL2 (w:List UInt8) (i:Int) (G:T (T AV)):AM:=⟨⟨10,95,(.node (.node (.node .leaf none (.node .leaf (some (.int .i64 i)) .leaf)) none .leaf) (some (.str w)) .leaf),
 [.code (cd P (10:Nat) [(1:Nat),(1:Nat),(1:Nat),(1:Nat),(1:Nat),(0:Nat),(1:Nat),(0:Nat),(1:Nat),(1:Nat),(0:Nat),(0:Nat)]),.inLoop (cd P (10:Nat) [(1:Nat),(1:Nat),(1:Nat),(1:Nat),(1:Nat),(0:Nat),(1:Nat),(0:Nat),(1:Nat),(1:Nat),(0:Nat),(0:Nat)]),.inBlock 2,.code (cd P (10:Nat) [(1:Nat),(1:Nat),(1:Nat),(1:Nat),(1:Nat),(1:Nat)])],[],.run,CallKind.normal,none⟩,
 [],
 ⟨.leaf,0,G⟩⟩
theorem ob (R:AV→Prop)(s w:List UInt8)(G:T (T AV))(K:AM→Prop):Obl P 10 (fun v _=>R v) 0 K [.run 10,.op,.slot 18 (.str w),.run 6,.callh [] [0] (.tup [.agg [.int .i64 0,.str [],.str [],.str []],.int .i64 4]) ⟨(.node .leaf (some (.cells (.node (.node (.node .leaf (some (.str [])) .leaf) (some (.str [])) .leaf) (some (.int .i64 0)) (.node .leaf (some (.str [])) .leaf)) 4 39 0 0 1 0 false .leaf)) .leaf),1,G⟩,.run 28,.can 0 [] [0] []] ((zb P 10 [.str s] G))=((((0:Int)≤if decide ((1000:Int)<(↑s.length:Int))=true then (1000:Int) else (↑s.length:Int))∧(if decide ((1000:Int)<(↑s.length:Int))=true then (1000:Int) else (↑s.length:Int))≤(↑s.length:Int))∧(AV.str (List.take ((if decide ((1000:Int)<(↑s.length:Int))=true then (1000:Int) else (↑s.length:Int)).toNat - 0) (List.drop 0 s))=AV.str w)∧(Goal P 0 23 (fun v h=>v=AV.tup [AV.agg [AV.int .i64 (0:Int),AV.str [],AV.str [],AV.str []],AV.int .i64 (4:Int)]∧h={ objs:=T.leaf.node (some (AObj.cells (((T.leaf.node (some (AV.str [])) T.leaf).node (some (AV.str [])) T.leaf).node (some (AV.int .i64 (0:Int))) (T.leaf.node (some (AV.str [])) T.leaf)) 4 39 0 0 1 0 false T.leaf)) T.leaf,next:=1,glob:=G }) (zb P 23 [.str w] G))∧K (O1 w G)):=by kernel_rfl
theorem om (R:AV→Prop)(w u:List UInt8)(i:Int)(G:T (T AV))(K:AM→Prop):Obl P 10 (fun v _=>R v) 0 K [.run 8,.know 74 true,.run 8,.op,.slot 80 (.str u),.run 1,.callh [] [0] (.tup [.agg [.int .i64 0,.str [],.nils 0 0,.nils 0 0,.int .u64 0],.int .i64 4]) ⟨(.node .leaf (some (.cells (.node (.node (.node .leaf (some (.nils 0 0)) .leaf) (some (.str [])) .leaf) (some (.int .i64 0)) (.node (.node .leaf (some (.int .u64 0)) .leaf) (some (.nils 0 0)) .leaf)) 5 45 0 0 1 0 false .leaf)) .leaf),1,G⟩,.run 21,.can 0 [] [0,11] []] ((OL2 w i G))=((decide (i<(↑w.length:Int))=true)∧((0:Int)≤i∧i≤(↑w.length:Int))∧(AV.str (List.take (i.toNat - 0) (List.drop 0 w))=AV.str u)∧(Goal P 0 25 (fun v h=>v=AV.tup [AV.agg [AV.int .i64 (0:Int),AV.str [],AV.nils 0 0,AV.nils 0 0,AV.int .u64 (0:Int)],AV.int .i64 (4:Int)]∧h={ objs:=T.leaf.node (some (AObj.cells (((T.leaf.node (some (AV.nils 0 0)) T.leaf).node (some (AV.str [])) T.leaf).node (some (AV.int .i64 (0:Int))) ((T.leaf.node (some (AV.int .u64 (0:Int))) T.leaf).node (some (AV.nils 0 0)) T.leaf)) 5 45 0 0 1 0 false T.leaf)) T.leaf,next:=1,glob:=G }) (zb P 25 [.str u] G))∧K (OL2 w (IntKind.i64.wrap (i+(1:Int))) G)):=by kernel_rfl
theorem of (R:AV→Prop)(w:List UInt8)(i:Int)(G:T (T AV))(_K:AM→Prop):Obl P 10 (fun v _=>R v) 0 _K [.run 8,.know 74 false,.run 5,.callv [] (.bool true),.run 3,.done] ((OL2 w i G))=((decide (i<(↑w.length:Int))=false)∧(Goal P 0 28 (fun v _=>v=AV.bool true) (zb P 28 [] G))∧(R (.bool true))):=by kernel_rfl
theorem zjd {f:FuncId}{x:AV}{H:AHeap}{m:AM}(h:Goal P 0 f (fun v h=>v=x∧h=H) m):Goal P 0 f (fun v _=>v=x) m:=h.mono fun _ _ h=>h.1
theorem xb:Goal P 0 28 (fun x _=>x=AV.bool true) (zb P 28 [] GW):=Goal.ofRun mix (n:=20000) (by kernel_rfl) fun _=>rfl
theorem zjp {n m:Int}(h0:0≤n)(h1:n≤18446744073709551615)(k0:0≤m)(k1:m≤18446744073709551615){x y:List UInt8}(h:row n++x=row m++y):n=m∧x=y:=by
 have e:=yj n h0 h1 x
 rw [h,yj m k0 k1 y] at e
 obtain rfl:m=n:=congrArg Prod.fst (Option.some.inj e)
 exact ⟨rfl,List.append_cancel_left h⟩
theorem zeM {a b x y:List UInt8}(ha:a.length≤10000000)(hb:b.length≤10000000)(h:row (a.length:Nat)++(a++x)=row (b.length:Nat)++(b++y)):a=b∧x=y:=by
 obtain ⟨e1,e2⟩:=zjp (by omega) (by omega) (by omega) (by omega) h
 have e3:a.length=b.length:=by omega
 exact List.append_inj e2 e3
end Go.Proofs.YtdbfpjgnlfejmaaDoor.dg
end
section
set_option maxRecDepth 100000
set_option linter.unusedVariables false
namespace Go.Proofs.YtdbfpjgnlfejmaaDoor.dg
open Go Ev mq
noncomputable def BM (s:List UInt8) (G:T (T AV)):AM:=⟨⟨5,57,(.node (.node .leaf (some (.str s)) .leaf) none (.node (.node (.node .leaf none (.node .leaf (some (.bool false)) .leaf)) none (.node .leaf none (.node .leaf (some (.bool true)) .leaf))) none .leaf)),
 [.ops (rg P 5 [1,1,1,1,0,0]).toList ((rg P 5 [1,1,1,1,0,0]).toList.drop 7),.code (cd P (5:Nat) [(1:Nat),(1:Nat),(1:Nat),(1:Nat),(0:Nat),(1:Nat)]),.code (cd P (5:Nat) [(1:Nat),(1:Nat),(1:Nat),(1:Nat),(1:Nat)])],[],.run,CallKind.normal,none⟩,
 [],
 ⟨.leaf,0,G⟩⟩
theorem bs (R:AV→Prop)(s t:List UInt8)(G:T (T AV))(K:AM→Prop):Obl P 5 (fun v _=>R v) 0 K [.run 8,.callv [] (.bool true),.run 17,.callh [] [0] (.str t) ⟨.leaf,0,G⟩,.run 1,.callh [] [0] (.tup [.nils 0 0,.int .i64 0]) ⟨.leaf,0,G⟩,.run 15,.callh [] [0] (.nils 0 0) ⟨.leaf,0,G⟩,.run 39,.can 0 [] [1,24,28] []] ((zb P 5 [.sle,.str s] G))=((Goal P 0 18 (fun v _=>v=AV.bool true) (zb P 18 [] G))∧(Goal P 0 14 (fun v h=>v=AV.str t∧h={ objs:=T.leaf,next:=0,glob:=G }) (zb P 14 [.sle] G))∧(Goal P 0 19 (fun v h=>v=AV.tup [AV.nils 0 0,AV.int .i64 (0:Int)]∧h={ objs:=T.leaf,next:=0,glob:=G }) (zb P 19 [.str t] G))∧(Goal P 0 12 (fun v h=>v=AV.nils 0 0∧h={ objs:=T.leaf,next:=0,glob:=G }) (zb P 12 [.sle] G))∧K (BM s G)):=by kernel_rfl
theorem zmj:∀ l:List Dg,(∀ d,d∈l→zaP d=true)→(xi l).length≤9+l.length*227:=by
 intro l h
 have h9:=zh (l.length:Nat)
 have:∀ m:List Dg,(∀ d,d∈m→zaP d=true)→(m.flatMap one).length≤m.length*227:=by
  intro m
  induction m with
  | nil=>intro _; simp
  | cons d r ih =>
   intro hm
   have h1:=zi3 (hm d (by simp))
   have h2:=ih fun x hx=>hm x (by simp [hx])
   simp only [List.flatMap_cons,List.length_append,List.length_cons]
   omega
 have:=this l h
 unfold xi
 simp only [List.length_append,List.length_nil]
 omega
end Go.Proofs.YtdbfpjgnlfejmaaDoor.dg
end
section
set_option maxRecDepth 100000
set_option linter.unusedVariables false
namespace Go.Proofs.YtdbfpjgnlfejmaaDoor.dg
open Go Ev mq
theorem zmx {f:Nat→Dg}{n:Nat}{l:List Dg}(h:So (sl f 0 n) l)(hl:l.length≤20):(xi l).length≤5000:=by
 have:=zmj l fun d hd=>((h.2 d).1 hd).2
 omega
theorem zhf:∀ l:List (List UInt8),(∀ p,p∈l→p.length≤60)→(l.flatMap zR).length≤69*l.length
 | [],_=>by simp
 | a::r,h=>by
  have ih:=zhf r fun p hp=>h p (List.mem_cons_of_mem _ hp)
  have e:(zR a).length=(row (a.length:Nat)).length+a.length:=List.length_append
  have h1:=zh (a.length:Nat)
  have h2:=h a (List.mem_cons_self ..)
  simp only [List.flatMap_cons,List.length_append,List.length_cons,e]
  omega
theorem kJ {k nu:Int}{t:List UInt8}{ps:List (List UInt8)}{ms:List Dg}(ht:t.length≤500)(hp:∀ p,p∈ps→p.length≤60)(hq:ps.length≤20)(hm:(xi ms).length≤5000):(wP k t ps ms nu).length≤100000:=by
 have h1:=zhf ps hp
 have r1:=zh k
 have r2:=zh (t.length:Nat)
 have r3:=zh (ps.length:Nat)
 have r4:=zh ((xi ms).length:Nat)
 have r5:=zh nu
 unfold wP
 simp only [List.length_append]
 omega
theorem zj (t:List UInt8)(n:Nat):(t.take (min t.length n)).length≤n:=by
 rw [List.length_take]
 omega
theorem zf0 {g g1:Nat→List UInt8}{k:Nat}(h:sl g1 0 k=sl (gp g) 0 k):∀ p,p∈sl g1 0 k→p.length≤60:=by
 intro p hp
 rw [h] at hp
 obtain ⟨j,_,_,rfl⟩:=zmv _ _ hp
 exact zj _ _
theorem zmY {g g1:Nat→List UInt8}{k:Nat}(h:sl g1 0 k=sl (gp g) 0 k)(j:Nat)(hj:j<k):(g1 j).length<1000000:=by
 have:=zf0 h (g1 j) (by simpa using zjC g1 k 0 j (Nat.zero_le _) (by omega))
 omega
section
variable {n nu:Int} {t:List UInt8}
theorem wL:(xi []).length≤5000:=by
 have:=zmj [] (by simp)
 simp at this
 omega
end
section
variable {n nu:Int} {t:List UInt8} {g:Nat→List UInt8} {q cq o1:Nat} {f:Nat→Dg} {m cm o2:Nat}
end
end Go.Proofs.YtdbfpjgnlfejmaaDoor.dg
end
