import Derived.Deep.Slices
import Derived.Deep.Strs
import Derived.OpenShut
import Derived.Test.YtdbfpjgnlfejmaaDoorG00
import Derived.Test.YtdbfpjgnlfejmaaDoorG01
import Derived.Test.YtdbfpjgnlfejmaaDoorG02
import Derived.Test.YtdbfpjgnlfejmaaDoorG03
import Derived.Test.YtdbfpjgnlfejmaaDoorG04
section
set_option maxRecDepth 100000
set_option linter.unusedVariables false
namespace Go.Proofs.YtdbfpjgnlfejmaaDoor.dg
open Go Ev mq Go.Sort Go.Shelf
theorem zia (a c:Int):Goal P 0 42 (fun v _=>v=.int .i64 (ci a c)) (zb P 42 [.int .i64 a,.int .i64 c] .leaf):=by
 have h1:∀ x:Int,(x != x)=false:=fun x=>by simp
 unfold ci
 by_cases h:a<c
 · rw [if_pos h]
   exact (og (ciy (fun v=>v=.int .i64 (-1)) _ _ _).symm ⟨h1 _,h1 _,decide_eq_true h,rfl⟩)
 · rw [if_neg h]
   by_cases k:a > c
   · rw [if_pos k]
     exact (og (ciny (fun v=>v=.int .i64 1) _ _ _).symm ⟨h1 _,h1 _,decide_eq_false h,decide_eq_true k,rfl⟩)
   · rw [if_neg k]
     exact (og (cinn (fun v=>v=.int .i64 0) _ _ _).symm ⟨h1 _,h1 _,decide_eq_false h,decide_eq_false k,rfl⟩)
theorem zeS {a:Int}(h:a≠0):(a != 0)=true:=by simp [h]
theorem wN {a:Int}(h:¬ a≠0):(a != 0)=false:=by simp at h; simp [h]
theorem zoM (x y:Dg):Goal P 0 37 (fun v _=>v=.int .i64 (cf x y)) (zb P 37 [.agg [.str x.1,.int .i64 x.2.1,.int .i64 x.2.2],.agg [.str y.1,.int .i64 y.2.1,.int .i64 y.2.2]] .leaf):=by
 unfold cf
 by_cases h1:Lib.compareBytes x.1 y.1≠0
 · rw [if_pos h1]
   exact (og (cmy (fun v=>v=.int .i64 (Lib.compareBytes x.1 y.1)) _ _ _ _ _ _ 0 0 _).symm ⟨zeS h1,rfl⟩)
 · rw [if_neg h1]
   by_cases h2:ci x.2.1 y.2.1≠0
   · rw [if_pos h2]
     exact (og (cmny (fun v=>v=.int .i64 (ci x.2.1 y.2.1)) _ _ _ _ _ _ (ci x.2.1 y.2.1) 0 _).symm ⟨wN h1,zia _ _,zeS h2,rfl⟩)
   · rw [if_neg h2]
     by_cases h3:ci x.2.2 y.2.2≠0
     · exact (og (cmnny (fun v=>v=.int .i64 (ci x.2.2 y.2.2)) _ _ _ _ _ _ (ci x.2.1 y.2.1) (ci x.2.2 y.2.2) _).symm ⟨wN h1,zia _ _,wN h2,zia _ _,zeS h3,rfl⟩)
     · have e:ci x.2.2 y.2.2=0:=Decidable.not_not.1 h3
       exact (og (cmnn (fun v=>v=.int .i64 (ci x.2.2 y.2.2)) _ _ _ _ _ _ (ci x.2.1 y.2.1) (ci x.2.2 y.2.2) _).symm ⟨wN h1,zia _ _,wN h2,zia _ _,wN h3,by rw [e]⟩)
theorem zgP {f:FuncId}{args:List AV}{vs:List Value}{a:AFrame}{Q:AV→Prop}(ha:qZ P f args .normal=some a)(w:World)(hv:VRels (fun _ _=>none) args vs)
 (k:Goal P 0 f (fun v _=>Q v) ⟨a,[],⟨.leaf,0,.leaf⟩⟩):Calls P f vs.toArray w fun r w'=>∃ v v' R,Q v∧VRel R v v'∧r=.returned v'∧Old w w':=by
 intro cs
 have hs:Sim P (Env.of w) cs ⟨a,[],⟨.leaf,0,.leaf⟩⟩ (Frame.enter P f vs.toArray .normal) cs w :=
  ⟨Base.of w,_,[],rfl,rfl,.start (fun g c h=>by cases h),.start w,wI ha hv (.inl rfl),rfl⟩
 obtain ⟨fr',w',B,R,v,v',h',s1,s2,s3,s4,s5,s6,s7,s8⟩:=k (Env.of w) cs _ _ _ (fun i r L e=>by cases e) hs
 exact ⟨.returned v',w',fr',⟨v,v',R,s8,s4,rfl,(s7.all s5 s6).old fun _ e=>e⟩,s1,s3,s2⟩
theorem zlN {w w':World}(h:Old w w'):∃ q os',w'=grow (w.drewN q) os':=by
 refine ⟨w'.drawn - w.drawn,w'.heap.extract w.heap.size w'.heap.size,?_⟩
 have hd:w.drawn+(w'.drawn - w.drawn)=w'.drawn:=Nat.add_sub_cancel' h.drawn
 obtain ⟨heap',tape',drawn',os',output'⟩:=w'
 have e1:os'=w.os:=h.os
 have e2:tape'=w.tape:=h.tape
 have e3:output'=w.output:=h.output
 have hs:w.heap.size≤heap'.size:=h.size
 have hb:∀ k,k<w.heap.size→heap'[k]?=w.heap[k]?:=h.other
 have eh:heap'=w.heap++heap'.extract w.heap.size heap'.size:=by
  apply Array.ext_getElem?
  intro k
  by_cases hk:k<w.heap.size
  · rw [Array.getElem?_append_left hk]; exact hb k hk
  · rw [Array.getElem?_append_right (by omega),Array.getElem?_extract]
    by_cases hk2:k<heap'.size
    · rw [if_pos (by omega)]; congr 1; omega
    · rw [if_neg (by omega),Array.getElem?_eq_none (by omega)]
 subst e1 e2 e3
 show _=({ w.drewN (drawn' - w.drawn) with heap:=w.heap++heap'.extract w.heap.size heap'.size }:World)
 rw [← eh]
 show _=({ heap:=heap',tape:=w.tape,drawn:=w.drawn+(drawn' - w.drawn),os:=w.os,output:=w.output }:World)
 rw [hd]
def enc (d:Dg):List Value:=[.string ⟨d.1.toArray⟩,.int .i64 d.2.1,.int .i64 d.2.2]
theorem ziD (R:Bij)(d:Dg):VRels R (sc d) (enc d):=.cons rfl (.cons rfl (.cons rfl .nil))
theorem zkH (blk off size:Nat)(w:World):CmpLays P 37 #[] enc 3 cf blk off size w:=by
 intro m os dk _ x y
 have ha:qZ P 37 [.agg [.str x.1,.int .i64 x.2.1,.int .i64 x.2.2],.agg [.str y.1,.int .i64 y.2.1,.int .i64 y.2.2]] .normal=some (zb P 37 [.agg [.str x.1,.int .i64 x.2.1,.int .i64 x.2.2],.agg [.str y.1,.int .i64 y.2.1,.int .i64 y.2.2]] .leaf).top:=by kernel_rfl
 have h:=zgP (vs:=[.agg (enc x).toArray,.agg (enc y).toArray]) ha (sortWorldK enc 3 w blk off m dk os) (.cons ⟨enc x,rfl,ziD _ x⟩ (.cons ⟨enc y,rfl,ziD _ y⟩ .nil)) (zoM x y)
 refine (show Calls P 37 (#[.agg (enc x).toArray,.agg (enc y).toArray]++#[]) _ _ from h).mono ?_
 rintro e w' ⟨v,v',R,rfl,rfl,rfl,hold⟩
 exact ⟨rfl,zlN hold⟩
theorem rerow {B:Base}{R:Bij}{h:AHeap}{w W:World}(k:HRel P B R h w)(hB:B.n≤w.heap.size){i r:Nat}{c c':T AV}{n el lo hi nv fz:Nat}{sg:Bool}{ex:T Nat}{e:Nat}{L:Ev.Loc}{cs cs':Array Value}{f0 f1:Nat}
 (hL:R i r=some L) (ho:h.get i=some (.cells c n el lo hi nv fz sg ex)) (c1:lo≤r) (c2:r≤hi) (he:zI ex n hi r=some e)
 (g1:w.heap[L.block]?=some (.cells cs el (f0,f1))) (G1:W.heap[L.block]?=some (.cells cs' el (f0,f1))) (hsz:cs'.size=cs.size)
 (hs:w.heap.size≤W.heap.size) (hoth:∀ b,b<w.heap.size→b≠L.block→W.heap[b]?=w.heap[b]?)
 (hos:W.os=w.os) (ht:W.tape=w.tape) (hout:W.output=w.output) (hd:w.drawn≤W.drawn)
 (hc:∀ j v,j<e→L.minus≤j→c'.get j=some v→∃ x,cs'[j - L.minus]?=some x∧VRel R v x) :
 HRel P B R (h.put i (.cells c' e el r r nv fz sg ex)) W∧Keeps R w R W:=by
 obtain ⟨L',hL',cs0,a0,b0,g1',g2,g3,g4,g5⟩:=k.ver hL ho c1 c2 he
 rw [hL] at hL'; cases hL'
 rw [g1] at g1'
 cases g1'
 have hob:=k.obj' hL ho
 have hlt:=xm g1
 refine ⟨?_,⟨hos,ht,hout,hs,R.le_refl,fun b hb hn=>⟨hoth b hb (fun e=>hn i r L hL e.symm),hn⟩,hd⟩⟩
 refine k.touch i _ (k.live hL) R.le_refl (by rw [yd]; exact Nat.le_refl _) ?_ (fun j=>za8 h i j _) (fun _ _ _=>rfl) (fun j r' M hj e=>hoth _ (k.place j r' M e).2 ?_) ?_ hs (fun r' M e=>⟨(k.place i r' M e).1,Nat.lt_of_lt_of_le (k.place i r' M e).2 hs,fun j r'' M' hj e' hb=>hj (k.apart _ _ _ _ _ _ e' e hb (.inr (k.notRo ho rfl)))⟩) (k.same i) (v6 _ _ _) (fun b hb=>hoth b (Nat.lt_of_lt_of_le (Base.low_lt hb) hB) (fun e=>(k.off hL (k.notRo ho rfl) hb) e)) (k.notRo ho rfl)
 · rw [yd]
   rcases Nat.lt_or_ge i h.next with h1 | h1
   · exact h1
   · rw [k.fresh i h1] at hL; cases hL
 · exact fun hb=>hj (k.apart _ _ _ _ _ _ e hL hb (.inr (k.notRo ho rfl)))
 · refine ⟨Nat.le_refl _,by have:=hob.2.1; omega,hob.2.2.1,fun r' e' a1 a2 a3=>?_,fun r' e' a1 a2 a3=>by
    obtain rfl:r'=r:=by omega
    simp [zI] at a3; omega⟩
   obtain rfl:r'=r:=by omega
   simp [zI] at a3; subst a3
   exact ⟨L,hL,cs',f0,f1,G1,by rw [hsz]; exact g2,by rw [hsz]; exact g3,⟨g4.1,fun j a b=>by rw [hsz]; exact g4.2 j a b⟩,fun j v a1 a2 a3=>hc j v a1 a2 a3⟩
theorem sizeOf35 (w:World):(Go.sizeOf 35).run P w=.ok 3 w:=Tryd.sizeOf35 w
theorem isAgg35 (w:World):(isAgg 35).run P w=.ok true w:=Tryd.isAgg35 w
theorem zli:∀ args w,(callFunc 37 args).run P w=.ok (.enter 37 args) w:=enters_of Tryd.func37 (by kernel_rfl) rfl
theorem zoI (a:Array Dg):a.toList=sl (fun i=>a[i]!) 0 a.size:=by
 refine List.ext_getElem? fun i=>?_
 rcases Nat.lt_or_ge i a.size with h | h
 · rw [wB _ _ _ _ h,Nat.zero_add,Array.getElem?_toList,Array.getElem?_eq_getElem h,getElem!_pos a i h]
 · rw [List.getElem?_eq_none (by simpa using h),List.getElem?_eq_none (by rw [xO]; exact h)]
theorem zoV (R:Bij)(f:Nat→Dg)(j:Nat)(d:Dg)(hd:f (j / 3)=d):VRel R (el f j) (enc d)[j % 3]! := by
 subst hd
 have h:=zeR f j
 have hr:j % 3=0∨j % 3=1∨j % 3=2:=by omega
 rcases hr with e | e | e <;> rw [e] at h ⊢ <;> rw [← Option.some.inj h] <;> rfl
theorem zpX {R:Bij}{f:Nat→Dg}{j:Nat}{x:Value}(h:VRel R (el f j) x):x=(enc (f (j / 3)))[j % 3]! := by
 have h2:=zeR f j
 have hr:j % 3=0∨j % 3=1∨j % 3=2:=by omega
 rcases hr with e | e | e <;> rw [e] at h2 ⊢ <;> rw [← Option.some.inj h2] at h <;> exact h
theorem zkZ {f g:Nat→Dg}{j:Nat}(h:f (j / 3)=g (j / 3)):el f j=el g j:=by
 unfold el
 rw [h]
theorem zk0 (f:Nat→Dg)(n z:Nat)(h0:0<n)(hz:n*3≤z)(hn:n<1000000)(h:AHeap)(oid:Nat)(ho:h.get oid=some (.cells (.fn fun c=>some (el f c)) z 35 0 0 1 0 false .leaf)) :
 ∃ f',Up (sl f' 0 n)∧(∀ x,x∈sl f' 0 n ↔ x∈sl f 0 n)∧zlA P 36 [.slg oid 0 0 n 0,.fn (.func 37) [] []] h (.tup []) (h.put oid (.cells (.fn fun c=>some (el f' c)) z 35 0 0 1 0 false .leaf)):=by
 generalize hdd:(sl f 0 n).toArray=d
 have hsz:d.size=n:=by rw [← hdd]; simp [xO]
 have hget:∀ i,i<n→d[i]! = f i:=fun i hi=>by
  rw [getElem!_pos d i (by omega)]
  have h1:=wB f n 0 i hi
  have h2:d[i]?=some (f i):=by rw [← hdd]; simpa using h1
  rw [Array.getElem?_eq_getElem (by omega)] at h2
  exact Option.some.inj h2
 obtain ⟨hp,hs⟩:=pdq_sorts (ltOf cf) swo d 0 d.size (Lib.bitLen d.size) true true (Nat.zero_le _) (Nat.le_refl _) (Or.inl rfl)
 have hask:=fun (B:Base) (R:Bij) (w:World) (blk cap:Nat) (hH:HoldsK enc 3 w blk 0 d) (hblk:blk<w.heap.size) =>
  AnyQ.slices_SortFunc_eq Tryd.sortL 3 isAgg35 sizeOf35 enc (fun _=>rfl) (fun x v hv=>by simp [enc] at hv; rcases hv with rfl | rfl | rfl <;> rfl) cf swo 37 #[] blk 0 cap d w zli (zkH blk 0 d.size w) hH hblk (by omega)
 generalize pdq (ltOf cf) d 0 d.size (Lib.bitLen d.size) true true=d' at hp hs hask
 have hsz':d'.size=n:=by rw [hp.1,hsz]
 have hsl:sl (fun i=>if i<n then d'[i]! else f i) 0 n=d'.toList:=by
  rw [zoI,hsz']
  exact xR n 0 fun t _ ht=>if_pos (by omega)
 refine ⟨fun i=>if i<n then d'[i]! else f i,?_,fun x=>?_,?_⟩
 · rw [hsl]
   refine List.pairwise_iff_getElem.2 fun i j hi hj hij=>?_
   have hi':i<d'.size:=by simpa using hi
   have hj':j<d'.size:=by simpa using hj
   have:=hs i j (Nat.zero_le _) hij (by omega)
   rw [getElem!_pos d' j hj',getElem!_pos d' i hi'] at this
   rw [Array.getElem_toList,Array.getElem_toList]
   exact (zen _ _).1 this
 · rw [hsl]
   have hperm:=hp.2.2
   rw [show d'.extract 0 d.size=d' by rw [← hp.1]; exact Array.extract_size,Array.extract_size] at hperm
   rw [hperm.mem_iff,← hdd]
 · obtain ⟨objs,next,glob⟩:=h
   intro B R w args' hh hB ha
   obtain ⟨v1,r1,rfl,h1,h2⟩:=ha
   obtain ⟨v2,r2,rfl,h2,h3⟩:=h2
   cases h3
   obtain ⟨L,a,hL,hm,hkap,rfl,haddr⟩:=h1
   obtain ⟨_,a1,b1,rfl,hf1,hc1⟩:=h2
   cases hf1
   cases hc1
   have hm0:L.minus=0:=by omega
   obtain rfl:=haddr (by omega)
   rw [hm0]
   obtain ⟨L',hL',cs,f0,f1,g1,g2,g3,g4,g5⟩:=hh.ver hL ho (Nat.le_refl _) (Nat.le_refl _) (e:=z) rfl
   rw [hL] at hL'
   cases hL'
   rw [hm0] at g2 g3 g4 g5
   have hlt:=xm g1
   have hfr:∀ j:Nat,(decide (f0≤j)&&decide (j<f1))=false:=fun j=>by
    cases hd:(decide (f0≤j)&&decide (j<f1)) with
    | false=>rfl
    | true =>
     simp only [Bool.and_eq_true,decide_eq_true_eq] at hd
     rcases g4.2 j hd.1 hd.2 with h1 | h1
     · omega
     · exact absurd h1.1 (by simp)
   have hH:HoldsK enc 3 w L.block 0 d:=by
    intro j hj
    rw [size_flatK,hsz] at hj
    obtain ⟨x,hx,hr⟩:=g5 j (el f j) (by omega) (Nat.zero_le _) rfl
    rw [Nat.sub_zero] at hx
    constructor
    · rw [get_flatK _ _ _ _ (by rw [hsz]; exact hj),hget _ (by omega)]
      simp only [World.cell?,g1,Nat.zero_add]
      show cs[j]?=_
      rw [hx,zpX hr]
      rfl
    · simp only [World.frozen?,g1,Nat.zero_add]
      exact hfr j
   refine (show Calls P 36 #[.slice (some ⟨L.block,0,none⟩) n (L.kap - 0),.func (.func 37) #[] #[]] w _ from hsz▸hask B R w L.block (L.kap - 0) hH hlt).mono ?_
   rintro e w' ⟨rfl,q,os,rfl⟩
   have hheap:(sortWorldK enc 3 w L.block 0 q d' os).heap=w.heap.modify L.block (onCells (putCells id 0 (flatK enc 3 d')))++os:=rfl
   have hrr:=rerow (W:=sortWorldK enc 3 w L.block 0 q d' os) (c':=.fn fun c=>some (el (fun i=>if i<n then d'[i]! else f i) c)) (cs':=putCells id 0 (flatK enc 3 d') cs) hh hB hL ho (Nat.le_refl _) (Nat.le_refl _) (e:=z) rfl g1
    (by rw [hheap,Array.getElem?_append_left (by simpa using hlt),Array.getElem?_modify,if_pos rfl,g1]; rfl)
    (by simp [putCells]) (by rw [hheap]; simp) (fun b hb hne=>by rw [hheap,Array.getElem?_append_left (by simpa using hb),Array.getElem?_modify,if_neg (fun e=>hne e.symm)])
    rfl rfl rfl (Nat.le_add_right _ _) (fun j v hj _ hv=>by
     rw [hm0,Nat.sub_zero]
     have hv:some (el (fun i=>if i<n then d'[i]! else f i) j)=some v:=hv
     cases hv
     obtain ⟨x,hx,hr⟩:=g5 j (el f j) hj (Nat.zero_le _) rfl
     rw [Nat.sub_zero] at hx
     have hput:(putCells id 0 (flatK enc 3 d') cs)[j]?=some (if 0≤j∧j<0+(flatK enc 3 d').size then id (flatK enc 3 d')[j - 0]! else x):=by
      simp only [putCells,Array.getElem?_mapIdx,hx,Option.map_some]
     rw [hput,size_flatK,hsz',Nat.sub_zero]
     by_cases hj3:j<n*3
     · rw [if_pos ⟨Nat.zero_le _,by omega⟩]
       refine ⟨_,rfl,?_⟩
       show VRel R _ (flatK enc 3 d')[j]!
       rw [get_flatK _ _ _ _ (by rw [hsz']; exact hj3)]
       exact zoV R _ j _ (if_pos (by omega))
     · rw [if_neg (by omega)]
       refine ⟨_,rfl,?_⟩
       have e:el (fun i=>if i<n then d'[i]! else f i) j=el f j:=zkZ (if_neg (show ¬ j / 3<n by omega))
       rw [e]
       exact hr)
   exact ⟨R,.tuple #[],rfl,⟨[],rfl,rfl⟩,hrr.1,hrr.2⟩
end Go.Proofs.YtdbfpjgnlfejmaaDoor.dg
end
section
set_option maxRecDepth 100000
namespace Go.Proofs.YtdbfpjgnlfejmaaDoor.dg
open Go Ev mq Go.ChangeShapes Go.WideShapes Go.Deep
def elo (f:Nat→Dg) (off c:Nat):AV:=el f (c - off)
end Go.Proofs.YtdbfpjgnlfejmaaDoor.dg
end
section
set_option maxRecDepth 100000
set_option linter.unusedVariables false
namespace Go.Proofs.YtdbfpjgnlfejmaaDoor.dg
open Go Ev mq
def wl:List (List UInt8):=[[],[115,121,110,116,97,120],[99,121,99,108,101],[105,109,112,111,114,116],[116,119,105,99,101],[116,121,112,101],[110,97,109,101],[102,105,101,108,100],[97,114,105,116,121],[99,97,108,108],[119,114,111,110,103],[114,111,108,108],[115,105,122,101],[101,113,117,97,108]]
def wdv (c:Int):List UInt8:=if 0≤c∧c<14 then wl.getD c.toNat [] else []
theorem zcw (c:Int):Goal P 0 16 (fun x _=>x=.str (wdv c)) (zb P 16 [.int .i64 c] GW):=by
 by_cases h1:c<0
 · have e:wdv c=[]:=if_neg (by omega)
   rw [e]
   exact (og (wdy (fun v=>v=.str []) c _).symm ⟨decide_eq_true h1,rfl⟩)
 · by_cases h2:c≥14
   · have e:wdv c=[]:=if_neg (by omega)
     rw [e]
     exact (og (wdny (fun v=>v=.str []) c _).symm ⟨decide_eq_false h1,decide_eq_true h2,rfl⟩)
   · have hc:c=0∨c=1∨c=2∨c=3∨c=4∨c=5∨c=6∨c=7∨c=8∨c=9∨c=10∨c=11∨c=12∨c=13:=by omega
     rcases hc with rfl | rfl | rfl | rfl | rfl | rfl | rfl | rfl | rfl | rfl | rfl | rfl | rfl | rfl <;> exact Goal.ofRun mix (n:=60) (by kernel_rfl) fun _=>rfl
theorem zfH (c:Int):(!(wdv c==([]:List UInt8)))=decide (1≤c∧c≤13):=by
 by_cases h1:c<0∨c≥14
 · have e:wdv c=[]:=if_neg (by omega)
   rw [e,decide_eq_false (by omega)]
   rfl
 · have hc:c=0∨c=1∨c=2∨c=3∨c=4∨c=5∨c=6∨c=7∨c=8∨c=9∨c=10∨c=11∨c=12∨c=13:=by omega
   rcases hc with rfl | rfl | rfl | rfl | rfl | rfl | rfl | rfl | rfl | rfl | rfl | rfl | rfl | rfl <;> rfl
theorem zmd (d:Dg):Goal P 0 35 (fun x _=>x=.bool (vL d)) (zb P 35 [.agg [.str d.1,.int .i64 d.2.1,.int .i64 d.2.2]] GW):=by
 unfold vL
 by_cases h1:1≤d.2.2∧d.2.2≤13
 · by_cases h2:0≤d.2.1
   · by_cases h3:d.2.1≤2147483647
     · exact (og (myyyy (fun v=>v=.bool (decide (1≤d.2.2∧d.2.2≤13∧0≤d.2.1∧d.2.1≤2147483647∧d.1.length≤200))) _ (wdv d.2.2) _ _ _ _).symm ⟨zcw _,by rw [zfH]; exact decide_eq_true h1,decide_eq_true h2,decide_eq_true h3,by
        congr 1
        rw [decide_eq_decide]
        omega⟩)
     · rw [decide_eq_false (by omega)]
       exact (og (myyyn (fun v=>v=.bool false) _ (wdv d.2.2) _ _ _ _).symm ⟨zcw _,by rw [zfH]; exact decide_eq_true h1,decide_eq_true h2,decide_eq_false h3,rfl⟩)
   · rw [decide_eq_false (by omega)]
     exact (og (myyn (fun v=>v=.bool false) _ (wdv d.2.2) _ _ _ _).symm ⟨zcw _,by rw [zfH]; exact decide_eq_true h1,decide_eq_false h2,rfl⟩)
 · rw [decide_eq_false (by omega)]
   exact (og (myn (fun v=>v=.bool false) _ (wdv d.2.2) _ _ _ _).symm ⟨zcw _,by rw [zfH]; exact decide_eq_false h1,rfl⟩)
noncomputable def HC (f:Nat→Dg) (y:Nat) (G:T (T AV)):AHeap:=⟨(.node .leaf (some (.cells (.fn fun c=>some (el f c)) y 35 0 0 1 0 false .leaf)) .leaf),1,G⟩
theorem up1 (k:Nat)(h:k<1000000):IntKind.i64.wrap ((k:Int)+1)=((k+1:Nat):Int):=by rw [IntWalk.i64_in _ (by omega)]; omega
theorem dn1 (k:Nat)(h:k<1000000)(h0:0<k):IntKind.i64.wrap ((k:Int) - 1)=((k - 1:Nat):Int):=by rw [IntWalk.i64_in _ (by omega)]; omega
theorem zot {x p:Dg}{r:List Dg}(h:x=p):dl p (x::r)=dl x r:=by
 show (if x=p then dl x r else x::dl x r)=_
 rw [if_pos h]
theorem zpF {x p:Dg}{r:List Dg}(h:¬ x=p):dl p (x::r)=x::dl x r:=by
 show (if x=p then dl x r else x::dl x r)=_
 rw [if_neg h]
theorem ze4 {y n k0:Nat}{G:T (T AV)}{F:List Dg}(hy:n*3≤y)(hn:n<1000000) :
 ∀ r w j k2 (g:Nat→Dg),j+r=n→j=k0+k2→0<k2→0<w→w+1≤j→sl g 0 w++dl (g (j - 1)) (sl g j r)=F →
  ∃ f' m,0<m∧m≤n∧sl f' 0 m=F∧Goal P 1 44 (fun v h=>v=.slg 0 0 0 m 0∧h=HC f' y G) (CoB (el g) (w:Int) (k2:Int) n y k0 G)
 | 0,w,j,k2,g,hj,hk,h2,h0,hw,hF=>by
  obtain rfl:j=n:=by omega
  refine ⟨clr g w j zd,w,h0,by omega,?_,?_⟩
  · rw [← hF]
    show _=sl g 0 w++[]
    rw [List.append_nil]
    exact xR w 0 fun t h1 h2=>by unfold clr; rw [if_neg (by omega)]
  · exact (og (cdn (fun v h=>v=.slg 0 0 0 w 0∧h=HC (clr g w j zd) y G) (el g) (el (clr g w j zd)) [] [] 0 0 0 0 _ _ _ _ _ false _ _).symm
     ⟨decide_eq_false (by omega),⟨by omega,by omega⟩,⟨by rw [Int.toNat_natCast]; omega,by rw [Int.toNat_natCast]; omega,by omega⟩,zp1 g w j y,rfl,⟨by omega,by omega⟩,rfl,rfl⟩)
 | r+1,w,j,k2,g,hj,hk,h2,h0,hw,hF=>by
  have hF:sl g 0 w++dl (g (j - 1)) (g j::sl g (j+1) r)=F:=hF
  have e2:=dn1 k2 (by omega) h2
  have a1:AV.agg [el g (0+k0*3+((k2:Int)).toNat*3),el g (0+k0*3+((k2:Int)).toNat*3+1),el g (0+k0*3+((k2:Int)).toNat*3+2)]=AV.agg [.str (g j).1,.int .i64 (g j).2.1,.int .i64 (g j).2.2]:=by
   rw [← xy g j,Int.toNat_natCast,show 0+k0*3+k2*3=0+j*3 by omega]
  have a2:AV.agg [el g (0+k0*3+(IntKind.i64.wrap ((k2:Int) - 1)).toNat*3),el g (0+k0*3+(IntKind.i64.wrap ((k2:Int) - 1)).toNat*3+1),el g (0+k0*3+(IntKind.i64.wrap ((k2:Int) - 1)).toNat*3+2)]=AV.agg [.str (g (j - 1)).1,.int .i64 (g (j - 1)).2.1,.int .i64 (g (j - 1)).2.2]:=by
   rw [← xy g (j - 1),e2,Int.toNat_natCast,show 0+k0*3+(k2 - 1)*3=0+(j - 1)*3 by omega]
  by_cases he:g j=g (j - 1)
  · obtain ⟨f',m,q0,q1,q2,q3⟩:=ze4 (k0:=k0) (G:=G) (F:=F) hy hn r w (j+1) (k2+1) g (by omega) (by omega) (by omega) h0 (by omega) (by
     rw [← hF,zot he,Nat.add_sub_cancel])
    refine ⟨f',m,q0,q1,q2,(og (ccyn (fun v h=>v=.slg 0 0 0 m 0∧h=HC f' y G) (el g) (el g) _ _ _ _ _ _ _ _ _ _ _ false _ _).symm
     ⟨decide_eq_true (by omega),⟨by omega,by omega⟩,by rw [Int.toNat_natCast]; omega,a1,by rw [e2]; omega,by rw [e2,Int.toNat_natCast]; omega,a2,fun h=>by rw [ne35,decide_eq_true he]; rfl,rfl,zh _,?_⟩)⟩
    rw [up1 k2 (by omega)]
    exact q3
  · obtain ⟨f',m,q0,q1,q2,q3⟩:=ze4 (k0:=k0) (G:=G) (F:=F) hy hn r (w+1) (j+1) (k2+1) (upd g w (g j)) (by omega) (by omega) (by omega) (by omega) (by omega) (by
     rw [← hF,zpF he,x6,Nat.zero_add,Nat.add_sub_cancel,List.append_assoc,List.singleton_append]
     have e1:upd g w (g j) w=g j:=by unfold upd; rw [if_pos rfl]
     have e3:upd g w (g j) j=g j:=by unfold upd; rw [if_neg (by omega)]
     rw [e1,e3,xR (s:=upd g w (g j)) (s':=g) w 0 fun t h1 h2=>by unfold upd; rw [if_neg (by omega)],
      xR (s:=upd g w (g j)) (s':=g) r (j+1) fun t h1 h2=>by unfold upd; rw [if_neg (by omega)]])
    refine ⟨f',m,q0,q1,q2,(og (ccyy (fun v h=>v=.slg 0 0 0 m 0∧h=HC f' y G) (el g) (el (upd g w (g j))) _ _ _ _ _ _ _ _ _ _ _ true _ _).symm
     ⟨decide_eq_true (by omega),⟨by omega,by omega⟩,by rw [Int.toNat_natCast]; omega,a1,by rw [e2]; omega,by rw [e2,Int.toNat_natCast]; omega,a2,fun h=>by rw [ne35,decide_eq_false he]; rfl,rfl,⟨by omega,by omega⟩,by rw [Int.toNat_natCast]; omega,a1,⟨by omega,by omega⟩,
      ⟨trivial,by show 0+((w:Int)).toNat*3+3≤y; rw [Int.toNat_natCast]; omega,by omega⟩,zoS g w (g j) y,rfl,zh _,?_⟩)⟩
    rw [up1 k2 (by omega),up1 w (by omega)]
    exact q3
theorem zjr {y n:Nat}{f:Nat→Dg}{G:T (T AV)}{F:List Dg}(hy:n*3≤y)(hn:n<1000000) :
 ∀ r k,k+r=n→0<k→sl f 0 k++dl (f (k - 1)) (sl f k r)=F →
  ∃ f' m,0<m∧m≤n∧sl f' 0 m=F∧Goal P 1 44 (fun v h=>v=.slg 0 0 0 m 0∧h=HC f' y G) (CoA (el f) (k:Int) n y G)
 | 0,k,hk,h0,hF=>by
  obtain rfl:k=n:=by omega
  refine ⟨f,k,h0,Nat.le_refl _,by rw [← hF]; exact (List.append_nil _).symm,?_⟩
  exact (og (cbn (fun v h=>v=.slg 0 0 0 k 0∧h=HC f y G) (el f) (el f) [] [] 0 0 0 0 _ 0 _ _ 0 false _ _).symm ⟨decide_eq_false (by omega),rfl,rfl⟩)
 | r+1,k,hk,h0,hF=>by
  have hF:sl f 0 k++dl (f (k - 1)) (f k::sl f (k+1) r)=F:=hF
  have e2:=dn1 k (by omega) h0
  have a1:=xy f k
  have a2:AV.agg [el f (0+(IntKind.i64.wrap ((k:Int) - 1)).toNat*3),el f (0+(IntKind.i64.wrap ((k:Int) - 1)).toNat*3+1),el f (0+(IntKind.i64.wrap ((k:Int) - 1)).toNat*3+2)]=AV.agg [.str (f (k - 1)).1,.int .i64 (f (k - 1)).2.1,.int .i64 (f (k - 1)).2.2]:=by
   rw [← xy f (k - 1),e2,Int.toNat_natCast]
  by_cases he:f k=f (k - 1)
  · obtain ⟨f',m,q0,q1,q2,q3⟩:=ze4 (y:=y) (n:=n) (k0:=k) (G:=G) (F:=F) hy hn r k (k+1) 1 f (by omega) (by omega) (by omega) h0 (by omega) (by
     rw [← hF,zot he,Nat.add_sub_cancel])
    exact ⟨f',m,q0,q1,q2,(og (cbyy (fun v h=>v=.slg 0 0 0 m 0∧h=HC f' y G) (el f) (el f) _ _ _ _ _ _ _ 0 _ _ 0 true _ _).symm
     ⟨decide_eq_true (by omega),⟨by omega,by omega⟩,by rw [Int.toNat_natCast]; omega,a1,by rw [e2]; omega,by rw [e2,Int.toNat_natCast]; omega,a2,fun h=>by rw [zo3,decide_eq_true he],rfl,⟨by omega,by omega⟩,zh _,q3⟩)⟩
  · obtain ⟨f',m,q0,q1,q2,q3⟩:=zjr (f:=f) (G:=G) (F:=F) hy hn r (k+1) (by omega) (by omega) (by
     rw [← hF,zpF he,x6,Nat.zero_add,Nat.add_sub_cancel,List.append_assoc,List.singleton_append])
    refine ⟨f',m,q0,q1,q2,(og (cbyn (fun v h=>v=.slg 0 0 0 m 0∧h=HC f' y G) (el f) (el f) _ _ _ _ _ _ _ 0 _ _ 0 false _ _).symm
     ⟨decide_eq_true (by omega),⟨by omega,by omega⟩,by rw [Int.toNat_natCast]; omega,a1,by rw [e2]; omega,by rw [e2,Int.toNat_natCast]; omega,a2,fun h=>by rw [zo3,decide_eq_false he],rfl,zh _,?_⟩)⟩
    rw [up1 k (by omega)]
    exact q3
theorem zg3 {y n:Nat}{f:Nat→Dg}{G:T (T AV)}(h0:0<n)(hy:n*3≤y)(hn:n<1000000) :
 ∃ f' m,0<m∧m≤n∧sl f' 0 m=ded (sl f 0 n)∧Goal P 1 44 (fun v h=>v=.slg 0 0 0 m 0∧h=HC f' y G) (ze P 44 [.slg 0 0 0 n 0] (HC f y G)):=by
 obtain ⟨r,rfl⟩:∃ r,n=r+1:=⟨n - 1,by omega⟩
 by_cases h:r=0
 · subst h
   exact ⟨f,1,by omega,by omega,rfl,(og (cay (fun v h=>v=.slg 0 0 0 1 0∧h=HC f y G) (el f) (el f) [] [] 0 0 0 0 0 0 _ _ 0 false _ _).symm ⟨decide_eq_true (by omega),rfl,rfl⟩)⟩
 · obtain ⟨f',m,q0,q1,q2,q3⟩:=zjr (y:=y) (n:=r+1) (f:=f) (G:=G) (F:=ded (sl f 0 (r+1))) hy hn r 1 (by omega) (by omega) rfl
   exact ⟨f',m,q0,q1,q2,(og (can (fun v h=>v=.slg 0 0 0 m 0∧h=HC f' y G) (el f) (el f) [] [] 0 0 0 0 0 0 _ _ 0 false _ _).symm ⟨decide_eq_false (by omega),zh _,q3⟩)⟩
noncomputable def HCo (f:Nat→Dg) (off z:Nat):AHeap:=⟨(.node .leaf (some (.cells (.fn fun c=>some (el f c)) z 35 0 0 1 0 false .leaf)) .leaf),1,GW⟩
noncomputable def HCw (f f':Nat→Dg) (off z y:Nat):AHeap:=⟨(.node (.node .leaf (some (.cells (.fn fun c=>some (el f' c)) y 35 0 0 1 0 false .leaf)) .leaf) (some (.cells (.fn fun c=>some (el f c)) z 35 0 0 1 0 false .leaf)) .leaf),2,GW⟩
def SoC (f:Nat→Dg) (n off z:Nat) (m:AM):Prop :=
 (So (sl f 0 n) []∧Goal P 1 12 (fun v h=>v=.nils 0 0∧h=HCo f off z) m) ∨
  ∃ f' k y,0<k∧k≤n∧k*3≤y∧So (sl f 0 n) (sl f' 0 k)∧Goal P 1 12 (fun v h=>v=.slg 1 0 0 k 0∧h=HCw f f' off z y) m
theorem zfq {off z n cp:Nat}{f:Nat→Dg}(hz:n*3≤z)(hn:n<100000) :
 ∀ r i m y (g:Nat→Dg),i+r=n→0<m→m≤i→y=m*3→sl g 0 m=(sl f 0 i).filter vL→SoC f n off z (SCb (el f) (el g) (i:Int) n m cp off off z y GW)
 | 0,i,m,y,g,hi,h0,hm,hy,hg=>by
  obtain rfl:i=n:=by omega
  subst hy
  obtain ⟨f2,u1,u2,u3⟩:=zk0 g m (m*3) h0 (Nat.le_refl _) (by omega) (HCw f g off z (m*3)) 1 (by kernel_rfl)
  obtain ⟨f3,k,k0,k1,k2,k3⟩:=zg3 (y:=m*3) (n:=m) (f:=f2) (G:=GW) h0 (Nat.le_refl _) (by omega)
  have hput:(HCw f g off z (m*3)).put 1 (.cells (.fn fun c=>some (el f2 c)) (m*3) 35 0 0 1 0 false .leaf)=HCw f f2 off z (m*3):=by kernel_rfl
  rw [hput] at u3
  refine .inr ⟨f3,k,m*3,k0,by omega,by omega,⟨by rw [k2]; exact znq u1,fun x=>by rw [k2,znt,u2,hg,List.mem_filter]⟩,?_⟩
  exact (og (Cbn (fun v h=>v=.slg 1 0 0 k 0∧h=HCw f f3 off z (m*3)) (el f) (el g) (el f2) (el f3) [] 0 0 _ _ _ _ off off z _ k false _ _).symm
   ⟨decide_eq_false (by omega),u3,zh _,zh _,k3,rfl,rfl⟩)
 | r+1,i,m,y,g,hi,h0,hm,hy,hg=>by
  have hfl:(sl f 0 (i+1)).filter vL=(sl f 0 i).filter vL++[f i].filter vL:=by rw [x6,Nat.zero_add,List.filter_append]
  have hmay:=zmd (f i)
  by_cases hb:vL (f i)=true
  · have ih:=zfq (off:=off) (cp:=cp) (f:=f) hz hn r (i+1) (m+1) (0+m*3+3) (upd g m (f i)) (by omega) (by omega) (by omega) (by omega) (by
     rw [hfl,List.filter_cons_of_pos hb,List.filter_nil,← hg,x6,Nat.zero_add]
     have e1:upd g m (f i) m=f i:=by unfold upd; rw [if_pos rfl]
     rw [e1,xR (s:=upd g m (f i)) (s':=g) m 0 fun t h1 h2=>by unfold upd; rw [if_neg (by omega)]])
    have goal:∀ R:AV→AHeap→Prop,Goal P 1 12 R (SCb (el f) (el (upd g m (f i))) ((i+1:Nat):Int) n (m+1) cp off off z (0+m*3+3) GW)→Goal P 1 12 R (SCb (el f) (el g) (i:Int) n m cp off off z y GW):=fun R h =>
     (og (Cbyy R (el f) (el g) (el (upd g m (f i))) (el g) _ _ _ _ _ _ _ off off z _ 0 true _ _).symm
      ⟨decide_eq_true (by omega),⟨by omega,by omega⟩,by rw [Int.toNat_natCast]; omega,xy f i,by rw [hb] at hmay; exact hmay,rfl,
       ⟨⟨by rw [yM]; omega,fun k hk=>by
        rw [yM] at hk
        have hr:k=0∨k=1∨k=2:=by omega
        rcases hr with h | h | h <;> subst h <;> exact ⟨_,rfl,rfl⟩⟩,by omega,by omega,by omega,by omega,by
         unfold xz
         rw [Bool.and_eq_true,Nat.ble_eq,Nat.blt_eq]
         constructor <;> omega,by omega⟩,zdX g m _ _ _ yM,rfl,zh _,zh _,by rw [up1 i (by omega)]; exact h⟩)
    rcases ih with ⟨h1,h2⟩ | ⟨f',k,y',h1,h2,h3,h4,h5⟩
    · exact .inl ⟨h1,goal _ h2⟩
    · exact .inr ⟨f',k,y',h1,h2,h3,h4,goal _ h5⟩
  · have ih:=zfq (off:=off) (cp:=cp) (f:=f) hz hn r (i+1) m y g (by omega) h0 (by omega) hy (by
     rw [hfl,List.filter_cons_of_neg hb,List.filter_nil,List.append_nil,← hg])
    have goal:∀ R:AV→AHeap→Prop,Goal P 1 12 R (SCb (el f) (el g) ((i+1:Nat):Int) n m cp off off z y GW)→Goal P 1 12 R (SCb (el f) (el g) (i:Int) n m cp off off z y GW):=fun R h =>
     (og (Cbyn R (el f) (el g) (el g) (el g) _ _ _ _ _ _ _ off off z _ 0 false _ _).symm
      ⟨decide_eq_true (by omega),⟨by omega,by omega⟩,by rw [Int.toNat_natCast]; omega,xy f i,by rw [Bool.not_eq_true] at hb; rw [hb] at hmay; exact hmay,rfl,zh _,zh _,by rw [up1 i (by omega)]; exact h⟩)
    rcases ih with ⟨h1,h2⟩ | ⟨f',k,y',h1,h2,h3,h4,h5⟩
    · exact .inl ⟨h1,goal _ h2⟩
    · exact .inr ⟨f',k,y',h1,h2,h3,h4,goal _ h5⟩
theorem zi9 {off z n cp:Nat}{f:Nat→Dg}(hz:n*3≤z)(hn:n<100000) :
 ∀ r i,i+r=n→(sl f 0 i).filter vL=[]→SoC f n off z (SCa (el f) (i:Int) n cp off off z GW)
 | 0,i,hi,hg=>by
  obtain rfl:i=n:=by omega
  refine .inl ⟨⟨.nil,fun x=>by rw [← List.mem_filter,hg]⟩,?_⟩
  exact (og (Can (fun v h=>v=.nils 0 0∧h=HCo f off z) (el f) (el f) (el f) (el f) [] 0 0 _ _ 0 cp off off z 0 0 false _ _).symm ⟨decide_eq_false (by omega),rfl,rfl⟩)
 | r+1,i,hi,hg=>by
  have hfl:(sl f 0 (i+1)).filter vL=(sl f 0 i).filter vL++[f i].filter vL:=by rw [x6,Nat.zero_add,List.filter_append]
  have hmay:=zmd (f i)
  by_cases hb:vL (f i)=true
  · have ih:=zfq (off:=off) (cp:=cp) (f:=f) hz hn r (i+1) 1 3 (fun _=>f i) (by omega) (by omega) (by omega) (by omega) (by
     rw [hfl,List.filter_cons_of_pos hb,List.filter_nil,hg]; rfl)
    have goal:∀ R:AV→AHeap→Prop,Goal P 1 12 R (SCb (el f) (el fun _=>f i) ((i+1:Nat):Int) n 1 cp off off z 3 GW)→Goal P 1 12 R (SCa (el f) (i:Int) n cp off off z GW):=fun R h =>
     (og (Cayy R (el f) (el fun _=>f i) (el f) (el f) _ _ _ _ _ 0 cp off off z 0 0 true _ _).symm
      ⟨decide_eq_true (by omega),⟨by omega,by omega⟩,by rw [Int.toNat_natCast]; omega,xy f i,by rw [hb] at hmay; exact hmay,rfl,zbP _ _ _,rfl,zh _,zh _,by rw [up1 i (by omega)]; exact h⟩)
    rcases ih with ⟨h1,h2⟩ | ⟨f',k,y',h1,h2,h3,h4,h5⟩
    · exact .inl ⟨h1,goal _ h2⟩
    · exact .inr ⟨f',k,y',h1,h2,h3,h4,goal _ h5⟩
  · have ih:=zi9 (off:=off) (cp:=cp) (f:=f) hz hn r (i+1) (by omega) (by
     rw [hfl,List.filter_cons_of_neg hb,List.filter_nil,List.append_nil,hg])
    have goal:∀ R:AV→AHeap→Prop,Goal P 1 12 R (SCa (el f) ((i+1:Nat):Int) n cp off off z GW)→Goal P 1 12 R (SCa (el f) (i:Int) n cp off off z GW):=fun R h =>
     (og (Cayn R (el f) (el f) (el f) (el f) _ _ _ _ _ 0 cp off off z 0 0 false _ _).symm
      ⟨decide_eq_true (by omega),⟨by omega,by omega⟩,by rw [Int.toNat_natCast]; omega,xy f i,by rw [Bool.not_eq_true] at hb; rw [hb] at hmay; exact hmay,rfl,zh _,by rw [up1 i (by omega)]; exact h⟩)
    rcases ih with ⟨h1,h2⟩ | ⟨f',k,y',h1,h2,h3,h4,h5⟩
    · exact .inl ⟨h1,goal _ h2⟩
    · exact .inr ⟨f',k,y',h1,h2,h3,h4,goal _ h5⟩
theorem zgv {off z n cp:Nat}{f:Nat→Dg}(hz:n*3≤z)(hn:n<100000):SoC f n off z (ze P 12 [.slg 0 0 0 n 0] (HCo f off z)):=by
 have goal:∀ R:AV→AHeap→Prop,Goal P 1 12 R (SCa (el f) ((0:Nat):Int) n cp off off z GW)→Goal P 1 12 R (ze P 12 [.slg 0 0 0 n 0] (HCo f off z)):=fun R h =>
  (og (Cst R (el f) (el f) (el f) (el f) [] 0 0 0 n 0 cp off off z 0 0 false GW _).symm ⟨zh _,h⟩)
 rcases zi9 (off:=off) (cp:=cp) (f:=f) hz hn n 0 (by omega) rfl with ⟨h1,h2⟩ | ⟨f',k,y',h1,h2,h3,h4,h5⟩
 · exact .inl ⟨h1,goal _ h2⟩
 · exact .inr ⟨f',k,y',h1,h2,h3,h4,goal _ h5⟩
end Go.Proofs.YtdbfpjgnlfejmaaDoor.dg
end
section
set_option maxRecDepth 100000
set_option linter.unusedVariables false
namespace Go.Proofs.YtdbfpjgnlfejmaaDoor.dg
open Go Ev mq
noncomputable def BS:Nat:=P.types[5].size
theorem BS_eq:BS=1:=by kernel_rfl
noncomputable def ECa (cell cell':Nat→AV) (s:List UInt8) (L:Nat) (i:Int) (m lo z y N:Nat) (G:T (T AV)):AM:=⟨⟨14,34,(.node (.node (.node (.node (.node .leaf (some (.int .i64 (↑m:Int))) .leaf) none .leaf) none .leaf) none .leaf) none (.node (.node (.node (.node .leaf (some (.int .i64 i)) .leaf) none .leaf) (some (.ptr 1 0 0)) .leaf) none (.node .leaf none (.node .leaf (some (.slg 2 0 0 m 0)) .leaf)))),
 [.code (cd P (14:Nat) [(1:Nat),(1:Nat),(1:Nat),(1:Nat),(0:Nat),(1:Nat),(0:Nat),(0:Nat)]),.inLoop (cd P (14:Nat) [(1:Nat),(1:Nat),(1:Nat),(1:Nat),(0:Nat),(1:Nat),(0:Nat),(0:Nat)]),.inBlock 0,.code (cd P (14:Nat) [(1:Nat),(1:Nat),(1:Nat),(1:Nat),(1:Nat)])],[],.run,CallKind.normal,none⟩,
 [],
 ⟨(.node (.node (.node .leaf (some (.cells (.fn fun k=>some (AV.int IntKind.u8 (↑(s.getD k (0:UInt8)).toNat:Int))) N 5 0 0 1 0 false .leaf)) .leaf) (some (.cells (.node (.node .leaf (some (.slg 3 0 0 L 0)) .leaf) (some (.ptr 1 0 0)) .leaf) 2 69 0 0 1 0 false .leaf)) .leaf) (some (.cells (.fn fun c=>some (cell c)) z 35 0 0 1 0 false .leaf)) (.node .leaf (some (.cells (.fn fun c=>some (cell' c)) y 35 0 0 1 0 false .leaf)) .leaf)),4,G⟩⟩
noncomputable def ECn (cell:Nat→AV) (s:List UInt8) (L lo z N:Nat) (G:T (T AV)):AM:=⟨⟨14,34,(.node (.node (.node (.node (.node .leaf (some (.int .i64 0)) .leaf) none .leaf) none .leaf) none .leaf) none (.node (.node (.node (.node .leaf (some (.int .i64 0)) .leaf) none .leaf) (some (.ptr 1 0 0)) .leaf) none (.node .leaf none (.node .leaf (some (.nils 0 0)) .leaf)))),
 [.code (cd P (14:Nat) [(1:Nat),(1:Nat),(1:Nat),(1:Nat),(0:Nat),(1:Nat),(0:Nat),(0:Nat)]),.inLoop (cd P (14:Nat) [(1:Nat),(1:Nat),(1:Nat),(1:Nat),(0:Nat),(1:Nat),(0:Nat),(0:Nat)]),.inBlock 0,.code (cd P (14:Nat) [(1:Nat),(1:Nat),(1:Nat),(1:Nat),(1:Nat)])],[],.run,CallKind.normal,none⟩,
 [],
 ⟨(.node (.node .leaf (some (.cells (.node (.node .leaf (some (.slg 2 0 0 L 0)) .leaf) (some (.ptr 1 0 0)) .leaf) 2 69 0 0 1 0 false .leaf)) .leaf) (some (.cells (.fn fun c=>some (cell c)) z 35 0 0 1 0 false .leaf)) (.node .leaf (some (.cells (.fn fun k=>some (AV.int IntKind.u8 (↑(s.getD k (0:UInt8)).toNat:Int))) N 5 0 0 1 0 false .leaf)) .leaf)),3,G⟩⟩
section
set_option linter.unusedSectionVars false
variable (R:AV→AHeap→Prop) (cell cell':Nat→AV) (u u':Nat→Int) (s p w t t2:List UInt8) (a c i:Int) (n m cp z y lo off N L:Nat) (b:Bool) (G:T (T AV)) (K:AM→Prop)
include R cell cell' u u' s p w t t2 a c i n m cp z y lo off N L b G K
theorem esC:Obl P 14 (fun v h=>R v h) 1 K [.run 8,(.callh [(0,0,[])] [0] (.slg 1 0 0 m 0) ⟨(.node (.node .leaf (some (.cells (.fn fun c=>some (cell' c)) y 35 0 0 1 0 false .leaf)) .leaf) (some (.cells (.fn fun c=>some (cell c)) z 35 0 0 1 0 false .leaf)) .leaf),2,G⟩),.run 12,(.callv [0,1] (.str w)),.run 40,.opw false,.run 23,.can 1 [0,2,1,3] [4,14,15,16] []] ((ze P 14 [.slg 0 0 0 n 0] ⟨(.node .leaf (some (.cells (.fn fun c=>some (cell c)) z 35 0 0 1 0 false .leaf)) .leaf),1,G⟩))=((za fun c=>some (cell c))∧(za fun c=>some (cell c))∧(za fun c=>some (cell' c))∧(Goal P 1 12 (fun x k=>x=AV.slg 1 0 0 m 0∧k={ objs:=(T.leaf.node (some (AObj.cells (T.fn fun c=>some (cell' c)) y 35 0 0 1 0 false T.leaf)) T.leaf).node (some (AObj.cells (T.fn fun c=>some (cell c)) z 35 0 0 1 0 false T.leaf)) T.leaf,next:=2,glob:=G }) (ze P 12 [.slg 0 0 0 n 0] ⟨(.node .leaf (some (.cells (.fn fun c=>some (cell c)) z 35 0 0 1 0 false .leaf)) .leaf),1,G⟩))∧(Goal P 0 48 (fun x _=>x=AV.str w) (zb P 48 [.str [],.int .u64 (IntKind.u64.wrap (↑m:Int))] G))∧(w.length≤w.length∧0<w.length∧xz w.length 1=true)∧(za fun c=>some (cell c))∧(za fun c=>some (cell' c))∧(za fun k=>some (AV.int .u8 (↑(w.getD k (0:UInt8)).toNat:Int)))∧K (ECa cell cell' w w.length (Int.ofNat 0) m cp z y (w.length*1) G)):=by kernel_rfl
theorem ezC:Obl P 14 (fun v h=>R v h) 1 K [.run 8,(.callh [(0,0,[])] [0] (.nils 0 0) ⟨(.node .leaf (some (.cells (.fn fun c=>some (cell c)) z 35 0 0 1 0 false .leaf)) .leaf),1,G⟩),.run 12,(.callv [0,1] (.str w)),.run 40,.opw false,.run 23,.can 1 [0,1,2] [4,14,15,16] []] ((ze P 14 [.slg 0 0 0 n 0] ⟨(.node .leaf (some (.cells (.fn fun c=>some (cell c)) z 35 0 0 1 0 false .leaf)) .leaf),1,G⟩))=((za fun c=>some (cell c))∧(za fun c=>some (cell c))∧(Goal P 1 12 (fun x k=>x=AV.nils 0 0∧k={ objs:=T.leaf.node (some (AObj.cells (T.fn fun c=>some (cell c)) z 35 0 0 1 0 false T.leaf)) T.leaf,next:=1,glob:=G }) (ze P 12 [.slg 0 0 0 n 0] ⟨(.node .leaf (some (.cells (.fn fun c=>some (cell c)) z 35 0 0 1 0 false .leaf)) .leaf),1,G⟩))∧(Goal P 0 48 (fun x _=>x=AV.str w) (zb P 48 [.str [],.int .u64 0] G))∧(w.length≤w.length∧0<w.length∧xz w.length 1=true)∧(za fun c=>some (cell c))∧(za fun k=>some (AV.int .u8 (↑(w.getD k (0:UInt8)).toNat:Int)))∧K (ECn cell w w.length cp z (w.length*1) G)):=by kernel_rfl
theorem eyCy:Obl P 14 (fun v h=>R v h) 1 K [.run 5,.know 17 true,.run 6,.op,.op,.slot 19 (.agg [.str p,.int .i64 a,.int .i64 c]),.run 13,(.callv [0,1] (.str w)),.run 1,(.callv [0,1] (.str t)),.run 1,(.callv [0,1] (.str t2)),.run 41,.opw false,.run 20,.told 3 (.fn fun k=>some (AV.int .u8 (↑((s++t2).getD k (0:UInt8)).toNat:Int))) (s++t2).length,.can 1 [0,1,2,3] [4,14,15,16] []] ((ECa cell cell' s L i m lo z y N G))=((decide (i<(↑m:Int))=true)∧((0:Int)≤i∧i<(↑m:Int))∧(0+i.toNat*3+3≤y)∧(AV.agg [cell' (0+i.toNat*3),cell' (0+i.toNat*3+1),cell' (0+i.toNat*3+2)]=AV.agg [AV.str p,AV.int .i64 a,AV.int .i64 c])∧(Goal P 0 49 (fun x _=>x=AV.str w) (zb P 49 [.str [],.str p] G))∧(some (AV.int .u64 (IntKind.u64.wrap c))=some (AV.int .u64 (IntKind.u64.wrap c)))∧(some (AV.int .i64 c)=some (AV.int .i64 c))∧(some (AV.int .u64 (IntKind.u64.wrap a))=some (AV.int .u64 (IntKind.u64.wrap a)))∧(some (AV.int .i64 a)=some (AV.int .i64 a))∧(Goal P 0 48 (fun x _=>x=AV.str t) (zb P 48 [.str w,.int .u64 (IntKind.u64.wrap a)] G))∧(some (AV.int .u64 (IntKind.u64.wrap c))=some (AV.int .u64 (IntKind.u64.wrap c)))∧(some (AV.int .i64 c)=some (AV.int .i64 c))∧(Goal P 0 48 (fun x _=>x=AV.str t2) (zb P 48 [.str t,.int .u64 (IntKind.u64.wrap c)] G))∧(t2.length≤t2.length∧0<t2.length∧0+L*1≤N∧0≤0+L*1∧0=0*BS∧xz (L+t2.length) 1=true∧N<0+(L+t2.length)*1)∧(xZ ((s++t2).length) ((.fn fun k=>some (AV.int .u8 (↑((s++t2).getD k (0:UInt8)).toNat:Int)))) ((.fn fun k=>bif (0+L*BS).ble k&&k.blt (0+L*BS+t2.length*BS) then (fun k=>some (AV.int .u8 (↑(t2.getD k (0:UInt8)).toNat:Int))) (k - (0+L*BS)) else (T.fn fun k=>some (AV.int .u8 (↑(s.getD k (0:UInt8)).toNat:Int))).get k)))∧((s++t2).length=0+L*1+t2.length*1)∧(za fun c=>some (cell c))∧(za fun c=>some (cell' c))∧(za fun k=>some (AV.int .u8 (↑((s++t2).getD k (0:UInt8)).toNat:Int)))∧K (ECa cell cell' (s++t2) (L+t2.length) (IntKind.i64.wrap (i+(1:Int))) m cp z y (s++t2).length G)):=by kernel_rfl
end
section
set_option linter.unusedSectionVars false
variable (R:AV→AHeap→Prop) (cell cell':Nat→AV) (u u':Nat→Int) (s p w t t2:List UInt8) (a c i:Int) (n m cp z y lo off N L:Nat) (b:Bool) (G:T (T AV)) (_K:AM→Prop)
include R cell cell' u u' s p w t t2 a c i n m cp z y lo off N L b G _K
theorem exCn:Obl P 14 (fun v h=>R v h) 1 _K [.run 5,.know 17 false,.run 15,.slot 6 (.slg 3 0 0 (n+1) 0),.run 6,.ext s,.run 7,.can 1 [0] [2] [],.done] ((ECa cell cell' s L i m lo z y N G))=((decide (i<(↑m:Int))=false)∧(AV.slg 3 0 0 L 0=AV.slg 3 0 0 (n+1) 0)∧((0:Int)<(↑L:Int)∧(↑L:Int)<(2:Int) ^ 40∧(↑L:Int).toNat≤N∧P.cellsOf 5=1∧zT (zG (T.fn fun k=>some (AV.int .u8 (↑(s.getD k (0:UInt8)).toNat:Int))) 0 (↑L:Int).toNat)=some (AV.str s))∧(za fun c=>some (cell c))∧(R (.str s) (⟨(.node .leaf (some (.cells (.fn fun c=>some (cell c)) z 35 0 0 1 0 false .leaf)) .leaf),1,G⟩))):=by kernel_rfl
theorem enC:Obl P 14 (fun v h=>R v h) 1 _K [.run 20,.slot 6 (.slg 2 0 0 (n+1) 0),.run 6,.ext s,.run 7,.can 1 [0] [2] [],.done] ((ECn cell s L lo z N G))=((AV.slg 2 0 0 L 0=AV.slg 2 0 0 (n+1) 0)∧((0:Int)<(↑L:Int)∧(↑L:Int)<(2:Int) ^ 40∧(↑L:Int).toNat≤N∧P.cellsOf 5=1∧zT (zG (T.fn fun k=>some (AV.int .u8 (↑(s.getD k (0:UInt8)).toNat:Int))) 0 (↑L:Int).toNat)=some (AV.str s))∧(za fun c=>some (cell c))∧(R (.str s) (⟨(.node .leaf (some (.cells (.fn fun c=>some (cell c)) z 35 0 0 1 0 false .leaf)) .leaf),1,G⟩))):=by kernel_rfl
theorem ee:Obl P 14 (fun v h=>R v h) 0 _K [.run 8,(.callh [] [0] (.nils 0 0) ⟨.leaf,0,G⟩),.run 12,(.callv [0,1] (.str w)),.run 40,.opw false,.run 43,.slot 6 (.slg 1 0 0 (n+1) 0),.run 6,.ext w,.run 7,.can 0 [] [2] [],.done] ((ze P 14 [.nils 0 0] ⟨.leaf,0,G⟩))=((Goal P 0 12 (fun x k=>x=AV.nils 0 0∧k={ objs:=T.leaf,next:=0,glob:=G }) (zb P 12 [.nils 0 0] G))∧(Goal P 0 48 (fun x _=>x=AV.str w) (zb P 48 [.str [],.int .u64 0] G))∧(w.length≤w.length∧0<w.length∧xz w.length 1=true)∧(AV.slg 1 0 0 w.length 0=AV.slg 1 0 0 (n+1) 0)∧((0:Int)<(↑w.length:Int)∧(↑w.length:Int)<(2:Int) ^ 40∧(↑w.length:Int).toNat≤w.length*1∧P.cellsOf 5=1∧zT (zG (T.fn fun k=>some (AV.int .u8 (↑(w.getD k (0:UInt8)).toNat:Int))) 0 (↑w.length:Int).toNat)=some (AV.str w))∧(R (.str w) (⟨.leaf,0,G⟩))):=by kernel_rfl
end
theorem sortN (R:AV→AHeap→Prop)(G:T (T AV))(_K:AM→Prop):Obl P 12 (fun v h=>R v h) 0 _K [.run 181,.done] ((ze P 12 [.nils 0 0] ⟨.leaf,0,G⟩))=((R (.nils 0 0) (⟨.leaf,0,G⟩))):=by kernel_rfl
theorem zcv (s:List UInt8):za fun k=>some (AV.int IntKind.u8 ((s.getD k (0:UInt8)).toNat:Int)):=by
 intro k v h
 cases h
 rfl
theorem za7:∀ u:List UInt8,yn (zr u)=some u
 | []=>rfl
 | b::r=>by
  have ih:=za7 r
  unfold yn at ih ⊢
  rw [show zr (b::r)=.int .u8 b.toNat::zr r from rfl,qj,ih,show zcl (.int .u8 b.toNat)=some b from by show some (UInt8.ofNat (b.toNat:Int).toNat)=_; rw [Int.toNat_natCast,UInt8.ofNat_toNat]]
theorem zeJ (u:List UInt8)(n:Nat)(hn:n=u.length):zT (zG (T.fn fun k=>some (AV.int IntKind.u8 ((u.getD k (0:UInt8)).toNat:Int))) 0 n)=some (.str u):=by
 subst hn
 obtain ⟨l,h1,h2,h3,h4⟩:=qI (c:=T.fn fun k=>some (AV.int IntKind.u8 ((u.getD k (0:UInt8)).toNat:Int))) (off:=0) (n:=u.length) (fun k _=>⟨_,rfl,rfl⟩)
 have hl:l=zr u:=by
  refine List.ext_getElem? fun i=>?_
  rcases Nat.lt_or_ge i u.length with hi | hi
  · rw [h4 i (AV.int IntKind.u8 ((u.getD i (0:UInt8)).toNat:Int)) hi (by rw [Nat.zero_add]; rfl)]
    unfold zr
    rw [List.getElem?_map,List.getElem?_eq_getElem hi,List.getD_eq_getElem?_getD,List.getElem?_eq_getElem hi]
    rfl
  · rw [List.getElem?_eq_none (by omega),List.getElem?_eq_none (by unfold zr; simpa using hi)]
 unfold zT
 rw [h1,hl]
 show zjp (yn (zr u))=_
 rw [za7]
 rfl
theorem zqc (s t:List UInt8)(L:Nat)(hL:L=s.length){b:Nat}(hb:b=1) :
 xZ ((s++t).length) (.fn fun k=>some (AV.int IntKind.u8 (((s++t).getD k (0:UInt8)).toNat:Int))) (.fn fun k=>bif (0+L*b).ble k&&k.blt (0+L*b+t.length*b) then (fun k=>some (AV.int IntKind.u8 ((t.getD k (0:UInt8)).toNat:Int))) (k - (0+L*b)) else (T.fn fun k=>some (AV.int IntKind.u8 ((s.getD k (0:UInt8)).toNat:Int))).get k):=by
 subst hL hb
 intro k v hk h
 have h:some (AV.int IntKind.u8 (((s++t).getD k (0:UInt8)).toNat:Int))=some v:=h
 rw [← h]
 show (bif (0+s.length*1).ble k&&k.blt (0+s.length*1+t.length*1) then some (AV.int IntKind.u8 ((t.getD (k - (0+s.length*1)) (0:UInt8)).toNat:Int)) else some (AV.int IntKind.u8 ((s.getD k (0:UInt8)).toNat:Int)))=_
 rw [List.length_append] at hk
 by_cases hin:s.length≤k
 · have e:((0+s.length*1).ble k&&k.blt (0+s.length*1+t.length*1))=true:=by
    rw [Bool.and_eq_true,Nat.ble_eq,Nat.blt_eq]; omega
   rw [e,cond_true,List.getD_eq_getElem?_getD,List.getD_eq_getElem?_getD,List.getElem?_append_right hin,show k - (0+s.length*1)=k - s.length by omega]
 · have e:((0+s.length*1).ble k&&k.blt (0+s.length*1+t.length*1))=false:=by
    rw [← Bool.not_eq_true,Bool.and_eq_true,Nat.ble_eq,Nat.blt_eq]; omega
   rw [e,cond_false,List.getD_eq_getElem?_getD,List.getD_eq_getElem?_getD,List.getElem?_append_left (by omega)]
noncomputable def zd8 (d:Dg):List UInt8:=[]++row (IntKind.u64.wrap d.1.length)++d.1
noncomputable def zlI (d:Dg):List UInt8:=zd8 d++row (IntKind.u64.wrap d.2.1)
noncomputable def one (d:Dg):List UInt8:=zlI d++row (IntKind.u64.wrap d.2.2)
noncomputable def zp (l:List Dg):List UInt8:=[]++row (l.length:Nat)++l.flatMap one
theorem zL (n:Int):0<(row n).length:=by
 unfold row
 repeat' split
 all_goals simp
theorem zi7 {d:Dg}(h:vL d=true):(one d).length≤227:=by
 have h:=of_decide_eq_true h
 have h1:=zu (IntKind.u64.wrap d.1.length)
 have h2:=zu (IntKind.u64.wrap d.2.1)
 have h3:=zu (IntKind.u64.wrap d.2.2)
 unfold one zlI zd8
 simp only [List.length_append,List.length_nil]
 omega
theorem znD (d:Dg):0<(one d).length:=by
 have h1:=zL (IntKind.u64.wrap d.2.2)
 unfold one
 rw [List.length_append]
 omega
theorem yi (n:Int):0≤IntKind.u64.wrap n∧IntKind.u64.wrap n≤18446744073709551615:=by
 have:IntKind.u64.wrap n=n % 18446744073709551616:=by simp [IntKind.wrap,IntKind.bits,IntKind.signed]
 omega
theorem put0 (n:Int):Goal P 0 48 (fun x _=>x=.str ([]++row (IntKind.u64.wrap n))) (zb P 48 [.str [],.int .u64 (IntKind.u64.wrap n)] GW) :=
 zoF [] _ (yi n).1 (yi n).2 (by show 0+9<_; omega)
theorem room (a:Nat)(h:a<1000000000):xz a 1=true:=by
 unfold xz
 rw [Bool.and_eq_true,Nat.ble_eq,Nat.blt_eq]
 constructor <;> omega
theorem znz (n:Nat)(h:n<1000000):IntKind.u64.wrap (n:Int)=n:=IntWalk.u64_in _ (by omega)
theorem zhN {m lo z y off:Nat}{f f':Nat→Dg}(hy:m*3≤y)(hm:m<100000)(hmay:∀ i,i<m→vL (f' i)=true){S:List UInt8} :
 ∀ r i (s:List UInt8) L N,i+r=m→L=s.length→N=s.length→0<s.length→s.length≤9+i*227→s++(sl f' i r).flatMap one=S →
  Goal P 1 14 (fun v h=>v=.str S∧h=HCo f off z) (ECa (el f) (el f') s L (i:Int) m off z y N GW)
 | 0,i,s,L,N,hi,hL,hN,h0,hs,hS=>by
  obtain rfl:i=m:=by omega
  obtain rfl:s=S:=by rw [← hS]; exact (List.append_nil s).symm
  subst hL hN
  obtain ⟨n,hn⟩:∃ n,s.length=n+1:=⟨s.length - 1,by omega⟩
  exact (og (exCn (fun v h=>v=.str s∧h=HCo f off z) (el f) (el f') (fun _=>0) (fun _=>0) s [] [] [] [] 0 0 i n i 0 z y off 0 s.length s.length false GW _).symm
   ⟨decide_eq_false (by omega),by rw [hn],⟨by omega,by omega,by rw [Int.toNat_natCast]; exact Nat.le_refl _,by kernel_rfl,zeJ _ _ (Int.toNat_natCast _)⟩,zh _,  rfl,rfl⟩)
 | r+1,i,s,L,N,hi,hL,hN,h0,hs,hS=>by
  subst hL hN
  have hd:=hmay i (by omega)
  have hlen:=zi7 hd
  have hpos:=znD (f' i)
  have ih:=zhN (lo:=lo) (z:=z) (off:=off) (f:=f) hy hm hmay (S:=S) r (i+1) (s++one (f' i)) (s.length+(one (f' i)).length) (s++one (f' i)).length (by omega) (by rw [List.length_append]) rfl (by rw [List.length_append]; omega) (by rw [List.length_append]; omega) (by
   rw [← hS,List.append_assoc]
   congr 1)
  have hb:=of_decide_eq_true hd
  have l1:(zd8 (f' i)).length≤209:=by
   have:=zu (IntKind.u64.wrap (f' i).1.length)
   unfold zd8
   simp only [List.length_append,List.length_nil]
   omega
  have l2:(zlI (f' i)).length≤218:=by
   have:=zu (IntKind.u64.wrap (f' i).2.1)
   unfold zlI
   simp only [List.length_append]
   omega
  exact (og (eyCy (fun v h=>v=.str S∧h=HCo f off z) (el f) (el f') (fun _=>0) (fun _=>0) s _ (zd8 (f' i)) (zlI (f' i)) (one (f' i)) _ _ _ 0 m 0 z y off 0 s.length s.length false GW _).symm
   ⟨decide_eq_true (by omega),⟨by omega,by omega⟩,by rw [Int.toNat_natCast]; omega,xy f' i,putt [] (f' i).1 (by show 0+_+9<_; omega),rfl,rfl,rfl,rfl,
    zoF (zd8 (f' i)) _ (yi _).1 (yi _).2 (by omega),rfl,rfl,zoF (zlI (f' i)) _ (yi _).1 (yi _).2 (by omega),
    ⟨Nat.le_refl _,hpos,by omega,by omega,by omega,room _ (by omega),by omega⟩,zqc s (one (f' i)) _ rfl BS_eq,by rw [List.length_append]; omega,zh _,  zh _,zcv _,by rw [up1 i (by omega)]; exact ih⟩)
theorem zh0 {off z n cp:Nat}{f:Nat→Dg}(hz:n*3≤z)(hn:n<100000){l:List Dg}(hl:So (sl f 0 n) l) :
 Goal P 1 14 (fun v h=>v=.str (zp l)∧h=HCo f off z) (ze P 14 [.slg 0 0 0 n 0] (HCo f off z)):=by
 rcases zgv (off:=off) (z:=z) (n:=n) (cp:=cp) (f:=f) hz hn with ⟨h1,h2⟩ | ⟨f',k,y,h1,h2,h3,h4,h5⟩
 · obtain rfl:l=[]:=So.uniq hl h1 fun _=>Iff.rfl
   have e:zp []=row 0:=by unfold zp; rw [List.flatMap_nil,List.append_nil]; rfl
   have hp:=zL 0
   have hlr:=zu 0
   have e1:([]++row 0:List UInt8)=row 0:=List.nil_append _
   rw [e]
   obtain ⟨q,hq⟩:∃ q,(row 0).length=q+1:=⟨(row 0).length - 1,by omega⟩
   have h48:=zoF [] 0 (by omega) (by omega) (by show 0+9<_; omega)
   rw [e1] at h48
   exact (og (ezC (fun v h=>v=.str (row 0)∧h=HCo f off z) (el f) (el f) (fun _=>0) (fun _=>0) [] [] (row 0) [] [] 0 0 0 n 0 cp z 0 off off 0 0 false GW _).symm
    ⟨zh _,zh _,  h2,h48,⟨Nat.le_refl _,hp,room _ (by omega)⟩,zh _,  zcv _,(og (enC (fun v h=>v=.str (row 0)∧h=HCo f off z) (el f) (el f) (fun _=>0) (fun _=>0) (row 0) [] [] [] [] 0 0 0 q 0 0 z 0 off 0 ((row 0).length*1) (row 0).length false GW _).symm
     ⟨by rw [hq],⟨by omega,by omega,by rw [Int.toNat_natCast]; omega,by kernel_rfl,zeJ _ _ (Int.toNat_natCast _)⟩,zh _,  rfl,rfl⟩)⟩)
 · obtain rfl:l=sl f' 0 k:=So.uniq hl h4 fun _=>Iff.rfl
   have hlr:=zu (k:Nat)
   have hp:=zL (k:Nat)
   have h48:=put0 (k:Nat)
   rw [znz k (by omega),List.nil_append] at h48
   have hloop:=zhN (lo:=off) (off:=off) (z:=z) (y:=y) (f:=f) (f':=f') (m:=k) h3 (by omega) (fun i hi=>((h4.2 _).1 (vU f' k 0 i (by omega) (by omega))).2) (S:=zp (sl f' 0 k)) k 0 (row (k:Nat)) _ ((row (k:Nat)).length*1) (by omega) rfl (by omega) hp (by omega) (by
    unfold zp
    rw [xO,List.nil_append])
   exact (og (esC (fun v h=>v=.str (zp (sl f' 0 k))∧h=HCo f off z) (el f) (el f') (fun _=>0) (fun _=>0) [] [] (row (k:Nat)) [] [] 0 0 0 n k cp z y off off 0 0 false GW _).symm
    ⟨zh _,zh _,  zh _,h5,by rw [znz k (by omega)]; exact h48,⟨Nat.le_refl _,hp,room _ (by omega)⟩,zh _,  zh _,zcv _,hloop⟩)
theorem zj8:Goal P 0 14 (fun v h=>v=.str (zp [])∧h=⟨.leaf,0,GW⟩) (ze P 14 [.nils 0 0] ⟨.leaf,0,GW⟩):=by
 have e:zp []=[]++row 0:=by unfold zp; rw [List.flatMap_nil,List.append_nil]; rfl
 have hp:=zL 0
 have hl:=zu 0
 have e1:([]++row 0:List UInt8)=row 0:=List.nil_append _
 rw [e,e1]
 obtain ⟨n,hn⟩:∃ n,(row 0).length=n+1:=⟨(row 0).length - 1,by omega⟩
 have h48:=zoF [] 0 (by omega) (by omega) (by show 0+9<_; omega)
 rw [e1] at h48
 have h12:Goal P 0 12 (fun x k=>x=.nils 0 0∧k=⟨.leaf,0,GW⟩) (zb P 12 [.nils 0 0] GW):=(og (sortN (fun x k=>x=.nils 0 0∧k=⟨.leaf,0,GW⟩) GW (Goal P 0 12 _)).symm ⟨rfl,rfl⟩)
 exact (og (ee (fun v h=>v=.str (row 0)∧h=⟨.leaf,0,GW⟩) (el fun _=>zd) (el fun _=>zd) (fun _=>0) (fun _=>0) [] [] (row 0) [] [] 0 0 0 n 0 0 0 0 0 0 0 0 false GW _).symm
  ⟨h12,h48,⟨Nat.le_refl _,hp,room _ (by omega)⟩,by rw [hn],⟨by omega,by omega,by rw [Int.toNat_natCast]; omega,by kernel_rfl,zeJ _ _ (Int.toNat_natCast _)⟩,rfl,rfl⟩)
end Go.Proofs.YtdbfpjgnlfejmaaDoor.dg
end
section
set_option maxRecDepth 100000
namespace Go.Proofs.YtdbfpjgnlfejmaaDoor.mq
open Go Ev
section
set_option linter.unusedSectionVars false
variable (b:Int) (R:AV→Prop) (_K:AM→Prop)
include b R _K
theorem rfny:Obl P 103 (fun v _=>R v) 0 _K [.run 32,.know 9 false,.run 27,.know 9 true,.run 23,.done] ((zb P 103 [.int .u8 b] GW))=((decide (b<Int.ofNat 0)=false)∧(decide (b<Int.ofNat 241)=true)∧(R (.agg [.int .u8 0,.int .u64 0,.int .u64 0,.int .u64 240,.int .i64 0]))):=by kernel_rfl
theorem rfnny:Obl P 103 (fun v _=>R v) 0 _K [.run 32,.know 9 false,.run 27,.know 9 false,.run 28,.know 9 true,.run 17,.done] ((zb P 103 [.int .u8 b] GW))=((decide (b<Int.ofNat 0)=false)∧(decide (b<Int.ofNat 241)=false)∧(decide (b<Int.ofNat 249)=true)∧(R (.agg [.int .u8 241,.int .u64 240,.int .u64 241,.int .u64 2287,.int .i64 1]))):=by kernel_rfl
theorem zpp:Obl P 103 (fun v _=>R v) 0 _K [.run 32,.know 9 false,.run 27,.know 9 false,.run 28,.know 9 false,.run 67,.know 9 true,.run 16,.done] ((zb P 103 [.int .u8 b] GW))=((decide (b<Int.ofNat 0)=false)∧(decide (b<Int.ofNat 241)=false)∧(decide (b<Int.ofNat 249)=false)∧(decide (b<Int.ofNat 250)=true)∧(R (.agg [.int .u8 249,.int .u64 2288,.int .u64 2288,.int .u64 67823,.int .i64 2]))):=by kernel_rfl
theorem znj:Obl P 103 (fun v _=>R v) 0 _K [.run 32,.know 9 false,.run 27,.know 9 false,.run 28,.know 9 false,.run 67,.know 9 false,.run 68,.know 9 true,.run 16,.done] ((zb P 103 [.int .u8 b] GW))=((decide (b<Int.ofNat 0)=false)∧(decide (b<Int.ofNat 241)=false)∧(decide (b<Int.ofNat 249)=false)∧(decide (b<Int.ofNat 250)=false)∧(decide (b<Int.ofNat 251)=true)∧(R (.agg [.int .u8 250,.int .u64 0,.int .u64 67824,.int .u64 16777215,.int .i64 3]))):=by kernel_rfl
theorem zkJ:Obl P 103 (fun v _=>R v) 0 _K [.run 32,.know 9 false,.run 27,.know 9 false,.run 28,.know 9 false,.run 67,.know 9 false,.run 68,.know 9 false,.run 68,.know 9 true,.run 16,.done] ((zb P 103 [.int .u8 b] GW))=((decide (b<Int.ofNat 0)=false)∧(decide (b<Int.ofNat 241)=false)∧(decide (b<Int.ofNat 249)=false)∧(decide (b<Int.ofNat 250)=false)∧(decide (b<Int.ofNat 251)=false)∧(decide (b<Int.ofNat 252)=true)∧(R (.agg [.int .u8 251,.int .u64 0,.int .u64 16777216,.int .u64 4294967295,.int .i64 4]))):=by kernel_rfl
theorem zjU:Obl P 103 (fun v _=>R v) 0 _K [.run 32,.know 9 false,.run 27,.know 9 false,.run 28,.know 9 false,.run 67,.know 9 false,.run 68,.know 9 false,.run 68,.know 9 false,.run 68,.know 9 true,.run 16,.done] ((zb P 103 [.int .u8 b] GW))=((decide (b<Int.ofNat 0)=false)∧(decide (b<Int.ofNat 241)=false)∧(decide (b<Int.ofNat 249)=false)∧(decide (b<Int.ofNat 250)=false)∧(decide (b<Int.ofNat 251)=false)∧(decide (b<Int.ofNat 252)=false)∧(decide (b<Int.ofNat 253)=true)∧(R (.agg [.int .u8 252,.int .u64 0,.int .u64 4294967296,.int .u64 1099511627775,.int .i64 5]))):=by kernel_rfl
theorem zhj:Obl P 103 (fun v _=>R v) 0 _K [.run 32,.know 9 false,.run 27,.know 9 false,.run 28,.know 9 false,.run 67,.know 9 false,.run 68,.know 9 false,.run 68,.know 9 false,.run 68,.know 9 false,.run 68,.know 9 true,.run 16,.done] ((zb P 103 [.int .u8 b] GW))=((decide (b<Int.ofNat 0)=false)∧(decide (b<Int.ofNat 241)=false)∧(decide (b<Int.ofNat 249)=false)∧(decide (b<Int.ofNat 250)=false)∧(decide (b<Int.ofNat 251)=false)∧(decide (b<Int.ofNat 252)=false)∧(decide (b<Int.ofNat 253)=false)∧(decide (b<Int.ofNat 254)=true)∧(R (.agg [.int .u8 253,.int .u64 0,.int .u64 1099511627776,.int .u64 281474976710655,.int .i64 6]))):=by kernel_rfl
theorem zfz:Obl P 103 (fun v _=>R v) 0 _K [.run 32,.know 9 false,.run 27,.know 9 false,.run 28,.know 9 false,.run 67,.know 9 false,.run 68,.know 9 false,.run 68,.know 9 false,.run 68,.know 9 false,.run 68,.know 9 false,.run 68,.know 9 true,.run 16,.done] ((zb P 103 [.int .u8 b] GW))=((decide (b<Int.ofNat 0)=false)∧(decide (b<Int.ofNat 241)=false)∧(decide (b<Int.ofNat 249)=false)∧(decide (b<Int.ofNat 250)=false)∧(decide (b<Int.ofNat 251)=false)∧(decide (b<Int.ofNat 252)=false)∧(decide (b<Int.ofNat 253)=false)∧(decide (b<Int.ofNat 254)=false)∧(decide (b<Int.ofNat 255)=true)∧(R (.agg [.int .u8 254,.int .u64 0,.int .u64 281474976710656,.int .u64 72057594037927935,.int .i64 7]))):=by kernel_rfl
theorem zeO:Obl P 103 (fun v _=>R v) 0 _K [.run 32,.know 9 false,.run 27,.know 9 false,.run 28,.know 9 false,.run 67,.know 9 false,.run 68,.know 9 false,.run 68,.know 9 false,.run 68,.know 9 false,.run 68,.know 9 false,.run 68,.know 9 false,.run 43,.done] ((zb P 103 [.int .u8 b] GW))=((decide (b<Int.ofNat 0)=false)∧(decide (b<Int.ofNat 241)=false)∧(decide (b<Int.ofNat 249)=false)∧(decide (b<Int.ofNat 250)=false)∧(decide (b<Int.ofNat 251)=false)∧(decide (b<Int.ofNat 252)=false)∧(decide (b<Int.ofNat 253)=false)∧(decide (b<Int.ofNat 254)=false)∧(decide (b<Int.ofNat 255)=false)∧(R (.agg [.int .u8 255,.int .u64 0,.int .u64 72057594037927936,.int .u64 18446744073709551615,.int .i64 8]))):=by kernel_rfl
end
noncomputable def qU (a b c d e:Int):AV:=.agg [.int .u8 a,.int .u64 b,.int .u64 c,.int .u64 d,.int .i64 e]
theorem from0 (b:Int)(h0:0≤b)(h1:b<241):Goal P 0 103 (fun x _=>x=qU 0 0 0 240 0) (zb P 103 [.int .u8 b] GW) :=
 (oh (rfny b (fun x=>x=qU 0 0 0 240 0) _).symm ⟨decide_eq_false (by show ¬ _<(0:Int); omega),decide_eq_true (by show _<(241:Int); omega),rfl⟩)
theorem from1 (b:Int)(h0:241≤b)(h1:b<249):Goal P 0 103 (fun x _=>x=qU 241 240 241 2287 1) (zb P 103 [.int .u8 b] GW) :=
 (oh (rfnny b (fun x=>x=qU 241 240 241 2287 1) _).symm ⟨decide_eq_false (by show ¬ _<(0:Int); omega),decide_eq_false (by show ¬ _<(241:Int); omega),decide_eq_true (by show _<(249:Int); omega),rfl⟩)
theorem from2 (b:Int)(h0:249≤b)(h1:b<250):Goal P 0 103 (fun x _=>x=qU 249 2288 2288 67823 2) (zb P 103 [.int .u8 b] GW) :=
 (oh (zpp b (fun x=>x=qU 249 2288 2288 67823 2) _).symm ⟨decide_eq_false (by show ¬ _<(0:Int); omega),decide_eq_false (by show ¬ _<(241:Int); omega),decide_eq_false (by show ¬ _<(249:Int); omega),decide_eq_true (by show _<(250:Int); omega),rfl⟩)
theorem from3 (b:Int)(h0:250≤b)(h1:b<251):Goal P 0 103 (fun x _=>x=qU 250 0 67824 16777215 3) (zb P 103 [.int .u8 b] GW) :=
 (oh (znj b (fun x=>x=qU 250 0 67824 16777215 3) _).symm ⟨decide_eq_false (by show ¬ _<(0:Int); omega),decide_eq_false (by show ¬ _<(241:Int); omega),decide_eq_false (by show ¬ _<(249:Int); omega),decide_eq_false (by show ¬ _<(250:Int); omega),decide_eq_true (by show _<(251:Int); omega),rfl⟩)
theorem from4 (b:Int)(h0:251≤b)(h1:b<252):Goal P 0 103 (fun x _=>x=qU 251 0 16777216 4294967295 4) (zb P 103 [.int .u8 b] GW) :=
 (oh (zkJ b (fun x=>x=qU 251 0 16777216 4294967295 4) _).symm ⟨decide_eq_false (by show ¬ _<(0:Int); omega),decide_eq_false (by show ¬ _<(241:Int); omega),decide_eq_false (by show ¬ _<(249:Int); omega),decide_eq_false (by show ¬ _<(250:Int); omega),decide_eq_false (by show ¬ _<(251:Int); omega),decide_eq_true (by show _<(252:Int); omega),rfl⟩)
theorem from5 (b:Int)(h0:252≤b)(h1:b<253):Goal P 0 103 (fun x _=>x=qU 252 0 4294967296 1099511627775 5) (zb P 103 [.int .u8 b] GW) :=
 (oh (zjU b (fun x=>x=qU 252 0 4294967296 1099511627775 5) _).symm ⟨decide_eq_false (by show ¬ _<(0:Int); omega),decide_eq_false (by show ¬ _<(241:Int); omega),decide_eq_false (by show ¬ _<(249:Int); omega),decide_eq_false (by show ¬ _<(250:Int); omega),decide_eq_false (by show ¬ _<(251:Int); omega),decide_eq_false (by show ¬ _<(252:Int); omega),decide_eq_true (by show _<(253:Int); omega),rfl⟩)
theorem from6 (b:Int)(h0:253≤b)(h1:b<254):Goal P 0 103 (fun x _=>x=qU 253 0 1099511627776 281474976710655 6) (zb P 103 [.int .u8 b] GW) :=
 (oh (zhj b (fun x=>x=qU 253 0 1099511627776 281474976710655 6) _).symm ⟨decide_eq_false (by show ¬ _<(0:Int); omega),decide_eq_false (by show ¬ _<(241:Int); omega),decide_eq_false (by show ¬ _<(249:Int); omega),decide_eq_false (by show ¬ _<(250:Int); omega),decide_eq_false (by show ¬ _<(251:Int); omega),decide_eq_false (by show ¬ _<(252:Int); omega),decide_eq_false (by show ¬ _<(253:Int); omega),decide_eq_true (by show _<(254:Int); omega),rfl⟩)
theorem from7 (b:Int)(h0:254≤b)(h1:b<255):Goal P 0 103 (fun x _=>x=qU 254 0 281474976710656 72057594037927935 7) (zb P 103 [.int .u8 b] GW) :=
 (oh (zfz b (fun x=>x=qU 254 0 281474976710656 72057594037927935 7) _).symm ⟨decide_eq_false (by show ¬ _<(0:Int); omega),decide_eq_false (by show ¬ _<(241:Int); omega),decide_eq_false (by show ¬ _<(249:Int); omega),decide_eq_false (by show ¬ _<(250:Int); omega),decide_eq_false (by show ¬ _<(251:Int); omega),decide_eq_false (by show ¬ _<(252:Int); omega),decide_eq_false (by show ¬ _<(253:Int); omega),decide_eq_false (by show ¬ _<(254:Int); omega),decide_eq_true (by show _<(255:Int); omega),rfl⟩)
theorem from8 (b:Int)(h0:255≤b):Goal P 0 103 (fun x _=>x=qU 255 0 72057594037927936 18446744073709551615 8) (zb P 103 [.int .u8 b] GW) :=
 (oh (zeO b (fun x=>x=qU 255 0 72057594037927936 18446744073709551615 8) _).symm ⟨decide_eq_false (by show ¬ _<(0:Int); omega),decide_eq_false (by show ¬ _<(241:Int); omega),decide_eq_false (by show ¬ _<(249:Int); omega),decide_eq_false (by show ¬ _<(250:Int); omega),decide_eq_false (by show ¬ _<(251:Int); omega),decide_eq_false (by show ¬ _<(252:Int); omega),decide_eq_false (by show ¬ _<(253:Int); omega),decide_eq_false (by show ¬ _<(254:Int); omega),decide_eq_false (by show ¬ _<(255:Int); omega),rfl⟩)
end Go.Proofs.YtdbfpjgnlfejmaaDoor.mq
end
section
set_option maxRecDepth 100000
namespace Go.Proofs.YtdbfpjgnlfejmaaDoor.mq
open Go Ev
def tl (f:Nat):Nat:=if f≤240 then 0 else if f<249 then 1 else if f=249 then 2 else f - 247
def be (l:List UInt8):Int:=l.foldl (fun v b=>v*256+b.toNat) 0
def val (f:Nat) (t:List UInt8):Int:=if f≤240 then f else if f<249 then be t+240+256*((f:Int) - 241) else if f=249 then be t+2288 else be t
def zP (f:Nat):Int:=if f≤240 then 0 else if f<249 then 241 else if f=249 then 2288 else if f=250 then 67824 else if f=251 then 16777216 else if f=252 then 4294967296 else if f=253 then 1099511627776 else if f=254 then 281474976710656 else 72057594037927936
def yh (f:Nat):Int:=if f≤240 then 240 else if f<249 then 2287 else if f=249 then 67823 else if f=250 then 16777215 else if f=251 then 4294967295 else if f=252 then 1099511627775 else if f=253 then 281474976710655 else if f=254 then 72057594037927935 else 18446744073709551615
theorem zqb (x:Int):(B x).toNat=(x % 256).toNat:=by
 unfold B
 rw [UInt8.toNat_ofNat']
 omega
theorem q7 {x:Int}{b:UInt8}(h:x % 256=b.toNat):B x=b:=by
 apply UInt8.toNat_inj.1
 rw [zqb,h]; rfl
theorem jI (x:Int):((B x).toNat:Int)=x % 256:=by rw [zqb]; omega
theorem zl (b:UInt8):b.toNat<256:=b.toNat_lt
theorem zgc (n:Int)(h0:0≤n)(h1:n≤18446744073709551615):∃ f t,row n=f::t∧t.length=tl f.toNat∧val f.toNat t=n∧zP f.toNat≤n∧n≤yh f.toNat:=by
 unfold row
 have b0:=jI n
 have b1:=jI (n / 256)
 have b2:=jI (n / 65536)
 have b3:=jI (n / 16777216)
 have b4:=jI (n / 4294967296)
 have b5:=jI (n / 1099511627776)
 have b6:=jI (n / 281474976710656)
 have b7:=jI (n / 72057594037927936)
 split
 · rename_i h
   have e:(B n).toNat≤240:=by omega
   refine ⟨_,_,rfl,?_⟩
   simp only [tl,val,zP,yh,if_pos e,List.length_nil,true_and]
   omega
 split
 · have c0:=jI (241+(n - 240) / 256)
   have c1:=jI (n - 240)
   have e:¬ (B (241+(n - 240) / 256)).toNat≤240:=by omega
   have e2:(B (241+(n - 240) / 256)).toNat<249:=by omega
   refine ⟨_,_,rfl,?_⟩
   have r0:(241+(n - 240) / 256) % 256=241+(n - 240) / 256:=by omega
   rw [r0] at c0
   simp only [tl,val,zP,yh,if_neg e,if_pos e2,List.length_cons,List.length_nil,be,List.foldl]
   refine ⟨trivial,?_,?_,?_⟩ <;> omega
 split
 · have c1:=jI (n - 2288)
   have c2:=jI ((n - 2288) / 256)
   refine ⟨_,_,rfl,by simp [tl],?_⟩
   simp [val,zP,yh,be,List.foldl]
   omega
 split
 · refine ⟨_,_,rfl,by simp [tl],?_⟩
   simp [val,zP,yh,be,List.foldl]
   omega
 split
 · refine ⟨_,_,rfl,by simp [tl],?_⟩
   simp [val,zP,yh,be,List.foldl]
   omega
 split
 · refine ⟨_,_,rfl,by simp [tl],?_⟩
   simp [val,zP,yh,be,List.foldl]
   omega
 split
 · refine ⟨_,_,rfl,by simp [tl],?_⟩
   simp [val,zP,yh,be,List.foldl]
   omega
 split
 · refine ⟨_,_,rfl,by simp [tl],?_⟩
   simp [val,zP,yh,be,List.foldl]
   omega
 · refine ⟨_,_,rfl,by simp [tl],?_⟩
   simp [val,zP,yh,be,List.foldl]
   omega
theorem len1 {t:List UInt8}(h:t.length=1):∃ a,t=[a]:=by
 match t,h with
 | [a],_=>exact ⟨a,rfl⟩
theorem zm7 {t:List UInt8}{k:Nat}(h:t.length=k+1):∃ a r,t=a::r∧r.length=k:=by
 match t,h with
 | a::r,h=>exact ⟨a,r,rfl,by simpa using h⟩
theorem rv2 (a1 a2:UInt8)(h0:2288≤(((0*256+(a1.toNat:Int))*256+(a2.toNat:Int))+2288))(h1:(((0*256+(a1.toNat:Int))*256+(a2.toNat:Int))+2288)≤67823):row (((0*256+(a1.toNat:Int))*256+(a2.toNat:Int))+2288)=[249,a1,a2]:=by
 have:=zl a1; have:=zl a2
 rw [row,if_neg (by omega),if_neg (by omega),if_pos (by omega)]
 rw [q7 (b:=a1) (by omega),q7 (b:=a2) (by omega)]
theorem rv3 (a1 a2 a3:UInt8)(h0:67824≤(((0*256+(a1.toNat:Int))*256+(a2.toNat:Int))*256+(a3.toNat:Int)))(h1:(((0*256+(a1.toNat:Int))*256+(a2.toNat:Int))*256+(a3.toNat:Int))≤16777215):row (((0*256+(a1.toNat:Int))*256+(a2.toNat:Int))*256+(a3.toNat:Int))=[250,a1,a2,a3]:=by
 have:=zl a1; have:=zl a2; have:=zl a3
 rw [row,if_neg (by omega),if_neg (by omega),if_neg (by omega),if_pos (by omega)]
 rw [q7 (b:=a1) (by omega),q7 (b:=a2) (by omega),q7 (b:=a3) (by omega)]
theorem rv4 (a1 a2 a3 a4:UInt8)(h0:16777216≤((((0*256+(a1.toNat:Int))*256+(a2.toNat:Int))*256+(a3.toNat:Int))*256+(a4.toNat:Int)))(h1:((((0*256+(a1.toNat:Int))*256+(a2.toNat:Int))*256+(a3.toNat:Int))*256+(a4.toNat:Int))≤4294967295):row ((((0*256+(a1.toNat:Int))*256+(a2.toNat:Int))*256+(a3.toNat:Int))*256+(a4.toNat:Int))=[251,a1,a2,a3,a4]:=by
 have:=zl a1; have:=zl a2; have:=zl a3; have:=zl a4
 rw [row,if_neg (by omega),if_neg (by omega),if_neg (by omega),if_neg (by omega),if_pos (by omega)]
 rw [q7 (b:=a1) (by omega),q7 (b:=a2) (by omega),q7 (b:=a3) (by omega),q7 (b:=a4) (by omega)]
theorem rv5 (a1 a2 a3 a4 a5:UInt8)(h0:4294967296≤(((((0*256+(a1.toNat:Int))*256+(a2.toNat:Int))*256+(a3.toNat:Int))*256+(a4.toNat:Int))*256+(a5.toNat:Int)))(h1:(((((0*256+(a1.toNat:Int))*256+(a2.toNat:Int))*256+(a3.toNat:Int))*256+(a4.toNat:Int))*256+(a5.toNat:Int))≤1099511627775):row (((((0*256+(a1.toNat:Int))*256+(a2.toNat:Int))*256+(a3.toNat:Int))*256+(a4.toNat:Int))*256+(a5.toNat:Int))=[252,a1,a2,a3,a4,a5]:=by
 have:=zl a1; have:=zl a2; have:=zl a3; have:=zl a4; have:=zl a5
 rw [row,if_neg (by omega),if_neg (by omega),if_neg (by omega),if_neg (by omega),if_neg (by omega),if_pos (by omega)]
 rw [q7 (b:=a1) (by omega),q7 (b:=a2) (by omega),q7 (b:=a3) (by omega),q7 (b:=a4) (by omega),q7 (b:=a5) (by omega)]
theorem rv6 (a1 a2 a3 a4 a5 a6:UInt8)(h0:1099511627776≤((((((0*256+(a1.toNat:Int))*256+(a2.toNat:Int))*256+(a3.toNat:Int))*256+(a4.toNat:Int))*256+(a5.toNat:Int))*256+(a6.toNat:Int)))(h1:((((((0*256+(a1.toNat:Int))*256+(a2.toNat:Int))*256+(a3.toNat:Int))*256+(a4.toNat:Int))*256+(a5.toNat:Int))*256+(a6.toNat:Int))≤281474976710655):row ((((((0*256+(a1.toNat:Int))*256+(a2.toNat:Int))*256+(a3.toNat:Int))*256+(a4.toNat:Int))*256+(a5.toNat:Int))*256+(a6.toNat:Int))=[253,a1,a2,a3,a4,a5,a6]:=by
 have:=zl a1; have:=zl a2; have:=zl a3; have:=zl a4; have:=zl a5; have:=zl a6
 rw [row,if_neg (by omega),if_neg (by omega),if_neg (by omega),if_neg (by omega),if_neg (by omega),if_neg (by omega),if_pos (by omega)]
 rw [q7 (b:=a1) (by omega),q7 (b:=a2) (by omega),q7 (b:=a3) (by omega),q7 (b:=a4) (by omega),q7 (b:=a5) (by omega),q7 (b:=a6) (by omega)]
theorem rv7 (a1 a2 a3 a4 a5 a6 a7:UInt8)(h0:281474976710656≤(((((((0*256+(a1.toNat:Int))*256+(a2.toNat:Int))*256+(a3.toNat:Int))*256+(a4.toNat:Int))*256+(a5.toNat:Int))*256+(a6.toNat:Int))*256+(a7.toNat:Int)))(h1:(((((((0*256+(a1.toNat:Int))*256+(a2.toNat:Int))*256+(a3.toNat:Int))*256+(a4.toNat:Int))*256+(a5.toNat:Int))*256+(a6.toNat:Int))*256+(a7.toNat:Int))≤72057594037927935):row (((((((0*256+(a1.toNat:Int))*256+(a2.toNat:Int))*256+(a3.toNat:Int))*256+(a4.toNat:Int))*256+(a5.toNat:Int))*256+(a6.toNat:Int))*256+(a7.toNat:Int))=[254,a1,a2,a3,a4,a5,a6,a7]:=by
 have:=zl a1; have:=zl a2; have:=zl a3; have:=zl a4; have:=zl a5; have:=zl a6; have:=zl a7
 rw [row,if_neg (by omega),if_neg (by omega),if_neg (by omega),if_neg (by omega),if_neg (by omega),if_neg (by omega),if_neg (by omega),if_pos (by omega)]
 rw [q7 (b:=a1) (by omega),q7 (b:=a2) (by omega),q7 (b:=a3) (by omega),q7 (b:=a4) (by omega),q7 (b:=a5) (by omega),q7 (b:=a6) (by omega),q7 (b:=a7) (by omega)]
theorem rv8 (a1 a2 a3 a4 a5 a6 a7 a8:UInt8)(h0:72057594037927936≤((((((((0*256+(a1.toNat:Int))*256+(a2.toNat:Int))*256+(a3.toNat:Int))*256+(a4.toNat:Int))*256+(a5.toNat:Int))*256+(a6.toNat:Int))*256+(a7.toNat:Int))*256+(a8.toNat:Int)))(h1:((((((((0*256+(a1.toNat:Int))*256+(a2.toNat:Int))*256+(a3.toNat:Int))*256+(a4.toNat:Int))*256+(a5.toNat:Int))*256+(a6.toNat:Int))*256+(a7.toNat:Int))*256+(a8.toNat:Int))≤18446744073709551615):row ((((((((0*256+(a1.toNat:Int))*256+(a2.toNat:Int))*256+(a3.toNat:Int))*256+(a4.toNat:Int))*256+(a5.toNat:Int))*256+(a6.toNat:Int))*256+(a7.toNat:Int))*256+(a8.toNat:Int))=[255,a1,a2,a3,a4,a5,a6,a7,a8]:=by
 have:=zl a1; have:=zl a2; have:=zl a3; have:=zl a4; have:=zl a5; have:=zl a6; have:=zl a7; have:=zl a8
 rw [row,if_neg (by omega),if_neg (by omega),if_neg (by omega),if_neg (by omega),if_neg (by omega),if_neg (by omega),if_neg (by omega),if_neg (by omega)]
 rw [q7 (b:=a1) (by omega),q7 (b:=a2) (by omega),q7 (b:=a3) (by omega),q7 (b:=a4) (by omega),q7 (b:=a5) (by omega),q7 (b:=a6) (by omega),q7 (b:=a7) (by omega),q7 (b:=a8) (by omega)]
theorem zns (f:UInt8)(t:List UInt8)(ht:t.length=tl f.toNat)(h0:zP f.toNat≤val f.toNat t)(h1:val f.toNat t≤yh f.toNat):row (val f.toNat t)=f::t:=by
 have hf:=zl f
 by_cases c:f.toNat≤240
 · simp only [tl,val,zP,yh,if_pos c] at *
   obtain rfl:=List.eq_nil_of_length_eq_zero ht
   rw [row,if_pos (by omega)]
   congr 1
   exact q7 (by omega)
 by_cases c2:f.toNat<249
 · simp only [tl,val,zP,yh,if_neg c,if_pos c2] at *
   obtain ⟨a,rfl⟩:=len1 ht
   simp only [be,List.foldl] at *
   have:=zl a
   rw [row,if_neg (by omega),if_pos (by omega)]
   congr 1
   · exact q7 (by omega)
   · congr 1; exact q7 (by omega)
 have hcs:f.toNat=(249:UInt8).toNat∨f.toNat=(250:UInt8).toNat∨f.toNat=(251:UInt8).toNat∨f.toNat=(252:UInt8).toNat∨f.toNat=(253:UInt8).toNat∨f.toNat=(254:UInt8).toNat∨f.toNat=(255:UInt8).toNat:=by simp; omega
 clear c c2 hf
 rcases hcs with c4 | c4 | c4 | c4 | c4 | c4 | c4 <;> obtain rfl:=UInt8.toNat_inj.1 c4 <;> clear c4
 · have ht2:t.length=2:=ht.trans (by decide)
   clear ht
   obtain ⟨a1,r,rfl,hr⟩:=zm7 ht2
   obtain ⟨a2,rfl⟩:=len1 hr
   · have e:val (249:UInt8).toNat [a1,a2]=(((0*256+(a1.toNat:Int))*256+(a2.toNat:Int))+2288):=by simp [val,be,List.foldl]
     have e0:zP (249:UInt8).toNat=2288:=by simp [zP]
     have e1:yh (249:UInt8).toNat=67823:=by simp [yh]
     rw [e,e0] at h0; rw [e,e1] at h1; rw [e]
     exact rv2 a1 a2 h0 h1
 · have ht:t.length=3:=by simpa [tl] using ht
   match t,ht with
   | [a1,a2,a3],_ =>
    have e:val (250:UInt8).toNat [a1,a2,a3]=(((0*256+(a1.toNat:Int))*256+(a2.toNat:Int))*256+(a3.toNat:Int)):=by simp [val,be,List.foldl]
    have e0:zP (250:UInt8).toNat=67824:=by simp [zP]
    have e1:yh (250:UInt8).toNat=16777215:=by simp [yh]
    rw [e,e0] at h0; rw [e,e1] at h1; rw [e]
    exact rv3 a1 a2 a3 h0 h1
 · have ht:t.length=4:=by simpa [tl] using ht
   match t,ht with
   | [a1,a2,a3,a4],_ =>
    have e:val (251:UInt8).toNat [a1,a2,a3,a4]=((((0*256+(a1.toNat:Int))*256+(a2.toNat:Int))*256+(a3.toNat:Int))*256+(a4.toNat:Int)):=by simp [val,be,List.foldl]
    have e0:zP (251:UInt8).toNat=16777216:=by simp [zP]
    have e1:yh (251:UInt8).toNat=4294967295:=by simp [yh]
    rw [e,e0] at h0; rw [e,e1] at h1; rw [e]
    exact rv4 a1 a2 a3 a4 h0 h1
 · have ht:t.length=5:=by simpa [tl] using ht
   match t,ht with
   | [a1,a2,a3,a4,a5],_ =>
    have e:val (252:UInt8).toNat [a1,a2,a3,a4,a5]=(((((0*256+(a1.toNat:Int))*256+(a2.toNat:Int))*256+(a3.toNat:Int))*256+(a4.toNat:Int))*256+(a5.toNat:Int)):=by simp [val,be,List.foldl]
    have e0:zP (252:UInt8).toNat=4294967296:=by simp [zP]
    have e1:yh (252:UInt8).toNat=1099511627775:=by simp [yh]
    rw [e,e0] at h0; rw [e,e1] at h1; rw [e]
    exact rv5 a1 a2 a3 a4 a5 h0 h1
 · have ht:t.length=6:=by simpa [tl] using ht
   match t,ht with
   | [a1,a2,a3,a4,a5,a6],_ =>
    have e:val (253:UInt8).toNat [a1,a2,a3,a4,a5,a6]=((((((0*256+(a1.toNat:Int))*256+(a2.toNat:Int))*256+(a3.toNat:Int))*256+(a4.toNat:Int))*256+(a5.toNat:Int))*256+(a6.toNat:Int)):=by simp [val,be,List.foldl]
    have e0:zP (253:UInt8).toNat=1099511627776:=by simp [zP]
    have e1:yh (253:UInt8).toNat=281474976710655:=by simp [yh]
    rw [e,e0] at h0; rw [e,e1] at h1; rw [e]
    exact rv6 a1 a2 a3 a4 a5 a6 h0 h1
 · have ht:t.length=7:=by simpa [tl] using ht
   match t,ht with
   | [a1,a2,a3,a4,a5,a6,a7],_ =>
    have e:val (254:UInt8).toNat [a1,a2,a3,a4,a5,a6,a7]=(((((((0*256+(a1.toNat:Int))*256+(a2.toNat:Int))*256+(a3.toNat:Int))*256+(a4.toNat:Int))*256+(a5.toNat:Int))*256+(a6.toNat:Int))*256+(a7.toNat:Int)):=by simp [val,be,List.foldl]
    have e0:zP (254:UInt8).toNat=281474976710656:=by simp [zP]
    have e1:yh (254:UInt8).toNat=72057594037927935:=by simp [yh]
    rw [e,e0] at h0; rw [e,e1] at h1; rw [e]
    exact rv7 a1 a2 a3 a4 a5 a6 a7 h0 h1
 · have ht:t.length=8:=by simpa [tl] using ht
   match t,ht with
   | [a1,a2,a3,a4,a5,a6,a7,a8],_ =>
    have e:val (255:UInt8).toNat [a1,a2,a3,a4,a5,a6,a7,a8]=((((((((0*256+(a1.toNat:Int))*256+(a2.toNat:Int))*256+(a3.toNat:Int))*256+(a4.toNat:Int))*256+(a5.toNat:Int))*256+(a6.toNat:Int))*256+(a7.toNat:Int))*256+(a8.toNat:Int)):=by simp [val,be,List.foldl]
    have e0:zP (255:UInt8).toNat=72057594037927936:=by simp [zP]
    have e1:yh (255:UInt8).toNat=18446744073709551615:=by simp [yh]
    rw [e,e0] at h0; rw [e,e1] at h1; rw [e]
    exact rv8 a1 a2 a3 a4 a5 a6 a7 a8 h0 h1
def xf:List UInt8→Option (Int × Nat)
 | []=>none
 | f::t=>if tl f.toNat≤t.length∧row (val f.toNat (t.take (tl f.toNat)))=f::t.take (tl f.toNat) then some (val f.toNat (t.take (tl f.toNat)),1+tl f.toNat) else none
theorem yA (f:UInt8)(t:List UInt8):xf (f::t)=if tl f.toNat≤t.length∧row (val f.toNat (t.take (tl f.toNat)))=f::t.take (tl f.toNat) then some (val f.toNat (t.take (tl f.toNat)),1+tl f.toNat) else none:=rfl
theorem za2 (f:UInt8):tl f.toNat≤8:=by
 have:=zl f
 unfold tl
 repeat' split
 all_goals omega
theorem qC:∀ (t:List UInt8) (v:Int),0≤v→0≤t.foldl (fun v b=>v*256+(b.toNat:Int)) v∧t.foldl (fun v b=>v*256+(b.toNat:Int)) v<(v+1)*256 ^ t.length
 | [],v,h=>by simp only [List.foldl,List.length_nil,Int.pow_zero]; omega
 | b::t,v,h=>by
  have hb:=zl b
  obtain ⟨h1,h2⟩:=qC t (v*256+b.toNat) (by omega)
  refine ⟨h1,Int.lt_of_lt_of_le h2 ?_⟩
  rw [List.length_cons,Int.pow_succ,← Int.mul_assoc]
  have h3:(v*256+(b.toNat:Int)+1)≤(v+1)*256:=by omega
  have h4:(0:Int)≤256 ^ t.length:=Int.pow_nonneg (by omega)
  calc (v*256+(b.toNat:Int)+1)*256 ^ t.length≤((v+1)*256)*256 ^ t.length:=Int.mul_le_mul_of_nonneg_right h3 h4
   _=(v+1)*256 ^ t.length*256:=by rw [Int.mul_assoc,Int.mul_comm 256,← Int.mul_assoc]
theorem xo (f:UInt8)(t:List UInt8)(ht:t.length=tl f.toNat):0≤val f.toNat t∧val f.toNat t≤18446744073709551615:=by
 obtain ⟨h1,h2⟩:=qC t 0 (by omega)
 have hf:=zl f
 have h8:=za2 f
 have h3:(256:Int) ^ t.length≤256 ^ 8:=by
  have:=Nat.pow_le_pow_right (n:=256) (by omega) (show t.length≤8 by omega)
  exact_mod_cast this
 unfold val be
 split
 · omega
 split
 · rename_i c c2
   simp only [tl,if_neg c,if_pos c2] at ht
   rw [ht] at h2
   omega
 split
 · rename_i c c2 c3
   simp only [tl,c3] at ht
   simp at ht
   rw [ht] at h2
   omega
 · omega
theorem zM {l:List UInt8}{n:Int}{k:Nat}(h:xf l=some (n,k)):0≤n∧n≤18446744073709551615∧row n=l.take k∧k≤l.length∧(row n).length=k:=by
 match l with
 | []=>cases h
 | f::t =>
  rw [yA] at h
  split at h
  · rename_i hc
    cases h
    have hl:(t.take (tl f.toNat)).length=tl f.toNat:=by simp; omega
    obtain ⟨h1,h2⟩:=xo f _ hl
    refine ⟨h1,h2,?_,by simp; omega,?_⟩
    · rw [hc.2,Nat.add_comm,List.take_succ_cons]
    · rw [hc.2,List.length_cons,hl]; omega
  · cases h
theorem xp (n:Int)(h0:0≤n)(h1:n≤18446744073709551615)(s:List UInt8):xf (row n++s)=some (n,(row n).length):=by
 obtain ⟨f,t,e,ht,hv,_,_⟩:=zgc n h0 h1
 have htk:(t++s).take (tl f.toNat)=t:=by rw [← ht]; simp
 rw [e,List.cons_append]
 rw [yA,htk,hv,if_pos ⟨by simp; omega,e⟩,List.length_cons,ht,Nat.add_comm]
theorem ziv (f:UInt8)(t:List UInt8)(ht:t.length=tl f.toNat):row (val f.toNat t)=f::t ↔ zP f.toNat≤val f.toNat t∧val f.toNat t≤yh f.toNat:=by
 refine ⟨fun h=>?_,fun h=>zns f t ht h.1 h.2⟩
 obtain ⟨b1,b2⟩:=xo f t ht
 obtain ⟨f',t',e,_,_,c1,c2⟩:=zgc (val f.toNat t) b1 b2
 rw [e] at h
 cases h
 exact ⟨c1,c2⟩
end Go.Proofs.YtdbfpjgnlfejmaaDoor.mq
end
section
set_option maxRecDepth 100000
set_option linter.unusedVariables false
namespace Go.Proofs.YtdbfpjgnlfejmaaDoor.mq
open Go Ev
noncomputable def rd (A:AV) (sp:Bool) (f:Nat→Option AV) (n:Nat):AHeap:=⟨.node (.node .leaf (some (.cells (.fn f) n 5 0 0 1 0 true .leaf)) .leaf) (some (.cells (.node (.node .leaf (some (.bool sp)) .leaf) (some A) .leaf) 2 101 0 0 1 0 false .leaf)) .leaf,2,GW⟩
theorem gtf {a b:Int}(h:a≤b):decide (a > b)=false:=decide_eq_false (by omega)
theorem gtt {a b:Int}(h:b<a):decide (a > b)=true:=decide_eq_true h
theorem leT {a b:Int}(h:a≤b):decide (a≤b)=true:=decide_eq_true h
theorem leF {a b:Int}(h:b<a):decide (a≤b)=false:=decide_eq_false (by omega)
def yy (s:List UInt8) (j:Nat):Int:=((s.getD j 0).toNat:Int)
theorem zmW {s l:List UInt8}{off:Nat}(h:s.drop off=l)(j:Nat):yy s (off+j)=((l.getD j 0).toNat:Int):=by
 rw [yy,← h,List.getD_eq_getElem?_getD,List.getD_eq_getElem?_getD,List.getElem?_drop]
theorem zoX (v b:Int)(h0:0≤v)(h1:v<72057594037927936)(h2:0≤b)(h3:b<256) :
 IntKind.u64.wrap (↑(BitVec.ofInt 64 (IntKind.u64.wrap (v*2 ^ min (Int.toNat 8) IntKind.u64.bits)) ||| BitVec.ofInt 64 (IntKind.u64.wrap b)).toNat:Int)=v*256+b:=by
 have p:(2 ^ min (Int.toNat 8) IntKind.u64.bits:Int)=256:=by decide
 have w1:IntKind.u64.wrap (v*256)=v*256:=IntWalk.u64_in _ (by omega)
 have w2:IntKind.u64.wrap b=b:=IntWalk.u64_in _ (by omega)
 obtain ⟨n,rfl⟩:=Int.eq_ofNat_of_zero_le h0
 obtain ⟨k,rfl⟩:=Int.eq_ofNat_of_zero_le h2
 have hv:(BitVec.ofInt 64 ((n:Int)*256)).toNat=n*256:=by
  rw [BitVec.toNat_ofInt,Int.emod_eq_of_lt (by omega) (by omega)]; omega
 have hb:(BitVec.ofInt 64 (k:Int)).toNat=k:=by
  rw [BitVec.toNat_ofInt,Int.emod_eq_of_lt (by omega) (by omega)]; omega
 have ho:n*256 ||| k=n*256+k:=by
  have:=Nat.shiftLeft_add_eq_or_of_lt (show k<2 ^ 8 by omega) n
  rw [Nat.shiftLeft_eq] at this
  exact this.symm
 rw [p,w1,w2,BitVec.toNat_or,hv,hb,ho]
 rw [IntWalk.u64_in _ (by omega)]
 omega
noncomputable def rd3 (A:AV) (sp:Bool) (s:List UInt8) (a b c d e:Int):AHeap:=⟨(.node (.node .leaf (some (.cells (.fn fun j=>some (AV.int .u8 (yy s j))) s.length 5 0 0 1 0 true .leaf)) .leaf) (some (.cells (.node (.node .leaf (some (.bool sp)) .leaf) (some A) .leaf) 2 101 0 0 1 0 false .leaf)) (.node .leaf (some (.cells (.node (.node (.node .leaf (some (.int .u64 a)) .leaf) (some (.int .u64 b)) .leaf) (some (.int .u8 c)) (.node (.node .leaf (some (.int .i64 d)) .leaf) (some (.int .u64 e)) .leaf)) 5 130 0 0 1 0 false .leaf)) .leaf)),3,GW⟩
noncomputable abbrev zah (s:List UInt8) (off len c:Nat):AM:=ze P 76 [.fn (.func 77) [.ptr 0 0 0] []] (rd (.slc 1 0 off len c) false (fun j=>some (.int .u8 (yy s j))) s.length)
theorem zc (s:List UInt8):za fun j=>some (AV.int IntKind.u8 (yy s j)):=fun _ _ e=>by cases e; rfl
def ahead (s:List UInt8) (len:Nat):List UInt8:=s.drop (s.length - len)
theorem zm {s:List UInt8}{len:Nat}(h:len≤s.length):(ahead s len).length=len:=by simp [ahead]; omega
theorem zgo {s:List UInt8}{off len:Nat}(h:off+len=s.length):ahead s len=s.drop off:=by rw [ahead]; congr 1; omega
theorem jR (f:UInt8):f.toNat≤240∨(241≤f.toNat∧f.toNat<249)∨f.toNat=249∨f.toNat=250∨f.toNat=251∨f.toNat=252∨f.toNat=253∨f.toNat=254∨f.toNat=255:=by
 have:=zl f
 omega
noncomputable def NL (s:List UInt8) (v j:Int) (o t y x:Nat) (f0 b0 l0 m0 tl0:Int) (G:T (T AV)):AM:=⟨⟨76,67,(.node (.node .leaf none (.node (.node .leaf none (.node (.node .leaf (some (.int .i64 (t:Int))) .leaf) none .leaf)) none .leaf)) none (.node (.node (.node .leaf (some (.int .u64 v)) (.node (.node .leaf (some (.slc 1 0 o t t)) .leaf) none .leaf)) none .leaf) none (.node (.node .leaf none (.node (.node .leaf (some (.int .i64 j)) .leaf) none .leaf)) (some (.ptr 2 0 0)) .leaf))),
 [.code (cd P (76:Nat) [(1:Nat),(1:Nat),(1:Nat),(1:Nat),(1:Nat),(1:Nat),(1:Nat),(0:Nat),(1:Nat),(0:Nat),(0:Nat)]),.inLoop (cd P (76:Nat) [(1:Nat),(1:Nat),(1:Nat),(1:Nat),(1:Nat),(1:Nat),(1:Nat),(0:Nat),(1:Nat),(0:Nat),(0:Nat)]),.inBlock 0,.code (cd P (76:Nat) [(1:Nat),(1:Nat),(1:Nat),(1:Nat),(1:Nat),(1:Nat),(1:Nat),(1:Nat)])],[],.run,CallKind.normal,none⟩,
 [],
 ⟨(.node (.node .leaf (some (.cells (.fn fun j=>some (.int .u8 (yy s j))) s.length 5 0 0 1 0 true .leaf)) .leaf) (some (.cells (.node (.node .leaf (some (.bool false)) .leaf) (some (.slc 1 0 y x x)) .leaf) 2 101 0 0 1 0 false .leaf)) (.node .leaf (some (.cells (.node (.node (.node .leaf (some (.int .u64 m0)) .leaf) (some (.int .u64 b0)) .leaf) (some (.int .u8 f0)) (.node (.node .leaf (some (.int .i64 tl0)) .leaf) (some (.int .u64 l0)) .leaf)) 5 130 0 0 1 0 false .leaf)) .leaf)),3,G⟩⟩
theorem z0 (R:AV→AHeap→Prop)(s:List UInt8)(off len c:Nat)(v j:Int)(_K:AM→Prop):Obl P 76 (fun v h=>R v h) 2 _K [.run 30,.know 18 true,.run 27,.done] ((ze P 76 [.fn (.func 77) [.ptr 0 0 0] []] (rd (.slc 1 0 off len c) false (fun j=>some (.int .u8 (yy s j))) s.length)))=((decide (Int.ofNat 1 > IntKind.u64.wrap (↑len:Int))=true)∧(R (.tup [.int .u64 0,.bool false]) (⟨(.node (.node .leaf (some (.cells (.fn fun j=>some (AV.int .u8 (yy s j))) s.length 5 0 0 1 0 true .leaf)) .leaf) (some (.cells (.node (.node .leaf (some (.bool false)) .leaf) (some (.slc 1 0 off len c)) .leaf) 2 101 0 0 1 0 false .leaf)) .leaf),2,GW⟩))):=by kernel_rfl
theorem z1 (R:AV→AHeap→Prop)(s:List UInt8)(off len c:Nat)(f0 b0 l0 m0 tl0 v j:Int)(_K:AM→Prop):Obl P 76 (fun v h=>R v h) 2 _K [.run 30,.know 18 false,.run 10,.op,.run 20,.op,.run 30,.op,.run 1,.callv [0] (.agg [.int .u8 f0,.int .u64 b0,.int .u64 l0,.int .u64 m0,.int .i64 tl0]),.run 31,.know 18 true,.run 27,.done] ((ze P 76 [.fn (.func 77) [.ptr 0 0 0] []] (rd (.slc 1 0 off len c) false (fun j=>some (.int .u8 (yy s j))) s.length)))=((decide (Int.ofNat 1 > IntKind.u64.wrap (↑len:Int))=false)∧(((0:Int)≤Int.ofNat 1∧Int.ofNat 1≤(↑c:Int))∧(0:Int)≤Int.ofNat 1∧Int.ofNat 1≤(↑(1):Int))∧((((0:Int)≤(↑len:Int)∧(↑len:Int)≤(↑c:Int))∧(0:Int)≤(↑len:Int)∧(↑len:Int)≤(↑(↑len:Int).toNat:Int))∧(0:Int)≤Int.ofNat 1∧Int.ofNat 1≤(↑(↑len:Int).toNat:Int))∧(off+1≤s.length)∧(Goal P 0 103 (fun v _=>v=AV.agg [AV.int .u8 f0,AV.int .u64 b0,AV.int .u64 l0,AV.int .u64 m0,AV.int .i64 tl0]) (zb P 103 [.int .u8 (yy s off)] GW))∧(decide (IntKind.u64.wrap tl0 > IntKind.u64.wrap (↑((↑len:Int).toNat - 1):Int))=true)∧(R (.tup [.int .u64 0,.bool false]) (rd3 (.slc 1 0 (if (↑len:Int).toNat=1 then off else off+1) ((↑len:Int).toNat - 1) ((↑len:Int).toNat - 1)) false s m0 b0 f0 tl0 l0))):=by kernel_rfl
theorem z2 (R:AV→AHeap→Prop)(s:List UInt8)(off len c o t:Nat)(f0 b0 l0 m0 tl0 v j:Int)(K:AM→Prop):Obl P 76 (fun v h=>R v h) 2 K [.run 30,.know 18 false,.run 10,.op,.run 20,.op,.run 30,.op,.run 1,.callv [0] (.agg [.int .u8 f0,.int .u64 b0,.int .u64 l0,.int .u64 m0,.int .i64 tl0]),.run 31,.know 18 false,.run 10,.op,.run 20,.op,.run 30,.op,.run 15,.slot 40 (.slc 1 0 o t t),.slot 41 (.int .i64 (t:Int)),.slot 8 (.int .u64 v),.can 2 [0,1,2] [6,8,40,41,42] []] ((ze P 76 [.fn (.func 77) [.ptr 0 0 0] []] (rd (.slc 1 0 off len c) false (fun j=>some (.int .u8 (yy s j))) s.length)))=((decide (Int.ofNat 1 > IntKind.u64.wrap (↑len:Int))=false)∧(((0:Int)≤Int.ofNat 1∧Int.ofNat 1≤(↑c:Int))∧(0:Int)≤Int.ofNat 1∧Int.ofNat 1≤(↑(1):Int))∧((((0:Int)≤(↑len:Int)∧(↑len:Int)≤(↑c:Int))∧(0:Int)≤(↑len:Int)∧(↑len:Int)≤(↑(↑len:Int).toNat:Int))∧(0:Int)≤Int.ofNat 1∧Int.ofNat 1≤(↑(↑len:Int).toNat:Int))∧(off+1≤s.length)∧(Goal P 0 103 (fun v _=>v=AV.agg [AV.int .u8 f0,AV.int .u64 b0,AV.int .u64 l0,AV.int .u64 m0,AV.int .i64 tl0]) (zb P 103 [.int .u8 (yy s off)] GW))∧(decide (IntKind.u64.wrap tl0 > IntKind.u64.wrap (↑((↑len:Int).toNat - 1):Int))=false)∧(((0:Int)≤IntKind.u64.wrap tl0∧IntKind.u64.wrap tl0≤(↑((↑len:Int).toNat - 1):Int))∧(0:Int)≤IntKind.u64.wrap tl0∧IntKind.u64.wrap tl0≤(↑(IntKind.u64.wrap tl0).toNat:Int))∧((((0:Int)≤(↑((↑len:Int).toNat - 1):Int)∧(↑((↑len:Int).toNat - 1):Int)≤(↑((↑len:Int).toNat - 1):Int))∧(0:Int)≤(↑((↑len:Int).toNat - 1):Int)∧(↑((↑len:Int).toNat - 1):Int)≤(↑(↑((↑len:Int).toNat - 1):Int).toNat:Int))∧(0:Int)≤IntKind.u64.wrap tl0∧IntKind.u64.wrap tl0≤(↑(↑((↑len:Int).toNat - 1):Int).toNat:Int))∧(off+1≤s.length)∧(AV.slc 1 0 (if (IntKind.u64.wrap tl0).toNat=0 then if (↑len:Int).toNat=1 then off else off+1 else if (↑len:Int).toNat=1 then off else off+1) ((IntKind.u64.wrap tl0).toNat - 0) ((IntKind.u64.wrap tl0).toNat - 0)=AV.slc 1 0 o t t)∧(AV.int .i64 (↑((IntKind.u64.wrap tl0).toNat - 0):Int)=AV.int .i64 (↑t:Int))∧(AV.int .u64 (IntKind.u64.wrap (IntKind.u8.wrap (yy s off - f0)))=AV.int .u64 v)∧(za fun j=>some (AV.int .u8 (yy s j)))∧K (NL s v (Int.ofNat 0) o t (if (↑((↑len:Int).toNat - 1):Int).toNat=(IntKind.u64.wrap tl0).toNat then if (↑len:Int).toNat=1 then off else off+1 else (if (↑len:Int).toNat=1 then off else off+1)+(IntKind.u64.wrap tl0).toNat*1) ((↑((↑len:Int).toNat - 1):Int).toNat - (IntKind.u64.wrap tl0).toNat) f0 b0 l0 m0 tl0 GW)):=by kernel_rfl
theorem z3 (R:AV→AHeap→Prop)(s:List UInt8)(o x y t:Nat)(f0 b0 l0 m0 tl0 v v2 j:Int)(K:AM→Prop):Obl P 76 (fun v h=>R v h) 2 K [.run 5,.know 43 true,.run 6,.op,.op,.run 16,.slot 8 (.int .u64 v2),.can 2 [0,1,2] [6,8,40,41,42] []] ((NL s v j o t y x f0 b0 l0 m0 tl0 GW))=((decide (j<(↑t:Int))=true)∧((0:Int)≤j∧j<(↑t:Int))∧(o+j.toNat*1+1≤s.length)∧(AV.int .u64 (IntKind.u64.wrap (↑(BitVec.ofInt 64 (IntKind.u64.wrap (v*(2:Int) ^ min (Int.toNat (8:Int)) IntKind.u64.bits)) ||| BitVec.ofInt 64 (IntKind.u64.wrap (yy s (o+j.toNat*1)))).toNat:Int))=AV.int .u64 v2)∧(za fun j=>some (AV.int .u8 (yy s j)))∧K (NL s v2 (IntKind.i64.wrap (j+(1:Int))) o t y x f0 b0 l0 m0 tl0 GW)):=by kernel_rfl
section
set_option linter.unusedSectionVars false
variable (R:AV→AHeap→Prop) (s:List UInt8) (o x y t:Nat) (f0 b0 l0 m0 tl0 v j:Int) (_K:AM→Prop)
include R s o x y t f0 b0 l0 m0 tl0 v j _K
theorem z4:Obl P 76 (fun v h=>R v h) 2 _K [.run 5,.know 43 false,.run 18,.know 60 true,.run 6,.know 65 true,.run 8,.done] ((NL s v j o t y x f0 b0 l0 m0 tl0 GW))=((decide (j<(↑t:Int))=false)∧(decide (l0≤IntKind.u64.wrap (v+b0))=true)∧(decide (IntKind.u64.wrap (v+b0)≤m0)=true)∧(R (.tup [.int .u64 (IntKind.u64.wrap (v+b0)),.bool true]) (rd3 (.slc 1 0 y x x) false s m0 b0 f0 tl0 l0))):=by kernel_rfl
theorem z5:Obl P 76 (fun v h=>R v h) 2 _K [.run 5,.know 43 false,.run 18,.know 60 true,.run 6,.know 65 false,.run 8,.done] ((NL s v j o t y x f0 b0 l0 m0 tl0 GW))=((decide (j<(↑t:Int))=false)∧(decide (l0≤IntKind.u64.wrap (v+b0))=true)∧(decide (IntKind.u64.wrap (v+b0)≤m0)=false)∧(R (.tup [.int .u64 0,.bool false]) (rd3 (.slc 1 0 y x x) false s m0 b0 f0 tl0 l0))):=by kernel_rfl
theorem z6:Obl P 76 (fun v h=>R v h) 2 _K [.run 5,.know 43 false,.run 18,.know 60 false,.run 14,.done] ((NL s v j o t y x f0 b0 l0 m0 tl0 GW))=((decide (j<(↑t:Int))=false)∧(decide (l0≤IntKind.u64.wrap (v+b0))=false)∧(R (.tup [.int .u64 0,.bool false]) (rd3 (.slc 1 0 y x x) false s m0 b0 f0 tl0 l0))):=by kernel_rfl
end
def kM (v:Int) (t:List UInt8):Int:=t.foldl (fun v b=>v*256+(b.toNat:Int)) v
theorem zjs (v:Int)(t:List UInt8)(b:UInt8):kM v (t++[b])=kM v t*256+(b.toNat:Int):=by
 unfold kM
 rw [List.foldl_append]
 rfl
theorem pow7 {k:Nat}(h:k≤7):(256:Int) ^ k≤72057594037927936:=by
 have hc:k=0∨k=1∨k=2∨k=3∨k=4∨k=5∨k=6∨k=7:=by omega
 rcases hc with rfl | rfl | rfl | rfl | rfl | rfl | rfl | rfl <;> decide +kernel
theorem zbT {v:Int}(h0:0≤v){u:List UInt8}{k:Nat}(hk:u.length<k)(h:(v=0∧k≤8)∨(v≤7∧k≤1)∨k=0):0≤kM v u∧kM v u<72057594037927936:=by
 obtain ⟨b1,b2⟩:=qC u v h0
 refine ⟨b1,?_⟩
 rcases h with ⟨rfl,h⟩ | ⟨h,h1⟩ | h
 · have:=pow7 (k:=u.length) (by omega)
   unfold kM
   omega
 · obtain rfl:u=[]:=List.eq_nil_of_length_eq_zero (by omega)
   show v<_
   omega
 · omega
theorem zgx (f:UInt8):∃ f0 b0:Int,Goal P 0 103 (fun x _=>x=qU f0 b0 (zP f.toNat) (yh f.toNat) (tl f.toNat)) (zb P 103 [.int .u8 f.toNat] GW)∧0≤f0∧f0≤f.toNat∧0≤b0∧b0≤2288 ∧
 (((f.toNat:Int) - f0=0∧tl f.toNat≤8)∨((f.toNat:Int) - f0≤7∧tl f.toNat≤1)∨tl f.toNat=0) ∧
 ∀ t:List UInt8,t.length=tl f.toNat→kM ((f.toNat:Int) - f0) t+b0=val f.toNat t:=by
 have hf:=zl f
 rcases jR f with h | ⟨h1,h2⟩ | h | h | h | h | h | h | h
 · refine ⟨0,0,?_,by omega,by omega,by omega,by omega,.inr (.inr (by simp only [tl,if_pos h])),fun t ht=>?_⟩
   · have e:qU 0 0 (zP f.toNat) (yh f.toNat) (tl f.toNat)=qU 0 0 0 240 0:=by simp only [zP,yh,tl,if_pos h]; rfl
     rw [e]
     exact from0 _ (by omega) (by omega)
   · simp only [tl,if_pos h] at ht
     obtain rfl:=List.eq_nil_of_length_eq_zero ht
     show (f.toNat:Int) - 0+0=_
     simp only [val,if_pos h]
     omega
 · have c1:¬ f.toNat≤240:=by omega
   refine ⟨241,240,?_,by omega,by omega,by omega,by omega,.inr (.inl ⟨by omega,by simp only [tl,if_neg c1,if_pos h2]; omega⟩),fun t ht=>?_⟩
   · have e:qU 241 240 (zP f.toNat) (yh f.toNat) (tl f.toNat)=qU 241 240 241 2287 1:=by simp only [zP,yh,tl,if_neg c1,if_pos h2]; rfl
     rw [e]
     exact from1 _ (by omega) (by omega)
   · simp only [tl,if_neg c1,if_pos h2] at ht
     obtain ⟨a,rfl⟩:=len1 ht
     simp only [val,if_neg c1,if_pos h2,be,kM,List.foldl]
     omega
 · refine ⟨249,2288,?_,by omega,by omega,by omega,by omega,.inl ⟨by omega,by rw [h]; decide⟩,fun t ht=>?_⟩
   · rw [h]
     have e:qU 249 2288 (zP 249) (yh 249) (tl 249)=qU 249 2288 2288 67823 2:=by kernel_rfl
     rw [e]
     exact from2 _ (by omega) (by omega)
   · have hz:(f.toNat:Int) - 249=0:=by omega
     rw [hz,h]
     simp [val,be,kM]
 · refine ⟨250,0,?_,by omega,by omega,by omega,by omega,.inl ⟨by omega,by rw [h]; decide⟩,fun t ht=>?_⟩
   · rw [h]
     have e:qU 250 0 (zP 250) (yh 250) (tl 250)=qU 250 0 67824 16777215 3:=by kernel_rfl
     rw [e]
     exact from3 _ (by omega) (by omega)
   · have hz:(f.toNat:Int) - 250=0:=by omega
     rw [hz,h]
     simp [val,be,kM]
 · refine ⟨251,0,?_,by omega,by omega,by omega,by omega,.inl ⟨by omega,by rw [h]; decide⟩,fun t ht=>?_⟩
   · rw [h]
     have e:qU 251 0 (zP 251) (yh 251) (tl 251)=qU 251 0 16777216 4294967295 4:=by kernel_rfl
     rw [e]
     exact from4 _ (by omega) (by omega)
   · have hz:(f.toNat:Int) - 251=0:=by omega
     rw [hz,h]
     simp [val,be,kM]
 · refine ⟨252,0,?_,by omega,by omega,by omega,by omega,.inl ⟨by omega,by rw [h]; decide⟩,fun t ht=>?_⟩
   · rw [h]
     have e:qU 252 0 (zP 252) (yh 252) (tl 252)=qU 252 0 4294967296 1099511627775 5:=by kernel_rfl
     rw [e]
     exact from5 _ (by omega) (by omega)
   · have hz:(f.toNat:Int) - 252=0:=by omega
     rw [hz,h]
     simp [val,be,kM]
 · refine ⟨253,0,?_,by omega,by omega,by omega,by omega,.inl ⟨by omega,by rw [h]; decide⟩,fun t ht=>?_⟩
   · rw [h]
     have e:qU 253 0 (zP 253) (yh 253) (tl 253)=qU 253 0 1099511627776 281474976710655 6:=by kernel_rfl
     rw [e]
     exact from6 _ (by omega) (by omega)
   · have hz:(f.toNat:Int) - 253=0:=by omega
     rw [hz,h]
     simp [val,be,kM]
 · refine ⟨254,0,?_,by omega,by omega,by omega,by omega,.inl ⟨by omega,by rw [h]; decide⟩,fun t ht=>?_⟩
   · rw [h]
     have e:qU 254 0 (zP 254) (yh 254) (tl 254)=qU 254 0 281474976710656 72057594037927935 7:=by kernel_rfl
     rw [e]
     exact from7 _ (by omega) (by omega)
   · have hz:(f.toNat:Int) - 254=0:=by omega
     rw [hz,h]
     simp [val,be,kM]
 · refine ⟨255,0,?_,by omega,by omega,by omega,by omega,.inl ⟨by omega,by rw [h]; decide⟩,fun t ht=>?_⟩
   · rw [h]
     have e:qU 255 0 (zP 255) (yh 255) (tl 255)=qU 255 0 72057594037927936 18446744073709551615 8:=by kernel_rfl
     rw [e]
     exact from8 _ (by omega)
   · have hz:(f.toNat:Int) - 255=0:=by omega
     rw [hz,h]
     simp [val,be,kM]
section
variable {s:List UInt8} {o y x:Nat} {f0 b0 l0 m0 tl0:Int} {v0:Int} {tt:List UInt8} {Q:AV→AHeap→Prop}
theorem zfA (ho:o+tt.length≤s.length)(hs:s.length≤9223372036854775807)(ht:∀ j,j<tt.length→yy s (o+j)=((tt.getD j 0).toNat:Int))(hl:tt.length≤8)(hb:∀ u:List UInt8,u.length<tt.length→0≤kM v0 u∧kM v0 u<72057594037927936)
 (hE:Goal P 2 76 Q (NL s (kM v0 tt) (tt.length:Nat) o tt.length y x f0 b0 l0 m0 tl0 GW)) :
 ∀ r j,j+r=tt.length→Goal P 2 76 Q (NL s (kM v0 (tt.take j)) (j:Nat) o tt.length y x f0 b0 l0 m0 tl0 GW)
 | 0,j,hj=>by
  obtain rfl:j=tt.length:=by omega
  rw [List.take_length]
  exact hE
 | r+1,j,hj=>by
  have hjl:j<tt.length:=by omega
  have ih:=zfA ho hs ht hl hb hE r (j+1) (by omega)
  have hb1:=hb (tt.take j) (by rw [List.length_take]; omega)
  have hd:tt.getD j 0=tt[j]:=by rw [List.getD_eq_getElem?_getD,List.getElem?_eq_getElem hjl]; rfl
  have e1:kM v0 (tt.take (j+1))=kM v0 (tt.take j)*256+((tt.getD j 0).toNat:Int):=by
   rw [List.take_succ_eq_append_getElem hjl,zjs,hd]
  have hu:=zl (tt.getD j 0)
  rw [e1] at ih
  exact (og (z3 _ (s) _ _ _ _ _ _ _ _ _ _ _ _ _).symm ⟨decide_eq_true (by omega),⟨by omega,by omega⟩,by rw [Int.toNat_natCast]; omega,by rw [Int.toNat_natCast,Nat.mul_one,ht j hjl,zoX _ _ hb1.1 hb1.2 (by omega) (by omega)],zc s,by rw [show IntKind.i64.wrap ((j:Int)+1)=((j+1:Nat):Int) by rw [IntWalk.i64_in _ (by omega)]; omega]; exact ih⟩)
theorem zpw {off len k:Nat}(hoff:off+len=s.length)(h1:1≤len)(h2:k≤len - 1):(if len - 1=k then (if len=1 then off else off+1) else (if len=1 then off else off+1)+k*1)≤s.length∧(0<len - 1 - k→(if len - 1=k then (if len=1 then off else off+1) else (if len=1 then off else off+1)+k*1)+(len - 1 - k)=s.length):=by
 constructor
 · repeat' split
   all_goals omega
 · intro hpos
   repeat' split
   all_goals omega
theorem zmz {off len c:Nat}(hoff:off+len=s.length)(hc:len≤c)(hbig:s.length≤9223372036854775807){f:UInt8}{t:List UInt8}(hl:s.drop off=f::t){k:Nat}(hk:k≤t.length)(hk8:k≤8)
 (hg:Goal P 0 103 (fun x _=>x=qU f0 b0 l0 m0 k) (zb P 103 [.int .u8 f.toNat] GW)) (hf0:0≤f0∧f0≤f.toNat)
 (h:∀ o:Nat,o+k≤s.length→(∀ j,j<k→yy s (o+j)=((t.getD j 0).toNat:Int))→Goal P 2 76 Q (NL s ((f.toNat:Int) - f0) ((0:Nat):Int) o k (if len - 1=k then (if len=1 then off else off+1) else (if len=1 then off else off+1)+k*1) (len - 1 - k) f0 b0 l0 m0 k GW)):Goal P 2 76 Q (zah s off len c):=by
 have hlen:t.length+1=len:=by
  have:=congrArg List.length hl
  rw [List.length_drop,List.length_cons] at this
  omega
 have hf:=zl f
 have w1:IntKind.u64.wrap (len:Int)=len:=IntWalk.u64_in _ (by omega)
 have w2:IntKind.u64.wrap ((k:Nat):Int)=k:=IntWalk.u64_in _ (by omega)
 have w3:IntKind.u64.wrap ((len - 1:Nat):Int)=(len - 1:Nat):=IntWalk.u64_in _ (by omega)
 have y0:yy s off=f.toNat:=by have:=zmW hl 0; simpa using this
 have wv:IntKind.u64.wrap (IntKind.u8.wrap (yy s off - f0))=(f.toNat:Int) - f0:=by
  rw [y0,IntWalk.u8_in _ (by omega),IntWalk.u64_in _ (by omega)]
 have key:∀ Y X:Nat,Y=(if len - 1=k then (if len=1 then off else off+1) else (if len=1 then off else off+1)+k*1)→X=len - 1 - k →
  Goal P 2 76 Q (NL s ((f.toNat:Int) - f0) ((0:Nat):Int) (if len=1 then off else off+1) k Y X f0 b0 l0 m0 k GW):=by
  rintro Y X rfl rfl
  refine h _ ?_ fun j hj=>?_
  · split <;> omega
  · have hne:len≠1:=by omega
    rw [if_neg hne,show off+1+j=off+(j+1) by omega,zmW hl (j+1)]
    rfl
 exact (og (z2 _ (s) (off) (len) (c) ((if len=1 then off else off+1)) (k) (f0) (b0) (l0) (m0) ((k:Int)) ((f.toNat:Int) - f0) (0) _).symm ⟨gtf (show (1:Int)≤_ by rw [w1]; omega),⟨⟨by decide,show (1:Int)≤(c:Int) by omega⟩,by decide,by decide⟩,
  ⟨⟨⟨by omega,by omega⟩,by omega,by rw [Int.toNat_natCast]; omega⟩,by decide,show (1:Int)≤_ by rw [Int.toNat_natCast]; omega⟩,by omega,by rw [y0]; exact hg,
  gtf (by rw [w2,Int.toNat_natCast,w3]; omega),⟨⟨by rw [w2]; omega,by rw [w2,Int.toNat_natCast]; omega⟩,by rw [w2]; omega,by rw [w2,Int.toNat_natCast]; omega⟩,
  ⟨⟨⟨by omega,by omega⟩,by omega,by rw [Int.toNat_natCast]; omega⟩,by rw [w2]; omega,by rw [w2]; simp only [Int.toNat_natCast]; omega⟩,by omega,
  by rw [w2]; simp only [Int.toNat_natCast,ite_self,Nat.sub_zero],by rw [w2]; simp only [Int.toNat_natCast,Nat.sub_zero],by rw [wv],zc s,
  (by refine key _ _ ?_ ?_ <;> (rw [w2]; simp only [Int.toNat_natCast]))⟩)
end
theorem zau (s:List UInt8)(off len c:Nat)(hls:len≤s.length)(ho:0<len→off+len=s.length)(hc':len≤c)(hbig:s.length≤9223372036854775807){n:Int}{k:Nat}(hp:xf (ahead s len)=some (n,k)) :
 ∃ (off2:Nat) (a1 a2 a3 a4 a5:Int),(off2≤s.length∧(0<len - k→off2+(len - k)=s.length))∧Goal P 2 76 (fun v H=>v=.tup [.int .u64 n,.bool true]∧H=rd3 (.slc 1 0 off2 (len - k) (len - k)) false s a1 a2 a3 a4 a5) (zah s off len c):=by
 have hal:=zm hls
 cases ha:ahead s len with
 | nil=>rw [ha] at hp; cases hp
 | cons f t =>
 rw [ha] at hp hal
 have hlen:t.length+1=len:=by simpa using hal
 have hoff:=ho (by omega)
 have hl:s.drop off=f::t:=by rw [← zgo hoff]; exact ha
 rw [yA] at hp
 split at hp
 rotate_left
 · cases hp
 rename_i hc
 have hn:val f.toNat (t.take (tl f.toNat))=n:=by cases hp; rfl
 have hkk:1+tl f.toNat=k:=by cases hp; rfl
 have htt:(t.take (tl f.toNat)).length=tl f.toNat:=by rw [List.length_take]; omega
 obtain ⟨f0,b0,hg,q1,q2,q3,q4,q5,q6⟩:=zgx f
 obtain ⟨v1,v2⟩:=xo f _ htt
 have hv:=q6 _ htt
 have hr:=(ziv f _ htt).1 hc.2
 have h8:=za2 f
 have wv:IntKind.u64.wrap (kM ((f.toNat:Int) - f0) (t.take (tl f.toNat))+b0)=n:=by rw [hv,hn]; exact IntWalk.u64_in _ (by omega)
 refine ⟨(if len - 1=tl f.toNat then (if len=1 then off else off+1) else (if len=1 then off else off+1)+tl f.toNat*1),yh f.toNat,b0,f0,(tl f.toNat:Int),zP f.toNat,?_,zmz hoff hc' hbig hl hc.1 h8 hg ⟨q1,q2⟩ fun o h1 h2=>?_⟩
 · rw [show len - k=len - 1 - tl f.toNat by omega]
   exact zpw hoff (by omega) (by omega)
 · rw [show len - k=len - 1 - tl f.toNat by omega]
   have hE:Goal P 2 76 (fun v H=>v=.tup [.int .u64 n,.bool true]∧H=rd3 (.slc 1 0 (if len - 1=tl f.toNat then (if len=1 then off else off+1) else (if len=1 then off else off+1)+tl f.toNat*1) (len - 1 - tl f.toNat) (len - 1 - tl f.toNat)) false s (yh f.toNat) b0 f0 (tl f.toNat) (zP f.toNat)) (NL s (kM ((f.toNat:Int) - f0) (t.take (tl f.toNat))) ((t.take (tl f.toNat)).length:Nat) o (t.take (tl f.toNat)).length (if len - 1=tl f.toNat then (if len=1 then off else off+1) else (if len=1 then off else off+1)+tl f.toNat*1) (len - 1 - tl f.toNat) f0 b0 (zP f.toNat) (yh f.toNat) (tl f.toNat) GW):=(og (z4 _ (s) (o) (len - 1 - tl f.toNat) ((if len - 1=tl f.toNat then (if len=1 then off else off+1) else (if len=1 then off else off+1)+tl f.toNat*1)) ((t.take (tl f.toNat)).length) (f0) (b0) (zP f.toNat) (yh f.toNat) ((tl f.toNat:Int)) (kM ((f.toNat:Int) - f0) (t.take (tl f.toNat))) (((t.take (tl f.toNat)).length:Nat)) _).symm ⟨decide_eq_false (by omega),leT (by rw [wv,← hn]; exact hr.1),leT (by rw [wv,← hn]; exact hr.2),by rw [wv],rfl⟩)
   have hloop:=zfA (o:=o) (v0:=(f.toNat:Int) - f0) (tt:=t.take (tl f.toNat)) (by rw [htt]; exact h1) hbig (fun j hj=>by
    rw [htt] at hj
    rw [h2 j hj,List.getD_eq_getElem?_getD,List.getD_eq_getElem?_getD,List.getElem?_take,if_pos hj]) (by omega) (fun u hu=>zbT (by omega) hu (by rw [htt]; omega)) hE _ 0 (Nat.zero_add _)
   rw [htt] at hloop
   exact hloop
theorem zbu (s:List UInt8)(off len c:Nat)(hls:len≤s.length)(ho:0<len→off+len=s.length)(hc':len≤c)(hbig:s.length≤9223372036854775807)(hp:xf (ahead s len)=none) :
 Goal P 2 76 (fun v H=>v=.tup [.int .u64 0,.bool false]∧H=rd (.slc 1 0 off len c) false (fun j=>some (.int .u8 (yy s j))) s.length) (zah s off len c) ∨
 ∃ (off2 len2:Nat) (a1 a2 a3 a4 a5:Int),Goal P 2 76 (fun v H=>v=.tup [.int .u64 0,.bool false]∧H=rd3 (.slc 1 0 off2 len2 len2) false s a1 a2 a3 a4 a5) (zah s off len c):=by
 have hal:=zm hls
 cases ha:ahead s len with
 | nil =>
  rw [ha] at hal
  obtain rfl:len=0:=hal.symm
  exact .inl ((og (z0 _ (s) (off) (0) (c) (0) (0) _).symm ⟨gtt (by rw [IntWalk.u64_in _ (by omega)]; decide),rfl,rfl⟩))
 | cons f t =>
 right
 rw [ha] at hp hal
 have hlen:t.length+1=len:=by simpa using hal
 have hoff:=ho (by omega)
 have hl:s.drop off=f::t:=by rw [← zgo hoff]; exact ha
 rw [yA] at hp
 split at hp
 · cases hp
 rename_i hc
 obtain ⟨f0,b0,hg,q1,q2,q3,q4,q5,q6⟩:=zgx f
 have hf:=zl f
 have h8:=za2 f
 by_cases hk:tl f.toNat≤t.length
 · have htt:(t.take (tl f.toNat)).length=tl f.toNat:=by rw [List.length_take]; omega
   obtain ⟨v1,v2⟩:=xo f _ htt
   have hv:=q6 _ htt
   have hr:¬ (zP f.toNat≤val f.toNat (t.take (tl f.toNat))∧val f.toNat (t.take (tl f.toNat))≤yh f.toNat):=fun h=>hc ⟨hk,(ziv f _ htt).2 h⟩
   have wv:IntKind.u64.wrap (kM ((f.toNat:Int) - f0) (t.take (tl f.toNat))+b0)=val f.toNat (t.take (tl f.toNat)):=by rw [hv]; exact IntWalk.u64_in _ (by omega)
   refine ⟨(if len - 1=tl f.toNat then (if len=1 then off else off+1) else (if len=1 then off else off+1)+tl f.toNat*1),len - 1 - tl f.toNat,yh f.toNat,b0,f0,(tl f.toNat:Int),zP f.toNat,zmz hoff hc' hbig hl hk h8 hg ⟨q1,q2⟩ fun o h1 h2=>?_⟩
   have hE:Goal P 2 76 (fun v H=>v=.tup [.int .u64 0,.bool false]∧H=rd3 (.slc 1 0 (if len - 1=tl f.toNat then (if len=1 then off else off+1) else (if len=1 then off else off+1)+tl f.toNat*1) (len - 1 - tl f.toNat) (len - 1 - tl f.toNat)) false s (yh f.toNat) b0 f0 (tl f.toNat) (zP f.toNat)) (NL s (kM ((f.toNat:Int) - f0) (t.take (tl f.toNat))) ((t.take (tl f.toNat)).length:Nat) o (t.take (tl f.toNat)).length (if len - 1=tl f.toNat then (if len=1 then off else off+1) else (if len=1 then off else off+1)+tl f.toNat*1) (len - 1 - tl f.toNat) f0 b0 (zP f.toNat) (yh f.toNat) (tl f.toNat) GW):=by
    by_cases h3:zP f.toNat≤val f.toNat (t.take (tl f.toNat))
    · exact (og (z5 _ (s) (o) (len - 1 - tl f.toNat) ((if len - 1=tl f.toNat then (if len=1 then off else off+1) else (if len=1 then off else off+1)+tl f.toNat*1)) ((t.take (tl f.toNat)).length) (f0) (b0) (zP f.toNat) (yh f.toNat) ((tl f.toNat:Int)) (kM ((f.toNat:Int) - f0) (t.take (tl f.toNat))) (((t.take (tl f.toNat)).length:Nat)) _).symm ⟨decide_eq_false (by omega),leT (by rw [wv]; exact h3),leF (by rw [wv]; omega),rfl,rfl⟩)
    · exact (og (z6 _ (s) (o) (len - 1 - tl f.toNat) ((if len - 1=tl f.toNat then (if len=1 then off else off+1) else (if len=1 then off else off+1)+tl f.toNat*1)) ((t.take (tl f.toNat)).length) (f0) (b0) (zP f.toNat) (yh f.toNat) ((tl f.toNat:Int)) (kM ((f.toNat:Int) - f0) (t.take (tl f.toNat))) (((t.take (tl f.toNat)).length:Nat)) _).symm ⟨decide_eq_false (by omega),leF (by rw [wv]; omega),rfl,rfl⟩)
   have hloop:=zfA (o:=o) (v0:=(f.toNat:Int) - f0) (tt:=t.take (tl f.toNat)) (by rw [htt]; exact h1) hbig (fun j hj=>by
    rw [htt] at hj
    rw [h2 j hj,List.getD_eq_getElem?_getD,List.getD_eq_getElem?_getD,List.getElem?_take,if_pos hj]) (by omega) (fun u hu=>zbT (by omega) hu (by rw [htt]; omega)) hE _ 0 (Nat.zero_add _)
   rw [htt] at hloop
   exact hloop
 · have w1:IntKind.u64.wrap (len:Int)=len:=IntWalk.u64_in _ (by omega)
   have w2:IntKind.u64.wrap ((tl f.toNat:Nat):Int)=tl f.toNat:=IntWalk.u64_in _ (by omega)
   have w3:IntKind.u64.wrap ((len - 1:Nat):Int)=(len - 1:Nat):=IntWalk.u64_in _ (by omega)
   have y0:yy s off=f.toNat:=by have:=zmW hl 0; simpa using this
   exact ⟨_,_,_,_,_,_,_,(og (z1 _ (s) (off) (len) (c) (f0) (b0) (zP f.toNat) (yh f.toNat) ((tl f.toNat:Int)) (0) (0) _).symm ⟨gtf (show (1:Int)≤_ by rw [w1]; omega),⟨⟨by decide,show (1:Int)≤(c:Int) by omega⟩,by decide,by decide⟩,
   ⟨⟨⟨by omega,by omega⟩,by omega,by rw [Int.toNat_natCast]; omega⟩,by decide,show (1:Int)≤_ by rw [Int.toNat_natCast]; omega⟩,by omega,by rw [y0]; exact hg,
   gtt (by rw [w2,Int.toNat_natCast,w3]; omega),rfl,rfl⟩)⟩
end Go.Proofs.YtdbfpjgnlfejmaaDoor.mq
end
section
set_option maxRecDepth 100000
set_option linter.unusedVariables false
namespace Go.Proofs.YtdbfpjgnlfejmaaDoor.mq
open Go Ev
noncomputable def newH (s:List UInt8):AHeap:=⟨(.node (.node .leaf (some (.cells (.node (.node .leaf (some (.bool false)) .leaf) (some (.slg 0 0 0 s.length 0)) .leaf) 2 101 0 0 1 0 false .leaf)) .leaf) (some (.cells (.fn fun j=>some (AV.int .u8 (yy s j))) s.length 5 0 0 1 0 true .leaf)) .leaf),2,GW⟩
theorem newr (s:List UInt8)(R:AV→AHeap→Prop)(kp:Nat)(_K:AM→Prop):Obl P 54 (fun v H=>R v H) kp _K [.run 13,.told 0 (.fn fun j=>some (.int .u8 (yy s j))) s.length,.done] ((zb P 54 [.str s] GW))=((∀ (k:Nat) (v:AV),k<s.length→(T.fn fun j=>some (AV.int .u8 (yy s j))).get k=some v→(zy T.leaf 0 (zr s)).get k=some v)∧(s.length=(zr s).length)∧(R (.ptr 1 0 0) (newH s))):=by kernel_rfl
theorem zcc (kp:Nat)(s:List UInt8):Goal P kp 54 (fun v H=>v=.ptr 1 0 0∧H=newH s) (zb P 54 [.str s] GW):=by
 refine (oh (newr s _ kp _).symm ⟨fun k v hk hv=>?_,by simp [zr],rfl,rfl⟩)
 cases hv
 rw [zn,if_pos ⟨Nat.zero_le _,by simp [zr]; omega⟩]
 simp only [zr,Nat.sub_zero,List.getElem?_map,List.getElem?_eq_getElem hk,Option.map_some]
 rw [yy,List.getD_eq_getElem?_getD,List.getElem?_eq_getElem hk]
 rfl
end Go.Proofs.YtdbfpjgnlfejmaaDoor.mq
end
section
set_option maxRecDepth 100000
set_option linter.unusedVariables false
namespace Go.Proofs.YtdbfpjgnlfejmaaDoor.mq
open Go Ev
theorem numE2 (s:List UInt8)(off len c:Nat)(R:AV→AHeap→Prop)(_K:AM→Prop):Obl P 55 (fun v H=>R v H) 2 _K [.run 9,.callh [(0,0,[0]),(1,0,[0,0])] [0] (.tup [.int .u64 0,.bool false]) (rd (.slc 1 0 off len c) false (fun j=>some (.int .u8 (yy s j))) s.length),.run 41,.done] ((ze P 55 [.ptr 0 0 0] (rd (.slc 1 0 off len c) false (fun j=>some (.int .u8 (yy s j))) s.length)))=((za fun j=>some (AV.int .u8 (yy s j)))∧(za fun j=>some (AV.int .u8 (yy s j)))∧(Goal P 2 76 (fun x k=>x=AV.tup [AV.int .u64 (0:Int),AV.bool false]∧k=rd (AV.slc 1 0 off len c) false (fun j=>some (AV.int .u8 (yy s j))) s.length) (zah s off len c))∧(R (.int .u64 0) (⟨(.node (.node .leaf (some (.cells (.fn fun j=>some (AV.int .u8 (yy s j))) s.length 5 0 0 1 0 true .leaf)) .leaf) (some (.cells (.node (.node .leaf (some (.bool true)) .leaf) (some (.nils 0 0)) .leaf) 2 101 0 0 1 0 false .leaf)) .leaf),2,GW⟩))):=by kernel_rfl
theorem numB2 (s:List UInt8)(off len c off2 len2:Nat)(a1 a2 a3 a4 a5:Int)(R:AV→AHeap→Prop)(_K:AM→Prop):Obl P 55 (fun v H=>R v H) 2 _K [.run 9,.callh [(0,0,[0]),(1,0,[0,0])] [0] (.tup [.int .u64 0,.bool false]) (rd3 (.slc 1 0 off2 len2 len2) false s a1 a2 a3 a4 a5),.run 2,.can 2 [0,1] [0,5,9] [],.run 39,.done] ((ze P 55 [.ptr 0 0 0] (rd (.slc 1 0 off len c) false (fun j=>some (.int .u8 (yy s j))) s.length)))=((za fun j=>some (AV.int .u8 (yy s j)))∧(za fun j=>some (AV.int .u8 (yy s j)))∧(Goal P 2 76 (fun x k=>x=AV.tup [AV.int .u64 (0:Int),AV.bool false]∧k=rd3 (AV.slc 1 0 off2 len2 len2) false s a1 a2 a3 a4 a5) (zah s off len c))∧(za fun j=>some (AV.int .u8 (yy s j)))∧(R (.int .u64 0) (⟨(.node (.node .leaf (some (.cells (.fn fun j=>some (AV.int .u8 (yy s j))) s.length 5 0 0 1 0 true .leaf)) .leaf) (some (.cells (.node (.node .leaf (some (.bool true)) .leaf) (some (.nils 0 0)) .leaf) 2 101 0 0 1 0 false .leaf)) .leaf),2,GW⟩))):=by kernel_rfl
theorem numO2 (s:List UInt8)(off len c off2 len2:Nat)(n a1 a2 a3 a4 a5:Int)(R:AV→AHeap→Prop)(_K:AM→Prop):Obl P 55 (fun v H=>R v H) 2 _K [.run 9,.callh [(0,0,[0]),(1,0,[0,0])] [0] (.tup [.int .u64 n,.bool true]) (rd3 (.slc 1 0 off2 len2 len2) false s a1 a2 a3 a4 a5),.run 2,.can 2 [0,1] [0,5,9] [],.run 18,.done] ((ze P 55 [.ptr 0 0 0] (rd (.slc 1 0 off len c) false (fun j=>some (.int .u8 (yy s j))) s.length)))=((za fun j=>some (AV.int .u8 (yy s j)))∧(za fun j=>some (AV.int .u8 (yy s j)))∧(Goal P 2 76 (fun x k=>x=AV.tup [AV.int .u64 n,AV.bool true]∧k=rd3 (AV.slc 1 0 off2 len2 len2) false s a1 a2 a3 a4 a5) (zah s off len c))∧(za fun j=>some (AV.int .u8 (yy s j)))∧(R (.int .u64 n) (⟨(.node (.node .leaf (some (.cells (.fn fun j=>some (AV.int .u8 (yy s j))) s.length 5 0 0 1 0 true .leaf)) .leaf) (some (.cells (.node (.node .leaf (some (.bool false)) .leaf) (some (.slc 1 0 off2 len2 len2)) .leaf) 2 101 0 0 1 0 false .leaf)) .leaf),2,GW⟩))):=by kernel_rfl
theorem zpE (s:List UInt8)(off len c:Nat)(R:AV→AHeap→Prop)(_K:AM→Prop):Obl P 56 (fun v H=>R v H) 2 _K [.run 15,.callh [(0,0,[0]),(1,0,[0,0])] [0] (.tup [.int .u64 0,.bool false]) (rd (.slc 1 0 off len c) false (fun j=>some (.int .u8 (yy s j))) s.length),.run 40,.done] ((ze P 56 [.ptr 0 0 0] (rd (.slc 1 0 off len c) false (fun j=>some (.int .u8 (yy s j))) s.length)))=((za fun j=>some (AV.int .u8 (yy s j)))∧(za fun j=>some (AV.int .u8 (yy s j)))∧(Goal P 2 76 (fun x k=>x=AV.tup [AV.int .u64 (0:Int),AV.bool false]∧k=rd (AV.slc 1 0 off len c) false (fun j=>some (AV.int .u8 (yy s j))) s.length) (zah s off len c))∧(R (.str []) (⟨(.node (.node .leaf (some (.cells (.fn fun j=>some (AV.int .u8 (yy s j))) s.length 5 0 0 1 0 true .leaf)) .leaf) (some (.cells (.node (.node .leaf (some (.bool true)) .leaf) (some (.nils 0 0)) .leaf) 2 101 0 0 1 0 false .leaf)) .leaf),2,GW⟩))):=by kernel_rfl
theorem zqg (s:List UInt8)(off len c off2 len2:Nat)(a1 a2 a3 a4 a5:Int)(R:AV→AHeap→Prop)(_K:AM→Prop):Obl P 56 (fun v H=>R v H) 2 _K [.run 15,.callh [(0,0,[0]),(1,0,[0,0])] [0] (.tup [.int .u64 0,.bool false]) (rd3 (.slc 1 0 off2 len2 len2) false s a1 a2 a3 a4 a5),.run 2,.can 2 [0,1] [0,3,10,13] [],.run 38,.done] ((ze P 56 [.ptr 0 0 0] (rd (.slc 1 0 off len c) false (fun j=>some (.int .u8 (yy s j))) s.length)))=((za fun j=>some (AV.int .u8 (yy s j)))∧(za fun j=>some (AV.int .u8 (yy s j)))∧(Goal P 2 76 (fun x k=>x=AV.tup [AV.int .u64 (0:Int),AV.bool false]∧k=rd3 (AV.slc 1 0 off2 len2 len2) false s a1 a2 a3 a4 a5) (zah s off len c))∧(za fun j=>some (AV.int .u8 (yy s j)))∧(R (.str []) (⟨(.node (.node .leaf (some (.cells (.fn fun j=>some (AV.int .u8 (yy s j))) s.length 5 0 0 1 0 true .leaf)) .leaf) (some (.cells (.node (.node .leaf (some (.bool true)) .leaf) (some (.nils 0 0)) .leaf) 2 101 0 0 1 0 false .leaf)) .leaf),2,GW⟩))):=by kernel_rfl
theorem zpV (s:List UInt8)(off len c off2 len2:Nat)(n a1 a2 a3 a4 a5:Int)(R:AV→AHeap→Prop)(_K:AM→Prop):Obl P 56 (fun v H=>R v H) 2 _K [.run 15,.callh [(0,0,[0]),(1,0,[0,0])] [0] (.tup [.int .u64 n,.bool true]) (rd3 (.slc 1 0 off2 len2 len2) false s a1 a2 a3 a4 a5),.run 2,.can 2 [0,1] [0,3,10,13] [],.run 35,.know 18 true,.run 48,.done] ((ze P 56 [.ptr 0 0 0] (rd (.slc 1 0 off len c) false (fun j=>some (.int .u8 (yy s j))) s.length)))=((za fun j=>some (AV.int .u8 (yy s j)))∧(za fun j=>some (AV.int .u8 (yy s j)))∧(Goal P 2 76 (fun x k=>x=AV.tup [AV.int .u64 n,AV.bool true]∧k=rd3 (AV.slc 1 0 off2 len2 len2) false s a1 a2 a3 a4 a5) (zah s off len c))∧(za fun j=>some (AV.int .u8 (yy s j)))∧(decide (n > IntKind.u64.wrap (↑len2:Int))=true)∧(R (.str []) (⟨(.node (.node .leaf (some (.cells (.fn fun j=>some (AV.int .u8 (yy s j))) s.length 5 0 0 1 0 true .leaf)) .leaf) (some (.cells (.node (.node .leaf (some (.bool true)) .leaf) (some (.nils 0 0)) .leaf) 2 101 0 0 1 0 false .leaf)) .leaf),2,GW⟩))):=by kernel_rfl
theorem zoY (s:List UInt8)(off len c off2 len2:Nat)(n a1 a2 a3 a4 a5:Int)(R:AV→AHeap→Prop)(_K:AM→Prop):Obl P 56 (fun v H=>R v H) 2 _K [.run 15,.callh [(0,0,[0]),(1,0,[0,0])] [0] (.tup [.int .u64 n,.bool true]) (rd3 (.slc 1 0 off2 len2 len2) false s a1 a2 a3 a4 a5),.run 2,.can 2 [0,1] [0,3,10,13] [],.run 35,.know 18 false,.run 10,.op,.run 20,.op,.run 26,.bytes ((s.drop off2).take n.toNat),.run 3,.done] ((ze P 56 [.ptr 0 0 0] (rd (.slc 1 0 off len c) false (fun j=>some (.int .u8 (yy s j))) s.length)))=((za fun j=>some (AV.int .u8 (yy s j)))∧(za fun j=>some (AV.int .u8 (yy s j)))∧(Goal P 2 76 (fun x k=>x=AV.tup [AV.int .u64 n,AV.bool true]∧k=rd3 (AV.slc 1 0 off2 len2 len2) false s a1 a2 a3 a4 a5) (zah s off len c))∧(za fun j=>some (AV.int .u8 (yy s j)))∧(decide (n > IntKind.u64.wrap (↑len2:Int))=false)∧(((0:Int)≤n∧n≤(↑len2:Int))∧(0:Int)≤n∧n≤(↑n.toNat:Int))∧((((0:Int)≤(↑len2:Int)∧(↑len2:Int)≤(↑len2:Int))∧(0:Int)≤(↑len2:Int)∧(↑len2:Int)≤(↑(↑len2:Int).toNat:Int))∧(0:Int)≤n∧n≤(↑(↑len2:Int).toNat:Int))∧((if n.toNat=0 then off2 else off2)+(n.toNat - 0)≤s.length∧zT (zG (T.fn fun j=>some (AV.int .u8 (yy s j))) (if n.toNat=0 then off2 else off2) (n.toNat - 0))=some (AV.str (List.take n.toNat (List.drop off2 s))))∧(R (.str (List.take n.toNat (List.drop off2 s))) (⟨(.node (.node .leaf (some (.cells (.fn fun j=>some (AV.int .u8 (yy s j))) s.length 5 0 0 1 0 true .leaf)) .leaf) (some (.cells (.node (.node .leaf (some (.bool false)) .leaf) (some (.slc 1 0 (if (↑len2:Int).toNat=n.toNat then off2 else off2+n.toNat*nat_lit 1) ((↑len2:Int).toNat - n.toNat) ((↑len2:Int).toNat - n.toNat))) .leaf) 2 101 0 0 1 0 false .leaf)) .leaf),2,GW⟩))):=by kernel_rfl
noncomputable abbrev rdr (s:List UInt8) (off len c:Nat):AHeap:=rd (.slc 1 0 off len c) false (fun j=>some (.int .u8 (yy s j))) s.length
noncomputable abbrev rdz (s:List UInt8):AHeap:=rd (.nils 0 0) true (fun j=>some (.int .u8 (yy s j))) s.length
theorem zcy (s:List UInt8)(off len c:Nat)(hls:len≤s.length)(ho:0<len→off+len=s.length)(hc':len≤c)(hbig:s.length≤9223372036854775807){n:Int}{k:Nat}(hp:xf (ahead s len)=some (n,k)) :
 ∃ off2:Nat,(0<len - k→off2+(len - k)=s.length)∧Goal P 2 55 (fun v H=>v=.int .u64 n∧H=rdr s off2 (len - k) (len - k)) (ze P 55 [.ptr 0 0 0] (rdr s off len c)):=by
 obtain ⟨off2,a1,a2,a3,a4,a5,h1,h2⟩:=zau s off len c hls ho hc' hbig hp
 exact ⟨off2,h1.2,(oh (numO2 s off len c off2 (len - k) n a1 a2 a3 a4 a5 _ _).symm ⟨zc s,zc s,h2,zc s,rfl,rfl⟩)⟩
theorem zcM (s:List UInt8)(off len c:Nat)(hls:len≤s.length)(ho:0<len→off+len=s.length)(hc':len≤c)(hbig:s.length≤9223372036854775807)(hp:xf (ahead s len)=none) :
 Goal P 2 55 (fun v H=>v=.int .u64 0∧H=rdz s) (ze P 55 [.ptr 0 0 0] (rdr s off len c)):=by
 rcases zbu s off len c hls ho hc' hbig hp with h | ⟨off2,len2,a1,a2,a3,a4,a5,h⟩
 · exact (oh (numE2 s off len c _ _).symm ⟨zc s,zc s,h,rfl,rfl⟩)
 · exact (oh (numB2 s off len c off2 len2 a1 a2 a3 a4 a5 _ _).symm ⟨zc s,zc s,h,zc s,rfl,rfl⟩)
theorem zfM (s:List UInt8)(off:Nat):∀ (k:Nat) (acc:List AV),zaZ (T.fn fun j=>some (AV.int .u8 (yy s j))) off k acc=some (((List.range k).map fun j=>AV.int .u8 (yy s (off+j)))++acc)
 | 0,acc=>rfl
 | k+1,acc=>by
  show zaZ _ off k (AV.int .u8 (yy s (off+k))::acc)=_
  rw [zfM s off k,List.range_succ,List.map_append,List.append_assoc]
  rfl
theorem zjm (s:List UInt8)(off k:Nat)(h:off+k≤s.length):yn ((List.range k).map fun j=>AV.int .u8 (yy s (off+j)))=some ((s.drop off).take k):=by
 obtain ⟨h1,h2⟩:∃ r,yn ((List.range k).map fun j=>AV.int .u8 (yy s (off+j)))=some r:=by
  unfold yn
  generalize List.range k=l
  induction l with
  | nil=>exact ⟨_,rfl⟩
  | cons a r ih =>
   obtain ⟨x,hx⟩:=ih
   refine ⟨UInt8.ofNat (yy s (off+a)).toNat::x,?_⟩
   rw [List.map_cons,qj,hx]
   rfl
 rw [h2]
 obtain ⟨hl,hg⟩:=we h2
 congr 1
 apply List.ext_getElem?
 intro i
 by_cases hi:i<k
 · obtain ⟨b,hb,hbv⟩:=hg i (AV.int .u8 (yy s (off+i))) (by simp [hi])
   have hlt:off+i<s.length:=by omega
   rw [hb,List.getElem?_take,if_pos hi,List.getElem?_drop,List.getElem?_eq_getElem hlt]
   have:zcl (AV.int .u8 (yy s (off+i)))=some s[off+i]:=by
    show some (UInt8.ofNat (yy s (off+i)).toNat)=_
    rw [yy,List.getD_eq_getElem?_getD,List.getElem?_eq_getElem hlt]
    simp
   rw [this] at hbv
   exact congrArg some (Option.some.inj hbv).symm
 · rw [List.getElem?_eq_none (by rw [hl]; simp; omega),List.getElem?_eq_none (by simp; omega)]
theorem zo0 (s:List UInt8)(off k:Nat)(h:off+k≤s.length):zT (zG (T.fn fun j=>some (AV.int .u8 (yy s j))) off k)=some (.str ((s.drop off).take k)):=by
 unfold zG
 rw [zfM,List.append_nil]
 show zjp (yn _)=_
 rw [zjm s off k h]
 rfl
theorem kj (s:List UInt8)(off len c:Nat)(hls:len≤s.length)(ho:0<len→off+len=s.length)(hc':len≤c)(hbig:s.length≤9223372036854775807){n:Int}{k:Nat}(hp:xf (ahead s len)=some (n,k))(hn:n≤(len - k:Nat)) :
 ∃ off2:Nat,(0<len - k - n.toNat→off2+(len - k - n.toNat)=s.length)∧Goal P 2 56 (fun v H=>v=.str (((ahead s len).drop k).take n.toNat)∧H=rdr s off2 (len - k - n.toNat) (len - k - n.toNat)) (ze P 56 [.ptr 0 0 0] (rdr s off len c)):=by
 obtain ⟨off2,a1,a2,a3,a4,a5,h1,h2⟩:=zau s off len c hls ho hc' (by omega) hp
 obtain ⟨n0,n1,_,n3,_⟩:=zM hp
 rw [zm hls] at n3
 have w1:IntKind.u64.wrap ((len - k:Nat):Int)=(len - k:Nat):=IntWalk.u64_in _ (by omega)
 obtain ⟨N,rfl⟩:=Int.eq_ofNat_of_zero_le n0
 have hs:List.take (N:Int).toNat (List.drop off2 s)=List.take (N:Int).toNat (List.drop k (ahead s len)):=by
  by_cases h0:N=0
  · subst h0; rfl
  · have:=h1.2 (by omega)
    unfold ahead
    rw [List.drop_drop]
    congr 2
    omega
 refine ⟨(if ((len - k:Nat):Int).toNat=(N:Int).toNat then off2 else off2+(N:Int).toNat*1),?_,(oh (zoY s off len c off2 (len - k) N a1 a2 a3 a4 a5 _ _).symm ⟨zc s,zc s,h2,zc s,gtf (by rw [w1]; exact hn),by omega,by omega,?_,⟨?_,rfl⟩⟩)⟩
 · intro hpos
   have:=h1.2 (by omega)
   split <;> omega
 · simp only [ite_self,Nat.sub_zero]
   have hle:off2+(N:Int).toNat≤s.length:=by
    rcases Nat.eq_zero_or_pos N with h0 | h0
    · subst h0; exact h1.1
    · have:=h1.2 (by omega); omega
   exact ⟨hle,zo0 s off2 _ hle⟩
 · rw [hs]
theorem ky (s:List UInt8)(off len c:Nat)(hls:len≤s.length)(ho:0<len→off+len=s.length)(hc':len≤c)(hbig:s.length≤9223372036854775807)(hp:xf (ahead s len)=none∨∃ n k,xf (ahead s len)=some (n,k)∧((len - k:Nat):Int)<n) :
 Goal P 2 56 (fun v H=>v=.str []∧H=rdz s) (ze P 56 [.ptr 0 0 0] (rdr s off len c)):=by
 rcases hp with hp | ⟨n,k,hp,hn⟩
 · rcases zbu s off len c hls ho hc' (by omega) hp with h | ⟨off2,len2,a1,a2,a3,a4,a5,h⟩
   · exact (oh (zpE s off len c _ _).symm ⟨zc s,zc s,h,rfl,rfl⟩)
   · exact (oh (zqg s off len c off2 len2 a1 a2 a3 a4 a5 _ _).symm ⟨zc s,zc s,h,zc s,rfl,rfl⟩)
 · obtain ⟨off2,a1,a2,a3,a4,a5,h1,h2⟩:=zau s off len c hls ho hc' (by omega) hp
   have w1:IntKind.u64.wrap ((len - k:Nat):Int)=(len - k:Nat):=IntWalk.u64_in _ (by omega)
   exact (oh (zpV s off len c off2 (len - k) n a1 a2 a3 a4 a5 _ _).symm ⟨zc s,zc s,h2,zc s,gtt (by rw [w1]; exact hn),rfl,rfl⟩)
end Go.Proofs.YtdbfpjgnlfejmaaDoor.mq
end
section
set_option maxRecDepth 100000
set_option linter.unusedVariables false
namespace Go.Proofs.YtdbfpjgnlfejmaaDoor.dg
open Go Ev mq
noncomputable abbrev RG (s:List UInt8) (y x c:Nat) (G:T (T AV)):AHeap:=⟨(.node (.node .leaf (some (.cells (.fn fun j=>some (.int .u8 (yy s j))) s.length 5 0 0 1 0 true .leaf)) .leaf) (some (.cells (.node (.node .leaf (some (.bool false)) .leaf) (some (.slc 1 0 y x c)) .leaf) 2 101 0 0 1 0 false .leaf)) .leaf),2,G⟩
noncomputable abbrev RZ (s:List UInt8) (G:T (T AV)):AHeap:=⟨(.node (.node .leaf (some (.cells (.fn fun j=>some (.int .u8 (yy s j))) s.length 5 0 0 1 0 true .leaf)) .leaf) (some (.cells (.node (.node .leaf (some (.bool true)) .leaf) (some (.nils 0 0)) .leaf) 2 101 0 0 1 0 false .leaf)) .leaf),2,G⟩
noncomputable abbrev RB (G:T (T AV)):AHeap:=⟨(.node .leaf (some (.cells (.node (.node .leaf (some (.bool true)) .leaf) (some (.nils 0 0)) .leaf) 2 101 0 0 1 0 false .leaf)) .leaf),1,G⟩
noncomputable abbrev RN (s:List UInt8) (G:T (T AV)):AHeap:=⟨(.node (.node .leaf (some (.cells (.node (.node .leaf (some (.bool false)) .leaf) (some (.slg 0 0 0 s.length 0)) .leaf) 2 101 0 0 1 0 false .leaf)) .leaf) (some (.cells (.fn fun j=>some (AV.int IntKind.u8 (yy s j))) s.length 5 0 0 1 0 true .leaf)) .leaf),2,G⟩
noncomputable def DN (A:AV) (s:List UInt8) (G:T (T AV)):AM:=⟨⟨19,38,(.node .leaf (some (.str s)) (.node (.node (.node .leaf (some (.ptr 0 0 0)) .leaf) none .leaf) none .leaf)),
 [.ops (rg P 19 [1,0]).toList ((rg P 19 [1,0]).toList.drop 2),.code (cd P (19:Nat) [(1:Nat),(1:Nat)])],[],.run,CallKind.normal,none⟩,
 [],
 ⟨(.node (.node .leaf (some (.cells (.fn fun j=>some (.int .u8 (yy s j))) s.length 5 0 0 1 0 true .leaf)) .leaf) (some (.cells (.node (.node .leaf (some (.bool false)) .leaf) (some A) .leaf) 2 101 0 0 1 0 false .leaf)) .leaf),2,G⟩⟩
noncomputable def DcA (s:List UInt8) (n i:Int) (x y:Nat) (G:T (T AV)):AM:=⟨⟨19,38,(.node (.node (.node .leaf none (.node .leaf (some (.int .u64 i)) .leaf)) none (.node .leaf (some (.nils 0 0)) .leaf)) (some (.str s)) (.node (.node .leaf (some (.ptr 0 0 0)) .leaf) none (.node (.node .leaf (some (.int .u64 n)) .leaf) none .leaf))),
 [.code (cd P (19:Nat) [(1:Nat),(1:Nat),(1:Nat),(0:Nat),(1:Nat),(0:Nat),(0:Nat)]),.inLoop (cd P (19:Nat) [(1:Nat),(1:Nat),(1:Nat),(0:Nat),(1:Nat),(0:Nat),(0:Nat)]),.inBlock 0,.code (cd P (19:Nat) [(1:Nat),(1:Nat),(1:Nat),(1:Nat)])],[],.run,CallKind.normal,none⟩,
 [],
 ⟨(.node (.node .leaf (some (.cells (.fn fun j=>some (.int .u8 (yy s j))) s.length 5 0 0 1 0 true .leaf)) .leaf) (some (.cells (.node (.node .leaf (some (.bool false)) .leaf) (some (.slc 1 0 y x x)) .leaf) 2 101 0 0 1 0 false .leaf)) .leaf),2,G⟩⟩
noncomputable def DcB (cell:Nat→AV) (s:List UInt8) (n i:Int) (x y m z:Nat) (G:T (T AV)):AM:=⟨⟨19,38,(.node (.node (.node .leaf none (.node .leaf (some (.int .u64 i)) .leaf)) none (.node .leaf (some (.slg 1 0 0 m 0)) .leaf)) (some (.str s)) (.node (.node .leaf (some (.ptr 0 0 0)) .leaf) none (.node (.node .leaf (some (.int .u64 n)) .leaf) none .leaf))),
 [.code (cd P (19:Nat) [(1:Nat),(1:Nat),(1:Nat),(0:Nat),(1:Nat),(0:Nat),(0:Nat)]),.inLoop (cd P (19:Nat) [(1:Nat),(1:Nat),(1:Nat),(0:Nat),(1:Nat),(0:Nat),(0:Nat)]),.inBlock 0,.code (cd P (19:Nat) [(1:Nat),(1:Nat),(1:Nat),(1:Nat)])],[],.run,CallKind.normal,none⟩,
 [],
 ⟨(.node (.node .leaf (some (.cells (.fn fun c=>some (cell c)) z 35 0 0 1 0 false .leaf)) .leaf) (some (.cells (.node (.node .leaf (some (.bool false)) .leaf) (some (.slc 2 0 y x x)) .leaf) 2 101 0 0 1 0 false .leaf)) (.node .leaf (some (.cells (.fn fun j=>some (.int .u8 (yy s j))) s.length 5 0 0 1 0 true .leaf)) .leaf)),3,G⟩⟩
noncomputable def DcZ (s:List UInt8) (G:T (T AV)):AM:=⟨⟨19,38,(.node (.node .leaf none (.node .leaf (some (.nils 0 0)) .leaf)) (some (.str s)) (.node (.node .leaf (some (.ptr 0 0 0)) .leaf) none (.node (.node .leaf (some (.int .u64 0)) .leaf) none .leaf))),
 [.ops (rg P 19 [1,1,1,0,0]).toList ((rg P 19 [1,1,1,0,0]).toList.drop 2),.code (cd P (19:Nat) [(1:Nat),(1:Nat),(1:Nat),(0:Nat),(1:Nat)]),.code (cd P (19:Nat) [(1:Nat),(1:Nat),(1:Nat),(1:Nat)])],[],.run,CallKind.normal,none⟩,
 [],
 ⟨(.node .leaf (some (.cells (.node (.node .leaf (some (.bool true)) .leaf) (some (.nils 0 0)) .leaf) 2 101 0 0 1 0 false .leaf)) .leaf),1,G⟩⟩
theorem nuay (R:AV→AHeap→Prop)(s:List UInt8)(n:Int)(y x c y2 x2:Nat)(G:T (T AV))(_K:AM→Prop):Obl P 57 (fun v h=>R v h) 2 _K [.run 8,(.callh [(0,0,[]),(1,0,[0])] [0] (.int .u64 n) (RG s y2 x2 x2 G)),.run 8,.know 7 true,.run 6,.done] ((ze P 57 [.ptr 0 0 0] (RG s y x c G)))=((za fun j=>some (.int .u8 (yy s j)))∧(za fun j=>some (.int .u8 (yy s j)))∧(Goal P 2 55 (fun v h=>v=AV.int .u64 n∧h=RG s y2 x2 x2 G) (ze P 55 [.ptr 0 0 0] (RG s y x c G)))∧(decide (n > (2147483647:Int))=true)∧(R (.int .i64 (-1)) ((RG s y2 x2 x2 G)))):=by kernel_rfl
theorem nuan (R:AV→AHeap→Prop)(s:List UInt8)(n:Int)(y x c y2 x2:Nat)(G:T (T AV))(_K:AM→Prop):Obl P 57 (fun v h=>R v h) 2 _K [.run 8,(.callh [(0,0,[]),(1,0,[0])] [0] (.int .u64 n) (RG s y2 x2 x2 G)),.run 8,.know 7 false,.run 9,.done] ((ze P 57 [.ptr 0 0 0] (RG s y x c G)))=((za fun j=>some (.int .u8 (yy s j)))∧(za fun j=>some (.int .u8 (yy s j)))∧(Goal P 2 55 (fun v h=>v=AV.int .u64 n∧h=RG s y2 x2 x2 G) (ze P 55 [.ptr 0 0 0] (RG s y x c G)))∧(decide (n > (2147483647:Int))=false)∧(R (.int .i64 (IntKind.i64.wrap n)) ((RG s y2 x2 x2 G)))):=by kernel_rfl
theorem nub (R:AV→AHeap→Prop)(s:List UInt8)(y x c:Nat)(G:T (T AV))(_K:AM→Prop):Obl P 57 (fun v h=>R v h) 2 _K [.run 8,(.callh [(0,0,[]),(1,0,[0])] [0] (.int .u64 0) (RZ s G)),.run 17,.done] ((ze P 57 [.ptr 0 0 0] (RG s y x c G)))=((za fun j=>some (.int .u8 (yy s j)))∧(za fun j=>some (.int .u8 (yy s j)))∧(Goal P 2 55 (fun v h=>v=AV.int .u64 (0:Int)∧h=RZ s G) (ze P 55 [.ptr 0 0 0] (RG s y x c G)))∧(R (.int .i64 0) ((RZ s G)))):=by kernel_rfl
section
set_option linter.unusedSectionVars false
variable (R:AV→AHeap→Prop) (G:T (T AV)) (_K:AM→Prop)
include R G _K
theorem nuz:Obl P 57 (fun v h=>R v h) 1 _K [.run 134,.done] ((ze P 57 [.ptr 0 0 0] (RB G)))=((R (.int .i64 0) ((RB G)))):=by kernel_rfl
theorem nnz:Obl P 55 (fun v h=>R v h) 1 _K [.run 108,.done] ((ze P 55 [.ptr 0 0 0] (RB G)))=((R (.int .u64 0) ((RB G)))):=by kernel_rfl
theorem txz:Obl P 56 (fun v h=>R v h) 1 _K [.run 113,.done] ((ze P 56 [.ptr 0 0 0] (RB G)))=((R (.str []) ((RB G)))):=by kernel_rfl
end
theorem d0 (R:AV→AHeap→Prop)(s:List UInt8)(G:T (T AV))(K:AM→Prop):Obl P 19 (fun v h=>R v h) 0 K [.run 9,.callh [] [0] (.ptr 1 0 0) (RN s G),.can 0 [1,0] [0,8] []] ((zb P 19 [.str s] G))=((za fun j=>some (.int .u8 (yy s j)))∧(Goal P 0 54 (fun v h=>v=AV.ptr 1 0 0∧h=RN s G) (zb P 54 [.str s] G))∧(za fun j=>some (.int .u8 (yy s j)))∧K (DN (.slg 1 0 0 s.length 0) s G)):=by kernel_rfl
theorem d1 (R:AV→AHeap→Prop)(s:List UInt8)(n:Int)(x c x2 y2:Nat)(G:T (T AV))(K:AM→Prop):Obl P 19 (fun v h=>R v h) 0 K [.run 11,.callh [(0,0,[]),(1,0,[0])] [0] (.int .u64 n) (RG s y2 x2 x2 G),.run 4,.can 0 [0,1] [0,4,5,10,11] []] ((DN (.slc 1 0 0 x c) s G))=((za fun j=>some (.int .u8 (yy s j)))∧(za fun j=>some (.int .u8 (yy s j)))∧(Goal P 2 55 (fun v h=>v=AV.int .u64 n∧h=RG s y2 x2 x2 G) (ze P 55 [.ptr 0 0 0] (RG s 0 x c G)))∧(za fun j=>some (.int .u8 (yy s j)))∧K (DcA s n (Int.ofNat 0) x2 y2 G)):=by kernel_rfl
theorem d2 (R:AV→AHeap→Prop)(s:List UInt8)(x c:Nat)(G:T (T AV))(K:AM→Prop):Obl P 19 (fun v h=>R v h) 0 K [.run 11,.callh [(0,0,[]),(1,0,[0])] [0] (.int .u64 0) (RZ s G),.can 0 [0] [0,4,5,10] []] ((DN (.slc 1 0 0 x c) s G))=((za fun j=>some (.int .u8 (yy s j)))∧(za fun j=>some (.int .u8 (yy s j)))∧(Goal P 2 55 (fun v h=>v=AV.int .u64 (0:Int)∧h=RZ s G) (ze P 55 [.ptr 0 0 0] (RG s 0 x c G)))∧K (DcZ s G)):=by kernel_rfl
theorem d3 (R:AV→AHeap→Prop)(s:List UInt8)(G:T (T AV))(_K:AM→Prop):Obl P 19 (fun v h=>R v h) 0 _K [.run 69,.can 0 [] [2,3] [],.run 1,.done] ((DcZ s G))=((R (.tup [.nils 0 0,.int .i64 4]) (⟨.leaf,0,G⟩))):=by kernel_rfl
theorem dAg (R:AV→AHeap→Prop)(cell':Nat→AV)(s p:List UInt8)(n i a c0:Int)(x y x2 y2 x3 y3 x4 y4 z2:Nat)(G:T (T AV))(K:AM→Prop):Obl P 19 (fun v h=>R v h) 0 K [.run 5,.know 12 true,.run 8,.callh [(0,0,[]),(1,0,[0])] [0] (.str p) (RG s y2 x2 x2 G),.run 2,.callh [(0,0,[]),(1,0,[0])] [0] (.int .i64 a) (RG s y3 x3 x3 G),.run 2,.callh [(0,0,[]),(1,0,[0])] [0] (.int .i64 c0) (RG s y4 x4 x4 G),.run 45,.told 4 (.fn fun k=>some (cell' k)) z2,.can 0 [0,4,1] [0,4,5,10,11] []] ((DcA s n i x y G))=((decide (i<n)=true)∧(za fun j=>some (.int .u8 (yy s j)))∧(za fun j=>some (.int .u8 (yy s j)))∧(Goal P 2 56 (fun v h=>v=AV.str p∧h=RG s y2 x2 x2 G) (ze P 56 [.ptr 0 0 0] (RG s y x x G)))∧(za fun j=>some (.int .u8 (yy s j)))∧(za fun j=>some (.int .u8 (yy s j)))∧(Goal P 2 57 (fun v h=>v=AV.int .i64 a∧h=RG s y3 x3 x3 G) (ze P 57 [.ptr 0 0 0] (RG s y2 x2 x2 G)))∧(za fun j=>some (.int .u8 (yy s j)))∧(za fun j=>some (.int .u8 (yy s j)))∧(Goal P 2 57 (fun v h=>v=AV.int .i64 c0∧h=RG s y4 x4 x4 G) (ze P 57 [.ptr 0 0 0] (RG s y3 x3 x3 G)))∧(xZ (z2) ((.fn fun k=>some (cell' k))) ((.node (.node .leaf (some (.int .i64 a)) .leaf) (some (.str p)) (.node .leaf (some (.int .i64 c0)) .leaf))))∧(z2=3)∧(za fun k=>some (cell' k))∧(za fun j=>some (.int .u8 (yy s j)))∧K (DcB cell' s n (IntKind.u64.wrap (i+(1:Int))) x4 y4 1 z2 G)):=by kernel_rfl
theorem dBg (R:AV→AHeap→Prop)(cell cell':Nat→AV)(s p:List UInt8)(n i a c0:Int)(x y x2 y2 x3 y3 x4 y4 m z z2:Nat)(G:T (T AV))(K:AM→Prop):Obl P 19 (fun v h=>R v h) 0 K [.run 5,.know 12 true,.run 8,.callh [(0,0,[]),(2,0,[0])] [0] (.str p) (RG s y2 x2 x2 G),.run 2,.callh [(0,0,[]),(2,0,[0])] [0] (.int .i64 a) (RG s y3 x3 x3 G),.run 2,.callh [(0,0,[]),(2,0,[0])] [0] (.int .i64 c0) (RG s y4 x4 x4 G),.run 36,.opw false,.run 8,.told 1 (.fn fun k=>some (cell' k)) z2,.can 0 [0,1,2] [0,4,5,10,11] []] ((DcB cell s n i x y m z G))=((decide (i<n)=true)∧(za fun j=>some (.int .u8 (yy s j)))∧(za fun j=>some (.int .u8 (yy s j)))∧(Goal P 2 56 (fun v h=>v=AV.str p∧h=RG s y2 x2 x2 G) (ze P 56 [.ptr 0 0 0] (RG s y x x G)))∧(za fun j=>some (.int .u8 (yy s j)))∧(za fun j=>some (.int .u8 (yy s j)))∧(Goal P 2 57 (fun v h=>v=AV.int .i64 a∧h=RG s y3 x3 x3 G) (ze P 57 [.ptr 0 0 0] (RG s y2 x2 x2 G)))∧(za fun j=>some (.int .u8 (yy s j)))∧(za fun j=>some (.int .u8 (yy s j)))∧(Goal P 2 57 (fun v h=>v=AV.int .i64 c0∧h=RG s y4 x4 x4 G) (ze P 57 [.ptr 0 0 0] (RG s y3 x3 x3 G)))∧((0+1*DS≤3∧∀ (k:Nat),k<1*DS→∃ v,((T.leaf.node (some (AV.int .i64 a)) T.leaf).node (some (AV.str p)) (T.leaf.node (some (AV.int .i64 c0)) T.leaf)).get (0+k)=some v∧v.one=true)∧0<1∧0+m*3≤z∧0≤0+m*3∧0=0*DS∧xz (m+1) 32=true∧z<0+(m+1)*3)∧(xZ (z2) ((.fn fun k=>some (cell' k))) ((.fn fun k=>bif (0+m*DS).ble k&&k.blt (0+m*DS+1*DS) then (fun k=>((T.leaf.node (some (AV.int .i64 a)) T.leaf).node (some (AV.str p)) (T.leaf.node (some (AV.int .i64 c0)) T.leaf)).get (0+k)) (k - (0+m*DS)) else (T.fn fun j=>some (cell j)).get k)))∧(z2=0+m*3+3)∧(za fun k=>some (cell' k))∧(za fun j=>some (.int .u8 (yy s j)))∧K (DcB cell' s n (IntKind.u64.wrap (i+(1:Int))) x4 y4 (m+1) z2 G)):=by kernel_rfl
theorem dAb0 (R:AV→AHeap→Prop)(s:List UInt8)(n i:Int)(x y:Nat)(G:T (T AV))(_K:AM→Prop):Obl P 19 (fun v h=>R v h) 0 _K [.run 5,.know 12 true,.run 8,.callh [(0,0,[]),(1,0,[0])] [0] (.str []) (RZ s G),.run 2,.callh [(0,0,[])] [0] (.int .i64 0) (RB G),.run 2,.callh [(0,0,[])] [0] (.int .i64 0) (RB G),.run 90,.can 0 [] [2,3] [],.run 1,.done] ((DcA s n i x y G))=((decide (i<n)=true)∧(za fun j=>some (.int .u8 (yy s j)))∧(za fun j=>some (.int .u8 (yy s j)))∧(Goal P 2 56 (fun v h=>v=AV.str []∧h=RZ s G) (ze P 56 [.ptr 0 0 0] (RG s y x x G)))∧(Goal P 1 57 (fun v h=>v=AV.int .i64 (0:Int)∧h=RB G) (ze P 57 [.ptr 0 0 0] (RB G)))∧(Goal P 1 57 (fun v h=>v=AV.int .i64 (0:Int)∧h=RB G) (ze P 57 [.ptr 0 0 0] (RB G)))∧(R (.tup [.nils 0 0,.int .i64 4]) (⟨.leaf,0,G⟩))):=by kernel_rfl
theorem dBb0 (R:AV→AHeap→Prop)(cell:Nat→AV)(s:List UInt8)(n i:Int)(x y m z:Nat)(G:T (T AV))(_K:AM→Prop):Obl P 19 (fun v h=>R v h) 0 _K [.run 5,.know 12 true,.run 8,.callh [(0,0,[]),(2,0,[0])] [0] (.str []) (RZ s G),.run 2,.callh [(0,0,[])] [0] (.int .i64 0) (RB G),.run 2,.callh [(0,0,[])] [0] (.int .i64 0) (RB G),.run 90,.can 0 [] [2,3] [],.run 1,.done] ((DcB cell s n i x y m z G))=((decide (i<n)=true)∧(za fun j=>some (.int .u8 (yy s j)))∧(za fun j=>some (.int .u8 (yy s j)))∧(Goal P 2 56 (fun v h=>v=AV.str []∧h=RZ s G) (ze P 56 [.ptr 0 0 0] (RG s y x x G)))∧(Goal P 1 57 (fun v h=>v=AV.int .i64 (0:Int)∧h=RB G) (ze P 57 [.ptr 0 0 0] (RB G)))∧(Goal P 1 57 (fun v h=>v=AV.int .i64 (0:Int)∧h=RB G) (ze P 57 [.ptr 0 0 0] (RB G)))∧(R (.tup [.nils 0 0,.int .i64 4]) (⟨.leaf,0,G⟩))):=by kernel_rfl
theorem dAb1 (R:AV→AHeap→Prop)(s p:List UInt8)(n i:Int)(x y x2 y2:Nat)(G:T (T AV))(_K:AM→Prop):Obl P 19 (fun v h=>R v h) 0 _K [.run 5,.know 12 true,.run 8,.callh [(0,0,[]),(1,0,[0])] [0] (.str p) (RG s y2 x2 x2 G),.run 2,.callh [(0,0,[]),(1,0,[0])] [0] (.int .i64 0) (RZ s G),.run 2,.callh [(0,0,[])] [0] (.int .i64 0) (RB G),.run 90,.can 0 [] [2,3] [],.run 1,.done] ((DcA s n i x y G))=((decide (i<n)=true)∧(za fun j=>some (.int .u8 (yy s j)))∧(za fun j=>some (.int .u8 (yy s j)))∧(Goal P 2 56 (fun v h=>v=AV.str p∧h=RG s y2 x2 x2 G) (ze P 56 [.ptr 0 0 0] (RG s y x x G)))∧(za fun j=>some (.int .u8 (yy s j)))∧(za fun j=>some (.int .u8 (yy s j)))∧(Goal P 2 57 (fun v h=>v=AV.int .i64 (0:Int)∧h=RZ s G) (ze P 57 [.ptr 0 0 0] (RG s y2 x2 x2 G)))∧(Goal P 1 57 (fun v h=>v=AV.int .i64 (0:Int)∧h=RB G) (ze P 57 [.ptr 0 0 0] (RB G)))∧(R (.tup [.nils 0 0,.int .i64 4]) (⟨.leaf,0,G⟩))):=by kernel_rfl
theorem dBb1 (R:AV→AHeap→Prop)(cell:Nat→AV)(s p:List UInt8)(n i:Int)(x y x2 y2 m z:Nat)(G:T (T AV))(_K:AM→Prop):Obl P 19 (fun v h=>R v h) 0 _K [.run 5,.know 12 true,.run 8,.callh [(0,0,[]),(2,0,[0])] [0] (.str p) (RG s y2 x2 x2 G),.run 2,.callh [(0,0,[]),(2,0,[0])] [0] (.int .i64 0) (RZ s G),.run 2,.callh [(0,0,[])] [0] (.int .i64 0) (RB G),.run 90,.can 0 [] [2,3] [],.run 1,.done] ((DcB cell s n i x y m z G))=((decide (i<n)=true)∧(za fun j=>some (.int .u8 (yy s j)))∧(za fun j=>some (.int .u8 (yy s j)))∧(Goal P 2 56 (fun v h=>v=AV.str p∧h=RG s y2 x2 x2 G) (ze P 56 [.ptr 0 0 0] (RG s y x x G)))∧(za fun j=>some (.int .u8 (yy s j)))∧(za fun j=>some (.int .u8 (yy s j)))∧(Goal P 2 57 (fun v h=>v=AV.int .i64 (0:Int)∧h=RZ s G) (ze P 57 [.ptr 0 0 0] (RG s y2 x2 x2 G)))∧(Goal P 1 57 (fun v h=>v=AV.int .i64 (0:Int)∧h=RB G) (ze P 57 [.ptr 0 0 0] (RB G)))∧(R (.tup [.nils 0 0,.int .i64 4]) (⟨.leaf,0,G⟩))):=by kernel_rfl
theorem dAb2 (R:AV→AHeap→Prop)(s p:List UInt8)(n i a:Int)(x y x2 y2 x3 y3:Nat)(G:T (T AV))(_K:AM→Prop):Obl P 19 (fun v h=>R v h) 0 _K [.run 5,.know 12 true,.run 8,.callh [(0,0,[]),(1,0,[0])] [0] (.str p) (RG s y2 x2 x2 G),.run 2,.callh [(0,0,[]),(1,0,[0])] [0] (.int .i64 a) (RG s y3 x3 x3 G),.run 2,.callh [(0,0,[]),(1,0,[0])] [0] (.int .i64 0) (RZ s G),.run 90,.can 0 [] [2,3] [],.run 1,.done] ((DcA s n i x y G))=((decide (i<n)=true)∧(za fun j=>some (.int .u8 (yy s j)))∧(za fun j=>some (.int .u8 (yy s j)))∧(Goal P 2 56 (fun v h=>v=AV.str p∧h=RG s y2 x2 x2 G) (ze P 56 [.ptr 0 0 0] (RG s y x x G)))∧(za fun j=>some (.int .u8 (yy s j)))∧(za fun j=>some (.int .u8 (yy s j)))∧(Goal P 2 57 (fun v h=>v=AV.int .i64 a∧h=RG s y3 x3 x3 G) (ze P 57 [.ptr 0 0 0] (RG s y2 x2 x2 G)))∧(za fun j=>some (.int .u8 (yy s j)))∧(za fun j=>some (.int .u8 (yy s j)))∧(Goal P 2 57 (fun v h=>v=AV.int .i64 (0:Int)∧h=RZ s G) (ze P 57 [.ptr 0 0 0] (RG s y3 x3 x3 G)))∧(R (.tup [.nils 0 0,.int .i64 4]) (⟨.leaf,0,G⟩))):=by kernel_rfl
theorem dBb2 (R:AV→AHeap→Prop)(cell:Nat→AV)(s p:List UInt8)(n i a:Int)(x y x2 y2 x3 y3 m z:Nat)(G:T (T AV))(_K:AM→Prop):Obl P 19 (fun v h=>R v h) 0 _K [.run 5,.know 12 true,.run 8,.callh [(0,0,[]),(2,0,[0])] [0] (.str p) (RG s y2 x2 x2 G),.run 2,.callh [(0,0,[]),(2,0,[0])] [0] (.int .i64 a) (RG s y3 x3 x3 G),.run 2,.callh [(0,0,[]),(2,0,[0])] [0] (.int .i64 0) (RZ s G),.run 90,.can 0 [] [2,3] [],.run 1,.done] ((DcB cell s n i x y m z G))=((decide (i<n)=true)∧(za fun j=>some (.int .u8 (yy s j)))∧(za fun j=>some (.int .u8 (yy s j)))∧(Goal P 2 56 (fun v h=>v=AV.str p∧h=RG s y2 x2 x2 G) (ze P 56 [.ptr 0 0 0] (RG s y x x G)))∧(za fun j=>some (.int .u8 (yy s j)))∧(za fun j=>some (.int .u8 (yy s j)))∧(Goal P 2 57 (fun v h=>v=AV.int .i64 a∧h=RG s y3 x3 x3 G) (ze P 57 [.ptr 0 0 0] (RG s y2 x2 x2 G)))∧(za fun j=>some (.int .u8 (yy s j)))∧(za fun j=>some (.int .u8 (yy s j)))∧(Goal P 2 57 (fun v h=>v=AV.int .i64 (0:Int)∧h=RZ s G) (ze P 57 [.ptr 0 0 0] (RG s y3 x3 x3 G)))∧(R (.tup [.nils 0 0,.int .i64 4]) (⟨.leaf,0,G⟩))):=by kernel_rfl
theorem dAx (R:AV→AHeap→Prop)(s:List UInt8)(n i:Int)(x y:Nat)(G:T (T AV))(_K:AM→Prop):Obl P 19 (fun v h=>R v h) 0 _K [.run 5,.know 12 false,.run 48,.know 31 true,.run 12,.can 0 [] [2,3] [],.run 1,.done] ((DcA s n i x y G))=((decide (i<n)=false)∧((!(↑x:Int)==(0:Int))=true)∧(R (.tup [.nils 0 0,.int .i64 4]) (⟨.leaf,0,G⟩))):=by kernel_rfl
theorem dBx (R:AV→AHeap→Prop)(cell:Nat→AV)(s:List UInt8)(n i:Int)(x y m z:Nat)(G:T (T AV))(_K:AM→Prop):Obl P 19 (fun v h=>R v h) 0 _K [.run 5,.know 12 false,.run 48,.know 31 true,.run 12,.can 0 [] [2,3] [],.run 1,.done] ((DcB cell s n i x y m z G))=((decide (i<n)=false)∧((!(↑x:Int)==(0:Int))=true)∧(R (.tup [.nils 0 0,.int .i64 4]) (⟨.leaf,0,G⟩))):=by kernel_rfl
theorem dAn (R:AV→AHeap→Prop)(s t:List UInt8)(n i:Int)(y:Nat)(G:T (T AV))(_K:AM→Prop):Obl P 19 (fun v h=>R v h) 0 _K [.run 5,.know 12 false,.run 50,.callh [] [0] (.str t) ⟨.leaf,0,G⟩,.run 4,.know 36 false,.run 8,.can 0 [] [2,3] [],.run 1,.done] ((DcA s n i 0 y G))=((decide (i<n)=false)∧(Goal P 0 14 (fun v h=>v=AV.str t∧h={ objs:=T.leaf,next:=0,glob:=G }) (zb P 14 [.nils 0 0] G))∧((!t==s)=false)∧(R (.tup [.nils 0 0,.int .i64 0]) (⟨.leaf,0,G⟩))):=by kernel_rfl
theorem dAw (R:AV→AHeap→Prop)(s t:List UInt8)(n i:Int)(y:Nat)(G:T (T AV))(_K:AM→Prop):Obl P 19 (fun v h=>R v h) 0 _K [.run 5,.know 12 false,.run 50,.callh [] [0] (.str t) ⟨.leaf,0,G⟩,.run 4,.know 36 true,.run 6,.can 0 [] [2,3] [],.run 1,.done] ((DcA s n i 0 y G))=((decide (i<n)=false)∧(Goal P 0 14 (fun v h=>v=AV.str t∧h={ objs:=T.leaf,next:=0,glob:=G }) (zb P 14 [.nils 0 0] G))∧((!t==s)=true)∧(R (.tup [.nils 0 0,.int .i64 4]) (⟨.leaf,0,G⟩))):=by kernel_rfl
theorem dBn (R:AV→AHeap→Prop)(cell:Nat→AV)(s t:List UInt8)(n i:Int)(y m z:Nat)(G:T (T AV))(_K:AM→Prop):Obl P 19 (fun v h=>R v h) 0 _K [.run 5,.know 12 false,.run 50,.callh [(1,0,[])] [0] (.str t) ⟨(.node .leaf (some (.cells (.fn fun j=>some (cell j)) z 35 0 0 1 0 false .leaf)) .leaf),1,G⟩,.run 4,.know 36 false,.run 8,.can 0 [1] [2,3] [],.run 1,.done] ((DcB cell s n i 0 y m z G))=((decide (i<n)=false)∧(za fun j=>some (cell j))∧(za fun j=>some (cell j))∧(Goal P 1 14 (fun v h=>v=AV.str t∧h={ objs:=T.leaf.node (some (AObj.cells (T.fn fun j=>some (cell j)) z 35 0 0 1 0 false T.leaf)) T.leaf,next:=1,glob:=G }) (ze P 14 [.slg 0 0 0 m 0] ⟨(.node .leaf (some (.cells (.fn fun j=>some (cell j)) z 35 0 0 1 0 false .leaf)) .leaf),1,G⟩))∧((!t==s)=false)∧(za fun j=>some (cell j))∧(R (.tup [.slg 0 0 0 m 0,.int .i64 0]) (⟨(.node .leaf (some (.cells (.fn fun j=>some (cell j)) z 35 0 0 1 0 false .leaf)) .leaf),1,G⟩))):=by kernel_rfl
theorem dBw (R:AV→AHeap→Prop)(cell:Nat→AV)(s t:List UInt8)(n i:Int)(y m z:Nat)(G:T (T AV))(_K:AM→Prop):Obl P 19 (fun v h=>R v h) 0 _K [.run 5,.know 12 false,.run 50,.callh [(1,0,[])] [0] (.str t) ⟨(.node .leaf (some (.cells (.fn fun j=>some (cell j)) z 35 0 0 1 0 false .leaf)) .leaf),1,G⟩,.run 4,.know 36 true,.run 6,.can 0 [] [2,3] [],.run 1,.done] ((DcB cell s n i 0 y m z G))=((decide (i<n)=false)∧(za fun j=>some (cell j))∧(za fun j=>some (cell j))∧(Goal P 1 14 (fun v h=>v=AV.str t∧h={ objs:=T.leaf.node (some (AObj.cells (T.fn fun j=>some (cell j)) z 35 0 0 1 0 false T.leaf)) T.leaf,next:=1,glob:=G }) (ze P 14 [.slg 0 0 0 m 0] ⟨(.node .leaf (some (.cells (.fn fun j=>some (cell j)) z 35 0 0 1 0 false .leaf)) .leaf),1,G⟩))∧((!t==s)=true)∧(R (.tup [.nils 0 0,.int .i64 4]) (⟨.leaf,0,G⟩))):=by kernel_rfl
theorem dE (R:AV→AHeap→Prop)(G:T (T AV))(_K:AM→Prop):Obl P 19 (fun v h=>R v h) 0 _K [.run 212,.can 0 [] [2,3] [],.run 1,.done] ((zb P 19 [.str []] G))=((R (.tup [.nils 0 0,.int .i64 4]) (⟨.leaf,0,G⟩))):=by kernel_rfl
theorem zl3 (s:List UInt8)(Q:AV→AHeap→Prop)(G:T (T AV))(K:AM→Prop):Obl P 19 Q 0 K [.cap 0 0] (DN (.slg 1 0 0 s.length 0) s G)=(0<s.length∧∀ cap,s.length≤cap→K (DN (.slc 1 0 0 s.length cap) s G)):=by kernel_rfl
def zhc (n:Int):Int:=if n > 2147483647 then -1 else n
theorem zgX (s:List UInt8)(off len c:Nat)(hls:len≤s.length)(ho:0<len→off+len=s.length)(hc:len≤c)(hbig:s.length≤9223372036854775807){n:Int}{k:Nat}(hp:xf (mq.ahead s len)=some (n,k)) :
 ∃ off2:Nat,(0<len - k→off2+(len - k)=s.length)∧Goal P 2 57 (fun v H=>v=.int .i64 (zhc n)∧H=RG s off2 (len - k) (len - k) GW) (ze P 57 [.ptr 0 0 0] (RG s off len c GW)):=by
 obtain ⟨off2,h1,h2⟩:=zcy s off len c hls ho hc hbig hp
 refine ⟨off2,h1,?_⟩
 by_cases h:n > 2147483647
 · rw [zhc,if_pos h]
   exact (og (nuay _ (s) (n) (off) (len) (c) (off2) (len - k) GW _).symm ⟨zc s,zc s,h2,decide_eq_true h,rfl,rfl⟩)
 · rw [zhc,if_neg h]
   have h0:=(zM hp).1
   have w:IntKind.i64.wrap n=n:=IntWalk.i64_in _ (by omega)
   exact (og (nuan _ (s) (n) (off) (len) (c) (off2) (len - k) GW _).symm ⟨zc s,zc s,h2,decide_eq_false h,by rw [w],rfl⟩)
theorem zfT (s:List UInt8)(off len c:Nat)(hls:len≤s.length)(ho:0<len→off+len=s.length)(hc:len≤c)(hbig:s.length≤9223372036854775807)(hp:xf (mq.ahead s len)=none) :
 Goal P 2 57 (fun v H=>v=.int .i64 0∧H=RZ s GW) (ze P 57 [.ptr 0 0 0] (RG s off len c GW)) :=
 (og (nub _ (s) (off) (len) (c) GW _).symm ⟨zc s,zc s,zcM s off len c hls ho hc hbig hp,rfl,rfl⟩)
theorem zos:Goal P 1 57 (fun v H=>v=.int .i64 0∧H=RB GW) (ze P 57 [.ptr 0 0 0] (RB GW)) :=
 (og (nuz _ GW _).symm ⟨rfl,rfl⟩)
theorem xG {s:List UInt8}{x k:Nat}(hk:k≤x)(hx:x≤s.length):mq.ahead s (x - k)=(mq.ahead s x).drop k:=by
 unfold mq.ahead
 rw [List.drop_drop]
 congr 1
 omega
theorem zmv {d:Dg}(h:vL d=true):one d=row (d.1.length:Nat)++(d.1++(row d.2.1++row d.2.2)):=by
 have h:=of_decide_eq_true h
 have w1:IntKind.u64.wrap d.2.1=d.2.1:=IntWalk.u64_in _ (by omega)
 have w2:IntKind.u64.wrap d.2.2=d.2.2:=IntWalk.u64_in _ (by omega)
 unfold one zlI zd8
 rw [znz _ (by omega),w1,w2]
 simp only [List.nil_append,List.append_assoc]
theorem zmc (d:Dg):3≤(one d).length:=by
 have h1:=zL (IntKind.u64.wrap d.1.length)
 have h2:=zL (IntKind.u64.wrap d.2.1)
 have h3:=zL (IntKind.u64.wrap d.2.2)
 unfold one zlI zd8
 simp only [List.length_append,List.length_nil]
 omega
theorem zjP:∀ l:List Dg,l.length*3≤(l.flatMap one).length
 | []=>by simp
 | d::r=>by
  have:=zjP r
  have:=zmc d
  simp only [List.flatMap_cons,List.length_append,List.length_cons]
  omega
theorem vQ (l:List Dg):l.length*3+1≤(zp l).length:=by
 have:=zjP l
 have:=zL (l.length:Nat)
 unfold zp
 simp only [List.length_append,List.length_nil]
 omega
theorem zp9 (f:Nat→Dg)(n:Nat)(hn:n<100000):∃ l,So (sl f 0 n) l:=by
 rcases zgv (off:=0) (z:=n*3) (n:=n) (cp:=0) (f:=f) (Nat.le_refl _) hn with ⟨h,_⟩ | ⟨f',k,_,_,_,_,h,_⟩
 · exact ⟨_,h⟩
 · exact ⟨_,h⟩
abbrev Bad (m:AM):Prop:=Goal P 0 19 (fun v h=>v=.tup [.nils 0 0,.int .i64 4]∧h=⟨.leaf,0,GW⟩) m
theorem neT {a b:List UInt8}(h:a≠b):(!a==b)=true:=by simp [h]
theorem neF {a b:List UInt8}(h:a=b):(!a==b)=false:=by simp [h]
theorem nzT {x:Nat}(h:0<x):(!(x:Int)==0)=true:=by simp; omega
section
variable {s:List UInt8}
theorem bad_B (hs:s.length≤200000)(hno:∀ l,So l l→zp l≠s){n:Int}(x:Nat):∀ (y m z:Nat) (i:Int) (f:Nat→Dg),x≤s.length→(0<x→y+x=s.length)→0<m→z=m*3→m*3+x≤s.length→Bad (DcB (el f) s n i x y m z GW):=by
 induction x using Nat.strongRecOn with
 | _ x ih =>
  intro y m z i f hx hy hm hz hmx
  subst hz
  by_cases hi:i<n
  · have t0:(xf (mq.ahead s x)=none∨∃ n k,xf (mq.ahead s x)=some (n,k)∧((x - k:Nat):Int)<n)∨∃ n k,xf (mq.ahead s x)=some (n,k)∧n≤((x - k:Nat):Int):=by
     cases hp:xf (mq.ahead s x) with
     | none=>exact .inl (.inl rfl)
     | some r =>
      obtain ⟨n1,k1⟩:=r
      by_cases h:n1≤((x - k1:Nat):Int)
      · exact .inr ⟨n1,k1,rfl,h⟩
      · exact .inl (.inr ⟨n1,k1,rfl,by omega⟩)
    rcases t0 with hp | ⟨n1,k1,hp,hn1⟩
    · exact (og (dBb0 _ (el f) _ (n) _ _ _ _ _ GW _).symm ⟨decide_eq_true hi,zc s,zc s,ky s y x x hx hy (Nat.le_refl _) (by omega) hp,zos,zos,rfl,rfl⟩)
    · obtain ⟨y1,e1,g1⟩:=kj s y x x hx hy (Nat.le_refl _) (by omega) hp hn1
      have p1:=zM hp
      rw [zm hx] at p1
      cases hp2:xf (mq.ahead s (x - k1 - n1.toNat)) with
      | none=>exact (og (dBb1 _ (el f) _ _ (n) _ _ _ _ _ _ _ GW _).symm ⟨decide_eq_true hi,zc s,zc s,g1,zc s,zc s,zfT s y1 _ _ (by omega) e1 (Nat.le_refl _) (by omega) hp2,zos,rfl,rfl⟩)
      | some r =>
       obtain ⟨n2,k2⟩:=r
       obtain ⟨y2,e2,g2⟩:=zgX s y1 _ _ (by omega) e1 (Nat.le_refl _) (by omega) hp2
       have p2:=zM hp2
       rw [zm (by omega)] at p2
       cases hp3:xf (mq.ahead s (x - k1 - n1.toNat - k2)) with
       | none=>exact (og (dBb2 _ (el f) _ _ (n) _ _ _ _ _ _ _ _ _ _ GW _).symm ⟨decide_eq_true hi,zc s,zc s,g1,zc s,zc s,g2,zc s,zc s,zfT s y2 _ _ (by omega) e2 (Nat.le_refl _) (by omega) hp3,rfl,rfl⟩)
       | some r =>
        obtain ⟨n3,k3⟩:=r
        obtain ⟨y3,e3,g3⟩:=zgX s y2 _ _ (by omega) e2 (Nat.le_refl _) (by omega) hp3
        have p3:=zM hp3
        rw [zm (by omega)] at p3
        have q1:=zL n1
        have q2:=zL n2
        have q3:=zL n3
        have hih:=ih (x - k1 - n1.toNat - k2 - k3) (by omega) y3 (m+1) (0+m*3+3) (IntKind.u64.wrap (i+1)) (upd f m (((mq.ahead s x).drop k1).take n1.toNat,zhc n2,zhc n3)) (by omega) e3 (by omega) (by omega) (by omega)
        exact (og (dBg _ (el f) (el (upd f m (((mq.ahead s x).drop k1).take n1.toNat,zhc n2,zhc n3))) _ _ _ _ _ _ _ _ _ _ _ _ _ _ _ _ _ GW _).symm ⟨decide_eq_true hi,zc s,zc s,g1,zc s,zc s,g2,zc s,zc s,g3,
         ⟨⟨by rw [yM]; omega,fun k hk=>by
          rw [yM] at hk
          have hr:k=0∨k=1∨k=2:=by omega
          rcases hr with h | h | h <;> subst h <;> exact ⟨_,rfl,rfl⟩⟩,by omega,by omega,by omega,by omega,by
           unfold xz
           rw [Bool.and_eq_true,Nat.ble_eq,Nat.blt_eq]
           constructor <;> omega,by omega⟩,zdX f m (((mq.ahead s x).drop k1).take n1.toNat) (zhc n2) (zhc n3) yM,rfl,zh _,zc s,hih⟩)
  · by_cases h0:x=0
    · subst h0
      obtain ⟨l,hl⟩:=zp9 f m (by omega)
      exact (og (dBw _ (el f) _ (zp l) _ _ _ _ _ GW _).symm ⟨decide_eq_false hi,zh _,zh _,zh0 (off:=0) (z:=m*3) (cp:=0) (Nat.le_refl _) (by omega) hl,neT (hno l hl.self),rfl,rfl⟩)
    · exact (og (dBx _ (el f) _ _ _ (x) _ _ _ GW _).symm ⟨decide_eq_false hi,nzT (by omega),rfl,rfl⟩)
theorem bad_A (hs:s.length≤200000)(hno:∀ l,So l l→zp l≠s){n:Int}(x y:Nat)(hx:x≤s.length)(hy:0<x→y+x=s.length):Bad (DcA s n 0 x y GW):=by
 by_cases hi:(0:Int)<n
 · have t0:(xf (mq.ahead s x)=none∨∃ n k,xf (mq.ahead s x)=some (n,k)∧((x - k:Nat):Int)<n)∨∃ n k,xf (mq.ahead s x)=some (n,k)∧n≤((x - k:Nat):Int):=by
    cases hp:xf (mq.ahead s x) with
    | none=>exact .inl (.inl rfl)
    | some r =>
     obtain ⟨n1,k1⟩:=r
     by_cases h:n1≤((x - k1:Nat):Int)
     · exact .inr ⟨n1,k1,rfl,h⟩
     · exact .inl (.inr ⟨n1,k1,rfl,by omega⟩)
   rcases t0 with hp | ⟨n1,k1,hp,hn1⟩
   · exact (og (dAb0 _ _ (n) _ _ _ GW _).symm ⟨decide_eq_true hi,zc s,zc s,ky s y x x hx hy (Nat.le_refl _) (by omega) hp,zos,zos,rfl,rfl⟩)
   · obtain ⟨y1,e1,g1⟩:=kj s y x x hx hy (Nat.le_refl _) (by omega) hp hn1
     have p1:=zM hp
     rw [zm hx] at p1
     cases hp2:xf (mq.ahead s (x - k1 - n1.toNat)) with
     | none=>exact (og (dAb1 _ _ _ (n) _ _ _ _ _ GW _).symm ⟨decide_eq_true hi,zc s,zc s,g1,zc s,zc s,zfT s y1 _ _ (by omega) e1 (Nat.le_refl _) (by omega) hp2,zos,rfl,rfl⟩)
     | some r =>
      obtain ⟨n2,k2⟩:=r
      obtain ⟨y2,e2,g2⟩:=zgX s y1 _ _ (by omega) e1 (Nat.le_refl _) (by omega) hp2
      have p2:=zM hp2
      rw [zm (by omega)] at p2
      cases hp3:xf (mq.ahead s (x - k1 - n1.toNat - k2)) with
      | none=>exact (og (dAb2 _ _ _ (n) _ _ _ _ _ _ _ _ GW _).symm ⟨decide_eq_true hi,zc s,zc s,g1,zc s,zc s,g2,zc s,zc s,zfT s y2 _ _ (by omega) e2 (Nat.le_refl _) (by omega) hp3,rfl,rfl⟩)
      | some r =>
       obtain ⟨n3,k3⟩:=r
       obtain ⟨y3,e3,g3⟩:=zgX s y2 _ _ (by omega) e2 (Nat.le_refl _) (by omega) hp3
       have p3:=zM hp3
       rw [zm (by omega)] at p3
       have q1:=zL n1
       have q2:=zL n2
       have q3:=zL n3
       exact (og (dAg _ (el (fun _=>(((mq.ahead s x).drop k1).take n1.toNat,zhc n2,zhc n3))) _ _ _ _ _ _ _ _ _ _ _ _ _ _ (3) GW _).symm ⟨decide_eq_true hi,zc s,zc s,g1,zc s,zc s,g2,zc s,zc s,g3,zbP _ _ _,rfl,zh _,zc s,bad_B hs hno _ y3 1 3 _ _ (by omega) e3 (by omega) (by omega) (by omega)⟩)
 · by_cases h0:x=0
   · subst h0
     exact (og (dAw _ _ (zp []) _ _ _ GW _).symm ⟨decide_eq_false hi,zj8,neT (hno [] ⟨.nil,by simp⟩),rfl,rfl⟩)
   · exact (og (dAx _ _ _ _ (x) _ GW _).symm ⟨decide_eq_false hi,nzT (by omega),rfl,rfl⟩)
theorem zaM {Q:AV→AHeap→Prop}(h0:0<s.length)(hs:s.length≤200000){n:Int}{k:Nat}(hp:xf s=some (n,k))(h:∀ y,(0<s.length - k→y+(s.length - k)=s.length)→Goal P 0 19 Q (DcA s n 0 (s.length - k) y GW)):Goal P 0 19 Q (zb P 19 [.str s] GW):=by
 have hal:mq.ahead s s.length=s:=by unfold mq.ahead; rw [Nat.sub_self]; rfl
 refine (og (d0 _ _ GW _).symm ⟨zc s,zcc 0 s,zc s,(og (zl3 s _ GW _).symm ⟨h0,fun cap hcap=>?_⟩)⟩)
 obtain ⟨y2,e,g⟩:=zcy s 0 s.length cap (Nat.le_refl _) (fun _=>by omega) hcap (by omega) (by rw [hal]; exact hp)
 exact (og (d1 _ _ (n) (s.length) (cap) (s.length - k) (y2) GW _).symm ⟨zc s,zc s,g,zc s,h y2 e⟩)
theorem zlg (h0:0<s.length)(hs:s.length≤200000)(hp:xf s=none):Bad (zb P 19 [.str s] GW):=by
 have hal:mq.ahead s s.length=s:=by unfold mq.ahead; rw [Nat.sub_self]; rfl
 refine (og (d0 _ _ GW _).symm ⟨zc s,zcc 0 s,zc s,(og (zl3 s _ GW _).symm ⟨h0,fun cap hcap=>?_⟩)⟩)
 have g:=zcM s 0 s.length cap (Nat.le_refl _) (fun _=>by omega) hcap (by omega) (by rw [hal]; exact hp)
 exact (og (d2 _ _ (s.length) (cap) GW _).symm ⟨zc s,zc s,g,(og (d3 _ _ GW _).symm ⟨rfl,rfl⟩)⟩)
theorem zff (hs:s.length≤200000)(hno:∀ l,So l l→zp l≠s):Bad (zb P 19 [.str s] GW):=by
 by_cases h0:0<s.length
 · cases hp:xf s with
   | none=>exact zlg h0 hs hp
   | some r =>
    obtain ⟨n,k⟩:=r
    exact zaM h0 hs hp fun y hy=>bad_A hs hno _ y (by omega) hy
 · obtain rfl:s=[]:=List.eq_nil_of_length_eq_zero (by omega)
   exact (og (dE _ GW _).symm ⟨rfl,rfl⟩)
theorem zU (a b:List UInt8):(a++b).drop a.length=b:=List.drop_left
theorem zaa (a b:List UInt8):(a++b).take a.length=a:=List.take_left
theorem zgb (hs:s.length≤200000){x y:Nat}(hx:x≤s.length)(hy:0<x→y+x=s.length){d:Dg}(hd:vL d=true){rest:List UInt8}(ha:mq.ahead s x=one d++rest) :
 ∃ x1 x2 x3 y1 y2 y3,Goal P 2 56 (fun v H=>v=.str d.1∧H=RG s y1 x1 x1 GW) (ze P 56 [.ptr 0 0 0] (RG s y x x GW)) ∧
  Goal P 2 57 (fun v H=>v=.int .i64 d.2.1∧H=RG s y2 x2 x2 GW) (ze P 57 [.ptr 0 0 0] (RG s y1 x1 x1 GW)) ∧
  Goal P 2 57 (fun v H=>v=.int .i64 d.2.2∧H=RG s y3 x3 x3 GW) (ze P 57 [.ptr 0 0 0] (RG s y2 x2 x2 GW)) ∧
  x3≤s.length∧(0<x3→y3+x3=s.length)∧mq.ahead s x3=rest:=by
 have hb:=of_decide_eq_true hd
 rw [zmv hd] at ha
 simp only [List.append_assoc] at ha
 have hal:=zm hx
 have hp:xf (mq.ahead s x)=some (((d.1.length:Nat):Int),(row ((d.1.length:Nat):Int)).length):=by
  rw [ha]
  exact xp _ (by omega) (by omega) _
 rw [ha] at hal
 simp only [List.length_append] at hal
 obtain ⟨y1,e1,g1⟩:=kj s y x x hx hy (Nat.le_refl _) (by omega) hp (by omega)
 have a1:mq.ahead s (x - (row ((d.1.length:Nat):Int)).length - ((d.1.length:Nat):Int).toNat)=row d.2.1++(row d.2.2++rest):=by
  rw [xG (by rw [Int.toNat_natCast]; omega) (by omega),xG (by omega) hx,ha,zU,Int.toNat_natCast,zU]
 have t1:((mq.ahead s x).drop (row ((d.1.length:Nat):Int)).length).take ((d.1.length:Nat):Int).toNat=d.1:=by
  rw [ha,zU,Int.toNat_natCast,zaa]
 rw [t1] at g1
 have hp2:=xp d.2.1 (by omega) (by omega) (row d.2.2++rest)
 rw [← a1] at hp2
 obtain ⟨y2,e2,g2⟩:=zgX s y1 _ _ (by omega) e1 (Nat.le_refl _) (by omega) hp2
 have a2:mq.ahead s (x - (row ((d.1.length:Nat):Int)).length - ((d.1.length:Nat):Int).toNat - (row d.2.1).length)=row d.2.2++rest:=by
  rw [xG (by rw [Int.toNat_natCast]; omega) (by omega),a1,zU]
 have hp3:=xp d.2.2 (by omega) (by omega) rest
 rw [← a2] at hp3
 obtain ⟨y3,e3,g3⟩:=zgX s y2 _ _ (by omega) e2 (Nat.le_refl _) (by omega) hp3
 have n2:zhc d.2.1=d.2.1:=if_neg (by omega)
 have n3:zhc d.2.2=d.2.2:=if_neg (by omega)
 rw [n2] at g2
 rw [n3] at g3
 exact ⟨_,_,_,y1,y2,y3,g1,g2,g3,by omega,e3,by rw [xG (by rw [Int.toNat_natCast]; omega) (by omega),a2,zU]⟩
theorem zoo (k:Nat)(h:k<1000000):IntKind.u64.wrap ((k:Int)+1)=((k+1:Nat):Int):=by rw [IntWalk.u64_in _ (by omega)]; omega
theorem jc {α:Type}(g:Nat→α)(m r:Nat):sl g m (r+1)=g m::sl g (m+1) r:=rfl
theorem ok_B (hs:s.length≤200000){ms:List Dg}(hm:So ms ms)(he:zp ms=s){g:Nat→Dg}{M:Nat}(hg:sl g 0 M=ms):∀ (r m x y z:Nat) (f:Nat→Dg),m+r=M→0<m→z=m*3→(∀ t,t<m→f t=g t)→x≤s.length→(0<x→y+x=s.length)→mq.ahead s x=(sl g m r).flatMap one →
 ∃ f',sl f' 0 M=ms∧Goal P 0 19 (fun v h=>v=.tup [.slg 0 0 0 M 0,.int .i64 0]∧h=HCo f' 0 (M*3)) (DcB (el f) s M m x y m z GW)
 | 0,m,x,y,z,f,hr,h0,hz,hf,hx,hy,ha=>by
  obtain rfl:m=M:=by omega
  subst hz
  have hal:=zm hx
  rw [ha] at hal
  obtain rfl:x=0:=hal.symm
  have hM:=vQ ms
  rw [he,← hg,xO] at hM
  have hf':sl f 0 m=ms:=by rw [← hg]; exact xR m 0 fun t _ h=>hf t (by omega)
  have hso:So (sl f 0 m) ms:=by rw [hf']; exact hm
  exact ⟨f,hf',(og (dBn _ (el f) _ (zp ms) _ _ _ _ _ GW _).symm ⟨decide_eq_false (by omega),zh _,zh _,zh0 (off:=0) (z:=m*3) (cp:=0) (Nat.le_refl _) (by omega) hso,neF he,zh _,rfl,rfl⟩)⟩
 | r+1,m,x,y,z,f,hr,h0,hz,hf,hx,hy,ha=>by
  subst hz
  have hM:=vQ ms
  rw [he,← hg,xO] at hM
  have hd:vL (g m)=true:=((hm.2 (g m)).1 (by rw [← hg]; exact vU g M 0 m (by omega) (by omega))).2
  rw [jc,List.flatMap_cons] at ha
  obtain ⟨x1,x2,x3,y1,y2,y3,g1,g2,g3,l3,e3,a3⟩:=zgb hs hx hy hd ha
  obtain ⟨f',q1,q2⟩:=ok_B hs hm he hg r (m+1) x3 y3 (0+m*3+3) (upd f m (g m)) (by omega) (by omega) (by omega) (fun t ht=>by
   unfold upd
   by_cases h:t=m
   · rw [if_pos h,h]
   · rw [if_neg h]; exact hf t (by omega)) l3 e3 a3
  refine ⟨f',q1,(og (dBg _ (el f) (el (upd f m (g m))) _ _ _ _ _ _ _ _ _ _ _ _ _ _ _ _ _ GW _).symm ⟨decide_eq_true (by omega),zc s,zc s,g1,zc s,zc s,g2,zc s,zc s,g3,
   ⟨⟨by rw [yM]; omega,fun k hk=>by
    rw [yM] at hk
    have hr:k=0∨k=1∨k=2:=by omega
    rcases hr with h | h | h <;> subst h <;> exact ⟨_,rfl,rfl⟩⟩,by omega,by omega,by omega,by omega,by
     unfold xz
     rw [Bool.and_eq_true,Nat.ble_eq,Nat.blt_eq]
     constructor <;> omega,by omega⟩,zdX f m (g m).1 (g m).2.1 (g m).2.2 yM,rfl,zh _,zc s,by rw [zoo m (by omega)]; exact q2⟩)⟩
theorem zbw (hs:s.length≤200000){ms:List Dg}(hm:So ms ms)(he:zp ms=s) :
 (ms=[]∧Goal P 0 19 (fun v h=>v=.tup [.nils 0 0,.int .i64 0]∧h=⟨.leaf,0,GW⟩) (zb P 19 [.str s] GW)) ∨
  (0<ms.length∧∃ f',sl f' 0 ms.length=ms∧Goal P 0 19 (fun v h=>v=.tup [.slg 0 0 0 ms.length 0,.int .i64 0]∧h=HCo f' 0 (ms.length*3)) (zb P 19 [.str s] GW)):=by
 have hM:=vQ ms
 rw [he] at hM
 have hse:s=row (ms.length:Nat)++ms.flatMap one:=by rw [← he]; unfold zp; rw [List.nil_append]
 have hal:mq.ahead s s.length=s:=by unfold mq.ahead; rw [Nat.sub_self]; rfl
 have hrl:(row (ms.length:Nat)).length≤s.length:=by rw [hse,List.length_append]; omega
 have hp:xf s=some (((ms.length:Nat):Int),(row (ms.length:Nat)).length):=by
  rw [hse]
  exact xp _ (by omega) (by omega) _
 have ha:mq.ahead s (s.length - (row (ms.length:Nat)).length)=ms.flatMap one:=by
  rw [xG hrl (Nat.le_refl _),hal]
  conv=>lhs; rw [hse]
  exact zU _ _
 by_cases h0:ms=[]
 · subst h0
   refine .inl ⟨rfl,zaM (by omega) hs hp fun y hy=>?_⟩
   have hx:s.length - (row (([]:List Dg).length:Nat)).length=0:=by
    have:=zm (s:=s) (len:=s.length - (row (([]:List Dg).length:Nat)).length) (by omega)
    rw [ha] at this
    exact this.symm
   rw [hx]
   exact (og (dAn _ _ (zp []) _ _ _ GW _).symm ⟨decide_eq_false (by decide),zj8,neF he,rfl,rfl⟩)
 · have hpos:0<ms.length:=List.length_pos_iff.2 h0
   refine .inr ⟨hpos,?_⟩
   obtain ⟨M,hMM⟩:∃ M,ms.length=M+1:=⟨ms.length - 1,by omega⟩
   have hg:sl (fun i=>ms.getD i zd) 0 (M+1)=ms:=by
    refine List.ext_getElem? fun i=>?_
    by_cases hi:i<M+1
    · rw [wB _ _ _ _ hi,Nat.zero_add,List.getD_eq_getElem?_getD,List.getElem?_eq_getElem (by omega)]
      rfl
    · rw [List.getElem?_eq_none (by rw [xO]; omega),List.getElem?_eq_none (by omega)]
   generalize hgd:(fun i=>ms.getD i zd)=g at hg
   have hd:vL (g 0)=true:=((hm.2 (g 0)).1 (by rw [← hg]; exact vU g (M+1) 0 0 (by omega) (by omega))).2
   have hx:s.length - (row (ms.length:Nat)).length≤s.length:=by omega
   have ha':mq.ahead s (s.length - (row (ms.length:Nat)).length)=one (g 0)++(sl g 1 M).flatMap one:=by
    rw [ha,← List.flatMap_cons,← jc,hg]
   have key:∀ y,(0<s.length - (row (ms.length:Nat)).length→y+(s.length - (row (ms.length:Nat)).length)=s.length)→∃ f',sl f' 0 ms.length=ms∧Goal P 0 19 (fun v h=>v=.tup [.slg 0 0 0 ms.length 0,.int .i64 0]∧h=HCo f' 0 (ms.length*3)) (DcA s (ms.length:Nat) 0 (s.length - (row (ms.length:Nat)).length) y GW):=by
    intro y hy
    obtain ⟨x1,x2,x3,y1,y2,y3,g1,g2,g3,l3,e3,a3⟩:=zgb hs hx hy hd ha'
    obtain ⟨f',q1,q2⟩:=ok_B hs hm he hg M 1 x3 y3 3 (fun _=>g 0) (by omega) (by omega) (by omega) (fun t ht=>by
     obtain rfl:t=0:=by omega
     rfl) l3 e3 a3
    rw [← hMM] at q1 q2
    exact ⟨f',q1,(og (dAg _ (el (fun _=>g 0)) _ _ _ _ _ _ _ _ _ _ _ _ _ _ (3) GW _).symm ⟨decide_eq_true (by omega),zc s,zc s,g1,zc s,zc s,g2,zc s,zc s,g3,zbP _ _ _,rfl,zh _,zc s,q2⟩)⟩
   by_cases hrow:0<s.length - (row (ms.length:Nat)).length
   · obtain ⟨f',q1,q2⟩:=key (row (ms.length:Nat)).length (fun _=>by omega)
     refine ⟨f',q1,zaM (by omega) hs hp fun y hy=>?_⟩
     have:y=(row (ms.length:Nat)).length:=by have:=hy hrow; omega
     rw [this]
     exact q2
   · have h1:=zm hx
     rw [ha'] at h1
     have:=zmc (g 0)
     rw [List.length_append] at h1
     omega
end
end Go.Proofs.YtdbfpjgnlfejmaaDoor.dg
end
section
set_option maxRecDepth 100000
set_option linter.unusedVariables false
namespace Go.Proofs.YtdbfpjgnlfejmaaDoor.dg
open Go Ev mq
def zpv (r:Option (AV × AHeap)):Option AR:=match r with
 | none=>none
 | some (v,h)=>some (.val v h)
def gt (f:Nat→Dg) (K m i:Nat):Dg:=if i<m - K then f (K+i) else f (i - (m - K))
theorem zbZ {f g:Nat→Dg}{i j:Nat}(h:i % 3=j % 3)(e:f (i / 3)=g (j / 3)):el f i=el g j:=by
 unfold el
 rw [h,e]
theorem beqF {α:Type} [BEq α] [LawfulBEq α] {a b:α}(h:¬ a=b):(a==b)=false:=by rw [← Bool.not_eq_true,beq_iff_eq]; exact h
section
variable {off z m cp:Nat} {f:Nat→Dg} {tn:Int}
theorem get_one (c:Nat→AV)(hc:∀ k,(c k).one=true)(o q:Nat):∀ k,k<q→∃ v,(T.fn fun c'=>some (c c')).get (o+k)=some v∧v.one=true:=fun k _=>⟨c (o+k),rfl,hc _⟩
end
end Go.Proofs.YtdbfpjgnlfejmaaDoor.dg
end
