/- The statement CachePlays: whatever acts and capacity come in,the call returns true and ziD all that was there as it was: a cache answers what the document's own answers,and as much is kept. No condition: it is shown of all arguments. -/
import Derived.Test.YtehelionjafnkaaRows
import Derived.WalkKit
import Derived.ProofKit
import Derived.OpenShut
import Derived.ChangeMaps5
import Derived.Deep.Slices
import Derived.Deep.Strs
import Derived.Laws.World
import Derived.Below
import Derived.Test.YtehelionjafnkaaChecked
import GoSem.Dispatch
import GoSem.Step
import Derived.Lib.Bytealg
import Derived.Laws.Sem
import Derived.Calls
import Derived.Laws.Strings
import Derived.Carry
import Derived.ChangeSlices
import Derived.SliceStrings
import Derived.Laws.IdiomStrings
import Derived.Laws.Externs
import Derived.Lib.MakeNoZero
import Derived.Lib.UnsafeStr
import Derived.Orders
import Derived.Test.YtehelionjafnkaaP00
import Derived.Test.YtehelionjafnkaaP01
import Derived.Test.YtehelionjafnkaaP02
import Derived.Test.YtehelionjafnkaaP03
import Derived.Test.YtehelionjafnkaaP04
import Derived.Test.YtehelionjafnkaaP05
import Derived.Test.YtehelionjafnkaaP06
import Derived.Test.YtehelionjafnkaaP07
import Derived.Test.YtehelionjafnkaaP08
set_option maxRecDepth 100000
set_option linter.unusedVariables false
namespace Go.Proofs.Ytehelionjafnkaa.cachePlays
open Go Go.ChangeShapes Go.WideShapes Go.ChangeAt Go.RowKit Go.ChangeMaps
open Ev gx
theorem q_st (R:AV→Prop)(b off len cp hi:Nat)(x:Int)(cell:Nat→AV)(G:T (T AV))(K:AM→Prop):zd8 ((ze3 P 3 [.slc 0 0 off len cp,.int .i64 x] [⟨true,b,.fn (fun j=>some (cell (j - off))),off,hi⟩] G)) (Obl P 3 (fun v _=>R v) 0 K [.run 77,.keep [0,5,6,7]])=(K (WP off len cp (Int.ofNat 0) [] (((T.leaf.node (some (AObj.cells (T.leaf.node (some (AV.ptr 2 0 0)) T.leaf) 1 54 0 0 1 0 false T.leaf)) T.leaf).node (some (AObj.map [] 0)) T.leaf).node (some (AObj.ro (T.fn fun j=>some (cell (j - off))) off hi)) ((T.leaf.node (some (AObj.cells ((T.leaf.node (some (AV.nils 0 0)) T.leaf).node (some (AV.int .i64 x)) T.leaf) 2 28 0 0 1 0 false T.leaf)) T.leaf).node (some (AObj.cells ((((T.leaf.node (some (AV.str [])) T.leaf).node (some (AV.ptr 2 0 3)) (T.leaf.node (some (AV.int .u64 (Int.ofNat 0))) T.leaf)).node (some (AV.int .i64 (Int.ofNat 0))) ((T.leaf.node (some (AV.nils 0 0)) T.leaf).node (some (AV.str [])) T.leaf)).node (some (AV.int .i64 (if decide ((0:Int) > x)=true then (0:Int) else x))) (((T.leaf.node (some (AV.bool false)) T.leaf).node (some (AV.ptr 2 0 3)) T.leaf).node (some (AV.mp 1)) ((T.leaf.node (some (AV.nils 0 0)) T.leaf).node (some (AV.nils 0 0)) T.leaf))) 12 78 0 0 1 0 false T.leaf)) T.leaf)) 5 G)):=by kernel_rfl
theorem q_se (R:AV→Prop)(x:Int)(G:T (T AV))(_K:AM→Prop):zd8 ((ze3 P 3 [.sle,.int .i64 x] [] G)) (Obl P 3 (fun v _=>R v) 0 _K [.run 94,.callv [] (.bool true),.run 3,.done])=((Goal P 0 13 (fun x x_1=>x=AV.bool true) (yO P 13 [] G))∧(R (.bool true))):=by kernel_rfl
theorem q_sn (R:AV→Prop)(x:Int)(G:T (T AV))(_K:AM→Prop):zd8 ((ze3 P 3 [.nils 0 0,.int .i64 x] [] G)) (Obl P 3 (fun v _=>R v) 0 _K [.run 94,.callv [] (.bool true),.run 3,.done])=((Goal P 0 13 (fun x x_1=>x=AV.bool true) (yO P 13 [] G))∧(R (.bool true))):=by kernel_rfl
theorem in_acts {H:Type}{enc':TypeId × Value→H}{w:World}{b0:Nat}{v:Value}{d:DataW H}{ps:List MemPlace}(hv:Value.okWide P w .any b0 22 v)(h:DataW.Trod enc' P w 0 (fun _=>true) true 22 v d ps) :
    v=.slice none 0 0∨∃ (a:Addr) (len cap:Nat) (md:Nat→gx.Act),v=.slice (some a) len cap∧len≤cap∧(∀ j,j<cap→0≤(md j).2.2∧(md j).2.2≤255)∧∀ i,i<cap*3→∃ y,w.cell? (a.add i)=some y∧VRel (fun _ _=>none) (zdo md i) y:=by
  have u22:P.underlying 22=some (.slice 30):=by kernel_rfl
  have u9:P.underlying 9=some .string:=by kernel_rfl
  have u5:P.underlying 5=some (.int .u8):=by kernel_rfl
  have u4:P.underlying 4=some .bool:=by kernel_rfl
  have c30:P.cellsOf 30=3:=by kernel_rfl
  have c9:P.cellsOf 9=1:=by kernel_rfl
  have c5:P.cellsOf 5=1:=by kernel_rfl
  have c4:P.cellsOf 4=1:=by kernel_rfl
  obtain ⟨fs,u30,f0,f1,f2⟩:∃ fs:Array Field,P.underlying 30=some (.struct fs)∧(fs[0]?.map fun f=>(f.type,f.offset))=some (4,0)∧(fs[1]?.map fun f=>(f.type,f.offset))=some (9,1)∧(fs[2]?.map fun f=>(f.type,f.offset))=some (5,2) :=
    ⟨(match P.underlying 30 with | some (.struct fs)=>fs | _=>#[]),by kernel_rfl,by kernel_rfl,by kernel_rfl,by kernel_rfl⟩
  obtain ⟨a,l,c,rfl⟩:=okWide_slice u22 hv
  obtain ⟨fuel,h⟩:=h
  rcases Go.Deep.open_slice u22 h with ⟨hcs,_⟩ | ⟨a',len,cap,m,n,D,Pl,hcs,_,hl,hm,hmm,_,hx⟩
  · simp only [Value.cells,List.cons.injEq,and_true] at hcs
    exact .inl hcs
  simp only [Value.cells,List.cons.injEq,and_true] at hcs
  have hmc:m=cap:=by simpa using hmm
  subst hmc
  have each:∀ i,i<m→∃ q:gx.Act,(0≤q.2.2∧q.2.2≤255)∧∀ u,u<3→∃ y,w.cell? (a'.add (i*3+u))=some y∧VRel (fun _ _=>none) ((arow q).getD u xd) y:=by
    intro i hi
    obtain ⟨cs',h1,h2⟩:=hx i hi
    rw [c30] at h1
    obtain ⟨_,hlen,hcell⟩:=World.cells?_some h1
    obtain ⟨xs,k,hk,hxy,_,hxl,hf⟩:=DataW.trod_struct u30 h2
    match cs',hlen with
    | [v0,v1,v2],_ =>
      obtain ⟨g0,q0,r0⟩:=Option.map_eq_some_iff.1 f0
      obtain ⟨g1,q1,r1⟩:=Option.map_eq_some_iff.1 f1
      obtain ⟨g2,q2,r2⟩:=Option.map_eq_some_iff.1 f2
      simp only [Prod.mk.injEq] at r0 r1 r2
      have hn:2<xs.length:=by
        rw [hxl]
        exact (Array.getElem?_eq_some_iff.1 q2).1
      have k0:=hf 0 g0 q0
      have k1:=hf 1 g1 q1
      have k2:=hf 2 g2 q2
      rw [r0.1,r0.2,c4,List.getElem?_eq_getElem (by omega)] at k0
      rw [r1.1,r1.2,c9,List.getElem?_eq_getElem (by omega)] at k1
      rw [r2.1,r2.2,c5,List.getElem?_eq_getElem (by omega)] at k2
      obtain ⟨n0,e0,_⟩:=DataW.trod_bool u4 k0
      obtain ⟨n1,e1,_,_⟩:=DataW.trod_string u9 k1
      obtain ⟨n2,e2,_,wn⟩:=DataW.trod_int u5 k2
      obtain rfl:v0=Value.bool n0:=(List.cons.inj (show [v0]=[Value.bool n0] from e0)).1
      obtain rfl:v1=Value.string n1:=(List.cons.inj (show [v1]=[Value.string n1] from e1)).1
      obtain rfl:v2=Value.int .u8 n2:=(List.cons.inj (show [v2]=[Value.int .u8 n2] from e2)).1
      refine ⟨(n0,n1.data.toList,n2),bounds_u8 wn,fun u hu=>?_⟩
      have tt:=hcell u hu
      rw [Go.Deep.add_add] at tt
      rcases u with _ | _ | _ | u
      · exact ⟨_,tt,rfl⟩
      · exact ⟨_,tt,by show Value.string n1=.string ⟨n1.data.toList.toArray⟩; rw [Array.toArray_toList]⟩
      · exact ⟨_,tt,rfl⟩
      · omega
  obtain ⟨q,hq⟩:=Go.Deep.choose_lt each
  refine .inr ⟨a',len,m,q,hcs,hl,fun j hj=>(hq j hj).1,fun i hi=>?_⟩
  obtain ⟨y,h1,h2⟩:=(hq (i / 3) (by omega)).2 (i % 3) (by omega)
  rw [show i / 3*3+i % 3=i by omega] at h1
  exact ⟨y,h1,h2⟩
/-- The forms of the acts: none; a row without room; a row. -/
theorem acts_form {w:World}{v:Value}(h:v=.slice none 0 0∨∃ (a:Addr) (len cap:Nat) (md:Nat→gx.Act),v=.slice (some a) len cap∧len≤cap∧(∀ j,j<cap→0≤(md j).2.2∧(md j).2.2≤255)∧∀ i,i<cap*3→∃ y,w.cell? (a.add i)=some y∧VRel (fun _ _=>none) (zdo md i) y) :
    v=.slice none 0 0∨(∃ a,v=.slice (some a) 0 0)∨∃ (b off len cap:Nat) (md:Nat→gx.Act),v=.slice (some ⟨b,off,none⟩) len cap∧len≤cap∧(∀ j,j<cap→0≤(md j).2.2∧(md j).2.2≤255)∧(Inp.mk true b (.fn fun j=>some (zdo md (j - off))) off (off+cap*3)).holds w:=by
  rcases h with h | ⟨a,len,cap,md,rfl,hl,hb,hc⟩
  · exact .inl h
  by_cases h0:cap=0
  · subst h0
    obtain rfl:len=0:=by omega
    exact .inr (.inl ⟨a,rfl⟩)
  · obtain ⟨f,hf⟩:=Go.Deep.choose_lt hc
    obtain ⟨b,off,rfl,hi⟩:=znW (f:=f) (g:=fun i=>zdo md i) (fun i hi=>(hf i hi).1) (fun i hi=>(hf i hi).2) (by omega)
    exact .inr (.inr ⟨b,off,len,cap,md,rfl,hl,hb,hi⟩)
/-- A new store. -/
theorem new_ok {κ:Type} [BEq κ] [LawfulBEq κ] {kav:κ→AV}{kc:κ→List AV}{O:T AObj}{l mi cap vn n:Nat}{el:TypeId}{t:T AV}{f:Nat→AV}(hne:mi≠l)(h:O.get l=some (.cells t n el 0 0 1 0 false .leaf))(hn:5≤n)
    (hc:∀ k,k<n→t.get k=some (f k)) (h0:f 0=.int .i64 ((cap:Nat):Int)) (h1:f 1=.int .i64 0) (h2:f 2=.mp mi) (h3:f 3=.ptr l 0 3) (h4:f 4=.ptr l 0 3) (hm:O.get mi=some (.map [] 0)):LR O kav kc vn l mi cap []:=by
  have c:∀ k,k<n→Cell O l k (f k):=fun k hk=>⟨n,f,⟨t,el,h,hc⟩,hk,rfl⟩
  refine ⟨hne,h0▸c 0 (by omega),h1▸c 1 (by omega),h2▸c 2 (by omega),?_,fun x hx=>absurd hx List.not_mem_nil,List.nodup_nil,List.nodup_nil,⟨[],⟨[],0,hm,rfl⟩,List.nodup_nil,fun p hp=>absurd hp List.not_mem_nil,fun x hx=>absurd hx List.not_mem_nil⟩,Nat.zero_le _⟩
  show Lk O [(l,3),(l,3)]
  rw [Lk.two]
  have e4:=c 4 (by omega)
  have e3:=c 3 (by omega)
  rw [h4] at e4
  rw [h3] at e3
  exact ⟨⟨e4,e3⟩,Lk.one _⟩
/-- A capacity. -/
theorem cap_of (c:Int):(if decide ((0:Int) > c)=true then (0:Int) else c)=((c.toNat:Nat):Int):=by
  by_cases h:(0:Int) > c
  · rw [decide_eq_true h,if_pos rfl]; omega
  · rw [decide_eq_false h,if_neg (by simp)]; omega
theorem walk (v:Value)(w:World)(c:Int)(hv:v=.slice none 0 0∨(∃ a,v=.slice (some a) 0 0)∨∃ (b off len cap:Nat) (md:Nat→gx.Act),v=.slice (some ⟨b,off,none⟩) len cap∧len≤cap∧(∀ j,j<cap→0≤(md j).2.2∧(md j).2.2≤255)∧(Inp.mk true b (.fn fun j=>some (zdo md (j - off))) off (off+cap*3)).holds w) :
    Calls P 3 #[v,.int .i64 c] w fun r w'=>r=.returned (.bool true)∧Old w w':=by
  have hG:zjt .leaf w:=fun g c e=>by cases e
  rcases hv with rfl | ⟨a,rfl⟩ | ⟨b,off,len,cap,md,rfl,hl,hb,hi⟩
  · exact zke mix (K:=GKp) (cast (q_sn R0 c .leaf GKp).symm ⟨zaP,rfl⟩) (fun _ h=>h) (vs:=[.slice none 0 0,.int .i64 c]) hG (fun x hx=>absurd hx List.not_mem_nil) ⟨_,_,rfl,rfl,_,_,rfl,rfl,rfl⟩
  · exact zke mix (K:=GKp) (cast (q_se R0 c .leaf GKp).symm ⟨zaP,rfl⟩) (fun _ h=>h) (vs:=[.slice (some a) 0 0,.int .i64 c]) hG (fun x hx=>absurd hx List.not_mem_nil) ⟨_,_,rfl,⟨a,rfl⟩,_,_,rfl,rfl,rfl⟩
  · refine zke mix (K:=GKp) (cast (q_st R0 b off len cap (off+cap*3) c (fun j=>zdo md j) .leaf GKp).symm ?_) (fun _ h=>h) (vs:=[.slice (some ⟨b,off,none⟩) len cap,.int .i64 c]) hG (fun x hx=>by rw [List.mem_singleton.1 hx]; exact hi) ⟨_,_,rfl,⟨⟨b,0,0⟩,rfl,Nat.zero_le _,rfl⟩,_,_,rfl,rfl,rfl⟩
    rw [cap_of]
    refine znb (c:=c.toNat) (x:=c) (act:=md) hl 100 0 _ 5 [] [] (.nils 0 0) rfl ⟨rfl,?_,⟨_,_,rfl,fun k hk=>?_⟩,⟨_,_,rfl,fun k hk=>?_⟩,SV.nil,fun h=>absurd rfl h,rfl,Nat.le_refl _,fun x hx=>absurd hx List.not_mem_nil,rfl,fun x hx=>absurd hx List.not_mem_nil,Nat.le_refl _,hb⟩
    · refine new_ok (f:=fun k=>[AV.int .i64 ((c.toNat:Nat):Int),.int .i64 0,.mp 1,.ptr 2 0 3,.ptr 2 0 3,.str [],.nils 0 0,.str [],.bool false,.nils 0 0,.nils 0 0,.int .u64 0].getD k xd) (by omega) rfl (by omega) (fun k hk=>?_) rfl rfl rfl rfl rfl rfl
      rcases k with _ | _ | _ | _ | _ | _ | _ | _ | _ | _ | _ | _ | k
      · rfl
      · rfl
      · rfl
      · rfl
      · rfl
      · rfl
      · rfl
      · rfl
      · rfl
      · rfl
      · rfl
      · rfl
      · omega
    · rcases k with _ | k
      · rfl
      · exact absurd hk (by simp)
    · rcases k with _ | _ | k
      · rfl
      · rfl
      · exact absurd hk (by simp)
theorem own:ownKnob Try.prog.godebug=none:=by kernel_rfl
/-! ### The row's step -/
theorem lifted (os:Os)(started:os.Started)(H:Type)(enc:TypeId × Value→H) :
    ReturnsInHanded {} Try.checked os 3 .any (Rows.cachePlaysSpec.pre6 enc Try.prog Try.f3 Rows.cachePlaysRow.domain false) (Rows.cachePlaysSpec.post enc Try.prog Try.f3 false true false false):=by
  refine returnsInHanded_of_change (C:=Try.checked) own started (by kernel_rfl) Try.func3
    (ChangeSpec.witness6 (enc:=enc) (C:=Try.checked) false ⟨#[],#[.slice none 0 0,.int .i64 0],[]⟩ 8 (by kernel_rfl) (by kernel_rfl) (by kernel_rfl) (by kernel_rfl)) ?_
  intro W base args ds gs before hval0 hW hcnd _
  have hval:∀ (j:Nat) t v,Try.f3.params[j]?=some t→args[j]?=some v→Value.okWide Try.prog W .any base t v:=hval0
  have hW':=hW
  obtain ⟨p,q,hA0,hV,rfl,hfz,hnd⟩:=hW
  have hA:DataW.TrodAll enc Try.prog W 0 (fun _=>true) true Try.f3.params.toList args.toList ds p:=hA0
  rw [Try.params3] at hA hval
  obtain ⟨v0,vs0,d0,ds0,p0,q0,hargs,rfl,rfl,h0,r0⟩:=trodAll_cons hA
  obtain ⟨v1,vs1,d1,ds1,p1,q1,rfl,rfl,rfl,h1,r1⟩:=trodAll_cons r0
  obtain ⟨rfl,rfl,rfl⟩:=trodAll_nil r1
  obtain rfl:args=#[v0,v1]:=by cases args; simp_all
  obtain ⟨rfl,rfl⟩:=trodVars_none hV
  obtain ⟨n,rfl,_,_,wn⟩:=open_int (k:=.i64) (by kernel_rfl) (hval 1 3 v1 rfl rfl) h1
  refine (walk v0 W n (acts_form (in_acts (hval 0 22 v0 rfl rfl) h0))).mono fun e W' ⟨he,hg⟩=>?_
  subst he
  exact ⟨_,rfl,Ev.post_law (by kernel_rfl) (by kernel_rfl) rfl Try.underlying4 rfl hW' rfl hg⟩
theorem held:Rows.cachePlaysRow.holds Try.pinned (OpenSpec.ofChange Rows.cachePlaysSpec) :=
  OpenClaim.holds_of_wide 3 Try.f3 rfl rfl rfl rfl rfl rfl rfl ⟨rfl,rfl,rfl,rfl,rfl⟩ rfl rfl rfl rfl rfl (by kernel_rfl) Try.func3 (by kernel_rfl)
    (of_decide_eq_true (by kernel_rfl)) (by unfold Func.isWrapper; first | (rw [if_pos (by decide +kernel)]; kernel_rfl) | (rw [if_neg (by decide +kernel)]; exact ⟨rfl,rfl⟩))
    (fun os started H enc _=>lifted os started H enc)
/-- The statement. -/
theorem proved:Rows.CachePlaysSaid :=
  held
#print axioms proved
end Go.Proofs.Ytehelionjafnkaa.cachePlays
