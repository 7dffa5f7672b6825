/- The statement LruKinds: whatever capacity and acts come in,the call returns true and zgY all that was there as it was: a store of slices by names and a store of names by pairs of a name and a number keep the same keys,and what is got is what the document's own store has. No condition: it is shown of all arguments. -/
import Derived.Test.YtjddelgojkgnaaaRows
import Derived.WalkKit
import Derived.ProofKit
import Derived.OpenShut
import Derived.ChangeMaps5
import Derived.Deep.Slices
import Derived.Deep.Strs
import Derived.Laws.World
import Derived.Below
import Derived.Test.YtjddelgojkgnaaaChecked
import GoSem.Dispatch
import GoSem.Step
import Derived.Lib.Bytealg
import Derived.Laws.Sem
import Derived.Calls
import Derived.Laws.Strings
import Derived.Carry
import Derived.ChangeSlices
import Derived.SliceStrings
import Derived.Laws.IdiomStrings
import Derived.Laws.Externs
import Derived.Lib.MakeNoZero
import Derived.Lib.UnsafeStr
import Derived.Orders
import Derived.Test.YtjddelgojkgnaaaP00
import Derived.Test.YtjddelgojkgnaaaP01
import Derived.Test.YtjddelgojkgnaaaP02
import Derived.Test.YtjddelgojkgnaaaP03
import Derived.Test.YtjddelgojkgnaaaP04
import Derived.Test.YtjddelgojkgnaaaP05
import Derived.Test.YtjddelgojkgnaaaP06
set_option maxRecDepth 100000
set_option linter.unusedVariables false
namespace Go.Proofs.Ytjddelgojkgnaaa.lruKinds
open Go Go.ChangeShapes Go.WideShapes Go.ChangeAt Go.RowKit Go.ChangeMaps
open Ev gx
theorem q_st (R:AV→Prop)(b off len cp hi:Nat)(c:Int)(cell:Nat→AV)(G:T (T AV))(K:AM→Prop):zc1 ((zdX P 3 [.int .i64 c,.slc 0 0 off len cp] [⟨true,b,.fn (fun j=>some (cell (j - off))),off,hi⟩] G)) (Obl P 3 (fun v _=>R v) 0 K [.run 135,.keep [1,5,6,7,8,9]])=(K (WK off len cp (Int.ofNat 0) [] (((T.leaf.node (some (AObj.map [] 0)) T.leaf).node (some (AObj.map [] 0)) (T.leaf.node (some (AObj.cells ((T.leaf.node (some (AV.nils 0 0)) T.leaf).node (some (AV.int .i64 (if decide ((0:Int) > c)=true then (0:Int) else c))) T.leaf) 2 48 0 0 1 0 false T.leaf)) T.leaf)).node (some (AObj.ro (T.fn fun j=>some (cell (j - off))) off hi)) ((T.leaf.node (some (AObj.cells ((((T.leaf.node (some (AV.str [])) T.leaf).node (some (AV.ptr 4 0 3)) T.leaf).node (some (AV.int .i64 (Int.ofNat 0))) (T.leaf.node (some (AV.str [])) T.leaf)).node (some (AV.int .i64 (if decide ((0:Int) > c)=true then (0:Int) else c))) ((T.leaf.node (some (AV.ptr 4 0 3)) T.leaf).node (some (AV.mp 3)) (T.leaf.node (some (AV.int .i64 (Int.ofNat 0))) T.leaf))) 8 66 0 0 1 0 false T.leaf)) T.leaf).node (some (AObj.cells (((T.leaf.node (some (AV.ptr 2 0 3)) T.leaf).node (some (AV.int .i64 (Int.ofNat 0))) (T.leaf.node (some (AV.str [])) T.leaf)).node (some (AV.int .i64 (if decide ((0:Int) > c)=true then (0:Int) else c))) ((T.leaf.node (some (AV.ptr 2 0 3)) T.leaf).node (some (AV.mp 1)) (T.leaf.node (some (AV.nils 0 0)) T.leaf))) 7 58 0 0 1 0 false T.leaf)) T.leaf)) 6 G)):=by kernel_rfl
theorem q_se (R:AV→Prop)(c:Int)(G:T (T AV))(_K:AM→Prop):zc1 ((zdX P 3 [.int .i64 c,.sle] [] G)) (Obl P 3 (fun v _=>R v) 0 _K [.run 215,.callv [] (.bool true),.run 4,.done])=((Goal P 0 16 (fun x x_1=>x=AV.bool true) (zP P 16 [] G))∧(R (.bool true))):=by kernel_rfl
theorem q_sn (R:AV→Prop)(c:Int)(G:T (T AV))(_K:AM→Prop):zc1 ((zdX P 3 [.int .i64 c,.nils 0 0] [] G)) (Obl P 3 (fun v _=>R v) 0 _K [.run 215,.callv [] (.bool true),.run 4,.done])=((Goal P 0 16 (fun x x_1=>x=AV.bool true) (zP P 16 [] G))∧(R (.bool true))):=by kernel_rfl
theorem in_acts {H:Type}{enc':TypeId × Value→H}{w:World}{b0:Nat}{v:Value}{d:DataW H}{ps:List MemPlace}(hv:Value.okWide P w .any b0 22 v)(h:DataW.Trod enc' P w 0 (fun _=>true) true 22 v d ps) :
    v=.slice none 0 0∨∃ (a:Addr) (len cap:Nat) (md:Nat→gx.Act),v=.slice (some a) len cap∧len≤cap∧∀ i,i<cap*3→∃ y,w.cell? (a.add i)=some y∧VRel (fun _ _=>none) (zcg md i) y:=by
  have u22:P.underlying 22=some (.slice 35):=by kernel_rfl
  have u3:P.underlying 3=some (.int .i64):=by kernel_rfl
  have u4:P.underlying 4=some .bool:=by kernel_rfl
  have c28:P.cellsOf 35=3:=by kernel_rfl
  have c3:P.cellsOf 3=1:=by kernel_rfl
  have c4:P.cellsOf 4=1:=by kernel_rfl
  obtain ⟨fs,u28,f0,f1,f2⟩:∃ fs:Array Field,P.underlying 35=some (.struct fs)∧(fs[0]?.map fun f=>(f.type,f.offset))=some (4,0)∧(fs[1]?.map fun f=>(f.type,f.offset))=some (3,1)∧(fs[2]?.map fun f=>(f.type,f.offset))=some (3,2) :=
    ⟨(match P.underlying 35 with | some (.struct fs)=>fs | _=>#[]),by kernel_rfl,by kernel_rfl,by kernel_rfl,by kernel_rfl⟩
  obtain ⟨a,l,c,rfl⟩:=okWide_slice u22 hv
  obtain ⟨fuel,h⟩:=h
  rcases Go.Deep.open_slice u22 h with ⟨hcs,_⟩ | ⟨a',len,cap,m,n,D,Pl,hcs,_,hl,hm,hmm,_,hx⟩
  · simp only [Value.cells,List.cons.injEq,and_true] at hcs
    exact .inl hcs
  simp only [Value.cells,List.cons.injEq,and_true] at hcs
  have hmc:m=cap:=by simpa using hmm
  subst hmc
  have each:∀ i,i<m→∃ q:gx.Act,∀ u,u<3→∃ y,w.cell? (a'.add (i*3+u))=some y∧VRel (fun _ _=>none) ((arow q).getD u z8) y:=by
    intro i hi
    obtain ⟨cs',h1,h2⟩:=hx i hi
    rw [c28] at h1
    obtain ⟨_,hlen,hcell⟩:=World.cells?_some h1
    obtain ⟨xs,k,hk,hxy,_,hxl,hf⟩:=DataW.trod_struct u28 h2
    match cs',hlen with
    | [v0,v1,v2],_ =>
      obtain ⟨g0,q0,r0⟩:=Option.map_eq_some_iff.1 f0
      obtain ⟨g1,q1,r1⟩:=Option.map_eq_some_iff.1 f1
      obtain ⟨g2,q2,r2⟩:=Option.map_eq_some_iff.1 f2
      simp only [Prod.mk.injEq] at r0 r1 r2
      have hn:2<xs.length:=by
        rw [hxl]
        exact (Array.getElem?_eq_some_iff.1 q2).1
      have k0:=hf 0 g0 q0
      have k1:=hf 1 g1 q1
      have k2:=hf 2 g2 q2
      rw [r0.1,r0.2,c4,List.getElem?_eq_getElem (by omega)] at k0
      rw [r1.1,r1.2,c3,List.getElem?_eq_getElem (by omega)] at k1
      rw [r2.1,r2.2,c3,List.getElem?_eq_getElem (by omega)] at k2
      obtain ⟨n0,e0,_⟩:=DataW.trod_bool u4 k0
      obtain ⟨n1,e1,_,_⟩:=DataW.trod_int u3 k1
      obtain ⟨n2,e2,_,_⟩:=DataW.trod_int u3 k2
      obtain rfl:v0=Value.bool n0:=(List.cons.inj (show [v0]=[Value.bool n0] from e0)).1
      obtain rfl:v1=Value.int .i64 n1:=(List.cons.inj (show [v1]=[Value.int .i64 n1] from e1)).1
      obtain rfl:v2=Value.int .i64 n2:=(List.cons.inj (show [v2]=[Value.int .i64 n2] from e2)).1
      refine ⟨(n0,n1,n2),fun u hu=>?_⟩
      have tt:=hcell u hu
      rw [Go.Deep.add_add] at tt
      rcases u with _ | _ | _ | u
      · exact ⟨_,tt,rfl⟩
      · exact ⟨_,tt,rfl⟩
      · exact ⟨_,tt,rfl⟩
      · omega
  obtain ⟨q,hq⟩:=Go.Deep.choose_lt each
  refine .inr ⟨a',len,m,q,hcs,hl,fun i hi=>?_⟩
  obtain ⟨y,h1,h2⟩:=hq (i / 3) (by omega) (i % 3) (by omega)
  rw [show i / 3*3+i % 3=i by omega] at h1
  exact ⟨y,h1,h2⟩
/-- The forms of the acts: none; a row without room; a row. -/
theorem acts_form {w:World}{v:Value}(h:v=.slice none 0 0∨∃ (a:Addr) (len cap:Nat) (md:Nat→gx.Act),v=.slice (some a) len cap∧len≤cap∧∀ i,i<cap*3→∃ y,w.cell? (a.add i)=some y∧VRel (fun _ _=>none) (zcg md i) y) :
    v=.slice none 0 0∨(∃ a,v=.slice (some a) 0 0)∨∃ (b off len cap:Nat) (md:Nat→gx.Act),v=.slice (some ⟨b,off,none⟩) len cap∧len≤cap∧(Inp.mk true b (.fn fun j=>some (zcg md (j - off))) off (off+cap*3)).holds w:=by
  rcases h with h | ⟨a,len,cap,md,rfl,hl,hc⟩
  · exact .inl h
  by_cases h0:cap=0
  · subst h0
    obtain rfl:len=0:=by omega
    exact .inr (.inl ⟨a,rfl⟩)
  · obtain ⟨f,hf⟩:=Go.Deep.choose_lt hc
    obtain ⟨b,off,rfl,hi⟩:=zlM (f:=f) (g:=fun i=>zcg md i) (fun i hi=>(hf i hi).1) (fun i hi=>(hf i hi).2) (by omega)
    exact .inr (.inr ⟨b,off,len,cap,md,rfl,hl,hi⟩)
/-- A new store. -/
theorem new_ok {κ:Type} [BEq κ] [LawfulBEq κ] {kav:κ→AV}{kc:κ→List AV}{O:T AObj}{l mi cap vn n:Nat}{el:TypeId}{t:T AV}{f:Nat→AV}(hne:mi≠l)(h:O.get l=some (.cells t n el 0 0 1 0 false .leaf))(hn:5≤n)
    (hc:∀ k,k<n→t.get k=some (f k)) (h0:f 0=.int .i64 ((cap:Nat):Int)) (h1:f 1=.int .i64 0) (h2:f 2=.mp mi) (h3:f 3=.ptr l 0 3) (h4:f 4=.ptr l 0 3) (hm:O.get mi=some (.map [] 0)):LR O kav kc vn l mi cap []:=by
  have c:∀ k,k<n→Cell O l k (f k):=fun k hk=>⟨n,f,⟨t,el,h,hc⟩,hk,rfl⟩
  refine ⟨hne,h0▸c 0 (by omega),h1▸c 1 (by omega),h2▸c 2 (by omega),?_,fun x hx=>absurd hx List.not_mem_nil,List.nodup_nil,List.nodup_nil,⟨[],⟨[],0,hm,rfl⟩,List.nodup_nil,fun p hp=>absurd hp List.not_mem_nil,fun x hx=>absurd hx List.not_mem_nil⟩,Nat.zero_le _⟩
  show Lk O [(l,3),(l,3)]
  rw [Lk.two]
  have e4:=c 4 (by omega)
  have e3:=c 3 (by omega)
  rw [h4] at e4
  rw [h3] at e3
  exact ⟨⟨e4,e3⟩,Lk.one _⟩
/-- A capacity. -/
theorem cap_of (c:Int):(if decide ((0:Int) > c)=true then (0:Int) else c)=((c.toNat:Nat):Int):=by
  by_cases h:(0:Int) > c
  · rw [decide_eq_true h,if_pos rfl]; omega
  · rw [decide_eq_false h,if_neg (by simp)]; omega
theorem walk (v:Value)(w:World)(c:Int)(hv:v=.slice none 0 0∨(∃ a,v=.slice (some a) 0 0)∨∃ (b off len cap:Nat) (md:Nat→gx.Act),v=.slice (some ⟨b,off,none⟩) len cap∧len≤cap∧(Inp.mk true b (.fn fun j=>some (zcg md (j - off))) off (off+cap*3)).holds w) :
    Calls P 3 #[.int .i64 c,v] w fun r w'=>r=.returned (.bool true)∧Old w w':=by
  have hG:zhL .leaf w:=fun g c e=>by cases e
  rcases hv with rfl | ⟨a,rfl⟩ | ⟨b,off,len,cap,md,rfl,hl,hi⟩
  · exact ziv mix (K:=GK) (cast (q_sn R0 c .leaf GK).symm ⟨yQ,rfl⟩) (fun _ h=>h) (vs:=[.int .i64 c,.slice none 0 0]) hG (fun x hx=>absurd hx List.not_mem_nil) ⟨_,_,rfl,rfl,_,_,rfl,rfl,rfl⟩
  · exact ziv mix (K:=GK) (cast (q_se R0 c .leaf GK).symm ⟨yQ,rfl⟩) (fun _ h=>h) (vs:=[.int .i64 c,.slice (some a) 0 0]) hG (fun x hx=>absurd hx List.not_mem_nil) ⟨_,_,rfl,rfl,_,_,rfl,⟨a,rfl⟩,rfl⟩
  · refine ziv mix (K:=GK) (cast (q_st R0 b off len cap (off+cap*3) c (fun j=>zcg md j) .leaf GK).symm ?_) (fun _ h=>h) (vs:=[.int .i64 c,.slice (some ⟨b,off,none⟩) len cap]) hG (fun x hx=>by rw [List.mem_singleton.1 hx]; exact hi) ⟨_,_,rfl,rfl,_,_,rfl,⟨⟨b,0,0⟩,rfl,Nat.zero_le _,rfl⟩,rfl⟩
    rw [cap_of]
    refine zkE (c:=c.toNat) hl 100 0 _ 6 [] [] [] (.nils 0 0) rfl ⟨rfl,?_,?_,⟨_,_,rfl,fun k hk=>?_⟩,SV.nil,Nat.le_refl _,fun x hx=>absurd hx List.not_mem_nil,fun x hx=>absurd hx List.not_mem_nil,fun x hx=>absurd hx List.not_mem_nil,fun x hx=>absurd hx List.not_mem_nil,fun x hx=>absurd hx List.not_mem_nil,rfl,rfl,fun x hx=>absurd hx List.not_mem_nil,fun x hx=>absurd hx List.not_mem_nil,Nat.le_refl _⟩
    · refine new_ok (f:=fun k=>[AV.int .i64 ((c.toNat:Nat):Int),.int .i64 0,.mp 1,.ptr 2 0 3,.ptr 2 0 3,.str [],.nils 0 0].getD k z8) (by omega) rfl (by omega) (fun k hk=>?_) rfl rfl rfl rfl rfl rfl
      rcases k with _ | _ | _ | _ | _ | _ | _ | k
      · rfl
      · rfl
      · rfl
      · rfl
      · rfl
      · rfl
      · rfl
      · omega
    · refine new_ok (f:=fun k=>[AV.int .i64 ((c.toNat:Nat):Int),.int .i64 0,.mp 3,.ptr 4 0 3,.ptr 4 0 3,.str [],.int .i64 0,.str []].getD k z8) (by omega) rfl (by omega) (fun k hk=>?_) rfl rfl rfl rfl rfl rfl
      rcases k with _ | _ | _ | _ | _ | _ | _ | _ | k
      · rfl
      · rfl
      · rfl
      · rfl
      · rfl
      · rfl
      · rfl
      · rfl
      · omega
    · rcases k with _ | _ | k
      · rfl
      · rfl
      · exact absurd hk (by simp)
theorem own:ownKnob Try.prog.godebug=none:=by kernel_rfl
/-! ### The row's step -/
theorem lifted (os:Os)(started:os.Started)(H:Type)(enc:TypeId × Value→H) :
    ReturnsInHanded {} Try.checked os 3 .any (Rows.lruKindsSpec.pre6 enc Try.prog Try.f3 Rows.lruKindsRow.domain false) (Rows.lruKindsSpec.post enc Try.prog Try.f3 false true false false):=by
  refine returnsInHanded_of_change (C:=Try.checked) own started (by kernel_rfl) Try.func3
    (ChangeSpec.witness6 (enc:=enc) (C:=Try.checked) false ⟨#[],#[.int .i64 0,.slice none 0 0],[]⟩ 8 (by kernel_rfl) (by kernel_rfl) (by kernel_rfl) (by kernel_rfl)) ?_
  intro W base args ds gs before hval0 hW hcnd _
  have hval:∀ (j:Nat) t v,Try.f3.params[j]?=some t→args[j]?=some v→Value.okWide Try.prog W .any base t v:=hval0
  have hW':=hW
  obtain ⟨p,q,hA0,hV,rfl,hfz,hnd⟩:=hW
  have hA:DataW.TrodAll enc Try.prog W 0 (fun _=>true) true Try.f3.params.toList args.toList ds p:=hA0
  rw [Try.params3] at hA hval
  obtain ⟨v0,vs0,d0,ds0,p0,q0,hargs,rfl,rfl,h0,r0⟩:=trodAll_cons hA
  obtain ⟨v1,vs1,d1,ds1,p1,q1,rfl,rfl,rfl,h1,r1⟩:=trodAll_cons r0
  obtain ⟨rfl,rfl,rfl⟩:=trodAll_nil r1
  obtain rfl:args=#[v0,v1]:=by cases args; simp_all
  obtain ⟨rfl,rfl⟩:=trodVars_none hV
  obtain ⟨n,rfl,_,_,wn⟩:=open_int (k:=.i64) (by kernel_rfl) (hval 0 3 v0 rfl rfl) h0
  refine (walk v1 W n (acts_form (in_acts (hval 1 22 v1 rfl rfl) h1))).mono fun e W' ⟨he,hg⟩=>?_
  subst he
  exact ⟨_,rfl,Ev.post_law (by kernel_rfl) (by kernel_rfl) rfl Try.underlying4 rfl hW' rfl hg⟩
theorem held:Rows.lruKindsRow.holds Try.pinned (OpenSpec.ofChange Rows.lruKindsSpec) :=
  OpenClaim.holds_of_wide 3 Try.f3 rfl rfl rfl rfl rfl rfl rfl ⟨rfl,rfl,rfl,rfl,rfl⟩ rfl rfl rfl rfl rfl (by kernel_rfl) Try.func3 (by kernel_rfl)
    (of_decide_eq_true (by kernel_rfl)) (by unfold Func.isWrapper; first | (rw [if_pos (by decide +kernel)]; kernel_rfl) | (rw [if_neg (by decide +kernel)]; exact ⟨rfl,rfl⟩))
    (fun os started H enc _=>lifted os started H enc)
/-- The statement. -/
theorem proved:Rows.LruKindsSaid :=
  held
#print axioms proved
end Go.Proofs.Ytjddelgojkgnaaa.lruKinds
