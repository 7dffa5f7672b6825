/- The statement MsgBack: whatever two requests and whatever response come in,the call returns true and zhh all that was there as it was: a request that may be comes back from its bytes,a response comes back with its diagnostics in order,and two requests that may be have the same bytes just if they are the same; with the condition that the package variable of the words holds what its own initialiser lays. -/
import Derived.Test.YtdbfpjgnlfejmaaDoorRows
import Derived.Test.YtdbfpjgnlfejmaaDoorCards
import Derived.Test.YtdbfpjgnlfejmaaDoorTie
import Derived.SevenTiedAt
import Derived.WalkKit
import Derived.ProofKit
import Derived.OpenShut
import Derived.ChangeMaps5
import Derived.Deep.Grids
import Derived.Shelf.SlSortCmp.WholeK
import Derived.Ground.SlsfProg
import Derived.Test.YtdbfpjgnlfejmaaDoorProg
import GoSem.Dispatch
import GoSem.Step
import Derived.Lib.Bytealg
import Derived.IntWalk
import Derived.Laws.IdiomStrings
import Derived.Laws.Externs
import Derived.Lib.MakeNoZero
import Derived.Lib.UnsafeStr
import Derived.Laws.World
import Derived.Below
import Derived.Laws.Strings
import Derived.Deep.Slices
import Derived.Deep.Strs
import Derived.Orders
import Derived.Sort.Statements
import Derived.Shelf.SlSortCmp.Insertion
import Derived.Laws.Sem
import Derived.Carry
import Derived.ChangeSlices
import Derived.SliceStrings
import Derived.FnData
import Derived.MakeChecks
import Derived.LaidMore
import Derived.Stop.Joined
import Derived.Calls
import Derived.Test.YtdbfpjgnlfejmaaDoorF00
import Derived.Test.YtdbfpjgnlfejmaaDoorF01
import Derived.Test.YtdbfpjgnlfejmaaDoorF02
import Derived.Test.YtdbfpjgnlfejmaaDoorF03
import Derived.Test.YtdbfpjgnlfejmaaDoorF04
import Derived.Test.YtdbfpjgnlfejmaaDoorF05
import Derived.Test.YtdbfpjgnlfejmaaDoorF06
import Derived.Test.YtdbfpjgnlfejmaaDoorF07
import Derived.Test.YtdbfpjgnlfejmaaDoorF08
import Derived.Test.YtdbfpjgnlfejmaaDoorF09
set_option maxRecDepth 100000
namespace Go.Proofs.YtdbfpjgnlfejmaaDoor.msgBack
open Go Go.ChangeShapes Go.WideShapes Go.ChangeAt Go.RowKit Go.ChangeMaps
open Ev dg
open mq (GW zpw zfL)
theorem own:ownKnob Tryd.prog.godebug=none:=by kernel_rfl
theorem str_rel (R:Bij)(b:ByteArray):VRel R (.str b.data.toList) (.string b):=by
  show Value.string b=.string ⟨b.data.toList.toArray⟩
  rw [Array.toArray_toList]
/-- The forms of a list of texts that comes in. -/
theorem strs_form {w:World} {v:Value} (h:v=.slice none 0 0∨∃ (a:Addr) (len cap:Nat) (zs:List ByteArray),v=.slice (some a) len cap∧len≤cap∧cap≤maxLen∧zs.length=cap∧(∀ i,i<zs.length→w.cell? (a.add i)=some (.string (zs.getD i .empty)))∧(∀ s∈zs,s.size≤maxLen)) :
    v=.slice none 0 0∨(∃ a,v=.slice (some a) 0 0)∨∃ (b off len cap:Nat) (g:Nat→List UInt8),v=.slice (some ⟨b,off,none⟩) len cap∧len≤cap∧(Inp.mk true b (.fn fun j=>some (eso g off j)) off (off+cap*1)).holds w:=by
  rcases h with h | ⟨a,len,cap,zs,rfl,hl,hm,hz,hc,_⟩
  · exact .inl h
  by_cases h0:cap=0
  · subst h0
    obtain rfl:len=0:=by omega
    exact .inr (.inl ⟨a,rfl⟩)
  · obtain ⟨b,off,rfl,hi⟩:=zlR (n:=cap) (g:=fun i=>.str (zs.getD i .empty).data.toList) (fun i hi=>hc i (by omega)) (fun i _=>str_rel _ _) (by omega)
    exact .inr (.inr ⟨b,off,len,cap,fun i=>(zs.getD i .empty).data.toList,rfl,hl,by rw [Nat.mul_one]; exact hi⟩)
theorem in_resp {H:Type}{enc:TypeId × Value→H}{w:World}{b0:Nat}{v:Value}{d:DataW H}{ps:List MemPlace}(hv:Value.okWide P w .any b0 45 v)(h:DataW.Trod enc P w 0 (fun _=>true) true 45 v d ps) :
    ∃ (n nu:Int) (t:ByteArray) (x y:Value),v=.agg #[.int .i64 n,.string t,x,y,.int .u64 nu]∧(0≤nu∧nu≤18446744073709551615)∧(x=.slice none 0 0∨(∃ a,x=.slice (some a) 0 0)∨∃ (b off len cap:Nat) (g:Nat→List UInt8),x=.slice (some ⟨b,off,none⟩) len cap∧len≤cap∧(Inp.mk true b (.fn fun j=>some (eso g off j)) off (off+cap*1)).holds w)∧(y=.slice none 0 0∨(∃ a,y=.slice (some a) 0 0)∨∃ (b off len cap:Nat) (f:Nat→Dg),y=.slice (some ⟨b,off,none⟩) len cap∧len≤cap∧(Inp.mk true b (.fn fun j=>some (elo f off j)) off (off+cap*3)).holds w):=by
  have u3:P.underlying 29=some (.int .i64):=by kernel_rfl
  have u9:P.underlying 9=some .string:=by kernel_rfl
  have u42:P.underlying 42=some (.slice 9):=by kernel_rfl
  have u22:P.underlying 22=some (.slice 35):=by kernel_rfl
  have u43:P.underlying 43=some (.int .u64):=by kernel_rfl
  have c45:P.cellsOf 45=5:=by kernel_rfl
  have c3:P.cellsOf 29=1:=by kernel_rfl
  have c9:P.cellsOf 9=1:=by kernel_rfl
  have c42:P.cellsOf 42=1:=by kernel_rfl
  have c22:P.cellsOf 22=1:=by kernel_rfl
  have c43:P.cellsOf 43=1:=by kernel_rfl
  have t45:P.cellTypes P.depth 45=some [29,9,42,22,43]:=by kernel_rfl
  obtain ⟨fs,u45,f0,f1,f2,f3,f4⟩:∃ fs:Array Field,P.underlying 45=some (.struct fs)∧(fs[0]?.map fun f=>(f.type,f.offset))=some (29,0)∧(fs[1]?.map fun f=>(f.type,f.offset))=some (9,1)∧(fs[2]?.map fun f=>(f.type,f.offset))=some (42,2)∧(fs[3]?.map fun f=>(f.type,f.offset))=some (22,3)∧(fs[4]?.map fun f=>(f.type,f.offset))=some (43,4) :=
    ⟨(match P.underlying 45 with | some (.struct fs)=>fs | _=>#[]),by kernel_rfl,by kernel_rfl,by kernel_rfl,by kernel_rfl,by kernel_rfl,by kernel_rfl⟩
  unfold Value.okWide at hv
  rw [u45] at hv
  obtain ⟨⟨l⟩,rfl,hl,hr⟩:=hv
  rw [c45] at hl
  have hl:l.length=5:=hl
  obtain ⟨ts,hts,_,hok⟩:=hr
  rw [t45] at hts
  cases hts
  obtain ⟨fuel,h⟩:=h
  obtain ⟨xs,m,rfl,hx,hlen,hxl,hel⟩:=DataW.trod_struct u45 h
  match l,hl with
  | [y0,y1,y2,y3,y4],_ =>
    obtain ⟨g0,q0,r0⟩:=Option.map_eq_some_iff.1 f0
    obtain ⟨g1,q1,r1⟩:=Option.map_eq_some_iff.1 f1
    obtain ⟨g2,q2,r2⟩:=Option.map_eq_some_iff.1 f2
    obtain ⟨g3,q3,r3⟩:=Option.map_eq_some_iff.1 f3
    obtain ⟨g4,q4,r4⟩:=Option.map_eq_some_iff.1 f4
    simp only [Prod.mk.injEq] at r0 r1 r2 r3 r4
    have hn:4<xs.length:=by
      rw [hxl]
      exact (Array.getElem?_eq_some_iff.1 q4).1
    have k0:=hel 0 g0 q0
    have k1:=hel 1 g1 q1
    have k2:=hel 2 g2 q2
    have k3:=hel 3 g3 q3
    have k4:=hel 4 g4 q4
    rw [r0.1,r0.2,c3,List.getElem?_eq_getElem (by omega)] at k0
    rw [r1.1,r1.2,c9,List.getElem?_eq_getElem (by omega)] at k1
    rw [r2.1,r2.2,c42,List.getElem?_eq_getElem (by omega)] at k2
    rw [r3.1,r3.2,c22,List.getElem?_eq_getElem (by omega)] at k3
    rw [r4.1,r4.2,c43,List.getElem?_eq_getElem (by omega)] at k4
    have k2:DataW.trod enc P w 0 (fun _=>true) true m 42 [y2]=_:=k2
    have k3:DataW.trod enc P w 0 (fun _=>true) true m 22 [y3]=_:=k3
    obtain ⟨n0,e0,_,_⟩:=DataW.trod_int u3 k0
    obtain ⟨n1,e1,_,w1⟩:=DataW.trod_string u9 k1
    obtain ⟨n4,e4,_,w4⟩:=DataW.trod_int u43 k4
    obtain rfl:y0=Value.int .i64 n0:=(List.cons.inj (show [y0]=[Value.int .i64 n0] from e0)).1
    obtain rfl:y1=Value.string n1:=(List.cons.inj (show [y1]=[Value.string n1] from e1)).1
    obtain rfl:y4=Value.int .u64 n4:=(List.cons.inj (show [y4]=[Value.int .u64 n4] from e4)).1
    have o2:Value.okWide P w .any b0 42 y2:=by
      obtain ⟨u,hu,ho⟩:=hok 2 y2 rfl
      cases (show some 42=some u from hu)
      unfold Value.okWide
      rw [u42]
      exact ho
    have o3:Value.okWide P w .any b0 22 y3:=by
      obtain ⟨u,hu,ho⟩:=hok 3 y3 rfl
      cases (show some 22=some u from hu)
      unfold Value.okWide
      rw [u22]
      exact ho
    obtain ⟨a2,l2,z2,rfl⟩:=okWide_slice u42 o2
    obtain ⟨a3,l3,z3,rfl⟩:=okWide_slice u22 o3
    exact ⟨n0,n4,n1,_,_,rfl,bounds_u64 w4,strs_form (zgC (d:=(xs[2]).1) (ps:=(xs[2]).2) u42 u9 c9 o2 ⟨m,k2⟩),zgF (zlf (d:=(xs[3]).1) (ps:=(xs[3]).2) o3 ⟨m,k3⟩)⟩
theorem in_req {H:Type}{enc:TypeId × Value→H}{w:World}{b0:Nat}{v:Value}{d:DataW H}{ps:List MemPlace}(hv:Value.okWide P w .any b0 39 v)(h:DataW.Trod enc P w 0 (fun _=>true) true 39 v d ps) :
    ∃ (k:Int) (a b c:ByteArray),a.size≤maxLen∧b.size≤maxLen∧c.size≤maxLen∧v=.agg #[.int .i64 k,.string a,.string b,.string c]:=by
  have u3:P.underlying 3=some (.int .i64):=by kernel_rfl
  have u9:P.underlying 9=some .string:=by kernel_rfl
  have c39:P.cellsOf 39=4:=by kernel_rfl
  have c3:P.cellsOf 3=1:=by kernel_rfl
  have c9:P.cellsOf 9=1:=by kernel_rfl
  obtain ⟨fs,u39,f0,f1,f2,f3⟩:∃ fs:Array Field,P.underlying 39=some (.struct fs)∧(fs[0]?.map fun f=>(f.type,f.offset))=some (3,0)∧(fs[1]?.map fun f=>(f.type,f.offset))=some (9,1)∧(fs[2]?.map fun f=>(f.type,f.offset))=some (9,2)∧(fs[3]?.map fun f=>(f.type,f.offset))=some (9,3) :=
    ⟨(match P.underlying 39 with | some (.struct fs)=>fs | _=>#[]),by kernel_rfl,by kernel_rfl,by kernel_rfl,by kernel_rfl,by kernel_rfl⟩
  unfold Value.okWide at hv
  rw [u39] at hv
  obtain ⟨⟨l⟩,rfl,hl,_⟩:=hv
  rw [c39] at hl
  have hl:l.length=4:=hl
  obtain ⟨fuel,h⟩:=h
  obtain ⟨xs,m,rfl,hx,hlen,hxl,hel⟩:=DataW.trod_struct u39 h
  match l,hl with
  | [y0,y1,y2,y3],_ =>
    obtain ⟨g0,q0,r0⟩:=Option.map_eq_some_iff.1 f0
    obtain ⟨g1,q1,r1⟩:=Option.map_eq_some_iff.1 f1
    obtain ⟨g2,q2,r2⟩:=Option.map_eq_some_iff.1 f2
    obtain ⟨g3,q3,r3⟩:=Option.map_eq_some_iff.1 f3
    simp only [Prod.mk.injEq] at r0 r1 r2 r3
    have hn:3<xs.length:=by
      rw [hxl]
      exact (Array.getElem?_eq_some_iff.1 q3).1
    have k0:=hel 0 g0 q0
    have k1:=hel 1 g1 q1
    have k2:=hel 2 g2 q2
    have k3:=hel 3 g3 q3
    rw [r0.1,r0.2,c3,List.getElem?_eq_getElem (by omega)] at k0
    rw [r1.1,r1.2,c9,List.getElem?_eq_getElem (by omega)] at k1
    rw [r2.1,r2.2,c9,List.getElem?_eq_getElem (by omega)] at k2
    rw [r3.1,r3.2,c9,List.getElem?_eq_getElem (by omega)] at k3
    obtain ⟨n0,e0,_,_⟩:=DataW.trod_int u3 k0
    obtain ⟨n1,e1,_,w1⟩:=DataW.trod_string u9 k1
    obtain ⟨n2,e2,_,w2⟩:=DataW.trod_string u9 k2
    obtain ⟨n3,e3,_,w3⟩:=DataW.trod_string u9 k3
    obtain rfl:y0=Value.int .i64 n0:=(List.cons.inj (show [y0]=[Value.int .i64 n0] from e0)).1
    obtain rfl:y1=Value.string n1:=(List.cons.inj (show [y1]=[Value.string n1] from e1)).1
    obtain rfl:y2=Value.string n2:=(List.cons.inj (show [y2]=[Value.string n2] from e2)).1
    obtain rfl:y3=Value.string n3:=(List.cons.inj (show [y3]=[Value.string n3] from e3)).1
    exact ⟨n0,n1,n2,n3,w1,w2,w3,rfl⟩
theorem walk (k1 k2 n nu:Int) (a b c d e u t:ByteArray) (x y:Value) (hn:0≤nu∧nu≤18446744073709551615) (w:World) (hx:x=.slice none 0 0∨(∃ a,x=.slice (some a) 0 0)∨∃ (b off len cap:Nat) (g:Nat→List UInt8),x=.slice (some ⟨b,off,none⟩) len cap∧len≤cap∧(Inp.mk true b (.fn fun j=>some (eso g off j)) off (off+cap*1)).holds w) (hy:y=.slice none 0 0∨(∃ a,y=.slice (some a) 0 0)∨∃ (b off len cap:Nat) (f:Nat→Dg),y=.slice (some ⟨b,off,none⟩) len cap∧len≤cap∧(Inp.mk true b (.fn fun j=>some (elo f off j)) off (off+cap*3)).holds w) (hG:zgt GW w) :
    Calls P 9 #[.agg #[.int .i64 k1,.string a,.string b,.string c],.agg #[.int .i64 k2,.string d,.string e,.string u],.agg #[.int .i64 n,.string t,x,y,.int .u64 nu]] w fun r w'=>r=.returned (.bool true)∧Old w w':=by
  rcases hx with rfl | ⟨a2,rfl⟩ | ⟨b1,o1,q,cq,g,rfl,hq,hi1⟩ <;> rcases hy with rfl | ⟨a3,rfl⟩ | ⟨b2,o2,m,cm,f,rfl,hm,hi2⟩
  · exact x5 (a:=_) (l:=[]) (args:=[.agg [.int .i64 k1,.str a.data.toList,.str b.data.toList,.str c.data.toList],.agg [.int .i64 k2,.str d.data.toList,.str e.data.toList,.str u.data.toList],.agg [.int .i64 n,.str t.data.toList,.nils 0 0,.nils 0 0,.int .u64 nu]]) (vs:=[.agg #[.int .i64 k1,.string a,.string b,.string c],.agg #[.int .i64 k2,.string d,.string e,.string u],.agg #[.int .i64 n,.string t,.slice none 0 0,.slice none 0 0,.int .u64 nu]]) rfl hG
      (fun _ hx=>absurd hx List.not_mem_nil)
      ⟨_,_,rfl,⟨_,rfl,_,_,rfl,rfl,_,_,rfl,str_rel _ _,_,_,rfl,str_rel _ _,_,_,rfl,str_rel _ _,rfl⟩,_,_,rfl,⟨_,rfl,_,_,rfl,rfl,_,_,rfl,str_rel _ _,_,_,rfl,str_rel _ _,_,_,rfl,str_rel _ _,rfl⟩,_,_,rfl,⟨_,rfl,_,_,rfl,rfl,_,_,rfl,str_rel _ _,_,_,rfl,rfl,_,_,rfl,rfl,_,_,rfl,rfl,rfl⟩,rfl⟩ (zlw hn.1 hn.2)
  · exact x5 (a:=_) (l:=[]) (args:=[.agg [.int .i64 k1,.str a.data.toList,.str b.data.toList,.str c.data.toList],.agg [.int .i64 k2,.str d.data.toList,.str e.data.toList,.str u.data.toList],.agg [.int .i64 n,.str t.data.toList,.nils 0 0,.sle,.int .u64 nu]]) (vs:=[.agg #[.int .i64 k1,.string a,.string b,.string c],.agg #[.int .i64 k2,.string d,.string e,.string u],.agg #[.int .i64 n,.string t,.slice none 0 0,.slice (some a3) 0 0,.int .u64 nu]]) rfl hG
      (fun _ hx=>absurd hx List.not_mem_nil)
      ⟨_,_,rfl,⟨_,rfl,_,_,rfl,rfl,_,_,rfl,str_rel _ _,_,_,rfl,str_rel _ _,_,_,rfl,str_rel _ _,rfl⟩,_,_,rfl,⟨_,rfl,_,_,rfl,rfl,_,_,rfl,str_rel _ _,_,_,rfl,str_rel _ _,_,_,rfl,str_rel _ _,rfl⟩,_,_,rfl,⟨_,rfl,_,_,rfl,rfl,_,_,rfl,str_rel _ _,_,_,rfl,rfl,_,_,rfl,⟨_,rfl⟩,_,_,rfl,rfl,rfl⟩,rfl⟩ (zls hn.1 hn.2)
  · exact x5 (a:=_) (l:=[Inp.mk true b2 (.fn fun j=>some (elo f o2 j)) o2 (o2+cm*3)]) (args:=[.agg [.int .i64 k1,.str a.data.toList,.str b.data.toList,.str c.data.toList],.agg [.int .i64 k2,.str d.data.toList,.str e.data.toList,.str u.data.toList],.agg [.int .i64 n,.str t.data.toList,.nils 0 0,.slc 0 0 o2 m cm,.int .u64 nu]]) (vs:=[.agg #[.int .i64 k1,.string a,.string b,.string c],.agg #[.int .i64 k2,.string d,.string e,.string u],.agg #[.int .i64 n,.string t,.slice none 0 0,.slice (some ⟨b2,o2,none⟩) m cm,.int .u64 nu]]) rfl hG
      (fun x hx=>by rw [List.mem_singleton.1 hx]; exact hi2)
      ⟨_,_,rfl,⟨_,rfl,_,_,rfl,rfl,_,_,rfl,str_rel _ _,_,_,rfl,str_rel _ _,_,_,rfl,str_rel _ _,rfl⟩,_,_,rfl,⟨_,rfl,_,_,rfl,rfl,_,_,rfl,str_rel _ _,_,_,rfl,str_rel _ _,_,_,rfl,str_rel _ _,rfl⟩,_,_,rfl,⟨_,rfl,_,_,rfl,rfl,_,_,rfl,str_rel _ _,_,_,rfl,rfl,_,_,rfl,⟨⟨b2,0,0⟩,rfl,Nat.zero_le _,rfl⟩,_,_,rfl,rfl,rfl⟩,rfl⟩ (zlg hm hn.1 hn.2)
  · exact x5 (a:=_) (l:=[]) (args:=[.agg [.int .i64 k1,.str a.data.toList,.str b.data.toList,.str c.data.toList],.agg [.int .i64 k2,.str d.data.toList,.str e.data.toList,.str u.data.toList],.agg [.int .i64 n,.str t.data.toList,.sle,.nils 0 0,.int .u64 nu]]) (vs:=[.agg #[.int .i64 k1,.string a,.string b,.string c],.agg #[.int .i64 k2,.string d,.string e,.string u],.agg #[.int .i64 n,.string t,.slice (some a2) 0 0,.slice none 0 0,.int .u64 nu]]) rfl hG
      (fun _ hx=>absurd hx List.not_mem_nil)
      ⟨_,_,rfl,⟨_,rfl,_,_,rfl,rfl,_,_,rfl,str_rel _ _,_,_,rfl,str_rel _ _,_,_,rfl,str_rel _ _,rfl⟩,_,_,rfl,⟨_,rfl,_,_,rfl,rfl,_,_,rfl,str_rel _ _,_,_,rfl,str_rel _ _,_,_,rfl,str_rel _ _,rfl⟩,_,_,rfl,⟨_,rfl,_,_,rfl,rfl,_,_,rfl,str_rel _ _,_,_,rfl,⟨_,rfl⟩,_,_,rfl,rfl,_,_,rfl,rfl,rfl⟩,rfl⟩ (zkI hn.1 hn.2)
  · exact x5 (a:=_) (l:=[]) (args:=[.agg [.int .i64 k1,.str a.data.toList,.str b.data.toList,.str c.data.toList],.agg [.int .i64 k2,.str d.data.toList,.str e.data.toList,.str u.data.toList],.agg [.int .i64 n,.str t.data.toList,.sle,.sle,.int .u64 nu]]) (vs:=[.agg #[.int .i64 k1,.string a,.string b,.string c],.agg #[.int .i64 k2,.string d,.string e,.string u],.agg #[.int .i64 n,.string t,.slice (some a2) 0 0,.slice (some a3) 0 0,.int .u64 nu]]) rfl hG
      (fun _ hx=>absurd hx List.not_mem_nil)
      ⟨_,_,rfl,⟨_,rfl,_,_,rfl,rfl,_,_,rfl,str_rel _ _,_,_,rfl,str_rel _ _,_,_,rfl,str_rel _ _,rfl⟩,_,_,rfl,⟨_,rfl,_,_,rfl,rfl,_,_,rfl,str_rel _ _,_,_,rfl,str_rel _ _,_,_,rfl,str_rel _ _,rfl⟩,_,_,rfl,⟨_,rfl,_,_,rfl,rfl,_,_,rfl,str_rel _ _,_,_,rfl,⟨_,rfl⟩,_,_,rfl,⟨_,rfl⟩,_,_,rfl,rfl,rfl⟩,rfl⟩ (zkV hn.1 hn.2)
  · exact x5 (a:=_) (l:=[Inp.mk true b2 (.fn fun j=>some (elo f o2 j)) o2 (o2+cm*3)]) (args:=[.agg [.int .i64 k1,.str a.data.toList,.str b.data.toList,.str c.data.toList],.agg [.int .i64 k2,.str d.data.toList,.str e.data.toList,.str u.data.toList],.agg [.int .i64 n,.str t.data.toList,.sle,.slc 0 0 o2 m cm,.int .u64 nu]]) (vs:=[.agg #[.int .i64 k1,.string a,.string b,.string c],.agg #[.int .i64 k2,.string d,.string e,.string u],.agg #[.int .i64 n,.string t,.slice (some a2) 0 0,.slice (some ⟨b2,o2,none⟩) m cm,.int .u64 nu]]) rfl hG
      (fun x hx=>by rw [List.mem_singleton.1 hx]; exact hi2)
      ⟨_,_,rfl,⟨_,rfl,_,_,rfl,rfl,_,_,rfl,str_rel _ _,_,_,rfl,str_rel _ _,_,_,rfl,str_rel _ _,rfl⟩,_,_,rfl,⟨_,rfl,_,_,rfl,rfl,_,_,rfl,str_rel _ _,_,_,rfl,str_rel _ _,_,_,rfl,str_rel _ _,rfl⟩,_,_,rfl,⟨_,rfl,_,_,rfl,rfl,_,_,rfl,str_rel _ _,_,_,rfl,⟨_,rfl⟩,_,_,rfl,⟨⟨b2,0,0⟩,rfl,Nat.zero_le _,rfl⟩,_,_,rfl,rfl,rfl⟩,rfl⟩ (zlO hm hn.1 hn.2)
  · exact x5 (a:=_) (l:=[Inp.mk true b1 (.fn fun j=>some (eso g o1 j)) o1 (o1+cq*1)]) (args:=[.agg [.int .i64 k1,.str a.data.toList,.str b.data.toList,.str c.data.toList],.agg [.int .i64 k2,.str d.data.toList,.str e.data.toList,.str u.data.toList],.agg [.int .i64 n,.str t.data.toList,.slc 0 0 o1 q cq,.nils 0 0,.int .u64 nu]]) (vs:=[.agg #[.int .i64 k1,.string a,.string b,.string c],.agg #[.int .i64 k2,.string d,.string e,.string u],.agg #[.int .i64 n,.string t,.slice (some ⟨b1,o1,none⟩) q cq,.slice none 0 0,.int .u64 nu]]) rfl hG
      (fun x hx=>by rw [List.mem_singleton.1 hx]; exact hi1)
      ⟨_,_,rfl,⟨_,rfl,_,_,rfl,rfl,_,_,rfl,str_rel _ _,_,_,rfl,str_rel _ _,_,_,rfl,str_rel _ _,rfl⟩,_,_,rfl,⟨_,rfl,_,_,rfl,rfl,_,_,rfl,str_rel _ _,_,_,rfl,str_rel _ _,_,_,rfl,str_rel _ _,rfl⟩,_,_,rfl,⟨_,rfl,_,_,rfl,rfl,_,_,rfl,str_rel _ _,_,_,rfl,⟨⟨b1,0,0⟩,rfl,Nat.zero_le _,rfl⟩,_,_,rfl,rfl,_,_,rfl,rfl,rfl⟩,rfl⟩ (zlz hq hn.1 hn.2)
  · exact x5 (a:=_) (l:=[Inp.mk true b1 (.fn fun j=>some (eso g o1 j)) o1 (o1+cq*1)]) (args:=[.agg [.int .i64 k1,.str a.data.toList,.str b.data.toList,.str c.data.toList],.agg [.int .i64 k2,.str d.data.toList,.str e.data.toList,.str u.data.toList],.agg [.int .i64 n,.str t.data.toList,.slc 0 0 o1 q cq,.sle,.int .u64 nu]]) (vs:=[.agg #[.int .i64 k1,.string a,.string b,.string c],.agg #[.int .i64 k2,.string d,.string e,.string u],.agg #[.int .i64 n,.string t,.slice (some ⟨b1,o1,none⟩) q cq,.slice (some a3) 0 0,.int .u64 nu]]) rfl hG
      (fun x hx=>by rw [List.mem_singleton.1 hx]; exact hi1)
      ⟨_,_,rfl,⟨_,rfl,_,_,rfl,rfl,_,_,rfl,str_rel _ _,_,_,rfl,str_rel _ _,_,_,rfl,str_rel _ _,rfl⟩,_,_,rfl,⟨_,rfl,_,_,rfl,rfl,_,_,rfl,str_rel _ _,_,_,rfl,str_rel _ _,_,_,rfl,str_rel _ _,rfl⟩,_,_,rfl,⟨_,rfl,_,_,rfl,rfl,_,_,rfl,str_rel _ _,_,_,rfl,⟨⟨b1,0,0⟩,rfl,Nat.zero_le _,rfl⟩,_,_,rfl,⟨_,rfl⟩,_,_,rfl,rfl,rfl⟩,rfl⟩ (zlL hq hn.1 hn.2)
  · exact x5 (a:=_) (l:=[Inp.mk true b1 (.fn fun j=>some (eso g o1 j)) o1 (o1+cq*1),Inp.mk true b2 (.fn fun j=>some (elo f o2 j)) o2 (o2+cm*3)]) (args:=[.agg [.int .i64 k1,.str a.data.toList,.str b.data.toList,.str c.data.toList],.agg [.int .i64 k2,.str d.data.toList,.str e.data.toList,.str u.data.toList],.agg [.int .i64 n,.str t.data.toList,.slc 0 0 o1 q cq,.slc 1 0 o2 m cm,.int .u64 nu]]) (vs:=[.agg #[.int .i64 k1,.string a,.string b,.string c],.agg #[.int .i64 k2,.string d,.string e,.string u],.agg #[.int .i64 n,.string t,.slice (some ⟨b1,o1,none⟩) q cq,.slice (some ⟨b2,o2,none⟩) m cm,.int .u64 nu]]) rfl hG
      (fun x hx=>by
        rcases List.mem_cons.1 hx with rfl | hx
        · exact hi1
        · rw [List.mem_singleton.1 hx]; exact hi2)
      ⟨_,_,rfl,⟨_,rfl,_,_,rfl,rfl,_,_,rfl,str_rel _ _,_,_,rfl,str_rel _ _,_,_,rfl,str_rel _ _,rfl⟩,_,_,rfl,⟨_,rfl,_,_,rfl,rfl,_,_,rfl,str_rel _ _,_,_,rfl,str_rel _ _,_,_,rfl,str_rel _ _,rfl⟩,_,_,rfl,⟨_,rfl,_,_,rfl,rfl,_,_,rfl,str_rel _ _,_,_,rfl,⟨⟨b1,0,0⟩,rfl,Nat.zero_le _,rfl⟩,_,_,rfl,⟨⟨b2,0,0⟩,rfl,Nat.zero_le _,rfl⟩,_,_,rfl,rfl,rfl⟩,rfl⟩ (zk7 hq hm hn.1 hn.2)
/-! ### The row's step -/
set_option maxRecDepth 100000 in
theorem lifted (os:Os)(started:os.Started)(H:Type)(enc:TypeId × Value→H) :
    ReturnsInHanded {} Tryd.checked os 9 .any (fun w args => (Rows.msgBackSpec.pre enc Tryd.prog Tryd.f9 [] false w args ∧ laidMetH Tryd.prog [("lodger/diag.words", Rows.laid_lodger_diag_words)] w) ∧ sizedMet enc Tryd.prog Tryd.f9 (OpenSpec.ofChange Rows.msgBackSpec) false w args)
      (Rows.msgBackSpec.post enc Tryd.prog Tryd.f9 false true false false):=by
  refine returnsInHanded_of_change_and (C := Tryd.checked) (X := fun w _ => laidMetH Tryd.prog [("lodger/diag.words", Rows.laid_lodger_diag_words)] w) (fun _ _ _ hh h => h.of_heap hh) own started (by kernel_rfl) Tryd.func9
    (ChangeSpec.witness_shaped (enc := enc) (C := Tryd.checked) (os := os) (X := fun w _ => laidMetH Tryd.prog [("lodger/diag.words", Rows.laid_lodger_diag_words)] w) false (World.doorLaid Tryd.prog 400 os) #[.agg #[.int .i64 0, .string .empty, .string .empty, .string .empty], .agg #[.int .i64 0, .string .empty, .string .empty, .string .empty], .agg #[.int .i64 0, .string .empty, .slice none 0 0, .slice none 0 0, .int .u64 0]] 8 rfl (World.shaped_of_RefB (by kernel_rfl) (by kernel_rfl)) (by kernel_rfl) (by kernel_rfl) (by kernel_rfl) (zfL os _)) ?_
  intro W base args ds gs before hval0 hW _ _ hL _
  have hval:∀ (j:Nat) t v,Tryd.f9.params[j]?=some t→args[j]?=some v→Value.okWide Tryd.prog W .any base t v:=hval0
  have hW':=hW
  obtain ⟨p,q,hA0,hV,rfl,hfz,hnd⟩:=hW
  have hA:DataW.TrodAll enc Tryd.prog W 0 (fun _=>true) true Tryd.f9.params.toList args.toList ds p:=hA0
  rw [Tryd.params9] at hA hval
  obtain ⟨v0,vs0,d0,ds0,p0,q0,hargs,rfl,rfl,h0,r0⟩:=trodAll_cons hA
  obtain ⟨v1,vs1,d1,ds1,p1,q1,rfl,rfl,rfl,h1,r1⟩:=trodAll_cons r0
  obtain ⟨v2,vs2,d2,ds2,p2,q2,rfl,rfl,rfl,h2,r2⟩:=trodAll_cons r1
  obtain ⟨rfl,rfl,rfl⟩:=trodAll_nil r2
  obtain rfl:args=#[v0,v1,v2]:=by cases args; simp_all
  obtain ⟨rfl,rfl⟩:=trodVars_none hV
  obtain ⟨k1,a,b,c,_,_,_,rfl⟩:=in_req (hval 0 39 v0 rfl rfl) h0
  obtain ⟨k2,d,e,u,_,_,_,rfl⟩:=in_req (hval 1 39 v1 rfl rfl) h1
  obtain ⟨n,nu,t,x,y,rfl,hn,hx,hy⟩:=in_resp (hval 2 45 v2 rfl rfl) h2
  refine (walk k1 k2 n nu a b c d e u t x y hn W hx hy (zpw hL)).mono fun e W' ⟨he,hg⟩=>?_
  subst he
  exact ⟨_,rfl,Ev.post_law (by kernel_rfl) (by kernel_rfl) rfl Tryd.underlying4 rfl hW' rfl hg⟩
theorem over:Rows.msgBackRow.holds Tryd.pinned (OpenSpec.ofChange Rows.msgBackSpec) :=
  OpenClaim.holds_of_wide 9 Tryd.f9 rfl rfl rfl rfl rfl rfl rfl ⟨rfl,rfl,rfl,rfl,rfl⟩ rfl rfl rfl rfl rfl (by kernel_rfl) Tryd.func9 (by kernel_rfl)
    (of_decide_eq_true (by kernel_rfl)) (by unfold Func.isWrapper; first | (rw [if_pos (by decide +kernel)]; kernel_rfl) | (rw [if_neg (by decide +kernel)]; exact ⟨rfl,rfl⟩))
    (fun os started H enc _=>lifted os started H enc)
/-- The statement's row. -/
theorem row:Rows.MsgBackSaid :=
  over
set_option maxRecDepth 100000 in
/-- The statement,its row tied to the text of the program. -/
theorem proved:Rows.MsgBackCardSaid :=
  Claim7.holds_tied_plain_at .later [] [.data] true (true, "a7bebf9a0ed2280a856f9b17a72e71a0ed185be35e8fe28c10c7a8eb0fd3d898") false
    row (fun _ h=>by cases h) (by kernel_rfl) (fun _ h=>by cases h) msgBack_row_tie rfl ⟨rfl,rfl⟩ (by kernel_rfl) rfl
    (fun f fn hf hfn=>by
      obtain rfl : f = 9 := Option.some.inj ((show Tryd.prog.funcNamed "lodger/lodgerlaw27.MsgBack" = some 9 by kernel_rfl).symm.trans hf) |>.symm
      obtain rfl:fn=Tryd.f9:=(Option.some.inj (Tryd.func9.symm.trans hfn)).symm
      exact ⟨by kernel_rfl,fun j t ht=>by
        rw [Tryd.params9] at ht
        have:t=39∨t=45:=by
          rcases j with _ | _ | _ | j
          · exact (.inl (by simpa using ht.symm))
          · exact (.inl (by simpa using ht.symm))
          · exact (.inr (by simpa using ht.symm))
          · simp at ht
        rcases this with rfl | rfl
        · exact (show Tryd.prog.wantsStandIn 39=false by kernel_rfl)
        · exact (show Tryd.prog.wantsStandIn 45=false by kernel_rfl)⟩)
    (by kernel_rfl)
#print axioms proved
end Go.Proofs.YtdbfpjgnlfejmaaDoor.msgBack
