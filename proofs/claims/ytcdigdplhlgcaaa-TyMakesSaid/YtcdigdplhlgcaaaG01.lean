import Derived.Test.YtcdigdplhlgcaaaG00
section
namespace Go.Proofs.Ytcdigdplhlgcaaa.Ev
open Go
section
variable {P:Program} {B:Base} {R:Bij} {h:AHeap} {w:World}
theorem zfW (a b:List UInt8):((ByteArray.mk a.toArray)==(ByteArray.mk b.toArray))=(a==b):=by
 rw [Bool.eq_iff_iff];constructor
 ·intro h;have:(a.toArray==b.toArray)=true:=h;simpa using this
 ·intro h;show (a.toArray==b.toArray)=true;simpa using h
theorem vT {eq:AV→AV→Option Bool}{eq':Value→Value→Sem Bool}{el:TypeId}{s:Nat}(w:World)
 (hq:∀ x y x' y' b,eq x y=some b→VRel R x x'→VRel R y y'→(eq' x' y').run P w=.ok b w)
 {xs ys:List AV} {xs' ys':List Value} (hx:VRels R xs xs') (hy:VRels R ys ys'):∀ {n i:Nat} {b:Bool},ji P eq el s xs ys n i=some b →
 ∃ c,(forIn (List.range' i n) ((none:Option Bool),()) fun i _r=>do
  if !(← eq' (← part el xs'.toArray (i*s)) (← part el ys'.toArray (i*s))) then pure (.done (some false,())) else pure (.yield (none,())):Sem (Option Bool × Unit)).run P w=.ok c w ∧
  c.fst=(if b then none else some false)
 | 0,i,b,e=>by
  simp [ji] at e; subst e;exact ⟨(none,()),by simp,rfl⟩
 | n+1,i,b,e=>by
  simp only [ji] at e;split at e
  ·rename_i u v hu hv;obtain ⟨u',eu,ru⟩:=xz w hu hx;obtain ⟨v',ev',rv⟩:=xz w hv hy;rw [List.range'_succ];split at e
   ·rename_i hb;obtain ⟨c,e1,e2⟩:=vT w hq hx hy e;refine ⟨c,?_,e2⟩;simp only [List.forIn_cons,Sem.run_bind,eu,ev',hq _ _ _ _ _ hb ru rv,Result.andThen_ok,Bool.not_true,Bool.false_eq_true,if_false,Sem.run_pure];exact e1
   ·rename_i hb;cases e;refine ⟨(some false,()),?_,rfl⟩;simp only [List.forIn_cons,Sem.run_bind,eu,ev',hq _ _ _ _ _ hb ru rv,Result.andThen_ok,Bool.not_false,if_true,Sem.run_pure]
   ·cases e
  ·cases e
theorem zeB (k:HRel P B R h w):∀ {d:Nat} {t:TypeId} {x y:AV} {x' y':Value} {b:Bool} (D:Nat),eqA P h d t x y=some b→VRel R x x'→VRel R y y' →
 (Op.equalIn (D+d) t x' y').run P w=.ok b w
 | 0,t,x,y,x',y',b,D,e,_,_=>by simp [eqA] at e
 | d+1,t,x,y,x',y',b,D,e,hx,hy=>by
  have ih:∀ t x y x' y' b,eqA P h d t x y=some b→VRel R x x'→VRel R y y'→(Op.equalIn (D+d) t x' y').run P w=.ok b w :=
   fun t x y x' y' b e hx hy=>zeB k D e hx hy
  simp only [eqA] at e;split at e
  ·cases e
  ·rename_i u hu;rw [show D+(d+1)=(D+d)+1 from rfl,Op.equalIn]
   simp only [Sem.run_bind,za w hu,Result.andThen_ok];split at e
   ·cases x <;> simp only [eqB] at e <;> try (cases e; done)
    cases y <;> simp only [] at e <;> try (cases e; done)
    cases e; cases hx; cases hy; simp
   ·cases x <;> simp only [eqN] at e <;> try (cases e; done)
    cases y <;> simp only [] at e <;> try (cases e; done)
    split at e
    ·rename_i hk; subst hk; cases e; cases hx; cases hy; simp
    ·cases e
   ·cases x <;> simp only [eqT] at e <;> try (cases e; done)
    cases y <;> simp only [] at e <;> try (cases e; done)
    cases e; cases hx; cases hy;simp only [Sem.run_pure,zfW]
   ·rename_i el;cases x <;> simp only [eqP] at e <;> try (cases e; done)
    ·cases y <;> simp only [] at e <;> try (cases e; done)
     ·cases e; cases hx; cases hy; simp
     ·cases e; cases hx; obtain ⟨L,_,_,rfl⟩:=hy; simp
    ·cases y <;> simp only [] at e <;> try (cases e; done)
     ·cases e; cases hy; obtain ⟨L,_,_,rfl⟩:=hx; simp
     ·unfold zpr at e;split at e
      ·cases e
      ·rename_i inf hi;split at e
       ·rename_i hs;obtain ⟨L,hL,hm,rfl⟩:=hx;obtain ⟨L',hL',hm',rfl⟩:=hy;simp [zj w hi,hs,zcn k e hL hL' hm hm']
       ·cases e
   ·cases x <;> simp only [eqI] at e <;> try (cases e; done)
    ·cases y <;> simp only [] at e <;> try (cases e; done)
     ·cases e; cases hx; cases hy; simp
     ·cases e; cases hx; obtain ⟨z,rfl,_⟩:=hy; simp
    ·cases y <;> simp only [] at e <;> try (cases e; done)
     ·cases e; cases hy; obtain ⟨z,rfl,_⟩:=hx; simp
     ·obtain ⟨z,rfl,hz⟩:=hx;obtain ⟨z',rfl,hz'⟩:=hy;split at e
      ·rename_i hne;cases e; simp [hne]
      ·rename_i heq;simp only [ne_eq,Decidable.not_not] at heq;subst heq;split at e
       ·cases e
       ·rename_i inf hi;split at e
        ·rename_i hc;simp [zA w hi,hc,ih _ _ _ _ _ _ e hz hz']
        ·cases e
   ·rename_i fs;cases x <;> simp only [eqR] at e <;> try (cases e; done)
    cases y <;> simp only [] at e <;> try (cases e; done)
    split at e
    ·cases e
    ·rename_i hst;obtain ⟨a,rfl,ha⟩:=hx;obtain ⟨a',rfl,ha'⟩:=hy;obtain ⟨c,e1,e2⟩:=yN w (fun t x y x' y' b=>ih t x y x' y' b) ha ha' e;simp only [Sem.run_bind,run_program,Result.andThen_ok,hst,Bool.false_eq_true,if_false,← Array.forIn_toList];rw [e1];simp only [Result.andThen_ok];rw [e2];cases b <;> simp
   ·rename_i n el;cases x <;> simp only [eqL] at e <;> try (cases e; done)
    cases y <;> simp only [] at e <;> try (cases e; done)
    split at e
    ·cases e
    ·rename_i inf hi;obtain ⟨a,rfl,ha⟩:=hx;obtain ⟨a',rfl,ha'⟩:=hy;obtain ⟨c,e1,e2⟩:=vT w (fun x y x' y' b=>ih el x y x' y' b) ha ha' e;simp only [Sem.run_bind,zj w hi,Result.andThen_ok,Std.Legacy.Range.forIn_eq_forIn_range',Std.Legacy.Range.size,Nat.sub_zero,Nat.add_one_sub_one,Nat.div_one];rw [e1];simp only [Result.andThen_ok];rw [e2];cases b <;> simp
   ·cases x <;> simp only [eqS] at e <;> try (cases e; done)
    ·cases y <;> simp only [] at e <;> try (cases e; done)
     ·cases e; cases hx; cases hy; simp
     ·cases e; cases hx; obtain ⟨L,_,_,rfl⟩:=hy; simp
     ·cases e; cases hx; obtain ⟨L,a,_,_,_,rfl,_⟩:=hy; simp
     ·cases e; cases hx; obtain ⟨a,rfl⟩:=hy; simp
    ·cases y <;> simp only [] at e <;> try (cases e; done)
     cases e; cases hy; obtain ⟨L,_,_,rfl⟩:=hx; simp
    ·cases y <;> simp only [] at e <;> try (cases e; done)
     cases e; cases hy; obtain ⟨L,a,_,_,_,rfl,_⟩:=hx; simp
    ·cases y <;> simp only [] at e <;> try (cases e; done)
     cases e; cases hy; obtain ⟨a,rfl⟩:=hx; simp
   ·cases x <;> simp only [eqM] at e <;> try (cases e; done)
    ·cases y <;> simp only [] at e <;> try (cases e; done)
     ·cases e; cases hx; cases hy; simp
     ·cases e; cases hx; obtain ⟨L,_,rfl⟩:=hy; simp
    ·cases y <;> simp only [] at e <;> try (cases e; done)
     cases e; cases hy; obtain ⟨L,_,rfl⟩:=hx; simp
   ·cases x <;> simp only [eqF] at e <;> try (cases e; done)
    ·cases y <;> simp only [] at e <;> try (cases e; done)
     ·cases e; cases hx; cases hy; simp
     ·cases e; cases hx; obtain ⟨_,a,b,rfl,_⟩:=hy; simp
     ·cases e; cases hx; obtain ⟨L,_,rfl⟩:=hy; simp
    ·cases y <;> simp only [] at e <;> try (cases e; done)
     cases e; cases hy; obtain ⟨_,a,b,rfl,_⟩:=hx; simp
    ·cases y <;> simp only [] at e <;> try (cases e; done)
     cases e; cases hy; obtain ⟨L,_,rfl⟩:=hx; simp
   ·cases e
theorem qI (k:HRel P B R h w){t:TypeId}{x y:AV}{x' y':Value}{b:Bool}(e:eqA P h 9 t x y=some b)(hx:VRel R x x')(hy:VRel R y y') :
 (Op.equal t x' y').run P w=.ok b w:=zeB k 9991 e hx hy
theorem zgc {x:AV}{x' y':Value}(t:TypeId)(hx:VRel R x x')(h1:∀ k n,x≠.int k n)(h2:∀ s,x≠.str s)(h3:x≠.unk) :
 binOp .eql t x' y'=(do pure (.bool (← Op.equal t x' y'))):=by
 cases x <;> first | exact absurd rfl (h1 _ _) | exact absurd rfl (h2 _) | exact absurd rfl h3 | skip
 all_goals first
  | (cases hx; first | rfl | (cases y' <;> rfl))
  | (obtain ⟨L,_,_,rfl⟩:=hx; first | rfl | (cases y' <;> rfl))
  | (obtain ⟨L,_,rfl⟩:=hx; first | rfl | (cases y' <;> rfl))
  | (obtain ⟨L,a,_,_,_,rfl,_⟩:=hx; first | rfl | (cases y' <;> rfl))
  | (obtain ⟨a,rfl⟩:=hx; first | rfl | (cases y' <;> rfl))
  | (obtain ⟨_,a,b,rfl,_⟩:=hx; first | rfl | (cases y' <;> rfl))
  | (obtain ⟨y,rfl,_⟩:=hx; first | rfl | (cases y' <;> rfl))
theorem zev {x:AV}{x' y':Value}(t:TypeId)(hx:VRel R x x')(h1:∀ k n,x≠.int k n)(h2:∀ s,x≠.str s)(h3:x≠.unk) :
 binOp .neq t x' y'=(do pure (.bool (!(← Op.equal t x' y')))):=by
 cases x <;> first | exact absurd rfl (h1 _ _) | exact absurd rfl (h2 _) | exact absurd rfl h3 | skip
 all_goals first
  | (cases hx; first | rfl | (cases y' <;> rfl))
  | (obtain ⟨L,_,_,rfl⟩:=hx; first | rfl | (cases y' <;> rfl))
  | (obtain ⟨L,_,rfl⟩:=hx; first | rfl | (cases y' <;> rfl))
  | (obtain ⟨L,a,_,_,_,rfl,_⟩:=hx; first | rfl | (cases y' <;> rfl))
  | (obtain ⟨a,rfl⟩:=hx; first | rfl | (cases y' <;> rfl))
  | (obtain ⟨_,a,b,rfl,_⟩:=hx; first | rfl | (cases y' <;> rfl))
  | (obtain ⟨y,rfl,_⟩:=hx; first | rfl | (cases y' <;> rfl))
theorem v7 (k:HRel P B R h w){op:BinOp}{t:TypeId}{x y v:AV}{x' y':Value}(e:zgx P h op t x y=some v)(hx:VRel R x x')(hy:VRel R y y')
 (h1:∀ k n,x≠.int k n) (h2:∀ s,x≠.str s) (h3:x≠.unk):∃ v',(binOp op t x' y').run P w=.ok v' w∧VRel R v v':=by
 unfold zgx at e;split at e
 ·split at e
  ·cases e
  ·rename_i b hb;cases e;exact ⟨.bool b,by rw [zgc t hx h1 h2 h3]; simp [qI k hb hx hy],rfl⟩
 ·split at e
  ·cases e
  ·rename_i b hb;cases e;exact ⟨.bool !b,by rw [zev t hx h1 h2 h3]; simp [qI k hb hx hy],rfl⟩
 ·cases e
theorem kD {op:BinOp}{t:TypeId}{x y:Operand}{a' b':Value}(w:World)(n1:¬ (a'=.nilIface∧b'=.nilIface))(n2:¬ ∃ u z,a'=.agg u∧b'=.agg z) :
 (eqGuard op t x y a' b').run P w=.ok () w:=by
 cases op <;> try rfl
 all_goals
  cases a' <;> try rfl
  case nilIface=>cases b' <;> first | rfl | exact absurd ⟨rfl,rfl⟩ n1
  case agg u=>cases b' <;> first | rfl | exact absurd ⟨_,_,rfl,rfl⟩ n2
theorem zfv {op:BinOp}{t:TypeId}{x y:Operand}(w:World)(hc:(xn x || xn y)=true) :
 (eqGuard op t x y .nilIface .nilIface).run P w=.ok () w:=by
 cases op <;> try rfl
 all_goals (cases x <;> cases y <;> first | rfl | (simp [xn] at hc))
theorem zle {op:BinOp}{t:TypeId}{x y:Operand}{u z:Array Value}(w:World)(hc:P.eqGuardType P.depth t=false) :
 (eqGuard op t x y (.agg u) (.agg z)).run P w=.ok () w:=by
 cases op <;> try rfl
 all_goals (simp [eqGuard,hc])
theorem ziV (k:HRel P B R h w){op:BinOp}{t:TypeId}{x y:Operand}{a b v:AV}{a' b':Value}(e:qq P h op t (xn x || xn y) a b=some v)(hx:VRel R a a')(hy:VRel R b b') :
 ∃ v',(do eqGuard op t x y a' b'; binOp op t a' b':Sem Value).run P w=.ok v' w∧VRel R v v':=by
 have one:∀ {v':Value},(eqGuard op t x y a' b').run P w=.ok () w→(binOp op t a' b').run P w=.ok v' w→(do eqGuard op t x y a' b'; binOp op t a' b':Sem Value).run P w=.ok v' w:=by
  intro v' g1 g2;rw [Sem.run_bind,g1]; exact g2
 unfold qq at e;split at e
 ·cases e
 rename_i hunk;obtain ⟨hua,hub⟩:=Bool.or_eq_false_iff.1 hunk;unfold zrh at e;split at e
 ·cases hx;unfold jZ at e;split at e
  ·cases hy;split at e
   ·rename_i hk;obtain ⟨v',e1,e2⟩:=zeX (R:=R) (t:=t) w e hk;exact ⟨v',one (kD w (by simp) (by simp)) e1,e2⟩
   ·cases e
  ·cases e
 ·cases hx;unfold zmI at e;split at e
  ·cases hy;obtain ⟨v',e1,e2⟩:=zfs (R:=R) (t:=t) w e;exact ⟨v',one (kD w (by simp) (by simp)) e1,e2⟩
  ·cases e
 ·unfold zl5 at e;split at e
  ·cases hx;cases hy;unfold zoz at e;split at e
   ·cases e
   ·rename_i hlit;split at e
    ·rename_i ms hu;have hn:(Op.equal t .nilIface .nilIface).run P w=.ok true w:=by
      show (Op.equalIn 10000 t .nilIface .nilIface).run P w=_;rw [Op.equalIn]; simp [za w hu]
     unfold zpK at e;split at e
     ·cases e;exact ⟨.bool true,one (zfv w hlit) (by rw [zgc (R:=R) (x:=.nili) t rfl (by simp) (by simp) (by simp)]; simp [hn]),rfl⟩
     ·cases e;exact ⟨.bool false,one (zfv w hlit) (by rw [zev (R:=R) (x:=.nili) t rfl (by simp) (by simp) (by simp)]; simp [hn]),rfl⟩
     ·cases e
    ·cases e
  ·rename_i hne;obtain ⟨v',e1,e2⟩:=v7 k e hx hy (by simp) (by simp) (by simp);cases hx;refine ⟨v',one (kD w ?_ (by simp)) e1,e2⟩;rintro ⟨_,rfl⟩;apply hne;cases b <;> simp only [VRel] at hy <;> first | rfl | (cases hy; done) | (obtain ⟨L,_,_,h⟩:=hy; cases h; done) | (obtain ⟨L,_,h⟩:=hy; cases h; done) | (obtain ⟨L,a,_,_,_,h,_⟩:=hy; cases h; done) | (obtain ⟨_,a,b,h,_⟩:=hy; cases h; done) | (obtain ⟨y,h⟩:=hy; cases h; done) | (obtain ⟨y,h,_⟩:=hy; cases h; done) | (cases hub; done)
 ·rename_i l;unfold zj6 at e;split at e
  ·cases e
  ·rename_i hg;obtain ⟨v',e1,e2⟩:=v7 k e hx hy (by simp) (by simp) (by simp);obtain ⟨u,rfl,_⟩:=hx;refine ⟨v',one ?_ e1,e2⟩;cases b' with
   | agg z=>exact zle w (by simpa using hg)
   | _=>exact kD w (by simp) (by simp)
 ·rename_i h1 h2 h3 h4;obtain ⟨v',e1,e2⟩:=v7 k e hx hy (fun k n=>h1 k n) (fun s=>h2 s) (fun h=>by subst h; cases hua);refine ⟨v',one (kD w ?_ ?_) e1,e2⟩
  ·rintro ⟨rfl,_⟩;apply h3;cases a <;> simp only [VRel] at hx <;> first | rfl | (cases hx; done) | (obtain ⟨L,_,_,h⟩:=hx; cases h; done) | (obtain ⟨L,_,h⟩:=hx; cases h; done) | (obtain ⟨L,a,_,_,_,h,_⟩:=hx; cases h; done) | (obtain ⟨_,a,b,h,_⟩:=hx; cases h; done) | (obtain ⟨y,h⟩:=hx; cases h; done) | (obtain ⟨y,h,_⟩:=hx; cases h; done) | (cases hua; done)
  ·rintro ⟨u,z,rfl,_⟩;cases a <;> simp only [VRel] at hx <;> first | exact h4 _ rfl | (cases hx; done) | (obtain ⟨L,_,_,h⟩:=hx; cases h; done) | (obtain ⟨L,_,h⟩:=hx; cases h; done) | (obtain ⟨L,a,_,_,_,h,_⟩:=hx; cases h; done) | (obtain ⟨_,a,b,h,_⟩:=hx; cases h; done) | (obtain ⟨y,h⟩:=hx; cases h; done) | (obtain ⟨y,h,_⟩:=hx; cases h; done) | (cases hua; done)
theorem zlP {op:UnOp}{x v:AV}{x':Value}(w:World)(e:unA op x=some v)(hx:VRel R x x'):∃ v',(Op.unary op x').run P w=.ok v' w∧VRel R v v':=by
 unfold unA at e;split at e
 ·unfold negA at e;split at e
  ·cases hx; cases e; exact ⟨_,by simp [Op.unary,Op.intArith],rfl⟩
  ·cases e
 ·unfold comA at e;split at e
  ·cases hx; cases e; exact ⟨_,by simp [Op.unary,Op.intBits],rfl⟩
  ·cases e
 ·unfold notA at e;split at e
  ·cases hx; cases e; exact ⟨_,by simp [Op.unary],rfl⟩
  ·cases e
 ·cases e
theorem ziE (s:List UInt8):(ByteArray.mk s.toArray).size=s.length:=by simp [ByteArray.size]
theorem zjT (k:HRel P B R h w){t:TypeId}{x:AV}{n:Nat}{x':Value}{argTypes args:Array _}{ty:TypeId}(e:zrd P h t x=some n)(hx:VRel R x x')
 (ht:argTypes[0]?=some t) (ha:args[0]?=some x'):(Builtin.len_ argTypes ty args).run P w=.ok (.int .i64 n) w:=by
 unfold zrd at e;split at e
 ·cases e
 ·rename_i u hu;have base:(Builtin.len_ argTypes ty args).run P w=(match u,x' with
   | .string,.string s=>(pure (goInt s.size):Sem Value)
   | .array n _,_=>pure (goInt n)
   | .pointer arr,_=>do
    let .array n _ ← underlying arr | stuck "len: pointer to array expected"
    pure (goInt n)
   | .slice _,.slice _ n _=>pure (goInt n)
   | .map _ _,.map none | .chan _ _,.chan none=>pure (goInt 0)
   | .map _ _,.map (some r)=>do
    let .map entries _ ← getObj r | stuck "len: map expected"
    pure (goInt entries.size)
   | .chan _ _,.chan (some r)=>do
    let .chan _ buf _ _ _ timer ← getObj r | stuck "len: channel expected"
    pure (goInt (if timer then 0 else buf.size))
   | _, _ => stuck "len: string, array, pointer to array, slice, map or channel expected").run P w := by
   simp only [Builtin.len_,ht,ha,Sem.run_bind,za w hu,Result.andThen_ok];rfl
  rw [base];split at e
  ·unfold zoV at e;split at e
   ·cases e; cases hx; simp [goInt,ziE]
   ·cases e
  ·cases e; cases x' <;> rfl
  ·rename_i arr;unfold zoD at e;split at e
   ·rename_i m el hm;cases e;cases x' <;> (simp [za w hm,goInt])
   ·cases e
  ·unfold xV at e;split at e
   ·cases e; cases hx; rfl
   ·cases e; obtain ⟨L,_,_,rfl⟩:=hx; rfl
   ·cases e; obtain ⟨L,a,_,_,_,rfl,_⟩:=hx; rfl
   ·cases e; obtain ⟨a,rfl⟩:=hx; rfl
   ·cases e
  ·unfold zoP at e;split at e
   ·cases e; cases hx; rfl
   ·rename_i i;obtain ⟨L,hL,rfl⟩:=hx;unfold ziy at e;split at e
    ·rename_i es clock ho;cases e;obtain ⟨L',es',hL',hh,hr⟩:=k.obj' hL ho;rw [hL] at hL'; cases hL';have:es'.size=es.length:=by simpa using hr.length
     simp [getObj,Sem.run,hh,goInt,this]
    ·cases e
   ·cases e
  ·cases e
end
end Go.Proofs.Ytcdigdplhlgcaaa.Ev
end
section
namespace Go.Proofs.Ytcdigdplhlgcaaa.Ev
open Go
section
variable {P:Program} {B:Base} {R:Bij} {h:AHeap} {w:World}
theorem zfR {v:AV}{b:UInt8}{x:Value}(e:zcq v=some b)(hx:VRel R v x):∃ n:Int,x=.int .u8 n∧b=UInt8.ofNat n.toNat:=by
 unfold zcq at e;split at e
 ·split at e
  ·cases e; cases hx; exact ⟨_,rfl,rfl⟩
  ·cases e
 ·cases e
theorem zka (body:Value→ByteArray→Sem (ForInStep ByteArray))(hbody:∀ n r,body (.int .u8 n) r=pure (.yield (r.push (UInt8.ofNat n.toNat)))){l:List AV}{s:List UInt8}{vs:List Value}(w:World)(e:vN l=some s)(hr:VRels R l vs):∀ acc:ByteArray,
 (forIn vs acc body).run P w=.ok ⟨acc.data++s.toArray⟩ w:=by
 induction l generalizing s vs with
 | nil =>
  intro acc;cases hr;simp [vN,zef] at e;subst e;simp
 | cons v l ih =>
  intro acc;obtain ⟨y,ys,rfl,hy,hys⟩:=hr;simp only [vN,kQ] at e;cases hb:zcq v with
  | none=>simp [hb] at e
  | some b =>
   rw [hb] at e;cases hl:qD zcq l with
   | none=>simp [hl] at e
   | some s' =>
    rw [hl] at e; simp at e; subst e;obtain ⟨n,rfl,rfl⟩:=zfR hb hy;simp only [List.forIn_cons,Sem.run_bind,hbody,Sem.run_pure,Result.andThen_ok];rw [ih hl hys];congr 1;apply ByteArray.ext;simp [ByteArray.push]
theorem ku {l:List AV}{s:List UInt8}{vs:List Value}{a:Addr}{n cap:Nat}(e:vN l=some s)(hr:VRels R l vs)
 (hl:(loadCells a n).run P w=.ok vs.toArray w):(Conv.bytesToString (.slice (some a) n cap)).run P w=.ok (.string ⟨s.toArray⟩) w:=by
 simp only [Conv.bytesToString,Sem.run_bind,hl,Result.andThen_ok];rw [← Array.forIn_toList];rw [zka (P:=P) (R:=R) _ ?_ w e hr ByteArray.empty]
 ·simp
 ·intro _ _; rfl
theorem jw {e:TypeId}(h:jK P e=true):P.underlying e=some (.int .u8):=by
 unfold jK at h;split at h
 ·assumption
 ·cases h
theorem zaD {t:TypeId}(h:qV P t=true):∃ e,P.underlying t=some (.slice e)∧P.underlying e=some (.int .u8):=by
 unfold qV at h;split at h
 ·rename_i e he; exact ⟨e,he,jw h⟩
 ·cases h
theorem zd4 (k:HRel P B R h w){src dst _us _ud:TypeId}{x v:AV}{x':Value}{dd:TypeDesc}{b:Bool}(hs:P.underlying src=some dd)(hd:P.underlying dst=some .string)
 (hb:qV P src=b) (e:zgg h b x=some v) (hx:VRel R x x'):∃ v',(convert src dst x').run P w=.ok v' w∧VRel R v v':=by
 unfold zgg at e;have hsl:∀ _:AV,b=true→∃ el,dd=.slice el∧P.underlying el=some (.int .u8):=by
  intro y hb';rw [hb'] at hb;obtain ⟨el,h1,h2⟩:=zaD hb;rw [hs] at h1; cases h1;exact ⟨el,rfl,h2⟩
 have hnil:∀ {i r o len} {l:List AV} {a:Addr} {vs:List Value} {cap:Nat},b=true→vg (some l)=some v→VRels R l vs→zb h i r o len=some l →
  (loadCells a len).run P w=.ok vs.toArray w→∃ v',(convert src dst (.slice (some a) len cap)).run P w=.ok v' w∧VRel R v v':=by
  intro i r o len l a vs cap hb' e hr _ hl;obtain ⟨el,rfl,hel⟩:=hsl v hb';simp only [vg] at e;unfold zs6 at e;split at e
  ·cases e
  ·rename_i s hsx;cases e;exact ⟨.string ⟨s.toArray⟩,by simp [convert,za w hs,za w hd,za w hel,ku hsx hr hl],rfl⟩
 split at e
 ·split at e
  ·cases e
  ·cases e; cases hx;exact ⟨_,by simp only [convert,Sem.run_bind,za w hs,za w hd,Result.andThen_ok]; cases dd <;> rfl,rfl⟩
 ·split at e
  ·cases e
  ·cases e; cases hx;refine ⟨.string (Utf8.encode _),by simp only [convert,Sem.run_bind,za w hs,za w hd,Result.andThen_ok]; cases dd <;> rfl,?_⟩;simp [VRel]
 ·split at e
  ·cases e; cases hx;obtain ⟨el,rfl,hel⟩:=hsl .nilp rfl;exact ⟨.string .empty,by simp [convert,za w hs,za w hd,za w hel,Conv.bytesToString],rfl⟩
  ·cases e
 ·split at e
  ·rename_i i r o len c _;obtain ⟨L,hL,hm,rfl⟩:=hx;cases hl:zb h i r o len with
   | none=>simp [hl,vg] at e
   | some l =>
    rw [hl] at e;obtain ⟨vs,e1,e2,_⟩:=zB k hl hL hm;exact hnil rfl e e2 hl e1
  ·cases e
 ·split at e
  ·rename_i i r o len st _;obtain ⟨L,a,hL,hm,hk,rfl,ha⟩:=hx;cases hl:zb h i r o len with
   | none=>simp [hl,vg] at e
   | some l =>
    rw [hl] at e;obtain ⟨vs,e1,e2,e3⟩:=zB k hl hL hm
    by_cases hlt:st<L.kap
    ·obtain rfl:=ha hlt;exact hnil rfl e e2 hl e1
    ·have hlen:len=0:=by omega
     subst hlen;have hl0:l=[]:=List.eq_nil_of_length_eq_zero e3;subst hl0;cases e2;exact hnil rfl e VRels.nil hl (by simp [loadCells,loadCellsFrom])
  ·cases e
 ·cases e
theorem zkc {b:Nat}{cs:Array Value}{el:TypeId}{fz:Nat × Nat}(w:World)(e:w.heap[b]?=some (.cells cs el fz)):(viewAt b).run P w=.ok none w:=by
 simp [viewAt,World.shape?,e]
theorem zcu (k:HRel P B R h w){src dst t:TypeId}{x v:AV}{x':Value}(hs:P.underlying src=some (.pointer t))(hd:P.underlying dst=some .unsafePointer)
 (e:jF h (xW P t) x=some v) (hx:VRel R x x'):∃ v',(convert src dst x').run P w=.ok v' w∧VRel R v v':=by
 unfold jF at e;split at e
 ·rename_i i r o;split at e
  ·rename_i n c m el lo hi nv fz sg ex hsz ho;obtain ⟨inf,hinf,hn⟩:=zw hsz;split at e
   ·rename_i e' he;split at e
    ·rename_i hc;cases e;have hx0:=hx;obtain ⟨L,hL,hm,rfl⟩:=hx;obtain ⟨L',hL',hv⟩:=k.ver hL ho hc.1 hc.2.1 he;rw [hL] at hL'; cases hL';obtain ⟨cs,a,b,f1,f2,_⟩:=hv;refine ⟨_,?_,hx0⟩;have hsh:w.shape? L.block=some (el,cs.size):=by simp [World.shape?,f1]
     have hlt:o - L.minus<cs.size:=by omega
     simp only [convert,Sem.run_bind,za w hs,za w hd,Result.andThen_ok,Conv.unsafePointer,Conv.seenAt,zkc w f1,Sem.run_pure,cellsIn,run_shape,hsh,zj w hinf,hn];have:¬ (cs.size≤o - L.minus):=by omega
     simp [this]
    ·cases e
   ·cases e
  ·cases e
 ·cases e
theorem wz {f:TypeId→Nat→Bool}{r:Nat}:∀ {l:List Field},jd P f r l=true →
 ∃ x∈l,x.offset≤r∧r<x.offset+P.cellsOf x.type∧f x.type (r - x.offset)=true
 | [],e=>by cases e
 | x::l,e=>by
  unfold jd at e;split at e
  ·cases e
  ·rename_i s hs;obtain ⟨i,hi,hsz⟩:=zw hs;split at e
   ·rename_i hc;simp only [Bool.and_eq_true,Nat.ble_eq,Nat.blt_eq] at hc;exact ⟨x,by simp,hc.1,by rw [zx hi,hsz]; exact hc.2,e⟩
   ·obtain ⟨y,h1,h2⟩:=wz e;exact ⟨y,by simp [h1],h2⟩
theorem wD {u:TypeId}{fits:TypeId→Bool}(hf:fits u=true):∀ {d D:Nat} {e:TypeId} {r i count:Nat},d≤D→zf8 P u d e r=true→r<P.cellsOf e→i<count →
 rowAt P fits D e count (i*P.cellsOf e+r) 1=true
 | 0,_,_,_,_,_,_,e,_,_=>by cases e
 | d+1,0,_,_,_,_,h,_,_,_=>by omega
 | d+1,D+1,e,r,i,count,h,hfit,hr,hi=>by
  have hs0:P.cellsOf e≠0:=by omega
  have hdiv:(i*P.cellsOf e+r) / P.cellsOf e=i:=by
   rw [Nat.add_comm,Nat.add_mul_div_right _ _ (by omega),Nat.div_eq_of_lt hr,Nat.zero_add]
  have hmod:(i*P.cellsOf e+r) % P.cellsOf e=r:=by
   rw [Nat.add_comm,Nat.add_mul_mod_self_right,Nat.mod_eq_of_lt hr]
  simp only [rowAt,hs0,if_false,hdiv,hmod];unfold zf8 at hfit;split at hfit
  ·rename_i hc;simp only [Bool.and_eq_true] at hc;have h1:=Nat.eq_of_beq_eq_true hc.1;have h2:e=u:=Nat.eq_of_beq_eq_true hc.2;subst h1 h2;have:i+1≤count:=hi;simp [this,hf]
  ·split at hfit
   ·rename_i fs hu;simp only [Bool.and_eq_true,Bool.not_eq_true'] at hfit;obtain ⟨x,m1,m2,m3,m4⟩:=wz hfit.2;have ih:=wD hf (d:=d) (D:=D) (i:=0) (count:=1) (by omega) m4 (by omega) (by omega);rw [Nat.zero_mul,Nat.zero_add] at ih;rw [hu];have hany:(fs.any fun f=>f.offset≤r&&r<f.offset+P.cellsOf f.type&&rowAt P fits D f.type 1 (r - f.offset) 1)=true:=by
     rw [Array.any_eq_true'];exact ⟨x,by simpa using m1,by simp [m2,m3,ih]⟩
    simp [hi,hfit.1,hany]
   ·rename_i m e' hu;unfold zmq at hfit;split at hfit
    ·cases hfit
    ·rename_i s hs;obtain ⟨inf,hinf,hsz⟩:=zw hs;split at hfit
     ·cases hfit
     ·rename_i s';simp only [Bool.and_eq_true,Nat.blt_eq] at hfit;have hcel:P.cellsOf e'=s'+1:=by rw [zx hinf,hsz]
      have ih:=wD hf (d:=d) (D:=D) (i:=r / (s'+1)) (count:=m) (by omega) hfit.2 (by rw [hcel]; exact Nat.mod_lt _ (by omega)) hfit.1;rw [hcel,Nat.mul_comm,Nat.div_add_mod] at ih;rw [hu];simp [hi,ih]
   ·cases hfit
theorem zaE (k:HRel P B R h w){src dst t:TypeId}{x v:AV}{x':Value}(hs:P.underlying src=some .unsafePointer)(hd:P.underlying dst=some (.pointer t))
 (e:qC P h t (xW P t) x=some v) (hx:VRel R x x'):∃ v',(convert src dst x').run P w=.ok v' w∧VRel R v v':=by
 unfold qC at e;split at e
 ·rename_i i r o;split at e
  ·rename_i n c m el lo hi nv fz sg ex hsz ho;obtain ⟨inf,hinf,hn⟩:=zw hsz;split at e
   ·rename_i ee hee;split at e
    ·rename_i hc;obtain ⟨c1,c2,c3,c4⟩:=hc;cases e;have hx0:=hx;obtain ⟨L,hL,hm,rfl⟩:=hx;obtain ⟨L',hL',hv⟩:=k.ver hL ho c1 c2 hee;rw [hL] at hL'; cases hL';obtain ⟨cs,a,b,f1,f2,⟨f3,q,f4⟩,_⟩:=hv;refine ⟨_,?_,hx0⟩;have hsh:w.shape? L.block=some (el,cs.size):=by simp [World.shape?,f1]
     have hd':∃ d,P.depth=d+1∧9≤d+1:=⟨2*(P.types.size+Made.depth)+1,rfl,by simp only [Made.depth]; omega⟩;obtain ⟨d,hd',hd9⟩:=hd';have hvar:liesAt P P.depth el (cs.size / P.cellsOf el) (o - L.minus) t 1=true:=by
      unfold zmu at c4;split at c4
      ·cases c4
      ·rename_i s hs;obtain ⟨inf2,hinf2,hn2⟩:=zw hs;split at c4
       ·cases c4
       ·rename_i s0;have hcel:P.cellsOf el=s0+1:=by rw [zx hinf2]; exact hn2
        rw [hcel] at f3 f4;have hoff:o - L.minus=(o - L.minus) / (s0+1)*P.cellsOf el+o % (s0+1):=by
         rw [hcel];have h1:o=(o - L.minus)+(s0+1)*q:=by omega
         have h2:o % (s0+1)=(o - L.minus) % (s0+1):=by
          conv=>lhs; rw [h1,Nat.add_mul_mod_self_left]
         rw [h2];exact (Nat.div_add_mod' _ _).symm
        have hcnt:(o - L.minus) / (s0+1)<cs.size / P.cellsOf el:=by
         rw [hcel];have h1:L.kap*(s0+1)=cs.size+(s0+1)*q:=by omega
         have h2:cs.size=(L.kap - q)*(s0+1):=by rw [Nat.mul_comm (s0+1) q] at h1; rw [Nat.sub_mul]; omega
         rw [h2,Nat.mul_div_cancel _ (by omega)];rw [Nat.div_lt_iff_lt_mul (by omega),← h2]; omega
        have hrow:=wD (P:=P) (u:=t) (fits:=(sameLayout P P.depth · t)) (by rw [hd']; simp [sameLayout]) (d:=9) (D:=P.depth) (by omega) c4 (by rw [hcel]; exact Nat.mod_lt _ (by omega)) hcnt;rw [← hoff] at hrow;rw [hd'] at hrow ⊢;simp only [liesAt];rw [hd',hrow]; rfl
     simp only [convert,Sem.run_bind,za w hs,za w hd,Result.andThen_ok,Conv.unsafePointer,Conv.seenAt,zkc w f1,Sem.run_pure,zj w hinf,variablesAt,run_program,run_shape,hsh,hvar];simp
    ·cases e
   ·cases e
  ·cases e
 ·cases e
theorem zgF (k:HRel P B R h w){src dst:TypeId}{x v:AV}{x':Value}(e:zcp P h src dst x=some v)(hx:VRel R x x') :
 ∃ v',(convert src dst x').run P w=.ok v' w∧VRel R v v':=by
 unfold zcp at e;split at e
 ·cases e
 ·rename_i dd hs;split at e
  ·cases e
  ·rename_i u hd;split at e
   ·rename_i kk;unfold zmc at e;split at e
    ·cases hx; cases e;exact ⟨_,by simp only [convert,Sem.run_bind,za w hs,za w hd,Result.andThen_ok]; cases dd <;> rfl,rfl⟩
    ·cases e
   ·exact zd4 (_us:=0) (_ud:=0) k hs hd rfl e hx
   ·split at e
    ·cases e
    ·rename_i t ht;unfold vU at ht;split at ht
     ·rename_i e0 he0; cases ht;exact zcu k he0 hd e hx
     ·cases ht
   ·split at e
    ·rename_i ht;unfold ze3 at ht;split at ht
     ·rename_i he0; exact zaE k he0 hd e hx
     ·cases ht
    ·cases e
   ·cases e
theorem wG {ck:TypeId→AV→Bool}{ck':TypeId→Value→Sem Unit}(w:World)(hq:∀ t x x',ck t x=true→VRel R x x'→(ck' t x').run P w=.ok () w)
 {cs:List AV} {cs':List Value} (hx:VRels R cs cs'):∀ {fs:List Field},jl P ck cs fs=true →
 (forIn fs PUnit.unit fun f _=>do
  if f.name ≠ "_" then
   ck' f.type (← part f.type cs'.toArray f.offset)
   pure (.yield ⟨⟩)
  else pure (.yield ⟨⟩):Sem PUnit).run P w=.ok ⟨⟩ w
 | [],_=>by simp
 | f::r,e=>by
  simp only [jl,Bool.and_eq_true] at e;obtain ⟨e1,e2⟩:=e;have ih:=wG w hq hx e2;split at e1
  ·rename_i hn;split at e1
   ·cases e1
   ·rename_i v hv;obtain ⟨v',ev',rv⟩:=xz w hv hx;simp only [List.forIn_cons,Sem.run_bind,hn,ne_eq,not_false_eq_true,if_true,ev',Result.andThen_ok,hq _ _ _ e1 rv,Sem.run_pure];exact ih
  ·rename_i hn;simp only [List.forIn_cons,Sem.run_bind,hn,if_false,Sem.run_pure,Result.andThen_ok];exact ih
theorem vD {ck:AV→Bool}{ck':Value→Sem Unit}{el:TypeId}{inf:TypeInfo}(w:World)(hi:P.info? el=some inf)(hq:∀ x x',ck x=true→VRel R x x'→(ck' x').run P w=.ok () w)
 {cs:List AV} {cs':List Value} (hx:VRels R cs cs'):∀ {n i:Nat},zaS P ck el inf.size cs n i=true →
 (forIn (List.range' i n) PUnit.unit fun i _=>do
  ck' (← part el cs'.toArray (i*(← sizeOf el)))
  pure (.yield ⟨⟩):Sem PUnit).run P w=.ok ⟨⟩ w
 | 0,_,_=>by simp
 | n+1,i,e=>by
  simp only [zaS,Bool.and_eq_true] at e;obtain ⟨e1,e2⟩:=e;have ih:=vD w hi hq hx e2;rw [List.range'_succ];split at e1
  ·cases e1
  ·rename_i v hv;obtain ⟨v',ev',rv⟩:=xz w hv hx;simp only [List.forIn_cons,Sem.run_bind,zj w hi,ev',Result.andThen_ok,hq _ _ e1 rv,Sem.run_pure];exact ih
theorem ya (w:World):∀ {d:Nat} {t:TypeId} {x:AV} {x':Value} (em:Bool) (D:Nat),jH P d t x=true→VRel R x x'→(Instr.checkKey em (D+d) t x').run P w=.ok () w
 | 0,t,x,x',em,D,e,_=>by simp [jH] at e
 | d+1,t,x,x',em,D,e,hx=>by
  have ih:∀ t x x',jH P d t x=true→VRel R x x'→(Instr.checkKey em (D+d) t x').run P w=.ok () w:=fun t x x' e hx=>ya w em D e hx;simp only [jH] at e;split at e
  ·cases e
  ·rename_i u hu;rw [show D+(d+1)=(D+d)+1 from rfl,Instr.checkKey]
   simp only [Sem.run_bind,za w hu,Result.andThen_ok];split at e
   ·cases x' <;> rfl
   ·cases x' <;> rfl
   ·cases x' <;> rfl
   ·rename_i n el;unfold zoW at e;split at e
    ·obtain ⟨a,rfl,ha⟩:=hx;split at e
     ·cases e
     ·rename_i s hs;obtain ⟨inf,hi,rfl⟩:=zw hs;have:=vD (P:=P) w hi (fun x x'=>ih el x x') ha e;simp only [Std.Legacy.Range.forIn_eq_forIn_range',Std.Legacy.Range.size,Nat.sub_zero,Nat.add_one_sub_one,Nat.div_one] at this ⊢;simpa using this
    ·cases e
   ·rename_i fs;unfold zoj at e;split at e
    ·obtain ⟨a,rfl,ha⟩:=hx;have:=wG (P:=P) w (fun t x x'=>ih t x x') ha e;simp only [← Array.forIn_toList];simpa using this
    ·cases e
   ·cases e
def zkP (P:Program) (h:AHeap) (kt:TypeId) (key:AV) (es:List AEntry) (es':List MapEntry) (i:Nat):Option (Nat × AEntry)→Option (Nat × Value)→Prop
 | none,r'=>r'=none
 | some (j,a),r'=>∃ b,i≤j∧es[j - i]?=some a∧es'[j - i]?=some b∧r'=some (j,b.val)∧eqA P h 9 kt key a.key=some true
theorem we (k:HRel P B R h w){kt:TypeId}{key:AV}{key':Value}(hk:VRel R key key'):∀ {es:List AEntry} {es':List MapEntry} {i:Nat} {r:Option (Nat × AEntry)},
 zdH (eqA P h 9 kt) key es i=some r→All2 (zrc R) es es' →
 ∃ r',(Instr.findAsking kt key' es' i).run P w=.ok r' w∧zkP P h kt key es es' i r r'
 | [],es',i,r,e,he=>by
  cases he;simp [zdH] at e; subst e;exact ⟨none,by simp [Instr.findAsking],rfl⟩
 | a::es,es',i,r,e,he=>by
  obtain ⟨b,bs,rfl,hab,hrest⟩:=he;simp only [zdH] at e;split at e
  ·cases e
  ·rename_i bb hb;have heq:=qI k hb hk hab.1;split at e
   ·cases e;exact ⟨some (i,b.val),by simp [Instr.findAsking,heq],b,Nat.le_refl _,by simp,by simp,rfl,hb⟩
   ·obtain ⟨r',e1,e2⟩:=we k hk e hrest;refine ⟨r',by simp [Instr.findAsking,heq,e1],?_⟩;cases r with
    | none=>exact e2
    | some ja =>
     obtain ⟨j,a'⟩:=ja;obtain ⟨c,g1,g2,g3,g4,g5⟩:=e2;have hj:j - i=(j - (i+1))+1:=by omega
     exact ⟨c,by omega,by rw [hj]; simpa using g2,by rw [hj]; simpa using g3,g4,g5⟩
theorem zjj {u:TypeDesc}{kt:TypeId}{x y:AV}{x' y':Value}{b:Bool}(_k:HRel P B R h w)(hu:P.underlying kt=some u)(e:eqA P h 9 kt x y=some b)(hx:VRel R x x')(hy:VRel R y y') :
 Instr.sameNow u x' y'=some b∨Instr.sameNow u x' y'=none:=by
 simp only [eqA,hu] at e;split at e
 ·unfold eqB at e;split at e
  ·split at e
   ·cases e; cases hx; cases hy; left; rfl
   ·cases e
  ·cases e
 ·unfold eqN at e;split at e
  ·split at e
   ·cases hx; cases hy;split at e
    ·rename_i hk; subst hk; cases e; left; simp [Instr.sameNow]
    ·cases e
   ·cases e
  ·cases e
 ·unfold eqT at e;split at e
  ·split at e
   ·cases e; cases hx; cases hy; left; simp only [Instr.sameNow,zfW]
   ·cases e
  ·cases e
 all_goals first | (right; rfl) | cases e
theorem yz (k:HRel P B R h w){kt:TypeId}{key:AV}{key':Value}(hk:VRel R key key'){es:List AEntry}{es':List MapEntry}{r:Option (Nat × AEntry)}{u:TypeDesc}(hu:P.underlying kt=some u)
 (e:zdH (eqA P h 9 kt) key es 0=some r) (he:All2 (zrc R) es es') :
 ∃ r',(Instr.findKey kt key' es').run P w=.ok r' w∧zkP P h kt key es es' 0 r r':=by
 obtain ⟨r',e1,e2⟩:=we k hk e he;refine ⟨r',?_,e2⟩;simp only [Instr.findKey,Sem.run_bind,za w hu,Result.andThen_ok];have hn:Instr.findNow u key' es' 0=some r'∨Instr.findNow u key' es' 0=none:=by
  clear e2;generalize hi:0=i at e e1 ⊢;clear hi
  induction es generalizing es' i r r' with
  | nil =>
   cases he;simp [Instr.findAsking] at e1; subst e1; exact .inl rfl
  | cons a es ih =>
   obtain ⟨b,bs,rfl,hab,hrest⟩:=he;simp only [zdH] at e;split at e
   ·cases e
   ·rename_i bb hb;have heq:=qI k hb hk hab.1;simp only [Instr.findAsking,Sem.run_bind,heq,Result.andThen_ok] at e1;simp only [Instr.findNow];rcases zjj k hu hb hk hab.1 with h1 | h1
    ·rw [h1];cases bb with
     | true=>simp at e1; subst e1; exact .inl rfl
     | false =>
      simp at e1 e;apply ih <;> assumption
    ·rw [h1]; exact .inr rfl
 rcases hn with hn | hn
 ·rw [hn]; rfl
 ·rw [hn]; exact e1
theorem yJ {t kt el:TypeId}(e:zf0 P t=some (kt,el)):P.underlying t=some (.map kt el):=by
 unfold zf0 at e;split at e
 ·rename_i a b hab; cases e; exact hab
 ·cases e
theorem jc {d:Nat}{t:TypeId}{x:AV}(e:jH P d t x=true):∃ u,P.underlying t=some u:=by
 cases d with
 | zero=>simp [jH] at e
 | succ d =>
  simp only [jH] at e;split at e
  ·cases e
  ·rename_i u hu; exact ⟨u,hu⟩
theorem vd {ok b:Bool}{v r:AV}{v':Value}(e:zmR ok v b=some r)(hv:VRel R v v'):VRel R r (if ok then .tuple #[v',.bool b] else v'):=by
 unfold zmR at e;split at e
 ·cases e; exact ⟨[v',.bool b],by simp,.cons hv (.cons rfl .nil)⟩
 ·cases e; exact hv
theorem zdg (k:HRel P B R h w){t:TypeId}{m key v:AV}{m' key':Value}{ok:Bool}(e:zbw P h t m key ok=some v)(hm:VRel R m m')(hk:VRel R key key') :
 ∃ v',(Instr.lookup t m' key' ok).run P w=.ok v' w∧VRel R v v':=by
 unfold zbw at e;split at e
 ·cases e
 ·rename_i kt el hmo;have hmap:=yJ hmo;have go:∀ {es:List AEntry} {es':Array MapEntry} {r:Option (Nat × AEntry)},jH P 9 kt key=true→zdH (eqA P h 9 kt) key es 0=some r→All2 (zrc R) es es'.toList →
   (match r with
    | some (_,a)=>zmR ok a.val true
    | none=>match qj P el with
     | none=>none
     | some z=>zmR ok z false)=some v →
   ∃ v',(do
    Instr.checkKey es'.isEmpty 10000 kt key'
    let (v,ok') ← match ← Instr.findKey kt key' es'.toList with
     | some (_,v)=>pure (v,true)
     | none=>pure (← zeroValue el,false)
    pure (if ok then .tuple #[v,.bool ok'] else v):Sem Value).run P w=.ok v' w∧VRel R v v':=by
   intro es es' r hko hf hes hr;obtain ⟨u,hu⟩:=jc hko;obtain ⟨r',e1,e2⟩:=yz k hk hu hf hes;have hck:=ya w es'.isEmpty 9991 hko hk;simp only [Sem.run_bind,hck,Result.andThen_ok,e1];cases r with
   | none =>
    cases e2;simp only [] at hr;split at hr
    ·cases hr
    ·rename_i z hz;obtain ⟨inf,zv,hi,hzv,hzr⟩:=zI R hz;exact ⟨_,by simp [zo w hi hzv],vd hr hzr⟩
   | some ja =>
    obtain ⟨j,a⟩:=ja;obtain ⟨b,_,g1,g2,rfl,_⟩:=e2;simp only [Nat.sub_zero] at g1 g2;obtain ⟨b',hb',hab⟩:=hes.get j a g1;rw [g2] at hb'; cases hb';exact ⟨_,by simp,vd hr hab.2.1⟩
  have fin:∀ {r:Option (Nat × AEntry)},vQ P h kt key m=some r→jH P 9 kt key=true∧∃ es,yK h m=some es∧zdH (eqA P h 9 kt) key es 0=some r:=by
   intro r hr;unfold vQ at hr;split at hr
   ·rename_i hko;split at hr
    ·cases hr
    ·rename_i es hes;exact ⟨hko,es,hes,hr⟩
   ·cases hr
  have ent:∀ {es:List AEntry},yK h m=some es→(m'=.map none∧es=[])∨∃ (i:Nat) (L:Loc) (es':Array MapEntry) (clock:Nat),m=.mp i∧m'=.map (some L.block)∧w.heap[L.block]?=some (.map es' clock)∧All2 (zrc R) es es'.toList:=by
   intro es hes;unfold yK at hes;split at hes
   ·cases hes; cases hm; exact .inl ⟨rfl,rfl⟩
   ·rename_i i;split at hes
    ·rename_i es0 clock ho;cases hes;obtain ⟨L,hL,rfl⟩:=hm;obtain ⟨L',es',hL',hh,hr⟩:=k.obj' hL ho;rw [hL] at hL'; cases hL';exact .inr ⟨i,L,es',clock,rfl,rfl,hh,hr⟩
    ·cases hes
   ·cases hes
  have all:∀ {r:Option (Nat × AEntry)},vQ P h kt key m=some r →
   (match r with
    | some (_,a)=>zmR ok a.val true
    | none=>match qj P el with
     | none=>none
     | some z=>zmR ok z false)=some v→∃ v',(Instr.lookup t m' key' ok).run P w=.ok v' w∧VRel R v v':=by
   intro r hr hv;obtain ⟨hko,es,hes,hf⟩:=fin hr;rcases ent hes with ⟨rfl,rfl⟩ | ⟨i,L,es',clock,rfl,rfl,hh,hrel⟩
   ·obtain ⟨v',e1,e2⟩:=go (es':=#[]) hko hf rfl hv;refine ⟨v',Eq.trans ?_ e1,e2⟩;simp only [Instr.lookup,Sem.run_bind,za w hmap,Result.andThen_ok,Sem.run_pure];rfl
   ·obtain ⟨v',e1,e2⟩:=go hko hf hrel hv;refine ⟨v',Eq.trans ?_ e1,e2⟩;simp only [Instr.lookup,Sem.run_bind,za w hmap,Result.andThen_ok];have hg:(getObj L.block).run P w=.ok (.map es' clock) w:=by simp [getObj,Sem.run,hh]
    simp only [hg,Result.andThen_ok,Sem.run_pure,Sem.run_bind];rfl
  split at e
  ·cases e
  ·rename_i a hfi;exact all hfi e
  ·rename_i hfi;exact all hfi e
end
end Go.Proofs.Ytcdigdplhlgcaaa.Ev
end
section
namespace Go.Proofs.Ytcdigdplhlgcaaa.Ev
open Go
section
variable {P:Program} {B:Base} {R:Bij} {h:AHeap} {w:World}
theorem wO {t:TypeId}{ok:Bool}{v:AV}(R:Bij)(_w:World)(e:zeG P t ok=some v) :
 ok=true∧∃ i z,P.info? t=some i∧i.zero=some z∧VRel R v (.tuple #[z,.bool false]):=by
 unfold zeG at e;split at e
 ·cases e
 ·split at e
  ·cases e
  ·rename_i z hz;cases e;obtain ⟨inf,zv,hi,hzv,hzr⟩:=zI R hz;exact ⟨rfl,inf,zv,hi,hzv,[zv,.bool false],rfl,.cons hzr (.cons rfl .nil)⟩
theorem zb2 (want:Array (String × TypeId))(got:Array Method):(want.toList.filter fun (x:String × TypeId)=>!got.any fun m=>m.name==x.1&&m.sig==x.2)=want.toList.filter fun p=>!(got.toList.any fun m=>m.name==p.1&&m.sig==p.2):=by
 congr 1;funext p;rw [Array.any_toList]
theorem zkb {want:Array (String × TypeId)}{got:Array Method}(h:zmJ want got=false):Instr.missingMethod want got=none:=by
 have he:(want.toList.filter fun (x:String × TypeId)=>!got.any fun m=>m.name==x.1&&m.sig==x.2)=[]:=by
  rw [zb2,List.filter_eq_nil_iff];intro p hp;unfold zmJ at h;rw [List.any_eq_false] at h;exact h p hp
 unfold Instr.missingMethod;simp only [he,List.map_nil,List.partition_eq_filter_filter,List.filter_nil];rfl
theorem zks {want:Array (String × TypeId)}{got:Array Method}(h:zmJ want got=true):∃ m,Instr.missingMethod want got=some m:=by
 have hne:((want.toList.filter fun (x:String × TypeId)=>!got.any fun m=>m.name==x.1&&m.sig==x.2).map (·.1))≠[]:=by
  rw [zb2];unfold zmJ at h;rw [List.any_eq_true] at h;obtain ⟨p,hp,hq⟩:=h;intro e;have:p∈want.toList.filter fun p=>!(got.toList.any fun m=>m.name==p.1&&m.sig==p.2):=List.mem_filter.2 ⟨hp,hq⟩;rw [List.map_eq_nil_iff] at e;rw [e] at this;cases this
 unfold Instr.missingMethod;generalize ((want.toList.filter fun (x:String × TypeId)=>!got.any fun m=>m.name==x.1&&m.sig==x.2).map (·.1))=l at hne ⊢;simp only [List.partition_eq_filter_filter];cases h1:l.filter (fun x=>!x.contains (Char.ofNat 46)) with
 | cons a r =>
  have h2:List.filter (not∘fun x=>x.contains (Char.ofNat 46)) l=a::r:=h1;rw [h2];exact ⟨_,rfl⟩
 | nil =>
  have h2:List.filter (not∘fun x=>x.contains (Char.ofNat 46)) l=[]:=h1;rw [h2];cases h3:l.filter (fun x=>x.contains (Char.ofNat 46)) with
  | cons a r =>
   exact ⟨_,rfl⟩
  | nil =>
   exfalso;cases l with
   | nil=>exact hne rfl
   | cons a r =>
    have e1:=List.filter_eq_nil_iff.1 h1 a List.mem_cons_self;have e2:=List.filter_eq_nil_iff.1 h3 a List.mem_cons_self;cases h:a.contains (Char.ofNat 46) with
    | true=>exact e2 h
    | false =>
     rw [h] at e1;exact e1 rfl
theorem zdf {x v:AV}{x':Value}{xt t:TypeId}{ok:Bool}(w:World)(e:zgy P x t ok=some v)(hx:VRel R x x') :
 ∃ v',(Instr.typeAssert x' xt t ok).run P w=.ok v' w∧VRel R v v':=by
 unfold zgy at e;split at e
 ·cases e
 ·rename_i u hu;split at e
  ·cases hx;obtain ⟨rfl,i,z,hi,hz,hr⟩:=wO R w e;refine ⟨_,?_,hr⟩;cases u <;> simp [Instr.typeAssert,za w hu,zo w hi hz]
  ·rename_i ti y;obtain ⟨y',rfl,hy⟩:=hx;split at e
   ·rename_i want;unfold zjX at e;split at e
    ·cases e
    ·rename_i inf hinf;split at e
     ·rename_i hmm;refine ⟨_,?_,vd e (show VRel R (.ifc ti y) (.iface ti y') from ⟨y',rfl,hy⟩)⟩
      simp [Instr.typeAssert,za w hu,zA w hinf,zkb hmm]
     ·rename_i hmm;obtain ⟨s,hmm⟩:=zks hmm;obtain ⟨rfl,i,z,hi,hz,hr⟩:=wO R w e;refine ⟨_,?_,hr⟩;simp [Instr.typeAssert,za w hu,zA w hinf,hmm,zo w hi hz]
   ·rename_i hni;split at e
    ·rename_i ht;subst ht;refine ⟨_,?_,vd e hy⟩;cases u <;> first | exact absurd rfl (hni _) | simp [Instr.typeAssert,za w hu]
    ·rename_i ht;obtain ⟨rfl,i,z,hi,hz,hr⟩:=wO R w e;refine ⟨_,?_,hr⟩;cases u <;> first | exact absurd rfl (hni _) | simp [Instr.typeAssert,za w hu,ht,zo w hi hz]
  ·cases e
theorem zcs {t:TypeId}{x v:AV}{x':Value}(w:World)(e:zdN P t x=some v)(hx:VRel R x x') :
 ∃ v',(Instr.makeInterface t x').run P w=.ok v' w∧VRel R v v':=by
 unfold zdN at e;split at e
 ·cases e
 ·rename_i u hu;split at e
  ·cases e
  ·rename_i hni;cases e;refine ⟨.iface t x',?_,x',rfl,hx⟩;cases u <;> first | exact absurd rfl (hni _) | simp [Instr.makeInterface,za w hu]
theorem zgU {t e:TypeId}(h:vU P t=some e):P.underlying t=some (.pointer e):=by
 unfold vU at h;split at h
 ·rename_i x hx; cases h; exact hx
 ·cases h
theorem zgP {t:TypeId}{u:TypeDesc}(h:vU P t=none)(hu:P.underlying t=some u):∀ e,u≠.pointer e:=by
 intro e he; subst he; simp [vU,hu] at h
theorem zqV {argTypes:Array TypeId}{t:TypeId}{a:Addr}{x y:ByteArray}(w:World) :
 (Builtin.ssaWrapNilChk_ argTypes t #[.pointer (some a),.string x,.string y]).run P w=.ok (.pointer (some a)) w:=rfl
theorem zdP (k:HRel P B R h w){t:TypeId}{v r:AV}{v':Value}{name:String}{f:FuncId}(e:zg9 P h t v name=some (f,r))(hv:VRel R v v')(n:Nat) :
 ∃ r',(method (n+1) t v' name).run P w=.ok (f,r') w∧VRel R r r':=by
 unfold zg9 at e;split at e
 ·cases e
 ·rename_i inf hinf;split at e
  ·cases e
  ·rename_i m hm;split at e
   ·rename_i hp;split at e
    ·cases e
    ·rename_i g isPtr hf;split at e
     ·cases e
     ·rename_i u hu;unfold zpH at e;split at e
      ·rename_i el hel;have hptr:=zgU hel;rw [hu] at hptr; cases hptr;split at e
       ·cases e;refine ⟨v',?_,hv⟩;simp [method,zA w hinf,hm,hp,follow,hf,receiverAt,za w hu,Place.get]
       ·split at e
        ·rename_i i0 r0 o0;split at e
         ·cases e
         ·rename_i x hl;cases e;have hv0:=hv;obtain ⟨L,hL,hmm,rfl⟩:=hv;obtain ⟨x',e1,e2⟩:=qF k hl hv0;refine ⟨x',?_,e2⟩;have e1':(loadVar el ⟨L.block,o0 - L.minus,none⟩).run P w=.ok x' w:=by simpa [Instr.loadAt,Instr.sureAddr] using e1
          have hpe:m.path=#[]:=by apply Array.ext'; simpa using hp
          simp [method,zA w hinf,hm,follow,hf,receiverAt,za w hu,Place.get,hpe,strVal,zqV,asAddr,e1']
        ·cases e
      ·rename_i hel;have hnp:=zgP hel hu;split at e
       ·cases e
       ·cases e;refine ⟨v',?_,hv⟩;cases u <;> first | exact absurd rfl (hnp _) | simp [method,zA w hinf,hm,hp,follow,hf,receiverAt,za w hu,Place.get]
   ·rename_i s rest hp;split at e
    ·cases e
    ·split at e
     ·cases e
     ·rename_i g isPtr hf;unfold hopA at e;split at e
      ·cases e
      ·rename_i hd;split at e
       ·rename_i fs hs;split at e
        ·cases e
        ·rename_i fl hfl;split at e
         ·cases e
         ·rename_i u hu;split at e
          ·cases e
          ·rename_i hnp;split at e
           ·rename_i i0 r0 o0;obtain ⟨L,hL,hmm,rfl⟩:=hv;unfold zrB zaO at e;simp only at e;split at e
            ·cases e
            ·rename_i q hq;split at hq
             ·cases hq
             ·cases hq
             ·rename_i sz hsz;cases hq;obtain ⟨inf2,hi2,hsz2⟩:=zw hsz;have hfp:(fieldPlace ⟨L.block,o0 - L.minus,none⟩ fl).run P w=.ok ⟨L.block,o0+fl.offset - L.minus,none⟩ w:=by
               have:inf2.size≠0:=by omega
               simp [fieldPlace,zj w hi2,this,add_plain];omega
              have hq:VRel R (.ptr i0 r0 (o0+fl.offset)) (.pointer (some ⟨L.block,o0+fl.offset - L.minus,none⟩)):=⟨L,hL,by omega,rfl⟩;split at e
              ·cases e;refine ⟨_,?_,hq⟩;cases u <;> first | exact absurd rfl (hnp _) | simp [method,zA w hinf,hm,hp,follow,za w hs,hfl,hd,Place.get,asAddr,hfp,hf,receiverAt,za w hu]
              ·split at e
               ·cases e
               ·rename_i x hl;cases e;obtain ⟨x',e1,e2⟩:=qF k hl hq;have e1':(loadVar fl.type ⟨L.block,o0+fl.offset - L.minus,none⟩).run P w=.ok x' w:=by simpa [Instr.loadAt,Instr.sureAddr] using e1
                refine ⟨x',?_,e2⟩;cases u <;> first | exact absurd rfl (hnp _) | simp [method,zA w hinf,hm,hp,follow,za w hs,hfl,hd,Place.get,asAddr,hfp,hf,receiverAt,za w hu,e1']
           ·cases e
       ·cases e
theorem zga {len s:Nat}(h:len*s≤2 ^ 24)(h0:0<s):len≤9223372036854775807:=by
 have h1:=Nat.le_mul_of_pos_right len h0;have h2:=Nat.le_trans h1 h;clear h h1 h0;omega
theorem zb4 (k:HRel P B R h w)(hB:B.n≤w.heap.size){el:TypeId}{l:List AV}{vs:List Value}{kap:Nat}{w':World}(hr:VRels R l vs)(hk:kap*P.cellsOf el=l.length)(hkb:kap≤9223372036854775807)
 (hh:w'.heap=w.heap.push (.cells vs.toArray el)) (hos:w'.os=w.os) (ht:w'.tape=w.tape) (hout:w'.output=w.output) (hdr:w.drawn≤w'.drawn:=by first | exact Nat.le_refl _ | exact Nat.le_succ _ | assumption) :
 HRel P B (R.upd h.next 0 ⟨w.heap.size,0,kap⟩) (xu h el l false) w'∧Keeps R w (R.upd h.next 0 ⟨w.heap.size,0,kap⟩) w':=by
 have hfree:=k.fresh h.next (Nat.le_refl _);refine k.new hB _ _ ⟨w.heap.size,0,kap⟩ rfl hh hos ht hout ?_;refine ⟨Nat.le_refl _,by omega,fun r hr'=>?_,fun r e h1 h2 h3=>?_,fun r e h1 h2 h3=>?_⟩;rotate_left 2
 ·obtain rfl:r=0:=by omega
  simp [zG] at h3; omega
 ·rw [R.upd_other _ (by omega)]; exact hfree r
 ·obtain rfl:r=0:=by omega
  simp [zG] at h3; subst h3;refine ⟨_,R.upd_same _ _ _,vs.toArray,0,0,?_,by simp [hr.length],by simp [hr.length,hk],⟨⟨Nat.le_refl _,fun _=>Nat.le_trans hkb (Nat.le_add_left _ _)⟩,fun j a b=>by omega⟩,fun j x a _ c=>?_⟩
  ·rw [hh]; simp
  ·rw [zk] at c;simp only [Nat.zero_le,true_and,Nat.zero_add,Nat.sub_zero] at c ⊢;rw [if_pos a] at c;obtain ⟨y,hy,hyr⟩:=hr.get j x c;exact ⟨y,by simpa using hy,VRel.mono (R.le_upd _ (hfree 0)) _ _ hyr⟩
theorem zls {kap n:Nat}{i:Nat}(R:Bij):VRel (R.upd i 0 ⟨n,0,kap⟩) (.ptr i 0 0) (.pointer (some ⟨n,0,none⟩)) :=
 ⟨⟨n,0,kap⟩,R.upd_same _ _ _,by simp,by simp⟩
def OpRel (P:Program) (B:Base) (R:Bij) (w:World) (s:Sem Next):AR→Prop
 | .val v h'=>∃ R' v' w',s.run P w=.ok (.value v') w'∧VRel R' v v'∧HRel P B R' h' w'∧Keeps R w R' w'
 | .skip h'=>∃ R' w',s.run P w=.ok .skip w'∧HRel P B R' h' w'∧Keeps R w R' w'
 | .enter f args h'=>∃ (aS:List Value),s.run P w=.ok (.enter f aS.toArray) w∧VRels R args aS∧HRel P B R h' w
 | .round i args=>∃ (L:Loc) (aS:List Value),R i 0=some L∧VRels R args aS∧s.run P w=(Instr.yield L.block aS.toArray).run P w
 | .dfr d=>∃ d',s.run P w=.ok (.defer d') w∧DefRel R d d'
 | .recover=>s.run P w=.ok .recover w
 | .panic v=>∃ v',s.run P w=.halt (.panic v') w∧VRel R v v'
theorem zt (k:HRel P B R h w){s:Sem Value}{v:AV}(e:∃ v',s.run P w=.ok v' w∧VRel R v v'):OpRel P B R w (do pure (.value (← s))) (.val v h):=by
 obtain ⟨v',e1,e2⟩:=e;exact ⟨R,v',w,by simp [e1],e2,k,Keeps.refl _ _⟩
theorem zcW {l:List AV}{vs:List Value}(hr:VRels R l vs)(ho:l.all AV.one=true):∀ v∈vs,v.oneCell'=true:=by
 intro v hv;obtain ⟨i,hi,rfl⟩:=List.getElem_of_mem hv;have hl:i<l.length:=by rw [← hr.length]; exact hi
 obtain ⟨y,hy,hyr⟩:=hr.get i l[i] (List.getElem?_eq_getElem hl);rw [List.getElem?_eq_getElem hi] at hy; cases hy;exact hyr.one (by rw [List.all_eq_true] at ho; exact ho _ (List.getElem_mem hl))
theorem zcM (k:HRel P B R h w)(hB:B.n≤w.heap.size){t:TypeId}{x v:AV}{h':AHeap}{x':Value}(e:zjL P h t x=some (v,h'))(hx:VRel R x x') :
 ∃ R' v' w',(newVar t x').run P w=.ok v' w'∧VRel R' v (.pointer (some v'))∧HRel P B R' h' w'∧Keeps R w R' w':=by
 unfold zjL at e;split at e
 ·rename_i hc;cases e;have hcx:=hx.cells;have hkap:1*P.cellsOf t=x.cells.length:=by
   obtain ⟨inf,hi,hs⟩:=zw hc.2;rw [zx hi,hs,Nat.one_mul]
  obtain ⟨g1,g2⟩:=zb4 (w':=w.alloc (.cells x'.cells t)) k hB hcx hkap (by decide) (by show w.heap.push (.cells x'.cells t)=w.heap.push (.cells x'.cells.toList.toArray t); simp) rfl rfl rfl;exact ⟨_,⟨w.heap.size,0,none⟩,w.alloc (.cells x'.cells t),by simp [newVar,newRow],zls R,g1,g2⟩
 ·cases e
theorem xJ {w:World}{b:Nat}{o:Obj}(e:w.heap[b]?=some o):b<w.heap.size:=by
 rcases Nat.lt_or_ge b w.heap.size with h' | h'
 ·exact h'
 ·rw [Array.getElem?_eq_none h'] at e; cases e
theorem zu (k:HRel P B R h w){i r off:Nat}{vs:List AV}{h':AHeap}{L:Loc}{vs':List Value}(e:zc h i r off vs=some h')(hL:R i r=some L)(hm:L.minus≤off)(hr:VRels R vs vs') :
 ∃ w',(storeCells ⟨L.block,off - L.minus,none⟩ vs' 0).run P w=.ok () w'∧HRel P B R h' w'∧Keeps R w R w':=by
 unfold zc at e;simp only [T.seq_eq] at e;split at e
 ·rename_i c n el lo hi nv fz sg ex ho;split at e
  ·cases e
  ·rename_i ee he;split at e
   ·rename_i hc;obtain ⟨c1,c2,c3,c4,c5⟩:=hc;cases e;obtain ⟨L',hL',cs,f0,f1,g1,g2,g3,g4,g5⟩:=k.ver hL ho c1 c2 he;rw [hL] at hL'; cases hL';have hlen:=hr.length;have hrun:=wv P L.block (off - L.minus) el f0 f1 vs' 0 w cs g1 (zcW hr c5) (by omega) (fun j a b hj=>by
     rcases g4.2 j hj.1 hj.2 with h1 | h1
     ·omega
     ·omega)
    have hlt:=xJ g1;have hob:=k.obj' hL ho;refine ⟨_,hrun,?_,?_⟩
    ·refine k.touch i _ (k.live hL) R.le_refl (by rw [qe]; exact Nat.le_refl _) ?_ (fun j=>zeh h i j _) (fun _ _ _=>rfl) (fun j r' M hj e=>zF w _ _ _ ?_) ?_ (by rw [xk]; exact Nat.le_refl _) (fun r' M e=>⟨(k.place i r' M e).1,by rw [xk]; exact (k.place i r' M e).2,fun j r'' M' hj e' hb=>hj (k.apart _ _ _ _ _ _ e' e hb (.inr (k.notRo ho rfl)))⟩) (k.same i) (zaT _ _ _) (fun b hb=>zF w _ _ _ (k.off hL (k.notRo ho rfl) hb)) (k.notRo ho rfl)
     ·rw [qe];rcases Nat.lt_or_ge i h.next with h1 | h1
      ·exact h1
      ·rw [k.fresh i h1] at hL; cases hL
     ·exact fun hb=>hj (k.apart _ _ _ _ _ _ e hL hb (.inr (k.notRo ho rfl)))
     ·refine ⟨Nat.le_refl _,by have:=hob.2.1; omega,hob.2.2.1,fun r' e' a1 a2 a3=>?_,fun r' e' a1 a2 a3=>by
       obtain rfl:r'=r:=by omega
       simp [zG] at a3; omega⟩
      obtain rfl:r'=r:=by omega
      simp [zG] at a3; subst a3;refine ⟨L,hL,zfz cs (off - L.minus+0) vs',f0,f1,qG w _ _ _ _ hlt,by rw [xD]; exact g2,by rw [xD]; exact g3,⟨g4.1,fun j a b=>by rw [xD]; exact g4.2 j a b⟩,fun j v a1 a2 a3=>?_⟩;rw [zk] at a3;rw [zaX _ _ _ _ (by omega),hlen];split at a3
      ·rename_i hj;rw [if_pos (by omega)];obtain ⟨y,hy,hyr⟩:=hr.get _ v a3;exact ⟨y,by rw [← hy]; congr 1; omega,hyr⟩
      ·rename_i hj;rw [if_neg (by omega)];exact g5 j v a1 a2 a3
    ·exact ⟨rfl,rfl,rfl,by rw [xk]; exact Nat.le_refl _,R.le_refl,fun b hb hn=>⟨zF w _ _ _ (fun e=>hn i r L hL e.symm),hn⟩,Nat.le_refl _⟩
   ·cases e
 ·cases e
theorem zfO (k:HRel P B R h w){t:TypeId}{p v:AV}{h':AHeap}{p' v':Value}(e:kG P h t p v=some h')(hp:VRel R p p')(hv:VRel R v v') :
 ∃ w',(Instr.storeAt t p' v').run P w=.ok () w'∧HRel P B R h' w'∧Keeps R w R w':=by
 unfold kG at e;split at e
 ·rename_i i r off;obtain ⟨L,hL,hm,rfl⟩:=hp;split at e
  ·cases e
  ·rename_i inf hi;split at e
   ·rename_i hs;have hcv:=hv.cells;obtain ⟨w',e1,e2,e3⟩:=zu k e hL hm hcv;refine ⟨w',?_,e2,e3⟩;have hsz:v'.cells.size=inf.size:=by have:=hcv.length; rw [← hs,← this]; simp
    simp [Instr.storeAt,Instr.sureAddr,storeVar,zj w hi,hsz,e1]
   ·cases e
 ·cases e
theorem zZ (l:List AV):∀ n,(zC l n).length=n*l.length
 | 0=>by simp [zC]
 | n+1=>by simp [zC,zZ l n,Nat.succ_mul]; omega
theorem zbn (l:List AV):∀ (n i:Nat),i<n*l.length→(zC l n)[i]?=l[i % l.length]?
 | 0,i,h=>by simp at h
 | n+1,i,h=>by
  rw [zC,List.getElem?_append];rw [Nat.succ_mul] at h
  by_cases hi:i<l.length
  ·rw [if_pos hi,Nat.mod_eq_of_lt hi]
  ·rw [if_neg hi,zbn l n (i - l.length) (by omega)];congr 1;rw [Nat.mod_eq_sub_mod (by omega:i≥l.length)]
theorem qo {z:AV}{zv:Value}(hz:VRel R z zv)(n:Nat):VRels R (zC z.cells n) ((Array.range (n*zv.cells.size)).map (zv.cells[· % zv.cells.size]!)).toList:=by
 have hc:=hz.cells;have hl:zv.cells.size=z.cells.length:=by have:=hc.length; simpa using this
 refine .of_get (by simp [zZ,hl]) fun i x e=>?_;have hi:i<n*z.cells.length:=by
  rw [← zZ];rcases Nat.lt_or_ge i (zC z.cells n).length with h1 | h1
  ·exact h1
  ·rw [List.getElem?_eq_none h1] at e; cases e
 rw [zbn _ _ _ hi] at e;obtain ⟨y,hy,hyr⟩:=hc.get _ x e;refine ⟨y,?_,hyr⟩;have hpos:0<z.cells.length:=by
  rcases Nat.eq_zero_or_pos z.cells.length with h0 | h0
  ·rw [h0] at hi; omega
  ·exact h0
 have hmod:i % zv.cells.size<zv.cells.size:=Nat.mod_lt _ (by omega);simp only [Array.getElem?_toList,Array.getElem?_map];rw [Array.getElem?_range,if_pos (by rw [hl]; exact hi)];simp only [Option.map_some];rw [Array.getElem?_toList] at hy;rw [← hl] at hy;rw [Array.getElem!_eq_getD,Array.getD_eq_getD_getElem?,hy];rfl
end
end Go.Proofs.Ytcdigdplhlgcaaa.Ev
end
section
namespace Go.Proofs.Ytcdigdplhlgcaaa.Ev
open Go
section
variable {P:Program} {B:Base} {R:Bij} {h:AHeap} {w:World}
def Made (P:Program) (B:Base) (R:Bij) (w:World) (s:Sem Value) (v:AV) (h':AHeap):Prop :=
 ∃ R' v' w',s.run P w=.ok v' w'∧VRel R' v v'∧HRel P B R' h' w'∧Keeps R w R' w'
theorem zdz {kap n o c:Nat}{i:Nat}(R:Bij):VRel (R.upd i 0 ⟨n,0,kap⟩) (.slc i 0 0 o c) (.slice (some ⟨n,0,none⟩) o c) :=
 ⟨⟨n,0,kap⟩,R.upd_same _ _ _,by simp,by simp⟩
theorem zgl {kap n o:Nat}{i:Nat}(R:Bij)(h:o≤kap):VRel (R.upd i 0 ⟨n,0,kap⟩) (.slg i 0 0 o 0) (.slice (some ⟨n,0,none⟩) o kap) :=
 ⟨⟨n,0,kap⟩,⟨n,0,none⟩,R.upd_same _ _ _,by simp,by simp; exact h,by simp,by simp⟩
theorem jW (k:HRel P B R h w)(hB:B.n≤w.heap.size){t:TypeId}{len:Nat}{parts:List (Nat × AV)}{parts':Array (Nat × Value)}{v:AV}{h':AHeap}
 (e:zg P h t len parts=some (v,h')) (hp:All2 (zs3 R) parts parts'.toList):Made P B R w (Instr.buildSlice t len parts') v h':=by
 unfold zg at e;split at e
 ·rename_i el hu;split at e
  ·cases e
  ·rename_i inf hi;split at e
   ·rename_i hsz;split at e
    ·cases e
    ·rename_i z hz;obtain ⟨inf',zv,hi',hzv,hzr⟩:=zI R hz;rw [hi] at hi'; cases hi';split at e
     ·rename_i hc;split at e
      ·cases e
      ·rename_i cells hf;split at e
       ·cases e;have hzl:zv.cells.size=inf.size:=by have:=hzr.cells.length; rw [← hc.1,← this]; simp
        have hzeros:=qo hzr len;rw [hzl] at hzeros;obtain ⟨r',e1,e2,e3⟩:=yH (place':=fun i=>some (i*inf.size,inf.size)) (fun i r h=>h) hf hp hzeros;have hkap:len*P.cellsOf el=cells.length:=by rw [zx hi,e3,zZ,hc.1]
        obtain ⟨g1,g2⟩:=zb4 (w':=w.alloc (.cells r' el)) k hB e2 hkap (zga hsz hc.2) (by show w.heap.push (.cells r' el)=w.heap.push (.cells r'.toList.toArray el); simp) rfl rfl rfl;refine ⟨_,.slice (some ⟨w.heap.size,0,none⟩) len len,w.alloc (.cells r' el),?_,zdz R,g1,g2⟩
        by_cases h0:len*inf.size=0
        ·have hl0:len=0:=by rcases Nat.mul_eq_zero.1 h0 with h | h <;> omega
         subst hl0;have hr0:Array.range 0=#[]:=rfl;simp only [Nat.zero_mul,hr0,Array.map_empty] at e1;simp [Instr.buildSlice,za w hu,zj w hi,hr0,e1,newRow]
        ·have:¬ (2 ^ 24<len*inf.size):=by omega
         simp only [Instr.buildSlice,za w hu,zj w hi,zo w hi hzv,Sem.run_bind,Result.andThen_ok,Sem.run_ite,gt_iff_lt,this,if_false,h0,Sem.run_pure,hzl,e1,newRow,run_newObj,World.alloc_eq]
       ·cases e
     ·cases e
   ·cases e
 ·cases e
theorem zaB (k:HRel P B R h w)(hB:B.n≤w.heap.size){t:TypeId}{l c v:AV}{l' c':Value}{h':AHeap}
 (e:zR P h t l c=some (v,h')) (hl:VRel R l l') (hc:VRel R c c'):Made P B R w (Instr.makeSlice t l' c') v h':=by
 unfold zR at e;split at e
 ·rename_i el hu;split at e
  ·rename_i k1 l0;cases hl;split at e
   ·rename_i k2 c0;cases hc;unfold yF at e;split at e
    ·cases e
    ·rename_i inf hi;split at e
     ·cases e
     ·rename_i z hz;obtain ⟨inf',zv,hi',hzv,hzr⟩:=zI R hz;rw [hi] at hi'; cases hi';split at e
      ·rename_i hcond;obtain ⟨c1,c2,c3,c4,c5,c6,c7⟩:=hcond;cases e;have hzl:zv.cells.size=inf.size:=by have:=hzr.cells.length; rw [← c5,← this]; simp
       have hzeros:=qo hzr c0.toNat
       rw [hzl] at hzeros;have hkap:c0.toNat*P.cellsOf el=(zC z.cells c0.toNat).length:=by rw [zx hi,zZ,c5]
       obtain ⟨g1,g2⟩:=zb4 (w':=w.alloc (.cells ((Array.range (c0.toNat*inf.size)).map (zv.cells[· % inf.size]!)) el)) k hB hzeros hkap (by omega) (by rw [Array.toArray_toList]; rfl) rfl rfl rfl;refine ⟨_,.slice (some ⟨w.heap.size,0,none⟩) l0.toNat c0.toNat,_,?_,zdz R,g1,g2⟩;have w1:IntKind.i64.wrap l0=l0:=by simp only [IntKind.wrap,IntKind.bits,IntKind.signed]; simp; omega
       have w2:IntKind.i64.wrap c0=c0:=by simp only [IntKind.wrap,IntKind.bits,IntKind.signed]; simp; omega
       have b1:(decide (c0<0) || decide ((inf.bytes:Int)*c0 > 2 ^ 48))=false:=by simp; omega
       have b2:decide (l0<0)=false:=by simp; omega
       have b3:decide (l0 > c0)=false:=by simp; omega
       simp only [Instr.makeSlice,Sem.run_bind,za w hu,Result.andThen_ok,asInt,asIntOf,Sem.run_pure,zA w hi,w1,w2,b1,b2,b3,Bool.or_self,Bool.false_eq_true,if_false,run_askRoom,zj w hi]
       by_cases h0:c0.toNat*inf.size=0
       ·have hc0:c0.toNat=0:=by rcases Nat.mul_eq_zero.1 h0 with h | h <;> omega
        have hr0:Array.range 0=#[]:=rfl;simp [hc0,newRow,hr0]
       ·simp only [h0,if_false,Sem.run_bind,zo w hi hzv,Result.andThen_ok,Sem.run_pure,hzl,newRow,run_newObj,World.alloc_eq]
      ·cases e
   ·cases e
  ·cases e
 ·cases e
theorem jv (k:HRel P B R h w)(hB:B.n≤w.heap.size)(o:AObj)(ob:Obj)
 (ho:∀ R':Bij,R.le R'→R' h.next 0=some ⟨w.heap.size,0,0⟩→ObjRel P R' (w.alloc ob) h.next o) :
 HRel P B (R.upd h.next 0 ⟨w.heap.size,0,0⟩) (h.new o) (w.alloc ob)∧Keeps R w (R.upd h.next 0 ⟨w.heap.size,0,0⟩) (w.alloc ob) :=
 k.new hB o ob ⟨w.heap.size,0,0⟩ rfl rfl rfl rfl rfl (ho _ (R.le_upd _ (k.fresh _ (Nat.le_refl _) 0)) (R.upd_same _ _ _))
theorem zfA (k:HRel P B R h w)(hB:B.n≤w.heap.size):∃ R',VRel R' (.mp h.next) (.map (some w.heap.size))∧HRel P B R' (h.new (.map [] 0)) (w.alloc (.map #[] 0))∧Keeps R w R' (w.alloc (.map #[] 0)):=by
 obtain ⟨g1,g2⟩:=jv k hB (.map [] 0) (.map #[] 0) (fun R' _ e=>⟨_,#[],e,xp w _,rfl⟩);exact ⟨_,⟨_,R.upd_same _ _ _,rfl⟩,g1,g2⟩
theorem zek (k:HRel P B R h w)(hB:B.n≤w.heap.size)(s:List UInt8):∃ R',VRel R' (.ptr h.next 0 0) (.pointer (some ⟨w.heap.size,0,none⟩))∧HRel P B R' (h.new (.iter s 0)) (w.alloc (.stringIter ⟨s.toArray⟩ 0))∧Keeps R w R' (w.alloc (.stringIter ⟨s.toArray⟩ 0)):=by
 obtain ⟨g1,g2⟩:=jv k hB (.iter s 0) (.stringIter ⟨s.toArray⟩ 0) (fun R' _ e=>⟨_,e,xp w _⟩);exact ⟨_,⟨_,R.upd_same _ _ _,Nat.le_refl _,rfl⟩,g1,g2⟩
def xv (w:World) (b:Nat) (o:Obj):World:={ w with heap:=w.heap.setIfInBounds b o }
theorem zX (w:World)(b:Nat)(o:Obj)(h:b<w.heap.size):(xv w b o).heap[b]?=some o:=by simp [xv,h]
theorem wL (w:World){b b':Nat}(o:Obj)(h:b'≠b):(xv w b o).heap[b']?=w.heap[b']?:=by
 simp only [xv]; rw [Array.getElem?_setIfInBounds,if_neg (fun e=>h e.symm)]
theorem ki (w:World)(b:Nat)(o:Obj):(xv w b o).heap.size=w.heap.size:=by simp [xv]
theorem xF (k:HRel P B R h w){i:Nat}{L:Loc}(hL:R i 0=some L)(hnr:¬ B.ro i)(o:AObj)(ob:Obj)
 (ho:ObjRel P R (xv w L.block ob) i o):HRel P B R (h.put i o) (xv w L.block ob)∧Keeps R w R (xv w L.block ob):=by
 have hi:i<h.next:=by
  rcases Nat.lt_or_ge i h.next with h1 | h1
  ·exact h1
  ·rw [k.fresh i h1] at hL; cases hL
 refine ⟨k.touch i _ (k.live hL) R.le_refl (by rw [qe]; exact Nat.le_refl _) (by rw [qe]; exact hi) (fun j=>zeh h i j _) (fun _ _ _=>rfl) (fun j r' M hj e=>wL w _ (fun hb=>hj (k.apart _ _ _ _ _ _ e hL hb (.inr hnr)))) ho (by rw [ki]; exact Nat.le_refl _) (fun r' M e=>⟨(k.place i r' M e).1,by rw [ki]; exact (k.place i r' M e).2,fun j r'' M' hj e' hb=>hj (k.apart _ _ _ _ _ _ e' e hb (.inr hnr))⟩) (k.same i) (zaT _ _ _) (fun b hb=>wL w _ (k.off hL hnr hb)) hnr,?_⟩;exact ⟨rfl,rfl,rfl,by rw [ki]; exact Nat.le_refl _,R.le_refl,fun b hb hn=>⟨wL w _ (fun e=>hn i 0 L hL e.symm),hn⟩,Nat.le_refl _⟩
theorem xc (P:Program){w:World}{b:Nat}{o ob:Obj}(e:w.heap[b]?=some o)(hc:∀ c t z,o≠.cells c t z):(setObj b ob).run P w=.ok () (xv w b ob):=by
 cases o <;> first | exact absurd rfl (hc _ _ _) | (simp [setObj,Sem.run,e,xv])
theorem zgX (k:HRel P B R h w){x:AV}{x':Value}{s:Bool}{ty:TypeId}{r:AR}(e:znH h x s=some r)(hx:VRel R x x'):OpRel P B R w (do pure (.value (← Instr.next x' s ty))) r:=by
 unfold znH at e;split at e
 ·cases e
 ·split at e
  ·rename_i i r0 o0;split at e
   ·split at e
    ·obtain ⟨L,hL,_,rfl⟩:=hx;unfold zkw at e;split at e
     ·rename_i str pos ho;obtain ⟨L',hL',hh⟩:=k.obj' hL ho;rw [hL] at hL'; cases hL';have hg:(getObj L.block).run P w=.ok (.stringIter ⟨str.toArray⟩ pos) w:=by simp [getObj,Sem.run,hh]
      split at e
      ·rename_i hp;cases e;have hs:=xc P (ob:=.stringIter ⟨str.toArray⟩ (pos+(Utf8.decode ⟨str.toArray⟩ pos).2)) hh (by simp);obtain ⟨g1,g2⟩:=xF k hL (k.notRo ho rfl) (.iter str (pos+(Utf8.decode ⟨str.toArray⟩ pos).2)) (.stringIter ⟨str.toArray⟩ (pos+(Utf8.decode ⟨str.toArray⟩ pos).2)) ⟨L,hL,zX w _ _ (xJ hh)⟩;refine ⟨R,.tuple #[.bool true,goInt pos,.int .i32 (Utf8.decode ⟨str.toArray⟩ pos).1],_,?_,⟨_,rfl,.cons rfl (.cons rfl (.cons rfl .nil))⟩,g1,g2⟩;have hsz:pos<(ByteArray.mk str.toArray).size:=by simpa [ByteArray.size] using hp
       simp [Instr.next,hg,hsz,hs]
      ·rename_i hp;cases e;refine ⟨R,.tuple #[.bool false],w,?_,⟨_,rfl,.cons rfl .nil⟩,k,Keeps.refl _ _⟩;have hsz:¬ pos<(ByteArray.mk str.toArray).size:=by simpa [ByteArray.size] using hp
       simp [Instr.next,hg,hsz]
     ·cases e
    ·cases e
   ·cases e
  ·cases e
end
end Go.Proofs.Ytcdigdplhlgcaaa.Ev
end
section
namespace Go.Proofs.Ytcdigdplhlgcaaa.Ev
open Go
mutual
theorem wX:∀ (n:Nat) (x y:AV),wJ n x y=true→x=y
 | 0,_,_,h=>by simp [wJ] at h
 | n+1,x,y,h=>by
  cases x <;> cases y <;> simp only [wJ,Bool.and_eq_true,decide_eq_true_eq,beq_iff_eq,Bool.false_eq_true] at h
  all_goals first
   | rfl
   | (obtain ⟨⟨rfl,h1⟩,h2⟩:=h; rw [jr n _ _ h1,jr n _ _ h2])
   | (rw [jr n _ _ h])
   | (obtain ⟨e0,h1⟩:=h; have e1:=wX n _ _ h1; simp_all; done)
   | (simp_all; done)
theorem jr:∀ (n:Nat) (x y:List AV),vR n x y=true→x=y
 | 0,_,_,h=>by simp [vR] at h
 | n+1,x,y,h=>by
  cases x <;> cases y <;> simp only [vR,Bool.and_eq_true,Bool.false_eq_true] at h
  ·rfl
  ·rw [wX n _ _ h.1,jr n _ _ h.2]
end
section
variable {P:Program} {B:Base} {R:Bij} {h:AHeap} {w:World}
theorem HRel.heap_eq {w':World}(k:HRel P B R h w)(e:w'.heap=w.heap):HRel P B R h w' where
 fresh:=k.fresh
 pend:=k.pend
 obj i o ho hp:=(k.obj i o ho hp).mono R.le_refl (fun _=>rfl) (fun _ _ _=>by rw [e])
 place i r L hL:=by rw [e]; exact k.place i r L hL
 apart:=k.apart
 same:=k.same
 glob g c hg:=by rw [e]; exact k.glob g c hg
 rd:=k.rd
 rp:=k.rp
 rol:=k.rol
 pin:=k.pin
 low b hb:=by rw [e]; exact k.low b hb
theorem zhH (P:Program)(old new:Value)(w:World):∃ v w',(Instr.keyThatStays old new).run P w=.ok v w'∧(v=old∨v=new)∧w'.heap=w.heap∧w'.os=w.os∧w'.tape=w.tape∧w'.output=w.output∧w.drawn≤w'.drawn:=by
 unfold Instr.keyThatStays;split
 ·exact ⟨new,w,rfl,.inr rfl,rfl,rfl,rfl,rfl,Nat.le_refl _⟩
 ·have hf : (Question.extern "map.whichKeyStays" 2).forced = false := rfl;refine ⟨if (Question.extern "map.whichKeyStays" 2).cut (w.tape w.drawn (Question.extern "map.whichKeyStays" 2)) = 0 then new else old, w.drew, ?_, by split <;> simp, rfl, rfl, rfl, rfl, Nat.le_succ _⟩
  simp [hf]
theorem jf (k:HRel P B R h w){t:TypeId}{m key v:AV}{h':AHeap}{m' key' v':Value}(e:zdq P h t m key v=some h')(hm:VRel R m m')(hk:VRel R key key')(hv:VRel R v v') :
 ∃ w',(Instr.mapUpdate t m' key' v').run P w=.ok () w'∧HRel P B R h' w'∧Keeps R w R w':=by
 unfold zdq at e;split at e
 ·cases e
 ·rename_i kt el hmo;have hmap:=yJ hmo;split at e
  ·rename_i i;obtain ⟨L,hL,rfl⟩:=hm;split at e
   ·cases e
   ·rename_i r hr;unfold vQ at hr;split at hr
    ·rename_i hko;split at hr
     ·cases hr
     ·rename_i es hes;unfold yK at hes;simp only [] at hes;unfold zih at e;split at e
      ·rename_i es0 clock ho;rw [ho] at hes; cases hes;obtain ⟨L',es',hL',hh,hrel⟩:=k.obj' hL ho;rw [hL] at hL'; cases hL';obtain ⟨u,hu⟩:=jc hko;obtain ⟨r',e1,e2⟩:=yz k hk hu hr hrel;have hck:=ya w false 9991 hko hk;have hg:(getObj L.block).run P w=.ok (.map es' clock) w:=by simp [getObj,Sem.run,hh]
       split at e
       ·rename_i j a;obtain ⟨b,_,g1,g2,rfl,g4⟩:=e2;simp only [Nat.sub_zero] at g1 g2;split at e
        ·rename_i hsame;cases e;have heq:=wX _ _ _ hsame;obtain ⟨b',hb',hab⟩:=hrel.get j a g1;rw [g2] at hb'; cases hb';obtain ⟨kk,w1,s1,s2,s3,s4,s5,s6,s7⟩:=zhH P b.key key' w;have hkk:VRel R key kk:=by
          rcases s2 with rfl | rfl
          ·rw [heq]; exact hab.1
          ·exact hk
         have hg2:es'[j]?=some b:=by simpa using g2
         have hh1:w1.heap[L.block]?=some (.map es' clock):=by rw [s3]; exact hh
         have hj:j<es.length:=(List.getElem?_eq_some_iff.1 g1).1;have hj':j<es'.size:=by have:=hrel.length; simp at this; omega
         have hs:=xc P (ob:=.map (es'.modify j fun e=>{ e with key:=kk,val:=v' }) clock) hh1 (by simp);obtain ⟨p1,p2⟩:=xF (k.heap_eq s3) hL (k.notRo ho rfl) (.map (es.take j++{ key:=key,val:=v,born:=a.born }::es.drop (j+1)) clock) (.map (es'.modify j fun e=>{ e with key:=kk,val:=v' }) clock)
          ⟨L,_,hL,zX w1 _ _ (xJ hh1),by
           have:(es'.modify j fun e=>{ e with key:=kk,val:=v' }).toList=es'.toList.take j++{ b with key:=kk,val:=v' }::es'.toList.drop (j+1):=by
            rw [Array.toList_modify,List.modify_eq_take_cons_drop (by simpa using hj')]
            congr 2;have:es'.toList[j]=b:=by
             have:=(List.getElem?_eq_some_iff.1 g2).2; exact this
            rw [this]
           rw [this];exact (hrel.take j).append ⟨_,_,rfl,⟨hkk,hv,hab.2.2⟩,hrel.drop (j+1)⟩⟩
         refine ⟨_,?_,p1,(⟨s4,s5,s6,by rw [s3]; exact Nat.le_refl _,R.le_refl,fun b hb hn=>⟨by rw [s3],hn⟩,s7⟩:Keeps R w R w1).trans p2⟩;simp only [Instr.mapUpdate,Sem.run_bind,za w hmap,Result.andThen_ok,hg,hck,e1,hg2,Option.map_some,Option.getD_some,s1,hs]
        ·cases e
       ·cases e2;cases e;have hs:=xc P (ob:=.map (es'.push { key:=key',val:=v',born:=clock }) (clock+1)) hh (by simp);obtain ⟨p1,p2⟩:=xF k hL (k.notRo ho rfl) (.map (es++[{ key:=key,val:=v,born:=clock }]) (clock+1)) (.map (es'.push { key:=key',val:=v',born:=clock }) (clock+1))
         ⟨L,_,hL,zX w _ _ (xJ hh),by rw [Array.toList_push]; exact hrel.append ⟨_,_,rfl,⟨hk,hv,rfl⟩,rfl⟩⟩
        refine ⟨_,?_,p1,p2⟩;simp only [Instr.mapUpdate,Sem.run_bind,za w hmap,Result.andThen_ok,hg,hck,e1,hs]
      ·cases e
    ·cases hr
  ·cases e
theorem zaj:∀ {es:List AEntry} {es':List MapEntry} {n i j:Nat},All2 (zrc R) es es'→zeT n es i=some j →
 i≤j∧es'.findIdx? (fun e=>(e.born:Int)==(n:Int))=some (j - i)
 | [],_,_,_,_,_,e=>by simp [zeT] at e
 | a::r,es',n,i,j,h,e=>by
  obtain ⟨b,bs,rfl,hab,hr⟩:=h;unfold zeT at e;split at e
  ·rename_i hb;cases e;have:a.born=n:=Nat.eq_of_beq_eq_true hb;refine ⟨Nat.le_refl _,?_⟩;rw [List.findIdx?_cons,← hab.2.2,this];simp
  ·rename_i hb;have hne:a.born≠n:=Nat.ne_of_beq_eq_false hb;obtain ⟨h1,h2⟩:=zaj hr e;refine ⟨by omega,?_⟩;have hf:((b.born:Int)==(n:Int))=false:=by
    rw [← hab.2.2]; simp; omega
   rw [List.findIdx?_cons,hf,h2];simp only [Bool.false_eq_true,if_false,Option.map_some,Option.some.injEq];omega
theorem zbI (k:HRel P B R h w){t:TypeId}{m key v:AV}{h':AHeap}{m' key':Value}(e:zbr P h t m key=some (v,h'))(hm:VRel R m m')(hk:VRel R key key') :
 Made P B R w (Instr.mapEntry t m' key') v h':=by
 unfold zbr at e;split at e
 ·cases e
 ·rename_i kt el hmo;have hmap:=yJ hmo;split at e
  ·rename_i i;obtain ⟨L,hL,rfl⟩:=hm;split at e
   ·cases e
   ·rename_i r hr;unfold vQ at hr;split at hr
    ·rename_i hko;split at hr
     ·cases hr
     ·rename_i es hes;unfold yK at hes;simp only [] at hes;unfold zkg at e;split at e
      ·rename_i es0 clock ho;rw [ho] at hes; cases hes;obtain ⟨L',es',hL',hh,hrel⟩:=k.obj' hL ho;rw [hL] at hL'; cases hL';obtain ⟨u,hu⟩:=jc hko;obtain ⟨r',e1,e2⟩:=yz k hk hu hr hrel;have hck:=ya w false 9991 hko hk;have hg:(getObj L.block).run P w=.ok (.map es' clock) w:=by simp [getObj,Sem.run,hh]
       split at e
       ·rename_i j a;obtain ⟨b,_,g1,g2,rfl,g4⟩:=e2;simp only [Nat.sub_zero] at g1 g2;split at e
        ·rename_i hsame;cases e;have heq:=wX _ _ _ hsame;obtain ⟨b',hb',hab⟩:=hrel.get j a g1;rw [g2] at hb'; cases hb';obtain ⟨kk,w1,s1,s2,s3,s4,s5,s6,s7⟩:=zhH P b.key key' w;have hkk:VRel R a.key kk:=by
          rcases s2 with rfl | rfl
          ·exact hab.1
          ·rw [← heq]; exact hk
         have hg2:es'[j]?=some b:=by simpa using g2
         have hh1:w1.heap[L.block]?=some (.map es' clock):=by rw [s3]; exact hh
         have hj:j<es.length:=(List.getElem?_eq_some_iff.1 g1).1;have hj':j<es'.size:=by have:=hrel.length; simp at this; omega
         have hs:=xc P (ob:=.map (es'.modify j fun e=>{ e with key:=kk }) clock) hh1 (by simp);have hes:es=es.take j++a::es.drop (j+1):=by
          have:es[j]=a:=(List.getElem?_eq_some_iff.1 g1).2;rw [← this]; simp
         obtain ⟨p1,p2⟩:=xF (k.heap_eq s3) hL (k.notRo ho rfl) (.map es clock) (.map (es'.modify j fun e=>{ e with key:=kk }) clock)
          ⟨L,_,hL,zX w1 _ _ (xJ hh1),by
           have:(es'.modify j fun e=>{ e with key:=kk }).toList=es'.toList.take j++{ b with key:=kk }::es'.toList.drop (j+1):=by
            rw [Array.toList_modify,List.modify_eq_take_cons_drop (by simpa using hj')]
            congr 2;have:es'.toList[j]=b:=by
             have:=(List.getElem?_eq_some_iff.1 g2).2; exact this
            rw [this]
           rw [this,hes];have hlen:(es.take j).length=j:=by simp; omega
           exact (hrel.take j).append ⟨_,_,rfl,⟨hkk,hab.2.1,hab.2.2⟩,hrel.drop (j+1)⟩⟩
         refine ⟨R,.tuple #[b.val,goInt b.born],_,?_,?_,p1,(⟨s4,s5,s6,by rw [s3]; exact Nat.le_refl _,R.le_refl,fun b hb hn=>⟨by rw [s3],hn⟩,s7⟩:Keeps R w R w1).trans p2⟩
         ·simp only [Instr.mapEntry,Sem.run_bind,za w hmap,Result.andThen_ok,hg,hck,e1,hg2,Option.map_some,Option.getD_some,s1,hs,Sem.run_pure]
         ·refine ⟨[_,_],rfl,_,_,rfl,hab.2.1,_,_,rfl,?_,rfl⟩;rw [hab.2.2]; rfl
        ·cases e
       ·cases e2;unfold zie at e;split at e
        ·cases e
        rename_i z hz;cases e;obtain ⟨inf,zv,hinf,hzv,hzr⟩:=zI R hz;have hs:=xc P (ob:=.map (es'.push { key:=key',val:=zv,born:=clock }) (clock+1)) hh (by simp);obtain ⟨p1,p2⟩:=xF k hL (k.notRo ho rfl) (.map (es++[{ key:=key,val:=z,born:=clock }]) (clock+1)) (.map (es'.push { key:=key',val:=zv,born:=clock }) (clock+1))
         ⟨L,_,hL,zX w _ _ (xJ hh),by rw [Array.toList_push]; exact hrel.append ⟨_,_,rfl,⟨hk,hzr,rfl⟩,rfl⟩⟩
        refine ⟨R,.tuple #[zv,goInt clock],_,?_,?_,p1,p2⟩
        ·simp only [Instr.mapEntry,Sem.run_bind,za w hmap,Result.andThen_ok,hg,hck,e1,zo w hinf hzv,hs,Sem.run_pure]
        ·exact ⟨[_,_],rfl,_,_,rfl,hzr,_,_,rfl,rfl,rfl⟩
      ·cases e
    ·cases hr
  ·cases e
theorem j8 (k:HRel P B R h w){t:TypeId}{m s v:AV}{h':AHeap}{m' s' v':Value}(e:ka h m s v=some h')(hm:VRel R m m')(hs:VRel R s s')(hv:VRel R v v') :
 ∃ w',(Instr.entryStore t m' s' v').run P w=.ok () w'∧HRel P B R h' w'∧Keeps R w R w':=by
 unfold ka at e;split at e
 ·rename_i i;obtain ⟨L,hL,rfl⟩:=hm;split at e
  ·rename_i kk nn;cases hs;split at e
   ·rename_i n;unfold zib at e;split at e
    ·rename_i es clock ho;obtain ⟨L',es',hL',hh,hrel⟩:=k.obj' hL ho;rw [hL] at hL'; cases hL';have hg:(getObj L.block).run P w=.ok (.map es' clock) w:=by simp [getObj,Sem.run,hh]
     split at e
     ·cases e
     ·rename_i j hj;obtain ⟨_,hfi⟩:=zaj hrel hj;rw [Nat.sub_zero] at hfi;split at e
      ·cases e
      ·rename_i a g1;cases e;obtain ⟨b,g2,hab⟩:=hrel.get j a g1;have hj':j<es'.size:=by simpa using (List.getElem?_eq_some_iff.1 g2).1
       have hfa:es'.findIdx? (fun e=>(e.born:Int)==Int.ofNat n)=some j:=by
        rw [show es'=es'.toList.toArray from Array.toArray_toList.symm,List.findIdx?_toArray]; exact hfi
       have hso:=xc P (ob:=.map (es'.modify j fun e=>{ e with val:=v' }) clock) hh (by simp);obtain ⟨p1,p2⟩:=xF k hL (k.notRo ho rfl) (.map (es.take j++{ key:=a.key,val:=v,born:=a.born }::es.drop (j+1)) clock) (.map (es'.modify j fun e=>{ e with val:=v' }) clock)
        ⟨L,_,hL,zX w _ _ (xJ hh),by
         have:(es'.modify j fun e=>{ e with val:=v' }).toList=es'.toList.take j++{ b with val:=v' }::es'.toList.drop (j+1):=by
          rw [Array.toList_modify,List.modify_eq_take_cons_drop (by simpa using hj')]
          congr 2;have:es'.toList[j]=b:=(List.getElem?_eq_some_iff.1 g2).2;rw [this]
         rw [this];exact (hrel.take j).append ⟨_,_,rfl,⟨hab.1,hv,hab.2.2⟩,hrel.drop (j+1)⟩⟩
       have hai:(asInt (.int kk (Int.ofNat n))).run P w=.ok (Int.ofNat n) w:=rfl;refine ⟨_,?_,p1,p2⟩;simp only [Instr.entryStore,Sem.run_bind,hg,Result.andThen_ok,hai,hfa,hso]
    ·cases e
   ·cases e
  ·cases e
 ·cases e
theorem zdj (k:HRel P B R h w){t:TypeId}{m key:AV}{h':AHeap}{m' key':Value}{argTypes:Array TypeId}{ty:TypeId}(e:zgL P h t m key=some h')(hm:VRel R m m')(hk:VRel R key key')(ht:argTypes[0]?=some t) :
 ∃ w',(Builtin.delete_ argTypes ty #[m',key']).run P w=.ok (.tuple #[]) w'∧HRel P B R h' w'∧Keeps R w R w':=by
 unfold zgL at e;split at e
 ·cases e
 ·rename_i kt el hmo;have hmap:=yJ hmo;split at e
  ·cases e
  ·rename_i r hr;unfold vQ at hr;split at hr
   ·rename_i hko;split at hr
    ·cases hr
    ·rename_i es hes;split at e
     ·cases e;cases hm;have hck:=ya w true 9991 hko hk;exact ⟨w,by simp [Builtin.delete_,ht,za w hmap,hck],k,Keeps.refl _ _⟩
     ·rename_i i;obtain ⟨L,hL,rfl⟩:=hm;unfold yK at hes;simp only [] at hes;unfold zfb at e;split at e
      ·rename_i es0 clock ho;rw [ho] at hes; cases hes;obtain ⟨L',es',hL',hh,hrel⟩:=k.obj' hL ho;rw [hL] at hL'; cases hL';obtain ⟨u,hu⟩:=jc hko;obtain ⟨r',e1,e2⟩:=yz k hk hu hr hrel;have hck:=ya w es'.isEmpty 9991 hko hk;have hg:(getObj L.block).run P w=.ok (.map es' clock) w:=by simp [getObj,Sem.run,hh]
       split at e
       ·rename_i j a;obtain ⟨b,_,g1,g2,rfl,g4⟩:=e2;simp only [Nat.sub_zero] at g1 g2;cases e;have hs:=xc P (ob:=.map (es'.eraseIdxIfInBounds j) clock) hh (by simp);obtain ⟨p1,p2⟩:=xF k hL (k.notRo ho rfl) (.map (es.take j++es.drop (j+1)) clock) (.map (es'.eraseIdxIfInBounds j) clock)
         ⟨L,_,hL,zX w _ _ (xJ hh),by
          have:(es'.eraseIdxIfInBounds j).toList=es'.toList.take j++es'.toList.drop (j+1):=by
           rw [Array.toList_eraseIdxIfInBounds,List.eraseIdx_eq_take_drop_succ]
          rw [this];exact (hrel.take j).append (hrel.drop (j+1))⟩
        refine ⟨_,?_,p1,p2⟩;simp [Builtin.delete_,ht,za w hmap,hg,hck,e1,hs]
       ·cases e2;cases e;have hs:=xc P (ob:=.map es' clock) hh (by simp);have hsame:(xv w L.block (.map es' clock)).heap=w.heap:=by
         simp only [xv];apply Array.ext_getElem?;intro j;rw [Array.getElem?_setIfInBounds]
         by_cases hj:L.block=j
         ·subst hj; rw [if_pos rfl,if_pos (xJ hh),hh]
         ·rw [if_neg hj]
        refine ⟨_,?_,k.heap_eq hsame,⟨rfl,rfl,rfl,by rw [hsame]; exact Nat.le_refl _,R.le_refl,fun b hb hn=>⟨by rw [hsame],hn⟩,Nat.le_refl _⟩⟩;simp [Builtin.delete_,ht,za w hmap,hg,hck,e1,hs]
      ·cases e
     ·cases e
   ·cases hr
end
end Go.Proofs.Ytcdigdplhlgcaaa.Ev
end
section
namespace Go.Proofs.Ytcdigdplhlgcaaa.Ev
open Go
section
variable {P:Program} {B:Base} {R:Bij} {h:AHeap} {w:World}
theorem kY (R:Bij)(s:List UInt8):VRels R (zU s) (s.map fun b=>.int .u8 b.toNat):=by
 induction s with
 | nil=>rfl
 | cons b s ih=>exact .cons rfl ih
theorem zaq (k:HRel P B R h w){size n:Nat}{x:AV}{x':Value}{l:List AV}(e:yt h size n x=some l)(hx:VRel R x x')(hn:∀ i r o len st,x=.slg i r o len st→n≤len) :
 ∃ vs:List Value,(Builtin.firstCells size n x').run P w=.ok vs.toArray w∧VRels R l vs:=by
 unfold yt at e;split at e
 ·cases e; cases hx; exact ⟨[],by simp [Builtin.firstCells],rfl⟩
 ·obtain ⟨L,hL,hm,rfl⟩:=hx;obtain ⟨vs,e1,e2,_⟩:=zB k e hL hm;exact ⟨vs,by simpa [Builtin.firstCells] using e1,e2⟩
 ·rename_i i r o len st;obtain ⟨L,a,hL,hm,hk,rfl,ha⟩:=hx;obtain ⟨vs,e1,e2,e3⟩:=zB k e hL hm
  by_cases hlt:st<L.kap
  ·obtain rfl:=ha hlt;exact ⟨vs,by simpa [Builtin.firstCells] using e1,e2⟩
  ·have hn0:=hn _ _ _ _ _ rfl;have:n=0:=by omega
   subst this;simp at e3;have hl0:l=[]:=by simpa using e3
   subst hl0;cases e2;exact ⟨[],by simp [Builtin.firstCells,loadCells,loadCellsFrom],rfl⟩
 ·rename_i s;cases e; cases hx;refine ⟨(s.take n).map fun b=>.int .u8 b.toNat,?_,kY R _⟩;simp only [Builtin.firstCells,Sem.run_pure];congr 1;rw [jO];simp
 ·split at e
  ·cases e;obtain ⟨a,rfl⟩:=hx;exact ⟨[],by simp [Builtin.firstCells,loadCells,loadCellsFrom],rfl⟩
  ·cases e
 ·cases e
theorem zi2 {size:Nat}{x:AV}{l:List AV}(e:yt h size 0 x=some l):l=[]:=by
 have aux:∀ {i r o:Nat} {l:List AV},zb h i r o (0*size)=some l→l=[]:=by
  intro i r o l e;unfold zb at e;split at e
  ·split at e
   ·cases e
   ·split at e
    ·rw [Nat.zero_mul] at e; simp [zV,zd6] at e; first | exact e | exact e.symm
    ·cases e
  ·split at e
   ·rw [Nat.zero_mul] at e; simp [zV,zd6] at e; first | exact e | exact e.symm
   ·cases e
  ·cases e
 unfold yt at e;split at e
 ·cases e; rfl
 ·exact aux e
 ·exact aux e
 ·cases e; rfl
 ·cases e; rfl
 ·cases e
theorem wo {x:AV}{x':Value}{n:Nat}(w:World)(e:zc9 x=some n)(hx:VRel R x x'):(Builtin.lenOf x').run P w=.ok n w:=by
 unfold zc9 at e;split at e
 ·cases e; cases hx; rfl
 ·cases e; obtain ⟨L,_,_,rfl⟩:=hx; rfl
 ·cases e; obtain ⟨L,a,_,_,_,rfl,_⟩:=hx; rfl
 ·cases e; cases hx; simp [Builtin.lenOf,ziE]
 ·cases e; obtain ⟨a,rfl⟩:=hx; rfl
 ·cases e
theorem zcx {x:AV}{x':Value}{n:Nat}(e:xV x=some n)(hx:VRel R x x'):∃ a c,x'=.slice a n c:=by
 unfold xV at e;split at e
 ·cases e; cases hx; exact ⟨_,_,rfl⟩
 ·cases e; obtain ⟨L,_,_,rfl⟩:=hx; exact ⟨_,_,rfl⟩
 ·cases e; obtain ⟨L,a,_,_,_,rfl,_⟩:=hx; exact ⟨_,_,rfl⟩
 ·cases e; obtain ⟨a,rfl⟩:=hx; exact ⟨_,_,rfl⟩
 ·cases e
theorem zgS (k:HRel P B R h w){t:TypeId}{d s v:AV}{d' s':Value}{h':AHeap}{argTypes:Array TypeId}{ty:TypeId}(e:zqf P h t d s=some (v,h'))(hd:VRel R d d')(hs:VRel R s s')(ht:argTypes[0]?=some t) :
 Made P B R w (Builtin.copy_ argTypes ty #[d',s']) v h':=by
 unfold zqf at e;split at e
 ·cases e
 ·rename_i u hu;split at e
  ·rename_i el;unfold zoA at e;split at e
   ·cases e
   ·rename_i sz hsz;obtain ⟨inf,hi,rfl⟩:=zw hsz;split at e
    ·cases e
    ·rename_i dn hdn;split at e
     ·cases e
     ·rename_i sn hsn;split at e
      ·cases e
      ·rename_i cells hcells;obtain ⟨vs,f1,f2⟩:=zaq k hcells hs (by
        rintro i r o len st rfl;simp [zc9] at hsn; subst hsn; exact Nat.min_le_left _ _)
       obtain ⟨a0,c0,rfl⟩:=zcx hdn hd;have base:∀ w',(match a0 with | some a=>storeCells a vs | none=>pure ():Sem Unit).run P w=.ok () w'→(Builtin.copy_ argTypes ty #[.slice a0 dn c0,s']).run P w=.ok (goInt (Nat.min sn dn)) w':=by
        intro w' hw';cases a0 with
        | none=>simp at hw'; subst hw'; simp [Builtin.copy_,ht,za w hu,wo w hsn hs,zj w hi,f1]
        | some a=>simp only [] at hw'; simp [Builtin.copy_,ht,za w hu,wo w hsn hs,zj w hi,f1,hw']
       unfold zoF at e;split at e
       ·cases e; cases hd;exact ⟨R,_,w,base w rfl,rfl,k,Keeps.refl _ _⟩
       ·split at e
        ·cases e
        ·rename_i h1 hst;cases e;obtain ⟨L,hL,hm,heq⟩:=hd;cases heq;obtain ⟨w',g1,g2,g3⟩:=zu k hst hL hm f2;exact ⟨R,_,w',base w' g1,rfl,g2,g3⟩
       ·rename_i i r o len st;split at e
        ·cases e
        ·rename_i h1 hst;cases e;simp only [xV,Option.some.injEq] at hdn;subst hdn;obtain ⟨L,a,hL,hm,hk,heq,ha⟩:=hd;cases heq
         by_cases hlt:st<L.kap
         ·obtain rfl:=ha hlt;obtain ⟨w',g1,g2,g3⟩:=zu k hst hL hm f2;exact ⟨R,_,w',base w' g1,rfl,g2,g3⟩
         ·
          have hlen:len=0:=by omega
          subst hlen;obtain ⟨w',g1,g2,g3⟩:=zu k hst hL hm f2;have h00:sn.min 0=0:=Nat.min_zero _;rw [h00] at hcells;have hc0:cells=[]:=zi2 hcells;subst hc0;cases f2;have hww:w'=w:=by
           simp [storeCells] at g1; exact g1.symm
          subst hww;exact ⟨R,_,w',base w' (by simp [storeCells]),rfl,g2,g3⟩
       ·cases e
  ·cases e
theorem ze8 (k:HRel P B R h w){t:TypeId}{x:AV}{x':Value}{h':AHeap}{argTypes:Array TypeId}{ty:TypeId}(e:zbG P h t x=some h')(hx:VRel R x x')(ht:argTypes[0]?=some t) :
 ∃ w',(Builtin.clear_ argTypes ty #[x']).run P w=.ok (.tuple #[]) w'∧HRel P B R h' w'∧Keeps R w R w':=by
 unfold zbG at e;split at e
 ·cases e
 ·rename_i u hu;have slice:∀ {i r o n:Nat} {L:Loc} {c:Nat},R i r=some L→L.minus≤o→j9 h (vw P t) i r o n=some h' →
   ∃ w',(Builtin.clear_ argTypes ty #[.slice (some ⟨L.block,o - L.minus,none⟩) n c]).run P w=.ok (.tuple #[]) w'∧HRel P B R h' w'∧Keeps R w R w':=by
   intro i r o n L c hL hm e;unfold j9 at e;split at e
   ·cases e;exact ⟨w,by simp [Builtin.clear_,ht,za w hu],k,Keeps.refl _ _⟩
   ·rename_i n0;split at e
    ·cases e
    ·rename_i z hz;unfold vw at hz;split at hz
     ·rename_i el hel;rw [hel] at hu; cases hu;obtain ⟨inf,zv,hi,hzv,hzr⟩:=zI R hz;obtain ⟨w',g1,g2,g3⟩:=zu k e hL hm (qo hzr (n0+1));refine ⟨w',?_,g2,g3⟩;simp only [Builtin.clear_,ht,List.getElem?_toArray,List.getElem?_cons_zero,Sem.run_bind,za w hel,Result.andThen_ok,zo w hi hzv,Builtin.zeroCells,g1,Sem.run_pure]
     ·cases hz
  split at e
  ·cases e; cases hx;exact ⟨w,by simp [Builtin.clear_,ht,za w hu],k,Keeps.refl _ _⟩
  ·cases e; cases hx;exact ⟨w,by simp [Builtin.clear_,ht,za w hu],k,Keeps.refl _ _⟩
  ·rename_i i;obtain ⟨L,hL,rfl⟩:=hx;unfold zia at e;split at e
   ·rename_i es clock ho;cases e;obtain ⟨L',es',hL',hh,hrel⟩:=k.obj' hL ho;rw [hL] at hL'; cases hL';have hg:(getObj L.block).run P w=.ok (.map es' clock) w:=by simp [getObj,Sem.run,hh]
    have hs:=xc P (ob:=.map #[] clock) hh (by simp);obtain ⟨p1,p2⟩:=xF k hL (k.notRo ho rfl) (.map [] clock) (.map #[] clock) ⟨L,#[],hL,zX w _ _ (xJ hh),rfl⟩;exact ⟨_,by simp [Builtin.clear_,ht,za w hu,hg,hs],p1,p2⟩
   ·cases e
  ·rename_i i r o n c;obtain ⟨L,hL,hm,rfl⟩:=hx;exact slice hL hm e
  ·rename_i i r o n st;obtain ⟨L,a,hL,hm,hk,rfl,ha⟩:=hx
   by_cases hlt:st<L.kap
   ·obtain rfl:=ha hlt;exact slice hL hm e
   ·have hn:n=0:=by omega
    subst hn;simp only [j9] at e;cases e;exact ⟨w,by simp [Builtin.clear_,ht,za w hu],k,Keeps.refl _ _⟩
  ·cases e
end
end Go.Proofs.Ytcdigdplhlgcaaa.Ev
end
section
namespace Go.Proofs.Ytcdigdplhlgcaaa.Ev
open Go
section
variable {P:Program} {B:Base} {R:Bij} {h:AHeap} {w:World}
structure Apd (P:Program) (w:World) (el:TypeId) (inf:TypeInfo) (zv:Value) (ud:TypeDesc) (x':Value) (n:Nat) (vs:List Value):Prop where
 more:(∃ k,ud=.int k)→∃ k l,x'=.int k l∧0≤l∧l<2 ^ 40∧n=l.toNat∧l*inf.bytes≤2 ^ 48∧vs=(Builtin.zeroCells zv.cells n).toList
 plain:(∀ k,ud≠.int k)→(Builtin.lenOf x').run P w=.ok n w∧(Builtin.firstCells inf.size n x').run P w=.ok vs.toArray w
theorem jY {l:Int}(h0:0≤l)(h1:l<2 ^ 40):IntKind.i64.wrap l=l:=by
 simp only [IntKind.wrap,IntKind.bits,IntKind.signed]; simp; omega
theorem jo {argTypes:Array TypeId}{ty t u el:TypeId}{ud:TypeDesc}{inf:TypeInfo}{zv x':Value}{n sLen sCap:Nat}{vs:List Value}{a:Addr}{w':World}
 (ht:argTypes[0]?=some t) (hu:argTypes[1]?=some u) (htd:P.underlying t=some (.slice el)) (hud:P.underlying u=some ud) (hi:P.info? el=some inf) (hz:inf.zero=some zv) (_hzs:zv.cells.size=inf.size) (hs0:0<inf.size)
 (ha:Apd P w el inf zv ud x' n vs) (hle:sLen+n≤sCap) (hst:(storeCells (a.add (sLen*inf.size)) vs 0).run P w=.ok () w') :
 (Builtin.append_ argTypes ty #[.slice (some a) sLen sCap,x']).run P w=.ok (.slice (some a) (sLen+n) sCap) w':=by
 by_cases hk:∃ k,ud=.int k
 ·obtain ⟨k,l,rfl,h0,h1,rfl,hb,rfl⟩:=ha.more hk;obtain ⟨k',rfl⟩:=hk;have hw:=jY h0 h1;have hneg:¬ l<0:=by omega
  have hbig:¬ l*(inf.bytes:Int) > 2 ^ 48:=by omega
  simp only [Builtin.append_,ht,hu,List.getElem?_toArray,List.getElem?_cons_zero,List.getElem?_cons_succ,Sem.run_bind,za w htd,za w hud,Result.andThen_ok,zj w hi,Sem.run_pure,if_true,asInt,asIntOf,hw,hneg,if_false,zA w hi,hbig,hle]
  by_cases hn0:l.toNat*inf.size=0
  ·have hl0:l.toNat=0:=by rcases Nat.mul_eq_zero.1 hn0 with h | h <;> omega
   have hr0:Array.range 0=#[]:=rfl;simp only [hl0,Nat.zero_mul,if_true];simp only [hl0,Builtin.zeroCells,Nat.zero_mul,hr0] at hst;simp at hst ⊢;rw [hst]; rfl
  ·simp only [hn0,if_false,Bool.not_true,Bool.false_eq_true,Sem.run_bind,zo w hi hz,Result.andThen_ok,Sem.run_pure,hst]
 ·obtain ⟨h1,h2⟩:=ha.plain (fun k e=>hk ⟨k,e⟩);simp only [Builtin.append_,ht,hu,List.getElem?_toArray,List.getElem?_cons_zero,List.getElem?_cons_succ,Sem.run_bind,za w htd,za w hud,Result.andThen_ok,zj w hi,Sem.run_pure];cases ud <;> first
   | exact absurd ⟨_,rfl⟩ hk
   | simp only [Bool.false_eq_true,if_false,Sem.run_bind,Result.andThen_ok,h1,hle,if_true,Bool.not_false,h2,hst,Sem.run_pure]
theorem zbl (need cap:Nat)(h:cap<need):Builtin.nextslicecap need cap≤2*need+1000:=by
 unfold Builtin.nextslicecap;split
 ·omega
 ·split
  ·omega
  ·have grow:∀ (r c:Nat),c≤need+(need+768) / 4→Builtin.growBy need r c≤need+(need+768) / 4:=by
    intro r
    induction r with
    | zero=>intro c hc; exact hc
    | succ r ih =>
     intro c hc;simp only [Builtin.growBy];split
     ·exact hc
     ·exact ih _ (by omega)
   have:=grow 4 cap (by omega);omega
theorem zat {argTypes:Array TypeId}{ty t u el:TypeId}{ud:TypeDesc}{inf:TypeInfo}{zv x':Value}{n sLen sCap:Nat}{vs olds:List Value}{b:Option Addr}
 (ht:argTypes[0]?=some t) (hu:argTypes[1]?=some u) (htd:P.underlying t=some (.slice el)) (hud:P.underlying u=some ud) (hi:P.info? el=some inf) (hz:inf.zero=some zv) (_hzs:zv.cells.size=inf.size) (hs0:0<inf.size)
 (ha:∀ w',w'.heap=w.heap→Apd P w' el inf zv ud x' n vs) (hgt:sCap<sLen+n) (hroom:zdD (sLen+n) inf.bytes=true)
 (hold:∀ w',w'.heap=w.heap→(Builtin.firstCells inf.size sLen (.slice b sLen sCap)).run P w'=.ok olds.toArray w') :
 ∃ newCap,(sLen+n≤newCap∧newCap≤9223372036854775807)∧(Builtin.append_ argTypes ty #[.slice b sLen sCap,x']).run P w =
  .ok (.slice (some ⟨w.heap.size,0,none⟩) (sLen+n) newCap) (w.drew.alloc (.cells (olds.toArray++vs.toArray++Builtin.zeroCells zv.cells (newCap - (sLen+n))) el)):=by
 simp only [zdD,Bool.and_eq_true,Nat.ble_eq,Nat.blt_eq] at hroom;obtain ⟨hr1,hr2⟩:=hroom;have hcap:¬ Builtin.nextslicecap (sLen+n) sCap*inf.bytes > 2 ^ 48:=by
  have:=Nat.mul_le_mul_right inf.bytes (zbl (sLen+n) sCap hgt);omega
 have hmax:¬ (((sLen+n:Nat):Int) > IntKind.i64.max):=by
  have:IntKind.i64.max=9223372036854775807:=by decide
  rw [this]; omega
 have hnle:¬ sLen+n≤sCap:=by omega
 refine ⟨(Question.appendCap (sLen+n) sCap el).cut (w.tape w.drawn (Question.appendCap (sLen+n) sCap el)),⟨by simp only [Question.cut]; omega,by simp only [Question.cut]; have:=Nat.mod_lt (w.tape w.drawn (Question.appendCap (sLen+n) sCap el)) (show 2 ^ 63 - (sLen+n) > 0 by omega); omega⟩,?_⟩;have hf:(Question.appendCap (sLen+n) sCap el).forced=false:=rfl;have hd:w.drew.heap=w.heap:=rfl;have hti:∀ w'',(typeInfo el).run P w''=.ok inf w'':=fun w''=>zA w'' hi;have hzv:∀ w'',(zeroValue el).run P w''=.ok zv w'':=fun w''=>zo w'' hi hz
 by_cases hk:∃ k,ud=.int k
 ·obtain ⟨k,l,rfl,h0,h1,rfl,hb,rfl⟩:=(ha w rfl).more hk;obtain ⟨k',rfl⟩:=hk;have hw:=jY h0 h1;have hneg:¬ l<0:=by omega
  have hbig:¬ l*(inf.bytes:Int) > 2 ^ 48:=by omega
  simp only [Builtin.append_,ht,hu,List.getElem?_toArray,List.getElem?_cons_zero,List.getElem?_cons_succ,Sem.run_bind,za w htd,za w hud,Result.andThen_ok,zj w hi,Sem.run_pure,if_true,asInt,asIntOf,hw,hneg,if_false,hti,hbig,hnle,hcap,
   hmax,false_and,run_choose,hf,Bool.false_eq_true,World.drew_eq,run_askRoom,hold _ hd,Bool.not_true]
  by_cases hn0:l.toNat*inf.size=0
  ·have hl0:l.toNat=0:=by rcases Nat.mul_eq_zero.1 hn0 with h | h <;> omega
   have hr0:Array.range 0=#[]:=rfl;simp only [hl0,Nat.zero_mul,if_true,Sem.run_pure,Result.andThen_ok,hzv,Sem.run_bind,newRow,run_newObj,World.alloc_eq,Builtin.zeroCells,hr0];simp
  ·simp only [hn0,if_false,Sem.run_bind,hzv,Result.andThen_ok,Sem.run_pure,newRow,run_newObj,World.alloc_eq,Array.toArray_toList];rfl
 ·obtain ⟨h1,h2⟩:=(ha w.drew rfl).plain (fun k e=>hk ⟨k,e⟩);obtain ⟨h1',h2'⟩:=(ha w rfl).plain (fun k e=>hk ⟨k,e⟩);simp only [Builtin.append_,ht,hu,List.getElem?_toArray,List.getElem?_cons_zero,List.getElem?_cons_succ,Sem.run_bind,za w htd,za w hud,Result.andThen_ok,zj w hi,Sem.run_pure];cases ud <;> first
   | exact absurd ⟨_,rfl⟩ hk
   | (simp only [Bool.false_eq_true,if_false,Sem.run_bind,Result.andThen_ok,h1',hnle,hti,hmax,false_and,hcap,run_choose,hf,World.drew_eq,run_askRoom,hold _ hd,Bool.not_false,if_true,h2,hzv,newRow,run_newObj,World.alloc_eq,Sem.run_pure]; rfl)
end
end Go.Proofs.Ytcdigdplhlgcaaa.Ev
end
section
namespace Go.Proofs.Ytcdigdplhlgcaaa.Ev
open Go
section
variable {P:Program} {B:Base} {R:Bij} {h:AHeap} {w:World}
theorem vH (zero:Array Value)(n:Nat):(Builtin.zeroCells zero n).size=n*zero.size:=by simp [Builtin.zeroCells]
theorem zkO (k:HRel P B R h w)(hB:B.n≤w.heap.size){el:TypeId}{l:List AV}{vs:List Value}{need newCap:Nat}{zs:Array Value}{inf:TypeInfo}(hi:P.info? el=some inf)
 (hr:VRels R l vs) (hl:l.length=need*inf.size) (hz:zs.size=(newCap - need)*inf.size) (hle:need≤newCap) (hcb:newCap≤9223372036854775807) :
 HRel P B (R.upd h.next 0 ⟨w.heap.size,0,newCap⟩) (xu h el l false) (w.drew.alloc (.cells (vs.toArray++zs) el)) ∧
  Keeps R w (R.upd h.next 0 ⟨w.heap.size,0,newCap⟩) (w.drew.alloc (.cells (vs.toArray++zs) el)):=by
 have hfree:=k.fresh h.next (Nat.le_refl _);have hvl:=hr.length;have hmul:(newCap - need)*inf.size+need*inf.size=newCap*inf.size:=by rw [← Nat.add_mul]; congr 1; omega
 refine k.new hB _ (.cells (vs.toArray++zs) el) ⟨w.heap.size,0,newCap⟩ rfl rfl rfl rfl rfl ?_;refine ⟨Nat.le_refl _,by omega,fun r hr'=>?_,fun r e h1 h2 h3=>?_,fun r e h1 h2 h3=>?_⟩;rotate_left 2
 ·obtain rfl:r=0:=by omega
  simp [zG] at h3; omega
 ·rw [R.upd_other _ (by omega)]; exact hfree r
 ·obtain rfl:r=0:=by omega
  simp [zG] at h3; subst h3;refine ⟨_,R.upd_same _ _ _,vs.toArray++zs,0,0,?_,by simp; omega,?_,⟨⟨Nat.le_refl _,fun _=>Nat.le_trans hcb (Nat.le_add_left _ _)⟩,fun j a b=>by omega⟩,fun j x a _ c=>?_⟩
  ·show (w.heap.push _)[w.heap.size]?=_; simp
  ·rw [zx hi]; simp; omega
  ·rw [zk] at c;simp only [Nat.zero_le,true_and,Nat.zero_add,Nat.sub_zero] at c ⊢;rw [if_pos a] at c;obtain ⟨y,hy,hyr⟩:=hr.get j x c;refine ⟨y,?_,VRel.mono (R.le_upd _ (hfree 0)) _ _ hyr⟩;rw [Array.getElem?_append,if_pos (by simp; omega)];simpa using hy
theorem zaJ {s v:AV}{h':AHeap}{s':Value}(e:xL h s=some (v,h'))(hs:VRel R s s'):v=s∧h'=h∧∃ b l c,s'=.slice b l c∧l≤c:=by
 unfold xL at e;split at e
 ·split at e
  ·cases e; cases hs; exact ⟨rfl,rfl,_,_,_,rfl,by assumption⟩
  ·cases e
 ·split at e
  ·cases e; obtain ⟨L,_,_,rfl⟩:=hs; exact ⟨rfl,rfl,_,_,_,rfl,by assumption⟩
  ·cases e
 ·cases e; obtain ⟨L,a,_,_,hk,rfl,_⟩:=hs; exact ⟨rfl,rfl,_,_,_,rfl,by omega⟩
 ·cases e
theorem append_nil {argTypes:Array TypeId}{ty t u el:TypeId}{ud:TypeDesc}{inf:TypeInfo}{zv x':Value}{sLen sCap:Nat}
 (ht:argTypes[0]?=some t) (hu:argTypes[1]?=some u) (htd:P.underlying t=some (.slice el)) (hud:P.underlying u=some ud) (hi:P.info? el=some inf) (_hz:inf.zero=some zv)
 (ha:Apd P w el inf zv ud x' 0 []) (hle:sLen≤sCap) :
 (Builtin.append_ argTypes ty #[.slice none sLen sCap,x']).run P w=.ok (.slice none sLen sCap) w:=by
 by_cases hk:∃ k,ud=.int k
 ·obtain ⟨k,l,rfl,h0,h1,hn,hb,_⟩:=ha.more hk;obtain ⟨k',rfl⟩:=hk;have hw:=jY h0 h1;have hneg:¬ l<0:=by omega
  have hbig:¬ l*(inf.bytes:Int) > 2 ^ 48:=by omega
  simp only [Builtin.append_,ht,hu,List.getElem?_toArray,List.getElem?_cons_zero,List.getElem?_cons_succ,Sem.run_bind,za w htd,za w hud,Result.andThen_ok,zj w hi,Sem.run_pure,if_true,asInt,asIntOf,hw,hneg,if_false,zA w hi,hbig,← hn,Nat.add_zero,hle,Nat.zero_mul];rfl
 ·obtain ⟨h1,h2⟩:=ha.plain (fun k e=>hk ⟨k,e⟩);simp only [Builtin.append_,ht,hu,List.getElem?_toArray,List.getElem?_cons_zero,List.getElem?_cons_succ,Sem.run_bind,za w htd,za w hud,Result.andThen_ok,zj w hi,Sem.run_pure];cases ud <;> first
   | exact absurd ⟨_,rfl⟩ hk
   | (simp only [Bool.false_eq_true,if_false,Sem.run_bind,Result.andThen_ok,h1,Nat.add_zero,hle,if_true,Bool.not_false,h2,Sem.run_pure])
theorem zax (k:HRel P B R h w)(hB:B.n≤w.heap.size){argTypes:Array TypeId}{ty t u el:TypeId}{ud:TypeDesc}{inf:TypeInfo}{zv x' s':Value}{i r off st sLen n:Nat}{new:List AV}{vs:List Value}{v:AV}{h':AHeap}
 (ht:argTypes[0]?=some t) (hu:argTypes[1]?=some u) (htd:P.underlying t=some (.slice el)) (hud:P.underlying u=some ud) (hi:P.info? el=some inf) (hz:inf.zero=some zv) (hzs:zv.cells.size=inf.size) (hs0:0<inf.size)
 (ha:∀ w',w'.heap=w.heap→Apd P w' el inf zv ud x' n vs) (hnew:VRels R new vs) (hone:new.all AV.one=true) (hnl:new.length=n*inf.size) (hn0:0<n)
 (hs:VRel R (.slg i r off sLen st) s') (e:x4 h el inf.size inf.bytes i r off st sLen (sLen+n) new=some (v,h')) :
 Made P B R w (Builtin.append_ argTypes ty #[s',x']) v h':=by
 obtain ⟨L,a,hL,hm,hk,rfl,haddr⟩:=hs;unfold x4 at e;simp only [T.seq_eq] at e;split at e
 ·rename_i c m el' lo hi' nv fz sg ex ho;split at e
  ·cases e
  ·rename_i ee he;split at e
   ·rename_i hc;obtain ⟨c1,c2,c3,c4,rfl,c6,c7,c8⟩:=hc;obtain ⟨L',hL',cs,f0,f1,g1,g2,g3,g4,g5⟩:=k.ver hL ho c1 c2 he;rw [hL] at hL'; cases hL';have hob:=k.obj' hL ho;obtain ⟨o1,o2,o3,o4,o5⟩:=hob;have hcell:=zx hi;rw [hcell] at g3;have hlt:=xJ g1;have hnv:R i nv=none:=o3 nv (Nat.le_refl _);have hvl:=hnew.length;have hinext:i<h.next:=by
     rcases Nat.lt_or_ge i h.next with h1 | h1
     ·exact h1
     ·rw [k.fresh i h1] at hL; cases hL
    have hat:off+sLen*inf.size=(st+sLen)*inf.size:=by rw [c6,Nat.add_mul]
    have hend:(st+sLen)*inf.size+n*inf.size=(st+(sLen+n))*inf.size:=by rw [← Nat.add_mul,Nat.add_assoc]
    have fin:∀ (R':Bij) (w':World) (L1:Loc),R'=R.upd i nv L1→R.le R'→(∀ b,¬ B.may b→w'.heap[b]?=w.heap[b]?)→(B.may L1.block∨B.ro i)→L1.block<w'.heap.size→w.heap.size≤w'.heap.size →
     (∀ j r' M,j≠i→R j r'=some M→M.block≠L1.block)→(∀ j r' M,j≠i→R j r'=some M→w'.heap[M.block]?=w.heap[M.block]?) →
     (∀ r' M,R i r'=some M→M.block=L1.block→M.minus=L1.minus) →
     VerRel P R' w' (zd c (off+sLen*inf.size) new) el' fz sg (off+sLen*inf.size+new.length) L1 →
     (m≤off+sLen*inf.size→∀ r' e',lo≤r'→r'≤hi'→zG ex m hi' r'=some e'→∃ M,R i r'=some M∧VerRel P R' w' (zd c (off+sLen*inf.size) new) el' fz sg e' M) →
     v=.slg i nv off (sLen+n) st∧HRel P B R' h' w':=by
     intro R' w' L1 hR' hle b0 b1 b2 b3 b4 b5 b6 b7 b8;have hother:∀ j s,j≠i→R' j s=R j s:=fun j s hj=>by rw [hR']; exact R.upd_other L1 (fun e=>hj e.1)
     have hnewL:∀ s M,R' i s=some M→(s=nv∧M=L1)∨(s≠nv∧R i s=some M):=by
      intro s M hM;rw [hR'] at hM
      by_cases hs:s=nv
      ·subst hs; rw [R.upd_same] at hM; cases hM; exact .inl ⟨rfl,rfl⟩
      ·rw [R.upd_other L1 (fun e=>hs e.2)] at hM; exact .inr ⟨hs,hM⟩
     have nvfree:∀ r',nv+1≤r'→R' i r'=none:=fun r' hr=>by
      rw [hR',R.upd_other L1 (by omega)]; exact o3 r' (by omega)
     have common:∀ (o:AObj),ObjRel P R' w' i o→HRel P B R' (h.put i o) w':=fun o hobj =>
      k.touch i o (k.live hL) hle (by rw [qe]; exact Nat.le_refl _) (by rw [qe]; exact hinext) (fun j=>zeh h i j _) (fun j s hj=>hother j s hj) b5 hobj b3
       (fun s M hM=>by
        rcases hnewL s M hM with ⟨_,rfl⟩ | ⟨_,hM⟩
        ·exact ⟨b1,b2,fun j r' M' hj e'=>b4 j r' M' hj e'⟩
        ·exact ⟨(k.place i s M hM).1,Nat.lt_of_lt_of_le (k.place i s M hM).2 b3,fun j r' M' hj e' hb=>hj (k.apart _ _ _ _ _ _ e' hM hb (.inr (k.notRo ho rfl)))⟩)
       (fun s s' M M' hM hM' hb=>by
        rcases hnewL s M hM with ⟨_,rfl⟩ | ⟨_,hM⟩
        ·rcases hnewL s' M' hM' with ⟨_,rfl⟩ | ⟨_,hM'⟩
         ·rfl
         ·exact (b6 s' M' hM' hb.symm).symm
        ·rcases hnewL s' M' hM' with ⟨_,rfl⟩ | ⟨_,hM'⟩
         ·exact b6 s M hM hb
         ·exact k.same i s s' M M' hM hM' hb) (zaT _ _ _) b0 (k.notRo ho rfl)
     split at e
     ·rename_i hkeep;cases e;refine ⟨rfl,common _ ⟨by omega,by omega,nvfree,fun r' e' a1 a2 a3=>?_,fun r' e' a1 a2 a3=>?_⟩⟩
      ·by_cases hr:r'=nv
       ·subst hr;simp [zG] at a3; subst a3;exact ⟨L1,by rw [hR']; exact R.upd_same _ _ _,b7⟩
       ·have hold:zG ex m hi' r'=some e':=by
         simp only [zG,if_neg hr] at a3;simp only [zG];rw [T.get_set] at a3;exact a3
        obtain ⟨M,hM,hv⟩:=b8 hkeep.1 r' e' a1 (by omega) hold;exact ⟨M,hle _ _ _ hM,hv⟩
      ·by_cases hr:r'=nv
       ·subst hr; simp [zG] at a3; omega
       ·have hold:zG ex m hi' r'=some e':=by
         simp only [zG,if_neg hr] at a3;simp only [zG];rw [T.get_set] at a3;exact a3
        have:=o5 r' e' a1 (by omega) hold;omega
     ·cases e;refine ⟨rfl,common _ ⟨Nat.le_refl _,by omega,nvfree,fun r' e' a1 a2 a3=>?_,fun r' e' a1 a2 a3=>?_⟩⟩
      ·obtain rfl:r'=nv:=by omega
       simp [zG] at a3; subst a3;exact ⟨L1,by rw [hR']; exact R.upd_same _ _ _,b7⟩
      ·obtain rfl:r'=nv:=by omega
       simp [zG] at a3; omega
    by_cases hcap:sLen+n≤L.kap - st
    ·
     have hst:st<L.kap:=by omega
     obtain rfl:=haddr hst;have hbound:(st+(sLen+n))*inf.size≤cs.size+L.minus:=by
      rw [← g3.1]; exact Nat.mul_le_mul_right _ (by omega)
     have hrun:=wv P L.block (off - L.minus+sLen*inf.size) el' f0 f1 vs 0 w cs g1 (zcW hnew hone) (by omega) (fun j a1 a2 hj=>by
      rcases g4.2 j hj.1 hj.2 with h1 | h1
      ·omega
      ·omega)
     have happ:=jo (argTypes:=argTypes) (ty:=ty) (a:=⟨L.block,off - L.minus,none⟩) ht hu htd hud hi hz hzs hs0 (ha w rfl) hcap (by rw [add_plain]; exact hrun);have hle:=R.le_upd (i:=i) (r:=nv) L hnv;have hidx:off - L.minus+sLen*inf.size+0=off+sLen*inf.size - L.minus:=by omega
     rw [hidx] at hrun happ;have hself:=qG w L.block (zfz cs (off+sLen*inf.size - L.minus) vs) el' (f0,f1) hlt;have upd_rel:∀ e',(∀ k,off+sLen*inf.size≤k→k<e'→k<off+sLen*inf.size+new.length)→(∀ k v,k<e'→k<off+sLen*inf.size→L.minus≤k→c.get k=some v→∃ x,cs[k - L.minus]?=some x∧VRel R v x)→e'≤cs.size+L.minus →
      VerRel P (R.upd i nv L) (xP w L.block (zfz cs (off+sLen*inf.size - L.minus) vs) el' (f0,f1)) (zd c (off+sLen*inf.size) new) el' fz sg e' L:=by
      intro e' q1 q2 q3;refine ⟨_,f0,f1,hself,by rw [xD]; exact q3,by rw [xD,hcell]; exact g3,⟨g4.1,fun j a b=>by rw [xD]; exact g4.2 j a b⟩,fun j x a1 a2 a3=>?_⟩;rw [zk] at a3;rw [zaX _ _ _ _ (by omega),hvl];split at a3
      ·rename_i hj;rw [if_pos (by omega)];obtain ⟨y,hy,hyr⟩:=hnew.get _ x a3;exact ⟨y,by rw [← hy]; congr 1; omega,VRel.mono hle _ _ hyr⟩
      ·rename_i hj;have hjlt:j<off+sLen*inf.size:=by
        rcases Nat.lt_or_ge j (off+sLen*inf.size) with h1 | h1
        ·exact h1
        ·exact absurd ⟨h1,q1 j h1 a1⟩ hj
       rw [if_neg (by omega)];obtain ⟨y,hy,hyr⟩:=q2 j x a1 hjlt a2 a3;exact ⟨y,hy,VRel.mono hle _ _ hyr⟩
     obtain ⟨hv,hH⟩:=fin (R.upd i nv L) (xP w L.block (zfz cs (off+sLen*inf.size - L.minus) vs) el' (f0,f1)) L rfl hle (fun b hb=>zF w _ _ _ (k.off hL (k.notRo ho rfl) hb)) (k.place i r L hL).1 (by rw [xk]; exact hlt) (by rw [xk]; exact Nat.le_refl _)
      (fun j r' M hj e hb=>hj (k.apart _ _ _ _ _ _ e hL hb (.inr (k.notRo ho rfl)))) (fun j r' M hj e=>zF w _ _ _ (fun hb=>hj (k.apart _ _ _ _ _ _ e hL hb (.inr (k.notRo ho rfl)))))
      (fun r' M e hb=>k.same i r' r M L e hL hb)
      (upd_rel _ (fun k a b=>by omega) (fun k v a b c d=>g5 k v (by omega) c d) (by omega))
      (fun hkeep r' e' a1 a2 a3=>by
       obtain ⟨M,hM,hv⟩:=o4 r' e' a1 a2 a3;have he':=o5 r' e' a1 a2 a3;refine ⟨M,hM,?_⟩
       by_cases hb:M.block=L.block
       ·obtain ⟨cs2,q0,q1,q2,q3,q4,q5,q6⟩:=hv;have hmin:=k.same i r' r M L hM hL hb;rw [hb,g1] at q2;cases q2;obtain ⟨cs3,z0,z1,z2,z3,z4,z5,z6⟩:=upd_rel e' (fun k a b=>by omega) (fun k v a b c d=>by rw [← hmin] at c ⊢; exact q6 k v a c d) (by omega);rw [hself] at z2; cases z2;exact ⟨_,f0,f1,by rw [hb]; exact hself,by omega,by rw [xD]; exact q4,⟨q5.1,fun j a b=>by rw [xD]; exact q5.2 j a b⟩,fun k v a b c=>by rw [hmin] at b ⊢; exact z6 k v a b c⟩
       ·have hold:=hv.mono (w':=xP w L.block (zfz cs (off+sLen*inf.size - L.minus) vs) el' (f0,f1)) hle (zF w _ _ _ hb);obtain ⟨cs2,q0,q1,q2,q3,q4,q5,q6⟩:=hold;refine ⟨cs2,q0,q1,q2,q3,q4,q5,fun k v a b c=>?_⟩;rw [zk,if_neg (by omega)] at c;exact q6 k v a b c)
     subst hv;refine ⟨_,_,_,happ,⟨L,_,R.upd_same _ _ _,hm,by omega,rfl,fun _=>rfl⟩,hH,⟨rfl,rfl,rfl,by rw [xk]; exact Nat.le_refl _,hle,fun b hb hn=>⟨zF w _ _ _ (fun e=>hn i r L hL e.symm),fun j s M hM=>?_⟩,Nat.le_refl _⟩⟩
     by_cases hc:j=i∧s=nv
     ·rw [hc.1,hc.2,R.upd_same] at hM; cases hM; exact hn i r L hL
     ·rw [R.upd_other L hc] at hM; exact hn j s M hM
    ·
     have hold:∀ w',w'.heap=w.heap→(Builtin.firstCells inf.size sLen (.slice (some a) sLen (L.kap - st))).run P w'=.ok ((cs.extract (off - L.minus) (off - L.minus+sLen*inf.size)).toList.toArray) w':=by
      intro w' hw';simp only [Builtin.firstCells,Array.toArray_toList]
      by_cases hst:st<L.kap
      ·obtain rfl:=haddr hst;have:=yZ P L.block (off - L.minus) el' (f0,f1) w' cs (by rw [hw']; exact g1) (sLen*inf.size) 0 #[] (by omega);rw [loadCells,this,Array.empty_append]; rfl
      ·have hl0:sLen=0:=by omega
       subst hl0;simp [loadCells,loadCellsFrom];exact Nat.min_le_left _ _
     obtain ⟨newCap,⟨hge,hcb⟩,happ⟩:=zat (argTypes:=argTypes) (ty:=ty) ht hu htd hud hi hz hzs hs0 ha (by omega) c8 hold;have kapb:newCap+st≤off+9223372036854775807:=by have:=Nat.le_mul_of_pos_right st hs0; omega
     have hle:=R.le_upd (i:=i) (r:=nv) ⟨w.heap.size,off,newCap+st⟩ hnv;have hosz:(cs.extract (off - L.minus) (off - L.minus+sLen*inf.size)).toList.length=sLen*inf.size:=by simp; omega
     have hzsz:(Builtin.zeroCells zv.cells (newCap - (sLen+n))).size=(newCap - (sLen+n))*inf.size:=by rw [vH,hzs]
     have hmul:sLen*inf.size+n*inf.size+(newCap - (sLen+n))*inf.size=newCap*inf.size:=by rw [← Nat.add_mul,← Nat.add_mul]; congr 1; omega
     generalize hrow:((cs.extract (off - L.minus) (off - L.minus+sLen*inf.size)).toList.toArray++vs.toArray++Builtin.zeroCells zv.cells (newCap - (sLen+n)))=row at happ;have hrs:row.size=newCap*inf.size:=by rw [← hrow]; simp only [Array.size_append,List.size_toArray,hosz,hzsz]; omega
     have hbnew:(w.drew.alloc (.cells row el')).heap[w.heap.size]?=some (.cells row el' (0,0)):=by show (w.heap.push _)[w.heap.size]?=_; simp
     have hbold:∀ b,b<w.heap.size→(w.drew.alloc (.cells row el')).heap[b]?=w.heap[b]?:=fun b hb=>by show (w.heap.push _)[b]?=_; rw [Array.getElem?_push,if_neg (by omega)]
     have hsz:(w.drew.alloc (.cells row el')).heap.size=w.heap.size+1:=by show (w.heap.push _).size=_; simp
     obtain ⟨hv,hH⟩:=fin (R.upd i nv ⟨w.heap.size,off,newCap+st⟩) (w.drew.alloc (.cells row el')) ⟨w.heap.size,off,newCap+st⟩ rfl hle (fun b hb=>hbold b (Nat.lt_of_lt_of_le (Base.low_lt hb) hB)) (.inl (.inl hB)) (by rw [hsz]; exact Nat.lt_succ_self _) (by rw [hsz]; omega)
      (fun j r' M hj e hb=>by have:=(k.place j r' M e).2; simp only at hb; omega) (fun j r' M hj e=>hbold _ (k.place j r' M e).2)
      (fun r' M e hb=>by have:=(k.place i r' M e).2; simp only at hb; omega)
      ⟨row,0,0,hbnew,by simp only; omega,⟨by simp only; rw [hcell,hrs,Nat.add_mul,← c6],by simp only; rw [hcell,c6]; exact Nat.dvd_mul_left _ _⟩,⟨⟨Nat.le_refl _,fun _=>kapb⟩,fun j a b=>by omega⟩,fun j x a1 a2 a3=>by
       simp only at a2;rw [zk] at a3;split at a3
       ·rename_i hj;obtain ⟨y,hy,hyr⟩:=hnew.get _ x a3;refine ⟨y,(?_:row[j - off]?=some y),VRel.mono hle _ _ hyr⟩;rw [← hrow,Array.getElem?_append,if_pos (by simp only [Array.size_append,List.size_toArray,hosz]; omega),Array.getElem?_append,if_neg (by simp only [List.size_toArray,hosz]; omega)];simp only [List.size_toArray,hosz,List.getElem?_toArray];rw [← hy]; congr 1; omega
       ·rename_i hj;obtain ⟨y,hy,hyr⟩:=g5 j x (by omega) (by omega) a3;refine ⟨y,(?_:row[j - off]?=some y),VRel.mono hle _ _ hyr⟩;rw [← hrow,Array.getElem?_append,if_pos (by simp only [Array.size_append,List.size_toArray,hosz]; omega),Array.getElem?_append,if_pos (by simp only [List.size_toArray,hosz]; omega)];rw [Array.toArray_toList,Array.getElem?_extract,if_pos (by omega),← hy];congr 1; omega⟩
      (fun hkeep r' e' a1 a2 a3=>by
       obtain ⟨M,hM,hv⟩:=o4 r' e' a1 a2 a3;have he':=o5 r' e' a1 a2 a3;refine ⟨M,hM,?_⟩;obtain ⟨cs2,q0,q1,q2,q3,q4,q5,q6⟩:=hv.mono (w':=w.drew.alloc (.cells row el')) hle (hbold _ (k.place i r' M hM).2);refine ⟨cs2,q0,q1,q2,q3,q4,q5,fun k v a b c=>?_⟩;rw [zk,if_neg (by omega)] at c;exact q6 k v a b c)
     subst hv;refine ⟨_,_,_,happ,⟨_,_,R.upd_same _ _ _,Nat.le_refl _,by simp only; omega,by simp only; congr 1; omega,fun _=>by simp⟩,hH,⟨rfl,rfl,rfl,by rw [hsz]; omega,hle,fun b hb hn=>⟨hbold b hb,fun j s M hM=>?_⟩,Nat.le_succ _⟩⟩
     by_cases hc:j=i∧s=nv
     ·rw [hc.1,hc.2,R.upd_same] at hM; cases hM; simp only; omega
     ·rw [R.upd_other _ hc] at hM; exact hn j s M hM
   ·cases e
 ·cases e
theorem kW {w w':World}{a:Addr}(hw:w'.heap=w.heap)(hrow:∃ cs el fz,w.heap[a.block]?=some (.cells cs el fz)):∀ (m i:Nat) (acc r:Array Value) (w2:World),
 (loadCellsFrom a i m acc).run P w=.ok r w2→(loadCellsFrom a i m acc).run P w'=.ok r w'
 | 0,i,acc,r,w2,hr=>by simp [loadCellsFrom] at hr ⊢; exact hr.1
 | m+1,i,acc,r,w2,hr=>by
  simp only [loadCellsFrom,Sem.run_bind,run_load] at hr ⊢;have hce:w'.cell? (a.add i)=w.cell? (a.add i):=by simp only [World.cell?,hw]
  rw [hce];cases hcc:w.cell? (a.add i) with
  | some x=>rw [hcc] at hr; simp only [Result.andThen_ok] at hr ⊢; exact kW hw hrow m _ _ _ _ hr
  | none =>
   rw [hcc] at hr;obtain ⟨cs,el,fz,hb⟩:=hrow;have hblk:(a.add i).block=a.block:=by simp only [Addr.add]; split <;> rfl
   simp only [World.farLoad,hblk,hb] at hr;cases hr
theorem zqr (k:HRel P B R h w){s:AV}{a:Addr}{l c size n:Nat}{old:List AV}(hs:VRel R s (.slice (some a) l c))(hns:∀ i r o len st,s≠.slg i r o len st)(hsl:s≠.sle)(e:yt h size n s=some old) :
 ∃ cs el fz,w.heap[a.block]?=some (.cells cs el fz):=by
 unfold yt at e;split at e
 ·cases hs
 ·obtain ⟨L,hL,hm,hh⟩:=hs;cases hh;unfold zb at e;split at e
  ·rename_i c m el lo hi nv fz sg ex ho;split at e
   ·cases e
   ·rename_i e' he;split at e
    ·rename_i hc;obtain ⟨L',hL',cs,f0,f1,g1,_⟩:=k.ver hL ho hc.1 hc.2.1 he;rw [hL] at hL'; cases hL';exact ⟨_,_,_,g1⟩
    ·cases e
  ·rename_i c lo m ho;split at e
   ·rename_i hc;obtain ⟨L',cs,el,fz,hL',q1,q2,q3,q4⟩:=k.obj' hL ho;rw [hc.1,hL'] at hL; cases hL;exact ⟨_,_,_,q2⟩
   ·cases e
  ·cases e
 ·exact absurd rfl (hns _ _ _ _ _)
 ·cases hs
 ·exact absurd rfl hsl
 ·cases e
theorem qy (k:HRel P B R h w)(hB:B.n≤w.heap.size){argTypes:Array TypeId}{ty t u el:TypeId}{ud:TypeDesc}{inf:TypeInfo}{zv x':Value}{b:Option Addr}{sLen sCap n:Nat}{s:AV}{new:List AV}{vs:List Value}{v:AV}{h':AHeap}
 (ht:argTypes[0]?=some t) (hu:argTypes[1]?=some u) (htd:P.underlying t=some (.slice el)) (hud:P.underlying u=some ud) (hi:P.info? el=some inf) (hz:inf.zero=some zv) (hzs:zv.cells.size=inf.size) (hs0:0<inf.size)
 (ha:∀ w',w'.heap=w.heap→Apd P w' el inf zv ud x' n vs) (hnew:VRels R new vs) (hnl:new.length=n*inf.size) (hgt:sCap<sLen+n)
 (hs:VRel R s (.slice b sLen sCap)) (hns:∀ i r o len st,s≠.slg i r o len st) (hsl:s≠.sle) (e:xy h el inf.size inf.bytes sLen (sLen+n) s new=some (v,h')) :
 Made P B R w (Builtin.append_ argTypes ty #[.slice b sLen sCap,x']) v h':=by
 unfold xy at e;split at e
 ·rename_i hroom;split at e
  ·cases e
  ·rename_i old hold;split at e
   ·rename_i hc;cases e;obtain ⟨ovs,f1,f2⟩:=zaq k hold hs (fun i r o len st hh=>absurd hh (hns _ _ _ _ _));have hold':∀ w',w'.heap=w.heap→(Builtin.firstCells inf.size sLen (.slice b sLen sCap)).run P w'=.ok ovs.toArray w':=by
     intro w' hw';cases b with
     | none=>simp [Builtin.firstCells] at f1 ⊢; exact f1
     | some a=>simp only [Builtin.firstCells] at f1 ⊢; exact kW hw' (zqr k hs hns hsl hold) _ _ _ _ _ f1
    obtain ⟨newCap,⟨hge,hcb⟩,happ⟩:=zat (argTypes:=argTypes) (ty:=ty) ht hu htd hud hi hz hzs hs0 ha hgt hroom hold';have hl:(old++new).length=(sLen+n)*inf.size:=by rw [List.length_append,hc.2,hnl,Nat.add_mul]
    obtain ⟨g1,g2⟩:=zkO k hB hi (f2.append hnew) hl (zs:=Builtin.zeroCells zv.cells (newCap - (sLen+n))) (by rw [vH,hzs]) hge hcb;refine ⟨_,_,_,happ,zgl R hge,?_,?_⟩
    ·simpa using g1
    ·simpa using g2
   ·cases e
 ·cases e
end
end Go.Proofs.Ytcdigdplhlgcaaa.Ev
end
section
namespace Go.Proofs.Ytcdigdplhlgcaaa.Ev
open Go
section
variable {P:Program} {B:Base} {R:Bij} {h:AHeap} {w:World}
theorem zeu (k:HRel P B R h w){i r off n:Nat}{l:List AV}(e:zb h i r off n=some l){L:Loc}(hL:R i r=some L):∃ cs el fz,w.heap[L.block]?=some (.cells cs el fz):=by
 unfold zb at e;split at e
 ·rename_i c m el lo hi nv fz sg ex ho;split at e
  ·cases e
  ·rename_i e' he;split at e
   ·rename_i hc;obtain ⟨L',hL',cs,f0,f1,g1,_⟩:=k.ver hL ho hc.1 hc.2.1 he;rw [hL] at hL'; cases hL';exact ⟨_,_,_,g1⟩
   ·cases e
 ·rename_i c lo m ho;split at e
  ·rename_i hc;obtain ⟨L',cs,el,fz,hL',q1,q2,q3,q4⟩:=k.obj' hL ho;rw [hc.1,hL'] at hL; cases hL;exact ⟨_,_,_,q2⟩
  ·cases e
 ·cases e
theorem zjo (k:HRel P B R h w){size n:Nat}{x:AV}{x':Value}{l:List AV}(e:yt h size n x=some l)(hx:VRel R x x')(hn:∀ i r o len st,x=.slg i r o len st→n≤len) :
 ∃ vs:List Value,VRels R l vs∧∀ w':World,w'.heap=w.heap→(Builtin.firstCells size n x').run P w'=.ok vs.toArray w':=by
 unfold yt at e;split at e
 ·cases e; cases hx; exact ⟨[],rfl,fun _ _=>by simp [Builtin.firstCells]⟩
 ·obtain ⟨L,hL,hm,rfl⟩:=hx;obtain ⟨vs,e1,e2,_⟩:=zB k e hL hm;exact ⟨vs,e2,fun w' hw=>by simp only [Builtin.firstCells]; exact kW hw (a:=⟨L.block,_,none⟩) (zeu k e hL) _ _ _ _ _ e1⟩
 ·rename_i i r o len st;obtain ⟨L,a,hL,hm,hk,rfl,ha⟩:=hx;obtain ⟨vs,e1,e2,e3⟩:=zB k e hL hm
  by_cases hlt:st<L.kap
  ·obtain rfl:=ha hlt;exact ⟨vs,e2,fun w' hw=>by simp only [Builtin.firstCells]; exact kW hw (a:=⟨L.block,_,none⟩) (zeu k e hL) _ _ _ _ _ e1⟩
  ·have hn0:=hn _ _ _ _ _ rfl;have:n=0:=by omega
   subst this;simp at e3;have hl0:l=[]:=by simpa using e3
   subst hl0;cases e2;exact ⟨[],rfl,fun _ _=>by simp [Builtin.firstCells,loadCells,loadCellsFrom]⟩
 ·rename_i s;cases e; cases hx;refine ⟨(s.take n).map fun b=>.int .u8 b.toNat,kY R _,fun w' _=>?_⟩;simp only [Builtin.firstCells,Sem.run_pure];congr 1;rw [jO];simp
 ·split at e
  ·cases e;obtain ⟨a,rfl⟩:=hx;exact ⟨[],rfl,fun _ _=>by simp [Builtin.firstCells,loadCells,loadCellsFrom]⟩
  ·cases e
 ·cases e
theorem zgD {u:TypeId}(e:qZ P u=some true):∃ k,P.underlying u=some (.int k):=by
 unfold qZ at e;split at e
 ·cases e
 ·rename_i d hd;split at e
  ·exact ⟨_,hd⟩
  ·cases e
theorem zfY {u:TypeId}(e:qZ P u=some false):∃ d,P.underlying u=some d∧∀ k,d≠.int k:=by
 unfold qZ at e;split at e
 ·cases e
 ·rename_i d hd;split at e
  ·cases e
  ·rename_i hn;exact ⟨d,hd,fun k hk=>hn k hk⟩
theorem zdo {z:AV}{zv:Value}(hz:VRel R z zv)(n:Nat):VRels R (zC z.cells n) (Builtin.zeroCells zv.cells n).toList:=qo hz n
theorem zcF (k:HRel P B R h w){u el:TypeId}{inf:TypeInfo}{z x:AV}{zv x':Value}{zeros:Bool}{n:Nat}{new:List AV}(hzr:VRel R z zv)(hu:qZ P u=some zeros)(hx:VRel R x x')
 (e:qU h inf.size z zeros x=some (n,new)) (hb:zeros=true→Nat.ble (n*inf.bytes) (2 ^ 48)=true) :
 ∃ ud vs,P.underlying u=some ud∧VRels R new vs∧∀ w',w'.heap=w.heap→Apd P w' el inf zv ud x' n vs:=by
 unfold qU at e;split at e
 ·obtain ⟨k',hud⟩:=zgD hu;split at e
  ·rename_i kk l;split at e
   ·rename_i hl;cases e;cases hx;refine ⟨_,_,hud,zdo hzr l.toNat,fun w' _=>⟨fun _=>⟨kk,l,rfl,hl.1,hl.2,rfl,?_,rfl⟩,fun hn=>absurd rfl (hn k')⟩⟩;have:=hb rfl;rw [Nat.ble_eq] at this;have h2:((l.toNat*inf.bytes:Nat):Int)≤2 ^ 48:=by exact_mod_cast this
    have h3:((l.toNat:Nat):Int)=l:=Int.toNat_of_nonneg hl.1;rw [Int.natCast_mul,h3] at h2;exact h2
   ·cases e
  ·cases e
 ·obtain ⟨ud,hud,hni⟩:=zfY hu;split at e
  ·cases e
  ·rename_i m hm;split at e
   ·cases e
   ·rename_i nw hnw;cases e;obtain ⟨vs,f1,f2⟩:=zjo k hnw hx (fun i r o len st hh=>by subst hh; cases hm; exact Nat.le_refl _);exact ⟨ud,vs,hud,f1,fun w' hw=>⟨fun ⟨k',hk'⟩=>absurd hk' (hni k'),fun _=>⟨wo w' hm hx,f2 w' hw⟩⟩⟩
theorem jU (k:HRel P B R h w){argTypes:Array TypeId}{ty t u el:TypeId}{ud:TypeDesc}{inf:TypeInfo}{zv x' s':Value}{i r off st sLen n:Nat}{new:List AV}{vs:List Value}{v:AV}{h':AHeap}
 (ht:argTypes[0]?=some t) (hu:argTypes[1]?=some u) (htd:P.underlying t=some (.slice el)) (hud:P.underlying u=some ud) (hi:P.info? el=some inf) (hz:inf.zero=some zv) (hzs:zv.cells.size=inf.size) (hs0:0<inf.size)
 (ha:Apd P w el inf zv ud x' n vs) (hnew:VRels R new vs) (hn0:0<n)
 (hs:VRel R (.slg i r off sLen st) s') (e:xl h el inf.size i r off st sLen (sLen+n) new=some (v,h')) :
 Made P B R w (Builtin.append_ argTypes ty #[s',x']) v h':=by
 obtain ⟨L,a,hL,hm,hk,rfl,haddr⟩:=hs;unfold xl at e;split at e
 ·rename_i c m el' lo hi' nv fz sg ex ho;split at e
  ·cases e
  ·rename_i ee he;split at e
   ·rename_i hc;obtain ⟨c0,c1,c2,rfl,c4⟩:=hc;split at e
    ·cases e
    ·rename_i h2 hst;cases e;obtain ⟨L',hL',cs,f0,f1,g1,g2,g3,g4,g5⟩:=k.ver hL ho c1 c2 he;rw [hL] at hL'; cases hL';rw [zx hi] at g3;have hkap:st+(sLen+n)≤L.kap:=by
      refine Nat.le_of_mul_le_mul_right ?_ hs0;rw [g3.1,Nat.add_mul,← c4];exact Nat.le_trans c0 g2
     obtain rfl:=haddr (by omega);obtain ⟨w',q1,q2,q3⟩:=zu k hst hL (by omega) hnew;refine ⟨R,_,w',jo (a:=⟨L.block,off - L.minus,none⟩) ht hu htd hud hi hz hzs hs0 ha (by omega) ?_,⟨L,_,hL,hm,hkap,rfl,fun _=>rfl⟩,q2,q3⟩;rw [add_plain,← q1]; congr 3; omega
   ·cases e
 ·cases e
theorem zem (k:HRel P B R h w)(hB:B.n≤w.heap.size){t u ty:TypeId}{argTypes:Array TypeId}{zeros:Bool}{s x v:AV}{s' x':Value}{h':AHeap}(e:qS P h t zeros s x=some (v,h'))
 (ht:argTypes[0]?=some t) (hu:argTypes[1]?=some u) (hz:qZ P u=some zeros) (hs:VRel R s s') (hx:VRel R x x') :
 Made P B R w (Builtin.append_ argTypes ty #[s',x']) v h':=by
 unfold qS at e;split at e
 ·cases e
 ·rename_i ut hut;split at e
  ·rename_i el;unfold vz at e;split at e
   ·cases e
   ·rename_i inf hi;split at e
    ·cases e
    ·rename_i z hzt;split at e
     ·cases e
     ·rename_i sLen hsl;split at e
      ·cases e
      ·rename_i n new hap;split at e
       ·rename_i hc;obtain ⟨c1,c2,c3,c4,c5,c6⟩:=hc;obtain ⟨inf',zv,hi',hzv,hzr⟩:=zI R hzt;rw [hi] at hi'; cases hi';have hzs:zv.cells.size=inf.size:=by have:=hzr.cells.length; rw [← c2,← this]; simp
        obtain ⟨ud,vs,hud,hnew,ha⟩:=zcF (el:=el) k hzr hz hx hap c6;split at e
        ·
         obtain ⟨rfl,rfl,b,l,c,rfl,hlc⟩:=zaJ e hs;have hn0:new=[]:=by simpa using c5
         subst hn0;cases hnew;refine ⟨R,.slice b l c,w,?_,hs,k,Keeps.refl _ _⟩;cases b with
         | none=>exact append_nil ht hu hut hud hi hzv (ha w rfl) hlc
         | some a=>exact jo ht hu hut hud hi hzv hzs c1 (ha w rfl) (by omega) (by simp [storeCells])
        ·rename_i n0;unfold za3 at e;split at e
         ·rename_i l cap;split at e
          ·cases hs; cases hsl;exact qy (s:=.nils sLen 0) k hB ht hu hut hud hi hzv hzs c1 ha hnew c5 (by omega) rfl (by simp) (by simp) e
          ·cases e
         ·rename_i i r off l cap;obtain ⟨L,hL,hm,rfl⟩:=hs;cases hsl;split at e
          ·rename_i hle;unfold ziL at e;split at e
           ·cases e
           ·rename_i h2 hst;cases e;obtain ⟨w',g1,g2,g3⟩:=zu k hst hL (by omega) hnew;refine ⟨R,_,w',jo (a:=⟨L.block,off - L.minus,none⟩) ht hu hut hud hi hzv hzs c1 (ha w rfl) hle ?_,⟨L,hL,hm,rfl⟩,g2,g3⟩;rw [add_plain,← g1]; congr 3; omega
          ·exact qy (s:=.slc i r off sLen cap) k hB ht hu hut hud hi hzv hzs c1 ha hnew c5 (by omega) ⟨L,hL,hm,rfl⟩ (by simp) (by simp) e
         ·cases hsl;split at e
          ·rename_i hap2;cases e;exact jU k ht hu hut hud hi hzv hzs c1 (ha w rfl) hnew (by omega) hs hap2
          ·exact zax k hB ht hu hut hud hi hzv hzs c1 ha hnew c4 c5 (by omega) hs e
         ·cases e
       ·cases e
  ·cases e
theorem zbZ {mx:Bool}{a b v:AV}{a' b':Value}(w:World)(e:zqF mx a b=some v)(ha:VRel R a a')(hb:VRel R b b') :
 ∃ v',((if mx then Builtin.max2 a' b' else Builtin.min2 a' b')).run P w=.ok v' w∧VRel R v v':=by
 unfold zqF at e;split at e
 ·split at e
  ·cases e; cases ha; cases hb;cases mx
   ·exact ⟨_,rfl,by simp [VRel]⟩
   ·exact ⟨_,rfl,by simp [VRel]⟩
  ·cases e
 ·cases e
theorem ky {f:AV→AV→Option AV}{g:Value→Value→Sem Value}(w:World)(hf:∀ a b v a' b',f a b=some v→VRel R a a'→VRel R b b'→∃ v',(g a' b').run P w=.ok v' w∧VRel R v v') :
 ∀ {l:List AV} {l':List Value} {x v:AV} {x':Value},znR f x l=some v→VRel R x x'→VRels R l l'→∃ v',(l'.foldlM g x').run P w=.ok v' w∧VRel R v v'
 | [],_,x,v,x',e,hx,hl=>by cases e; cases hl; exact ⟨x',by simp,hx⟩
 | y::r,_,x,v,x',e,hx,hl=>by
  obtain ⟨y',ys,rfl,hy,hr⟩:=hl;simp only [znR] at e;split at e
  ·cases e
  ·rename_i z hz;obtain ⟨z',e1,e2⟩:=hf _ _ _ _ _ hz hx hy;obtain ⟨v',e3,e4⟩:=ky w hf e e2 hr;exact ⟨v',by simp [List.foldlM_cons,e1,e3],e4⟩
theorem zbY {mx:Bool}{l:List AV}{l':List Value}{v:AV}{ats:Array TypeId}{ty:TypeId}(w:World)(e:znm mx l=some v)(hl:VRels R l l') :
 ∃ v',(if mx then Builtin.max_ ats ty l'.toArray else Builtin.min_ ats ty l'.toArray).run P w=.ok v' w∧VRel R v v':=by
 unfold znm at e;split at e
 ·cases e
 ·rename_i x r;obtain ⟨y,ys,rfl,hy,hr⟩:=hl;cases mx
  ·exact ky w (fun a b v a' b' h1 h2 h3=>by simpa using zbZ (P:=P) (mx:=false) w h1 h2 h3) e hy hr
  ·exact ky w (fun a b v a' b' h1 h2 h3=>by simpa using zbZ (P:=P) (mx:=true) w h1 h2 h3) e hy hr
theorem zbe {x v:AV}{x':Value}{ats:Array TypeId}{ty:TypeId}(w:World)(e:zbD x=some v)(hx:VRel R x x'):∃ v',(Builtin.unsafeSliceData_ ats ty #[x']).run P w=.ok v' w∧VRel R v v':=by
 unfold zbD at e;split at e
 ·cases e; cases hx; exact ⟨.pointer none,rfl,rfl⟩
 ·split at e
  ·cases e
  ·cases e;obtain ⟨L,hL,hm,rfl⟩:=hx;exact ⟨_,rfl,L,hL,hm,rfl⟩
 ·rename_i i r o l st;split at e
  ·cases e
  ·cases e;obtain ⟨L,a,hL,hm,hk,rfl,ha⟩:=hx;obtain rfl:=ha (by omega);obtain ⟨q,hq⟩:∃ q,L.kap - st=q+1:=⟨L.kap - st - 1,by omega⟩;rw [hq];exact ⟨_,rfl,L,hL,hm,rfl⟩
 ·cases e
theorem zjB {t:TypeId}{x v:AV}{x':Value}{ats:Array TypeId}{ty:TypeId}(w:World)(e:capE P t x=some v)(hx:VRel R x x')(ht:ats[0]?=some t):∃ v',(Builtin.cap_ ats ty #[x']).run P w=.ok v' w∧VRel R v v':=by
 unfold capE at e;split at e
 ·rename_i hs;unfold ju at hs;split at hs
  ·rename_i el hel;unfold capA at e;split at e
   ·cases e;obtain ⟨L,hL,hm,rfl⟩:=hx;exact ⟨_,by simp [Builtin.cap_,ht,za w hel]; rfl,rfl⟩
   ·cases e; cases hx;exact ⟨_,by simp [Builtin.cap_,ht,za w hel]; rfl,rfl⟩
   ·cases e
  ·cases hs
 ·cases e
theorem zfU (k:HRel P B R h w)(hB:B.n≤w.heap.size){t:TypeId}{x:AV}{x':Value}{r:AR}(e:ziI P h t x=some r)(hx:VRel R x x'):OpRel P B R w (do pure (.value (← Instr.range t x'))) r:=by
 unfold ziI at e;split at e
 ·rename_i s;split at e
  ·rename_i hu;cases e; cases hx;obtain ⟨R',g1,g2,g3⟩:=zek k hB s;exact ⟨R',_,_,by simp [Instr.range,za w hu],g1,g2,g3⟩
  ·cases e
 ·cases e
end
end Go.Proofs.Ytcdigdplhlgcaaa.Ev
end
