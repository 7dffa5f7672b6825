import Derived.Test.YtcdigdplhlgcaaaG00
import Derived.Test.YtcdigdplhlgcaaaG01
import Derived.Test.YtcdigdplhlgcaaaG02
import Derived.Test.YtcdigdplhlgcaaaG03
import Derived.Test.YtcdigdplhlgcaaaG04
import Derived.Test.YtcdigdplhlgcaaaG05
import Derived.Test.YtcdigdplhlgcaaaG06
import Derived.Test.YtcdigdplhlgcaaaG07
import Derived.Test.YtcdigdplhlgcaaaG08
section
set_option maxRecDepth 100000
set_option linter.unusedVariables false
set_option linter.unusedSectionVars false
set_option linter.unusedSimpArgs false
namespace Go.Proofs.Ytcdigdplhlgcaaa.gx
open Go Ev tp
section
variable (n:Int) (sl:AV) (a b h:Int) (rest:List AFrame) (O:T AObj) (N:Nat) (G:T (T AV)) (z1:Int)
noncomputable def Wxsa:AM:=⟨frm 107 63 (tW (tW (tX (tY (.int .i64 a)) tZ) (.int .i64 n) tZ) sl (tW (tX (tY (.int .i64 b)) tZ) (.fn (Fn.func (69:FuncId)) [] []) (tY (.int .i64 h)))) [cdi 107 [1,1,0,0,0],ili 107 [1,1,0,0,0],.inBlock 0,cdi 107 [1,1,1]],rest,⟨O,N,G⟩⟩
noncomputable def ztj:AFrame:=frm 107 63 (tW (tW (tX (tX (tY (.int .i64 a)) tZ) tZ) (.int .i64 n) (tX (tX (tY (.fn (Fn.func (69:FuncId)) [] [])) tZ) tZ)) sl (tW (tX (tW (tY (.int .i64 b)) (.int .i64 b) tZ) tZ) (.fn (Fn.func (69:FuncId)) [] []) (tW tZ (.int .i64 h) (tY sl)))) [opi 107 [1,1,0,0,0,1,0,0] 4,cdi 107 [1,1,0,0,0,1,0,1],.inBlock 1,ili 107 [1,1,0,0,0],.inBlock 0,cdi 107 [1,1,1]]
noncomputable def zr9:AFrame:=frm 107 63 (tW (tW (tX (tX tZ (tY sl)) tZ) (.int .i64 n) (tX (tX tZ (tY (.int .i64 n))) tZ)) sl (tW (tX (tX tZ (tY (.int .i64 a))) tZ) (.fn (Fn.func (69:FuncId)) [] []) (tW (tX tZ (tY (.fn (Fn.func (69:FuncId)) [] []))) (.int .i64 h) tZ))) [opi 107 [1,1,1,0] 4,cdi 107 [1,1,1,1]]
noncomputable def ztb:AM:=⟨frm 107 63 (tW (tY (.int .i64 n)) sl (tW tZ (.fn (Fn.func (69:FuncId)) [] []) (tY (.int .i64 h)))) [cdi 107 [1,1,1,1,0,0],ili 107 [1,1,1,1,0,0],.inBlock 2],rest,⟨O,N,G⟩⟩
noncomputable def Wxsc:AM:=⟨frm 107 63 (tW (tW (tX (tY (.int .i64 a)) tZ) (.int .i64 n) tZ) sl (tW (tX (tY (.int .i64 b)) tZ) (.fn (Fn.func (69:FuncId)) [] []) (tY (.int .i64 h)))) [cdi 107 [1,1,1,1,0,0,1,0,1,0,0,0],ili 107 [1,1,1,1,0,0,1,0,1,0,0,0],.inBlock 4,cdi 107 [1,1,1,1,0,0,1,0,1,1],.inBlock 3,ili 107 [1,1,1,1,0,0],.inBlock 2],rest,⟨O,N,G⟩⟩
noncomputable def zrs:AFrame:=frm 107 63 (tW (tW tZ (.int .i64 n) (tX (tX tZ (tX (tY (.int .i64 b)) tZ)) (tX (tX (tY (.int .i64 a)) tZ) tZ))) sl (tW (tX (tW tZ (.int .i64 b) (tX (tY (.int .i64 (IntKind.i64.wrap (a+h)))) tZ)) (tX (tX (tY sl) tZ) tZ)) (.fn (Fn.func (69:FuncId)) [] []) (tW (tX tZ (tX (tY (.fn (Fn.func (69:FuncId)) [] [])) tZ)) (.int .i64 h) tZ))) [opi 107 [1,1,1,1,0,0,1,0,1,0,0,0,1,0,0] 7,cdi 107 [1,1,1,1,0,0,1,0,1,0,0,0,1,0,1],.inBlock 5,ili 107 [1,1,1,1,0,0,1,0,1,0,0,0],.inBlock 4,cdi 107 [1,1,1,1,0,0,1,0,1,1],.inBlock 3,ili 107 [1,1,1,1,0,0],.inBlock 2]
noncomputable def zpt:AFrame:=frm 107 63 (tW (tW (tX (tX tZ (tX tZ (tY sl))) (tX tZ (tX tZ (tY (.fn (Fn.func (69:FuncId)) [] []))))) (.int .i64 n) (tX (tX tZ (tX tZ (tY (.int .i64 (IntKind.i64.wrap (a+h)))))) tZ)) sl (tW (tX (tX tZ (tX tZ (tY (.int .i64 a)))) tZ) (.fn (Fn.func (69:FuncId)) [] []) (tW (tX tZ (tX tZ (tY (.int .i64 n)))) (.int .i64 h) tZ))) [opi 107 [1,1,1,1,0,0,1,0,1,1,0,1,1,0] 5,cdi 107 [1,1,1,1,0,0,1,0,1,1,1],.inBlock 3,ili 107 [1,1,1,1,0,0],.inBlock 2]
noncomputable def Fssf:AFrame:=frm 68 9 (tX (tX (tX (tY (.fn (Fn.func (69:FuncId)) [] [])) tZ) tZ) (tX (tY sl) (tY (.int .i64 z1)))) [opi 68 [] 4]
end
section
variable {R:AV→AHeap→Prop} {keep N:Nat} {f0:FuncId} {rest:List AFrame} {O:T AObj} {n a b h z1c:Int} {sl:AV} {G:T (T AV)} {K:AM→Prop} {td:List AItem}
theorem t_sbi:(K (Wxsa n sl 0 20 20 rest O N G))=OT f0 R keep K (.seq [.run 13,.keep [0,1,2,6,7,8]] .fin) ((AM.mk (enF 107 [sl,.int .i64 n,.fn (Fn.func 69) [] []]) rest ⟨O,N,G⟩)):=by kernel_rfl
theorem zqG:(((decide (b≤n))=true→(K (AM.mk (enF 125 [sl,.int .i64 a,.int .i64 b,.fn (Fn.func (69:FuncId)) [] []]) ((ztj n sl a b h)::rest) ⟨O,N,G⟩)))∧((decide (b≤n))=false→(K (AM.mk (enF 125 [sl,.int .i64 a,.int .i64 n,.fn (Fn.func (69:FuncId)) [] []]) ((zr9 n sl a h)::rest) ⟨O,N,G⟩))))=OT f0 R keep K (.seq [.run 7] (.fork 13 (.seq [.run 9,.keep [0,1,2,6,8,14,15,16,17],.run 1] .fin) (.seq [.run 8,.keep [0,1,2,6,23,24,25,26],.run 1] .fin))) ((Wxsa n sl a b h rest O N G)):=by kernel_rfl
theorem zmm:(K (Wxsa n sl b (IntKind.i64.wrap (b+h)) h rest O N G))=OT f0 R keep K (.seq [.run 15,.keep [0,1,2,6,7,8]] .fin) ((AM.mk (RF 125 53 .leaf td) ((ztj n sl a b h)::rest) ⟨O,N,G⟩)):=by kernel_rfl
theorem zff:(K (ztb n sl h rest O N G))=OT f0 R keep K (.seq [.run 4,.keep [0,1,2,6]] .fin) ((AM.mk (RF 125 53 .leaf td) ((zr9 n sl a h)::rest) ⟨O,N,G⟩)):=by kernel_rfl
theorem zpM:(((decide (h<n))=true→(K (Wxsc n sl 0 (IntKind.i64.wrap ((2:Int)*h)) h rest O N G)))∧((decide (h<n))=false→(K (AM.mk (RF 107 63 .leaf []) rest ⟨O,N,G⟩))))=OT f0 R keep K (.seq [.run 7] (.fork 30 (.seq [.run 13,.keep [0,1,2,6,7,8]] .fin) (.seq [.run 3,.keep []] .fin))) ((ztb n sl h rest O N G)):=by kernel_rfl
theorem znP:(((decide (b≤n))=true→(K (AM.mk (enF 126 [sl,.int .i64 a,.int .i64 (IntKind.i64.wrap (a+h)),.int .i64 b,.fn (Fn.func (69:FuncId)) [] []]) ((zrs n sl a b h)::rest) ⟨O,N,G⟩)))∧((decide (b≤n))=false→(((decide (IntKind.i64.wrap (a+h)<n))=true→(K (AM.mk (enF 126 [sl,.int .i64 a,.int .i64 (IntKind.i64.wrap (a+h)),.int .i64 n,.fn (Fn.func (69:FuncId)) [] []]) ((zpt n sl a h)::rest) ⟨O,N,G⟩)))∧((decide (IntKind.i64.wrap (a+h)<n))=false→(K (ztb n sl (IntKind.i64.wrap (h*(2:Int))) rest O N G))))))=OT f0 R keep K (.seq [.run 7] (.fork 35 (.seq [.run 12,.keep [0,1,2,6,8,36,37,40,41,42],.run 1] .fin) (.seq [.run 16] (.fork 54 (.seq [.run 7,.keep [0,1,2,6,55,56,57,58,59],.run 1] .fin) (.seq [.run 9,.keep [0,1,2,6]] .fin))))) ((Wxsc n sl a b h rest O N G)):=by kernel_rfl
theorem zkD:(K (Wxsc n sl b (IntKind.i64.wrap (b+IntKind.i64.wrap ((2:Int)*h))) h rest O N G))=OT f0 R keep K (.seq [.run 16,.keep [0,1,2,6,7,8]] .fin) ((AM.mk (RF 126 220 .leaf td) ((zrs n sl a b h)::rest) ⟨O,N,G⟩)):=by kernel_rfl
theorem zjc:(K (ztb n sl (IntKind.i64.wrap (h*(2:Int))) rest O N G))=OT f0 R keep K (.seq [.run 9,.keep [0,1,2,6]] .fin) ((AM.mk (RF 126 220 .leaf td) ((zpt n sl a h)::rest) ⟨O,N,G⟩)):=by kernel_rfl
theorem t_ssf:(∃ (z1:Int),(lN O N G 75 sl z1)∧K (AM.mk (enF 107 [sl,.int .i64 z1,.fn (Fn.func (69:FuncId)) [] []]) ((Fssf sl z1)::rest) ⟨O,N,G⟩))=OT f0 R keep K (.ex fun z1:Int=>(.seq [.run 3,.hopn (.int .i64 z1) O (N),.run 1,.keep [4,6,7],.run 1] .fin)) ((AM.mk (enF 68 [sl,.fn (Fn.func 69) [] []]) rest ⟨O,N,G⟩)):=by kernel_rfl
theorem znX:(K (AM.mk (RF 68 9 .leaf []) rest ⟨O,N,G⟩))=OT f0 R keep K (.seq [.run 3,.keep []] .fin) ((AM.mk (RF 107 63 .leaf td) ((Fssf sl z1c)::rest) ⟨O,N,G⟩)):=by kernel_rfl
end
variable {O O':T AObj} {N:Nat} {G:T (T AV)}
theorem Sor.same {xs ys:List TE}{a b:Nat}(h:Sor xs a b)(e:∀ k,a≤k→k<b→Fx ys k=Fx xs k):Sor ys a b:=fun u v g1 g2 g3=>by
 rw [e v (by omega) g3,e u g1 (by omega)];exact h u v g1 g2 g3
inductive Fr (ys:List TE) (h:Nat):Nat→Prop
 | zero:Fr ys h 0
 | snoc {a:Nat}:Fr ys h a→Sor ys a (a+h)→Fr ys h (a+h)
inductive Bl (ys:List TE) (h n:Nat):Nat→Prop
 | done {a:Nat}:n≤a→Bl ys h n a
 | one {a:Nat}:a<n→Sor ys a (min (a+h) n)→Bl ys h n (a+h)→Bl ys h n a
theorem Fr.same {xs ys:List TE}{h a:Nat}(f:Fr xs h a)(e:∀ k,k<a→Fx ys k=Fx xs k):Fr ys h a:=by
 induction f with
 | zero=>exact .zero
 | snoc f s ih=>exact .snoc (ih fun k hk=>e k (by omega)) (s.same fun k g1 g2=>e k g2)
theorem Bl.same {xs ys:List TE}{h n a:Nat}(f:Bl xs h n a)(e:∀ k,a≤k→k<n→Fx ys k=Fx xs k):Bl ys h n a:=by
 induction f with
 | done g=>exact .done g
 | one g s _ ih=>exact .one g (s.same fun k g1 g2=>e k g1 (by omega)) (ih fun k g1 g2=>e k (by omega) g2)
theorem Fr.bl {ys:List TE}{h n a:Nat}(f:Fr ys h a)(hh:0<h)(ha:a≤n)(b:Bl ys h n a):Bl ys h n 0:=by
 induction f with
 | zero=>exact b
 | snoc f s ih=>exact ih (by omega) (.one (by omega) (by rw [Nat.min_eq_left ha]; exact s) b)
theorem ztD {lo hi:Nat}{s:AV}{xs:List TE}(h:Arr O lo hi s xs)(hN:hi≤N)(hx:xs.length<1000000){keep:Nat}{f0:FuncId}{Q:AV→AHeap→Prop}{rest:List AFrame}
 (hK:∀ O' N' ys td,Arr O' lo hi s ys→Chg s O N O' N'→Rg xs ys 0 xs.length→Sor ys 0 xs.length→Goal P keep f0 Q (AM.mk (RF 107 63 .leaf td) rest ⟨O',N',G⟩)):Goal P keep f0 Q (AM.mk (enF 107 [s,.int .i64 ((xs.length:Nat):Int),.fn (Fn.func 69) [] []]) rest ⟨O,N,G⟩):=by
 have second:∀ (c h:Nat) (O2:T AObj) (N2:Nat) (ys:List TE),xs.length - h≤c→0<h→h<2*xs.length+40→Arr O2 lo hi s ys→Chg s O N O2 N2→Rg xs ys 0 xs.length→Bl ys h xs.length 0→Goal P keep f0 Q (ztb ((xs.length:Nat):Int) s ((h:Nat):Int) rest O2 N2 G):=by
  intro c
  induction c with
  | zero =>
   intro h O2 N2 ys hc hh hl hA cA rA bA;refine ot zpM (fkf (decide_eq_false (by omega)) (hK O2 N2 ys _ hA cA rA ?_));cases bA with
   | done g=>intro u v g1 g2 g3; omega
   | one g s1 _=>rw [Nat.zero_add,Nat.min_eq_right (by omega)] at s1; exact s1
  | succ c ih =>
   intro h O2 N2 ys hc hh hl hA cA rA bA
   by_cases hlt:h<xs.length
   ·have w1:IntKind.i64.wrap ((2:Int)*((h:Nat):Int))=((2*h:Nat):Int):=by rw [IntKind.wrap_i64]; omega
    have w2:IntKind.i64.wrap (((h:Nat):Int)*(2:Int))=((h+h:Nat):Int):=by rw [IntKind.wrap_i64]; omega
    refine ot zpM (fkt (decide_eq_true (by omega)) ?_);rw [w1];have inner:∀ (c2 a:Nat) (O3:T AObj) (N3:Nat) (zs:List TE),xs.length - a≤c2→a≤xs.length→Arr O3 lo hi s zs→Chg s O N O3 N3→Rg xs zs 0 xs.length→Fr zs (h+h) a→Bl zs h xs.length a→Goal P keep f0 Q (Wxsc ((xs.length:Nat):Int) s ((a:Nat):Int) ((a+2*h:Nat):Int) ((h:Nat):Int) rest O3 N3 G):=by
     intro c2
     induction c2 with
     | zero =>
      intro a O3 N3 zs hc2 hal h3 c3 r3 f3 b3;have w3:IntKind.i64.wrap (((a:Nat):Int)+((h:Nat):Int))=((a+h:Nat):Int):=by rw [IntKind.wrap_i64]; omega
      refine ot znP (fkf (decide_eq_false (by omega)) (fkf (decide_eq_false (by rw [w3]; omega)) ?_));rw [w2];exact ih (h+h) O3 N3 zs (by omega) (by omega) (by omega) h3 c3 r3 (f3.bl (by omega) hal (.done (by omega)))
     | succ c2 ih2 =>
      intro a O3 N3 zs hc2 hal h3 c3 r3 f3 b3;have l3:=r3.1;have w3:IntKind.i64.wrap (((a:Nat):Int)+((h:Nat):Int))=((a+h:Nat):Int):=by rw [IntKind.wrap_i64]; omega
      by_cases hb:a+2*h≤xs.length
      ·refine ot znP (fkt (decide_eq_true (by omega)) ?_);rw [w3];cases b3 with
       | done g=>omega
       | one g s1 b4 =>
        cases b4 with
        | done g=>omega
        | one g2 s2 b5 =>
         rw [Nat.min_eq_left (by omega)] at s1 s2;refine zpL _ a (a+h) (a+2*h) zs O3 N3 _ (Nat.le_refl _) (by omega) (by omega) (by omega) (by omega) h3 (Nat.le_trans hN c3.1) s1 (by rw [show a+2*h=a+h+h by omega]; exact s2) fun O4 N4 ws td h4 c4 r4 s4=>?_;refine ot zkD ?_;have w4:IntKind.i64.wrap (((a+2*h:Nat):Int)+((2*h:Nat):Int))=((a+2*h+2*h:Nat):Int):=by rw [IntKind.wrap_i64]; omega
         rw [w1,w4];have f4:Fr ws (h+h) (a+(h+h)):=(f3.same fun k hk=>r4.2.1 k (.inl hk)).snoc (by rw [show a+(h+h)=a+2*h by omega]; exact s4);refine ih2 (a+2*h) O4 N4 ws (by omega) hb h4 (c3.trans c4) (r3.trans (r4.mono (Nat.zero_le _) hb)) (by rw [show a+2*h=a+(h+h) by omega]; exact f4) ?_;rw [show a+2*h=a+h+h by omega];exact b5.same fun k g1 g2=>r4.2.1 k (.inr (by omega))
      ·by_cases hm:a+h<xs.length
       ·refine ot znP (fkf (decide_eq_false (by omega)) (fkt (decide_eq_true (by rw [w3]; omega)) ?_));rw [w3];cases b3 with
        | done g=>omega
        | one g s1 b4 =>
         cases b4 with
         | done g=>omega
         | one g2 s2 b5 =>
          rw [Nat.min_eq_left (by omega)] at s1;rw [Nat.min_eq_right (by omega)] at s2;refine zpL _ a (a+h) xs.length zs O3 N3 _ (Nat.le_refl _) (by omega) (by omega) (by omega) (by omega) h3 (Nat.le_trans hN c3.1) s1 s2 fun O4 N4 ws td h4 c4 r4 s4=>?_;refine ot zjc ?_;rw [w2];exact ih (h+h) O4 N4 ws (by omega) (by omega) (by omega) h4 (c3.trans c4) (r3.trans (r4.mono (Nat.zero_le _) (Nat.le_refl _))) ((f3.same fun k hk=>r4.2.1 k (.inl hk)).bl (by omega) hal (.one g (by rw [Nat.min_eq_right (by omega)]; exact s4) (.done (by omega))))
       ·refine ot znP (fkf (decide_eq_false (by omega)) (fkf (decide_eq_false (by rw [w3]; omega)) ?_));rw [w2];refine ih (h+h) O3 N3 zs (by omega) (by omega) (by omega) h3 c3 r3 (f3.bl (by omega) hal ?_);cases b3 with
        | done g=>exact .done g
        | one g s1 b4 =>
         rw [Nat.min_eq_right (by omega)] at s1;exact .one g (by rw [Nat.min_eq_right (by omega)]; exact s1) (.done (by omega))
    have:=inner _ 0 O2 N2 ys (Nat.le_refl _) (Nat.zero_le _) hA cA rA .zero bA;rw [Nat.zero_add] at this;exact this
   ·refine ot zpM (fkf (decide_eq_false (by omega)) (hK O2 N2 ys _ hA cA rA ?_));cases bA with
    | done g=>intro u v g1 g2 g3; omega
    | one g s1 _=>rw [Nat.zero_add,Nat.min_eq_right (by omega)] at s1; exact s1
 have first:∀ (c a:Nat) (O2:T AObj) (N2:Nat) (ys:List TE),xs.length - a≤c→a≤xs.length→Arr O2 lo hi s ys→Chg s O N O2 N2→Rg xs ys 0 xs.length→Fr ys 20 a→Goal P keep f0 Q (Wxsa ((xs.length:Nat):Int) s ((a:Nat):Int) ((a+20:Nat):Int) 20 rest O2 N2 G):=by
  intro c
  induction c with
  | zero =>
   intro a O2 N2 ys hc hal hA cA rA fA;have lA:=rA.1;refine ot zqG (fkf (decide_eq_false (by omega)) ?_);refine zmd hA (Nat.le_trans hN cA.1) (by omega) (by omega) hal fun O3 N3 zs h3 c3 r3 s3=>?_;refine ot zff ?_;exact second _ 20 O3 N3 zs (Nat.le_refl _) (by omega) (by omega) h3 (cA.trans c3) (rA.trans (r3.mono (Nat.zero_le _) (Nat.le_refl _))) ((fA.same fun k hk=>r3.2.1 k (.inl hk)).bl (by omega) hal (.done (by omega)))
  | succ c ih =>
   intro a O2 N2 ys hc hal hA cA rA fA;have lA:=rA.1
   by_cases hb:a+20≤xs.length
   ·refine ot zqG (fkt (decide_eq_true (by omega)) ?_);refine zmd hA (Nat.le_trans hN cA.1) (by omega) (by omega) (by omega) fun O3 N3 zs h3 c3 r3 s3=>?_;refine ot zmm ?_;have w4:IntKind.i64.wrap (((a+20:Nat):Int)+(20:Int))=((a+20+20:Nat):Int):=by rw [IntKind.wrap_i64]; omega
    rw [w4];exact ih (a+20) O3 N3 zs (by omega) hb h3 (cA.trans c3) (rA.trans (r3.mono (Nat.zero_le _) hb)) ((fA.same fun k hk=>r3.2.1 k (.inl hk)).snoc s3)
   ·refine ot zqG (fkf (decide_eq_false (by omega)) ?_);refine zmd hA (Nat.le_trans hN cA.1) (by omega) (by omega) hal fun O3 N3 zs h3 c3 r3 s3=>?_;refine ot zff ?_;refine second _ 20 O3 N3 zs (Nat.le_refl _) (by omega) (by omega) h3 (cA.trans c3) (rA.trans (r3.mono (Nat.zero_le _) (Nat.le_refl _))) ((fA.same fun k hk=>r3.2.1 k (.inl hk)).bl (by omega) hal ?_)
    by_cases e:a<xs.length
    ·exact .one e (by rw [Nat.min_eq_right (by omega)]; exact s3) (.done (by omega))
    ·exact .done (by omega)
 exact ot t_sbi (first _ 0 O N xs (Nat.le_refl _) (Nat.zero_le _) h Chg.refl Rg.refl .zero)
theorem zr2 {lo hi:Nat}{s:AV}{xs:List TE}(h:Arr O lo hi s xs)(hN:hi≤N)(hx:xs.length<1000000){keep:Nat}{f0:FuncId}{Q:AV→AHeap→Prop}{rest:List AFrame}
 (hK:∀ O' N' ys td,Arr O' lo hi s ys→Chg s O N O' N'→Rg xs ys 0 xs.length→Sor ys 0 xs.length→Goal P keep f0 Q (AM.mk (RF 68 9 .leaf td) rest ⟨O',N',G⟩)):Goal P keep f0 Q (AM.mk (enF 68 [s,.fn (Fn.func 69) [] []]) rest ⟨O,N,G⟩):=by
 refine ot t_ssf ⟨_,(h.gv.sv tEn).len tSl _ _,?_⟩;refine ztD h hN hx fun O' N' ys td h2 c2 r2 s2=>?_;exact ot znX (hK O' N' ys _ h2 c2 r2 s2)
end Go.Proofs.Ytcdigdplhlgcaaa.gx
end
section
set_option maxRecDepth 100000
set_option linter.unusedVariables false
set_option linter.unusedSectionVars false
set_option linter.unusedSimpArgs false
namespace Go.Proofs.Ytcdigdplhlgcaaa.gx
open Go Ev tp
section
variable (n j:Int) (sl sl2:AV) (rest:List AFrame) (O:T AObj) (N:Nat) (G:T (T AV)) (i1 i2 i3 i4 i5 i6:Nat) (s1 s2:AV) (z1:Int) (l1 l2:List UInt8)
noncomputable def Wcpa:AM:=⟨frm 70 66 (tW (tW tZ (.fn (Fn.func (71:FuncId)) [] []) (tY (.int .i64 j))) sl tZ) [cdi 70 [1,1,0,1,0,0],ili 70 [1,1,0,1,0,0],.inBlock 0,cdi 70 [1,1,1]],rest,⟨O,N,G⟩⟩
noncomputable def zs4:AFrame:=frm 70 66 (tW (tW (tX (tX (tY (.bool true)) (tY sl)) (tX (tY sl) (tY (.agg [.str l2,s2])))) (.fn (Fn.func (71:FuncId)) [] []) (tW (tX tZ (tY (.int .i64 (IntKind.i64.wrap (j - (1:Int)))))) (.int .i64 j) (tW (tY (.ptr i1 i2 i3)) sl tZ))) sl (tX (tX (tX tZ (tY (.int .i64 j))) (tW (tY (.int .i64 j)) (.int .i64 j) tZ)) (tX (tX (tY (.fn (Fn.func (71:FuncId)) [] [])) (tY (.ptr i4 i5 i6))) (tW (tY (.agg [.str l1,s1])) (.int .i64 z1) tZ)))) [.drw (rg P 70 [1,1,0,1,0,0,1,0,0,0]) [10] [9,8,7,6,5,4,3,2,1,0],cdi 70 [1,1,0,1,0,0,1,0,0,1],.inBlock 1,cdi 70 [1,1,0,1,0,0,1,1],ili 70 [1,1,0,1,0,0],.inBlock 0,cdi 70 [1,1,1]]
noncomputable def zrA:AM:=⟨frm 70 66 (tW (tW (tX (tY (.int .i64 n)) tZ) (.fn (Fn.func (71:FuncId)) [] []) (tY (.int .i64 j))) sl (tX tZ (tY sl2))) [cdi 70 [1,1,0,1,0,0,1,0,0,1,0,1,0,1,0,0],ili 70 [1,1,0,1,0,0,1,0,0,1,0,1,0,1,0,0],.inBlock 2,cdi 70 [1,1,0,1,0,0,1,0,0,1,0,1,1],.inBlock 1,cdi 70 [1,1,0,1,0,0,1,1],ili 70 [1,1,0,1,0,0],.inBlock 0,cdi 70 [1,1,1]],rest,⟨O,N,G⟩⟩
noncomputable def zsh:AFrame:=frm 70 66 (tW (tW (tX (tW (tX tZ (tY (.agg [.str l2,s2]))) (.int .i64 n) (tX (tY sl2) tZ)) (tX (tX (tY (.bool true)) tZ) (tX (tY sl2) tZ))) (.fn (Fn.func (71:FuncId)) [] []) (tW (tX (tX (tY sl2) tZ) (tX (tY (.ptr i1 i2 i3)) tZ)) (.int .i64 j) (tX tZ (tX (tY (.int .i64 (IntKind.i64.wrap (n - (1:Int))))) tZ)))) sl (tX (tX (tX (tX (tY (.int .i64 n)) tZ) (tX (tY (.int .i64 n)) tZ)) (tX tZ (tX (tY (.int .i64 n)) tZ))) (tW (tX (tX (tY (.int .i64 z1)) tZ) (tX (tY (.agg [.str l1,s1])) tZ)) sl2 (tX (tX (tY (.fn (Fn.func (71:FuncId)) [] [])) tZ) (tX (tY (.ptr i4 i5 i6)) tZ))))) [.drw (rg P 70 [1,1,0,1,0,0,1,0,0,1,0,1,0,1,0,0,1,0,0,0]) [10,11] [9,8,7,6,5,4,3,2,1,0],cdi 70 [1,1,0,1,0,0,1,0,0,1,0,1,0,1,0,0,1,0,0,1],.inBlock 3,cdi 70 [1,1,0,1,0,0,1,0,0,1,0,1,0,1,0,0,1,1],ili 70 [1,1,0,1,0,0,1,0,0,1,0,1,0,1,0,0],.inBlock 2,cdi 70 [1,1,0,1,0,0,1,0,0,1,0,1,1],.inBlock 1,cdi 70 [1,1,0,1,0,0,1,1],ili 70 [1,1,0,1,0,0],.inBlock 0,cdi 70 [1,1,1]]
end
section
variable {R:AV→AHeap→Prop} {keep N i1c i2c i3c i4c i5c i6c:Nat} {f0:FuncId} {rest:List AFrame} {O:T AObj} {w w2 l1c l2c:List UInt8} {v v2 sl s1c s2c sl2:AV} {G:T (T AV)} {K:AM→Prop} {j z1c n:Int} {td:List AItem} {blq0:Bool}
theorem t_eqt:(∃ (O1:T AObj) (O2:T AObj),((Nat.beq (2) (AV.agg [AV.str w,v]).cells.length&&(AV.agg [AV.str w,v]).cells.all AV.one)=true∧T.set (some (AObj.cells (zd T.leaf 0 (AV.agg [AV.str w,v]).cells) (AV.agg [AV.str w,v]).cells.length 79 0 0 1 0 false T.leaf)) (⟨O,N,G⟩:AHeap).objs N=O1)∧((Nat.beq (2) (AV.agg [AV.str w2,v2]).cells.length&&(AV.agg [AV.str w2,v2]).cells.all AV.one)=true∧T.set (some (AObj.cells (zd T.leaf 0 (AV.agg [AV.str w2,v2]).cells) (AV.agg [AV.str w2,v2]).cells.length 79 0 0 1 0 false T.leaf)) (⟨O1,N+1,G⟩:AHeap).objs (N+1)=O2)∧(lC O2 (N+2) G N 0 (.str w))∧(zb (⟨O2,N+2,G⟩) (N+1) (0) (0) (1)=(some [.str w2]))∧K (AM.mk (RF 71 10 (tX tZ (tX (tY (.bool (w==w2))) tZ)) [cdi 71 [1,1]]) rest ⟨O2,N+2,G⟩))=OT f0 R keep K (.ex fun O1:T AObj=>(.ex fun O2:T AObj=>(.seq [.run 2,.hopn (.nilp) O1 (N),.hopn (.nilp) O2 (N+1),.run 5,.hop (.str w) O2,.run 1,.hop (.str w2) O2,.run 4,.keep [4]] .fin))) ((AM.mk (enF 71 [.agg [.str w,v],.agg [.str w2,v2]]) rest ⟨O,N,G⟩)):=by kernel_rfl
theorem ztm:(∃ (z1:Int),(lN O N G 75 sl z1)∧((decide (z1<(2:Int)))=true→(K (AM.mk (RF 70 66 (tX tZ (tX (tY sl) tZ)) [cdi 70 [1,0,1,0,1],cdi 70 [1,1]]) rest ⟨O,N,G⟩)))∧((decide (z1<(2:Int)))=false→(K (Wcpa 1 sl rest O N G))))=OT f0 R keep K (.ex fun z1:Int=>(.seq [.run 8,.hopn (.int .i64 z1) O (N),.run 2] (.fork 10 (.seq [.run 7,.keep [4]] .fin) (.seq [.run 9,.keep [0,1,5]] .fin)))) ((AM.mk (enF 70 [sl,.fn (Fn.func 71) [] []]) rest ⟨O,N,G⟩)):=by kernel_rfl
theorem zt0:(∃ (z1:Int),(lN O N G 75 sl z1)∧((decide (j<z1))=true→(∃ (i1:Nat) (i2:Nat) (i3:Nat) (l1:List UInt8) (s1:AV) (i4:Nat) (i5:Nat) (i6:Nat) (l2:List UInt8) (s2:AV),(iX 75 sl j i1 i2 i3)∧(zb (⟨O,N,G⟩) (i1) (i2) (i3) (2)=(some [.str l1,s1]))∧(zf P (75) (sl) (.int .i64 (IntKind.i64.wrap (j - (1:Int))))=(some (.ptr i4 i5 i6)))∧(zb (⟨O,N,G⟩) (i4) (i5) (i6) (2)=(some [.str l2,s2]))∧K (AM.mk (enF 71 [.agg [.str l1,s1],.agg [.str l2,s2]]) ((zs4 j sl i1 i2 i3 i4 i5 i6 s1 s2 z1 l1 l2)::rest) ⟨O,N,G⟩)))∧((decide (j<z1))=false→(K (AM.mk (RF 70 66 (tX tZ (tX (tY sl) tZ)) [cdi 70 [1,0,1,0,1]]) rest ⟨O,N,G⟩))))=OT f0 R keep K (.ex fun z1:Int=>(.seq [.run 5,.hopn (.int .i64 z1) O (N),.run 2] (.fork 15 (.ex fun i1:Nat=>(.ex fun i2:Nat=>(.ex fun i3:Nat=>(.ex fun l1:List UInt8=>(.ex fun s1:AV=>(.ex fun i4:Nat=>(.ex fun i5:Nat=>(.ex fun i6:Nat=>(.ex fun l2:List UInt8=>(.ex fun s2:AV=>(.seq [.run 9,.hopn (.ptr i1 i2 i3) O (N),.hop (.agg [.str l1,s1]) O,.run 3,.hopn (.ptr i4 i5 i6) O (N),.hop (.agg [.str l2,s2]) O,.run 1] .fin))))))))))) (.seq [.run 8,.keep [4]] .fin)))) ((Wcpa j sl rest O N G)):=by kernel_rfl
theorem zlW:(((blq0)=true→(∃ (s1:AV),(zN P (⟨O,N,G⟩) (75) (sl) ((some j)) (none) (none)=(some s1))∧K (zrA 1 j sl s1 rest O N G)))∧((blq0)=false→(K (Wcpa (IntKind.i64.wrap (j+(1:Int))) sl rest O N G))))=OT f0 R keep K (.seq [.run 2] (.fork 28 (.ex fun s1:AV=>(.seq [.run 5,.hop (s1) O,.run 9,.keep [0,1,5,6,7]] .fin)) (.seq [.run 9,.keep [0,1,5]] .fin))) ((AM.mk (RF 71 10 (tX tZ (tX (tY (.bool blq0)) tZ)) td) ((zs4 j sl i1c i2c i3c i4c i5c i6c s1c s2c z1c l1c l2c)::rest) ⟨O,N,G⟩)):=by kernel_rfl
theorem zr0:(∃ (z1:Int),(lN O N G 75 sl2 z1)∧((decide (n<z1))=true→(∃ (i1:Nat) (i2:Nat) (i3:Nat) (l1:List UInt8) (s1:AV) (i4:Nat) (i5:Nat) (i6:Nat) (l2:List UInt8) (s2:AV),(iX 75 sl2 n i1 i2 i3)∧(zb (⟨O,N,G⟩) (i1) (i2) (i3) (2)=(some [.str l1,s1]))∧(zf P (75) (sl2) (.int .i64 (IntKind.i64.wrap (n - (1:Int))))=(some (.ptr i4 i5 i6)))∧(zb (⟨O,N,G⟩) (i4) (i5) (i6) (2)=(some [.str l2,s2]))∧K (AM.mk (enF 71 [.agg [.str l1,s1],.agg [.str l2,s2]]) ((zsh n j sl sl2 i1 i2 i3 i4 i5 i6 s1 s2 z1 l1 l2)::rest) ⟨O,N,G⟩)))∧((decide (n<z1))=false→(∃ (s1:AV) (O1:T AObj) (s2:AV),(zN P (⟨O,N,G⟩) (75) (sl) ((some j)) (none) (none)=(some s1))∧(zi P (⟨O,N,G⟩) (Builtin.clear) ((some 75)) (none) ([s1])=(some (.val (.tup []) ⟨O1,N,G⟩)))∧(zN P (⟨O1,N,G⟩) (75) (sl) (none) ((some j)) (none)=(some s2))∧K (AM.mk (RF 70 66 (tX tZ (tX (tY s2) tZ)) [cdi 70 [1,0,1,0,1],.inBlock 1,cdi 70 [1,1,0,1,0,0,1,1],ili 70 [1,1,0,1,0,0],.inBlock 0,cdi 70 [1,1,1]]) rest ⟨O1,N,G⟩))))=OT f0 R keep K (.ex fun z1:Int=>(.seq [.run 5,.hopn (.int .i64 z1) O (N),.run 2] (.fork 35 (.ex fun i1:Nat=>(.ex fun i2:Nat=>(.ex fun i3:Nat=>(.ex fun l1:List UInt8=>(.ex fun s1:AV=>(.ex fun i4:Nat=>(.ex fun i5:Nat=>(.ex fun i6:Nat=>(.ex fun l2:List UInt8=>(.ex fun s2:AV=>(.seq [.run 9,.hopn (.ptr i1 i2 i3) O (N),.hop (.agg [.str l1,s1]) O,.run 3,.hopn (.ptr i4 i5 i6) O (N),.hop (.agg [.str l2,s2]) O,.run 1] .fin))))))))))) (.ex fun s1:AV=>(.ex fun O1:T AObj=>(.ex fun s2:AV=>(.seq [.run 6,.hop (s1) O,.hop (.tup []) O1,.run 5,.hop (s2) O1,.run 3,.keep [4]] .fin))))))) ((zrA n j sl sl2 rest O N G)):=by kernel_rfl
theorem zkE:((((!blq0))=true→(∃ (i1:Nat) (i2:Nat) (i3:Nat) (l1:List UInt8) (s1:AV) (i4:Nat) (i5:Nat) (i6:Nat) (O1:T AObj),(iX 75 sl2 n i1 i2 i3)∧(zb (⟨O,N,G⟩) (i1) (i2) (i3) (2)=(some [.str l1,s1]))∧(iX 75 sl j i4 i5 i6)∧((AV.agg [AV.str l1,s1]).cells.length.beq (2)=true∧zc (⟨O,N,G⟩:AHeap) i4 i5 i6 (AV.agg [AV.str l1,s1]).cells=some (⟨O1,N,G⟩:AHeap))∧K (zrA (IntKind.i64.wrap (n+(1:Int))) (IntKind.i64.wrap (j+(1:Int))) sl sl2 rest O1 N G)))∧(((!blq0))=false→(K (zrA (IntKind.i64.wrap (n+(1:Int))) j sl sl2 rest O N G))))=OT f0 R keep K (.seq [.run 3] (.fork 49 (.ex fun i1:Nat=>(.ex fun i2:Nat=>(.ex fun i3:Nat=>(.ex fun l1:List UInt8=>(.ex fun s1:AV=>(.ex fun i4:Nat=>(.ex fun i5:Nat=>(.ex fun i6:Nat=>(.ex fun O1:T AObj=>(.seq [.run 7,.hopn (.ptr i1 i2 i3) O (N),.hop (.agg [.str l1,s1]) O,.hopn (.ptr i4 i5 i6) O (N),.hopn (.nilp) O1 (N),.run 13,.keep [0,1,5,6,7]] .fin)))))))))) (.seq [.run 9,.keep [0,1,5,6,7]] .fin))) ((AM.mk (RF 71 10 (tX tZ (tX (tY (.bool blq0)) tZ)) td) ((zsh n j sl sl2 i1c i2c i3c i4c i5c i6c s1c s2c z1c l1c l2c)::rest) ⟨O,N,G⟩)):=by kernel_rfl
end
variable {O O':T AObj} {N:Nat} {G:T (T AV)}
theorem zoX {e e2:TE}{keep:Nat}{f0:FuncId}{Q:AV→AHeap→Prop}{rest:List AFrame}(hK:∀ O' N' td,Ext O N O' N'→Goal P keep f0 Q (AM.mk (RF 71 10 (tX tZ (tX (tY (.bool (e.1==e2.1))) tZ)) td) rest ⟨O',N',G⟩)):Goal P keep f0 Q (AM.mk (enF 71 [.agg [.str e.1,pv e.2],.agg [.str e2.1,pv e2.2]]) rest ⟨O,N,G⟩):=by
 obtain ⟨O1,e1,b1,f1⟩:=Obj.box (t:=79) [.str e.1,pv e.2] (by cases e.2 <;> rfl) O N 2 rfl;obtain ⟨O2,e2',b2,f2⟩:=Obj.box (t:=79) [.str e2.1,pv e2.2] (by cases e2.2 <;> rfl) O1 (N+1) 2 rfl;exact ot t_eqt ⟨O1,O2,e1,e2',(b1.same (f2 N (by omega))).ld 0 rfl,b2.ld 0 rfl,hK O2 (N+2) _ ⟨by omega,fun j hj=>(f2 j (by omega)).trans (f1 j (by omega))⟩⟩
theorem zim {ri q o n st a b:Nat}(hab:a≤b)(hb:b≤n)(l0 h0:Option Int)(e0:l0=some ((a:Nat):Int)∨l0=none∧a=0)(e1:h0=some ((b:Nat):Int)∨h0=none∧b=n)(h:AHeap):zN P h 75 (.slg ri q o n st) l0 h0 none=some (.slg ri q (o+a*2) (b - a) (st+a)):=by
 have bnd:∀ cap,n≤cap→zJ n cap l0 h0 none=some (a,b,cap):=fun cap hcap=>by
  unfold zJ;show (match xa n cap false h0 with | none=>none | some h=>match zT l0 h with | none=>none | some l=>some (l,h,cap))=_
  have h1:xa n cap false h0=some b:=by
   rcases e1 with rfl | ⟨rfl,rfl⟩
   ·show z8 _ cap=_;unfold z8;rw [if_pos ⟨by omega,by omega⟩];rfl
   ·rfl
  have h2:zT l0 b=some a:=by
   rcases e0 with rfl | ⟨rfl,rfl⟩
   ·show z8 _ b=_;unfold z8;rw [if_pos ⟨by omega,by omega⟩];rfl
   ·rfl
  rw [h1];simp only [h2]
 have red:zN P h 75 (.slg ri q o n st) l0 h0 none=(match yQ (some 2) (.slg ri q o n st) l0 h0 none with | some v=>some v | none=>zez P h 75 (.slg ri q o n st) l0 h0 none):=by
  unfold zN zbc;rw [tSl.und];simp only [tSl.size];cases yQ (some 2) (.slg ri q o n st) l0 h0 none <;> rfl
 rw [red];unfold yQ;simp only [bnd n (Nat.le_refl _)];rfl
theorem Arr.tail {lo hi K:Nat}{s:AV}{xs:List TE}(h:Arr O lo hi s xs)(hk:K≤xs.length):∃ s1,(∀ hp,zN P hp 75 s (some ((K:Nat):Int)) none none=some s1)∧∀ (O':T AObj) (ys:List TE),Arr O' lo hi s ys→ys.length=xs.length→SV O' 2 tE lo hi (ys.drop K) s1:=by
 obtain ⟨ri,q,o,n,st,rfl⟩:=h.sg;have hn:n=xs.length:=by
  have:=(h.gv.sv tEn).lens.1;injection this
 refine ⟨_,fun hp=>zim (b:=n) (by omega) (Nat.le_refl _) (some ((K:Nat):Int)) none (.inl rfl) (.inr ⟨rfl,rfl⟩) hp,fun O' ys g hl=>?_⟩;obtain ⟨s',e,sv,_⟩:=(g.gv.sv tEn).sub tSl tEn (a:=K) (b:=ys.length) (by omega) (Nat.le_refl _) (some ((K:Nat):Int)) none (.inl rfl) (.inr ⟨rfl,rfl⟩) 0 .leaf;rw [zim (b:=n) (by omega) (Nat.le_refl _) (some ((K:Nat):Int)) none (.inl rfl) (.inr ⟨rfl,rfl⟩)] at e;injection e with e;subst e;have:(ys.drop K).take (ys.length - K)=ys.drop K:=List.take_of_length_le (by rw [List.length_drop]; omega)
 rwa [this] at sv
theorem zmF:∀ n,(zC [AV.str [],.nilp] n).all AV.one=true∧(zC [AV.str [],.nilp] n).length=n*2
 | 0=>⟨rfl,rfl⟩
 | n+1=>by
  obtain ⟨h1,h2⟩:=zmF n;have e:zC [AV.str [],.nilp] (n+1)=[AV.str [],.nilp]++zC [AV.str [],.nilp] n:=rfl;rw [e,List.all_append,List.length_append,h1,h2];exact ⟨rfl,by simp only [List.length_cons,List.length_nil]; omega⟩
theorem Arr.cut {lo hi j:Nat}{s:AV}{xs:List TE}(h:Arr O lo hi s xs)(hj:j≤xs.length)(N:Nat)(G:T (T AV)):∃ s1 O1 s2,zN P ⟨O,N,G⟩ 75 s (some ((j:Nat):Int)) none none=some s1∧zi P ⟨O,N,G⟩ .clear (some 75) none [s1]=some (.val (.tup []) ⟨O1,N,G⟩)∧zN P ⟨O1,N,G⟩ 75 s none (some ((j:Nat):Int)) none=some s2∧SV O1 2 tE lo hi (xs.take j) s2∧Chg s O N O1 N:=by
 obtain ⟨gv,sg⟩:=h;rcases gv with ⟨rfl,_⟩ | ⟨ri,z,off,rfl,_⟩ | ⟨ri,q,st,c,l0,sgm,ex,rfl,g1,g2,g3,g4,g5⟩
 ·obtain ⟨_,_,_,_,_,h⟩:=sg; cases h
 ·obtain ⟨_,_,_,_,_,h⟩:=sg; cases h
 ·have hlt:(xs.take j).length=j:=by rw [List.length_take]; omega
  have hpre:At c (st*2) ((xs.take j).flatMap tE):=by
   have:=At.sub (a:=0) (n:=j*2) g5 (by rw [tEn.flat]; omega);rw [Nat.add_zero,List.drop_zero,tEn.take _ _ hj] at this;exact this
  have hext:zG ex (st*2+xs.length*2) q q=some (st*2+xs.length*2):=by unfold zG; rw [if_pos rfl]
  have e1:=zim (ri:=ri) (q:=q) (o:=st*2) (n:=xs.length) (st:=st) (a:=j) (b:=xs.length) hj (Nat.le_refl _) (some ((j:Nat):Int)) none (.inl rfl) (.inr ⟨rfl,rfl⟩) ⟨O,N,G⟩;have e2:=fun hp=>zim (ri:=ri) (q:=q) (o:=st*2) (n:=xs.length) (st:=st) (a:=0) (b:=j) (Nat.zero_le _) hj none (some ((j:Nat):Int)) (.inr ⟨rfl,rfl⟩) (.inl rfl) hp;have svp:∀ {O1:T AObj} {c':T AV} {l1:Nat},O1.get ri=some (.cells c' (st*2+xs.length*2) 79 l1 q (q+1) 0 sgm ex)→l1≤q→At c' (st*2) ((xs.take j).flatMap tE)→SV O1 2 tE lo hi (xs.take j) (.slg ri q (st*2+0*2) (j - 0) (st+0)):=fun {O1 c' l1} h1 h2 h3 =>
   .inr (.inr ⟨ri,q,st,by rw [hlt]; rfl,g1,g2,.inl ⟨c',_,79,l1,q,q+1,0,sgm,ex,_,h1,hext,h2,Nat.le_refl _,by rw [tEn.flat,hlt]; omega,h3⟩⟩)
  have hz:vw P 75=some (.agg [.str [],.nilp]):=by kernel_rfl
  by_cases hn:xs.length - j=0
  ·refine ⟨_,O,_,e1,?_,e2 _,svp g4 g3 hpre,Chg.refl⟩;show zdA (zbG P ⟨O,N,G⟩ 75 _)=_;unfold zbG;rw [tSl.und,hn];rfl
  ·obtain ⟨n,hn'⟩:∃ n,xs.length - j=n+1:=⟨xs.length - j - 1,by omega⟩;obtain ⟨r1,r2⟩:=zmF (n+1);have es:zc ⟨O,N,G⟩ ri q (st*2+j*2) (zC [AV.str [],.nilp] (n+1))=some ⟨O.set (some (.cells (zd c (st*2+j*2) (zC [AV.str [],.nilp] (n+1))) (st*2+xs.length*2) 79 q q (q+1) 0 sgm ex)) ri,N,G⟩:=by
    unfold zc;show (match O.get ri with | some (.cells c n el lo hi nv fz sg ex)=>_ | _=>_)=_
    rw [g4];simp only [hext];rw [if_pos ⟨g3,Nat.le_refl _,by rw [r2]; omega,Nat.zero_le _,r1⟩,T.seq_eq];rfl
   refine ⟨_,O.set (some (.cells (zd c (st*2+j*2) (zC [AV.str [],.nilp] (n+1))) (st*2+xs.length*2) 79 q q (q+1) 0 sgm ex)) ri,_,e1,?_,e2 _,svp (c':=zd c (st*2+j*2) (zC [AV.str [],.nilp] (n+1))) (l1:=q) (by rw [T.get_set,if_pos rfl]) (Nat.le_refl _) (hpre.store (.inl (by rw [tEn.flat,hlt]; omega))),Nat.le_refl _,fun k _ hk=>by rw [T.get_set,if_neg (show ¬ k=ri from hk)]⟩
   show zdA (zbG P ⟨O,N,G⟩ 75 _)=_;unfold zbG;rw [tSl.und,hn'];show zdA (j9 ⟨O,N,G⟩ (vw P 75) ri q (st*2+j*2) (n+1))=_;rw [hz];show zdA (zc ⟨O,N,G⟩ ri q (st*2+j*2) (zC [AV.str [],.nilp] (n+1)))=_;rw [es];rfl
def Inc (xs:List TE) (n:Nat):Prop:=∀ u v,u<v→v<n→Op.bytesLess (Fx xs u).1 (Fx xs v).1=true
theorem Inc.snoc {xs:List TE}{n:Nat}(h:Inc xs n)(hl:n=0∨0<n∧Op.bytesLess (Fx xs (n - 1)).1 (Fx xs n).1=true):Inc xs (n+1):=by
 intro u v h1 h2
 by_cases e:v=n
 ·subst e;rcases hl with rfl | ⟨h0,hl⟩
  ·omega
  ·by_cases e2:u=v - 1
   ·rw [e2]; exact hl
   ·exact ve (h u (v - 1) (by omega) (by omega)) hl
 ·exact h u v h1 (by omega)
theorem zsm {x y:ze}(h:Op.bytesLess y x=false)(g:¬ y=x):Op.bytesLess x y=true:=by
 cases e:Op.bytesLess x y with
 | true=>rfl
 | false=>exact absurd (zjb h e) g
theorem zij {xs:List TE}{i:Nat}(h:i<xs.length):Fx xs i∈xs:=List.mem_of_getElem? (zbh h)
theorem ziv {xs:List TE}{e:TE}(h:e∈xs):∃ i,i<xs.length∧Fx xs i=e:=by
 obtain ⟨i,hi,rfl⟩:=List.mem_iff_getElem.1 h;refine ⟨i,hi,?_⟩;have:=zbh hi;rw [List.getElem?_eq_getElem hi] at this;exact (Option.some.inj this).symm
theorem zd1 {xs:List TE}{j u:Nat}(h:u<j)(hj:j≤xs.length):Fx (xs.take j) u=Fx xs u:=by
 unfold Fx;rw [List.getD_eq_getElem?_getD,List.getElem?_take_of_lt h,List.getD_eq_getElem?_getD]
theorem zrZ {lo hi:Nat}{s:AV}{xs:List TE}(h:Arr O lo hi s xs)(hN:hi≤N)(hx:xs.length<1000000)(so:Sor xs 0 xs.length){keep:Nat}{f0:FuncId}{Q:AV→AHeap→Prop}{rest:List AFrame}
 (hK:∀ O' N' cs s' td,Chg s O N O' N'→SV O' 2 tE lo hi cs s'→Inc cs cs.length→(∀ e∈cs,e∈xs)→(∀ e∈xs,∃ c∈cs,c.1=e.1)→cs.length≤xs.length→Goal P keep f0 Q (AM.mk (RF 70 66 (tX tZ (tX (tY s') tZ)) td) rest ⟨O',N',G⟩)):Goal P keep f0 Q (AM.mk (enF 70 [s,.fn (Fn.func 71) [] []]) rest ⟨O,N,G⟩):=by
 have all:Inc xs xs.length→∀ O' N' td,Chg s O N O' N'→Arr O' lo hi s xs→Goal P keep f0 Q (AM.mk (RF 70 66 (tX tZ (tX (tY s) tZ)) td) rest ⟨O',N',G⟩):=fun hi' O' N' td c2 h2=>hK O' N' xs s td c2 (h2.gv.sv tEn) hi' (fun e he=>he) (fun e he=>⟨e,he,rfl⟩) (Nat.le_refl _);have second:∀ (K:Nat) (s1:AV),1≤K→K<xs.length→(∀ hp,zN P hp 75 s (some ((K:Nat):Int)) none none=some s1)→(∀ (O':T AObj) (ys:List TE),Arr O' lo hi s ys→ys.length=xs.length→SV O' 2 tE lo hi (ys.drop K) s1)→∀ (c k j:Nat) (O2:T AObj) (N2:Nat) (zs:List TE),K+k+c=xs.length→1≤k→1≤j→j+1≤K+k→Arr O2 lo hi s zs→Chg s O N O2 N2→zs.length=xs.length→(∀ u,K+k≤u+1→Fx zs u=Fx xs u)→Inc zs j→(Fx zs (j - 1)).1=(Fx xs (K+k - 1)).1→(∀ u,u<j→∃ i,i<K+k∧Fx zs u=Fx xs i)→(∀ i,i<K+k→∃ u,u<j∧(Fx zs u).1=(Fx xs i).1)→Goal P keep f0 Q (zrA ((k:Nat):Int) ((j:Nat):Int) s s1 rest O2 N2 G):=by
  intro K s1 hK1 hKl eS svS c
  induction c with
  | zero =>
   intro k j O2 N2 zs hc hk hj hjk hA cA lA same inc last from1 to1;have sv1:=svS O2 zs hA lA;obtain ⟨q1,O3,q2,e1,e2,e3,sv,c3⟩:=hA.cut (j:=j) (by omega) N2 G;refine ot zr0 ⟨_,sv1.len tSl _ _,fkf (decide_eq_false (by rw [List.length_drop]; omega)) ⟨q1,O3,q2,e1,e2,e3,?_⟩⟩;have hl:(zs.take j).length=j:=by rw [List.length_take]; omega
   refine hK O3 N2 (zs.take j) q2 _ (cA.trans c3) sv (fun u v g1 g2=>?_) (fun e he=>?_) (fun e he=>?_) (by omega)
   ·rw [hl] at g2;rw [zd1 (by omega) (by omega),zd1 g2 (by omega)];exact inc u v g1 g2
   ·obtain ⟨u,hu,rfl⟩:=ziv he;rw [hl] at hu;rw [zd1 hu (by omega)];obtain ⟨i,hi1,hi2⟩:=from1 u hu;rw [hi2];exact zij (by omega)
   ·obtain ⟨i,hi1,rfl⟩:=ziv he;obtain ⟨u,hu1,hu2⟩:=to1 i (by omega);refine ⟨Fx (zs.take j) u,zij (by rw [hl]; exact hu1),?_⟩;rw [zd1 hu1 (by omega)];exact hu2
  | succ c ih =>
   intro k j O2 N2 zs hc hk hj hjk hA cA lA same inc last from1 to1;have sv1:=svS O2 zs hA lA;have w1:IntKind.i64.wrap (((k:Nat):Int) - (1:Int))=((k - 1:Nat):Int):=by rw [IntKind.wrap_i64]; omega
   have w2:IntKind.i64.wrap (((k:Nat):Int)+(1:Int))=((k+1:Nat):Int):=zq (by omega);have w3:IntKind.i64.wrap (((j:Nat):Int)+(1:Int))=((j+1:Nat):Int):=zq (by omega);have at1:∀ i,K+i<xs.length→(zs.drop K)[i]?=some (Fx zs (K+i)):=fun i hi'=>by rw [List.getElem?_drop]; exact zbh (by omega)
   obtain ⟨a1,a2,a3,_,_,eA,rA,_⟩:=sv1.at tSl tEn (at1 k (by omega));obtain ⟨b1,b2,b3,_,_,eB,rB,_⟩:=sv1.at tSl tEn (at1 (k - 1) (by omega));rw [← w1] at eB;have nn:=cA.1;refine ot zr0 ⟨_,sv1.len tSl _ _,fkt (decide_eq_true (by rw [List.length_drop]; omega)) ⟨a1,a2,a3,_,_,b1,b2,b3,_,_,eA,rA.load rfl _ _,eB,rB.load rfl _ _,?_⟩⟩;refine zoX fun O3 N3 td ex3=>?_;have h3:=hA.ext ex3 (by omega);have c3:=cA.trans (Chg.ext ex3);have e1:Fx zs (K+k)=Fx xs (K+k):=same _ (by omega);have e2:Fx zs (K+(k - 1))=Fx xs (K+k - 1):=by rw [same _ (by omega)]; congr 1; omega
   rw [e1,e2];refine ot zkE ⟨fun hc=>?_,fun hc=>?_⟩
   ·have ne:¬ (Fx xs (K+k)).1=(Fx xs (K+k - 1)).1:=by simpa using hc
    have lt:=zsm (so (K+k - 1) (K+k) (Nat.zero_le _) (by omega) (by omega)) ne;have sv3:=svS O3 zs h3 lA;obtain ⟨d1,d2,d3,_,_,eD,rD,_⟩:=sv3.at tSl tEn (at1 k (by omega));obtain ⟨p1,p2,p3,O4,eP,sP,g4,f4,sd⟩:=h3.gv.put2 tSl tEn (j:=j) (b:=Fx zs (K+k)) (zbh (by omega)) h3.sg N3 G;have h4:Arr O4 lo hi s (zs.set j (Fx zs (K+k))):=⟨g4,h3.sg⟩;have fs:=fun u=>zlF (xs:=zs) (i:=j) (k:=u) (v:=Fx zs (K+k)) (by omega);refine ⟨d1,d2,d3,_,_,p1,p2,p3,O4,eD,rD.load rfl _ _,eP,st2 sP,?_⟩;rw [w2,w3];refine ih (k+1) (j+1) O4 N3 _ (by omega) (by omega) (by omega) (by omega) h4 (c3.trans ⟨Nat.le_refl _,fun u _ hu=>f4 u (by rw [sd]; exact hu)⟩) (by rw [List.length_set,lA]) (fun u hu=>by rw [fs,if_neg (by omega)]; exact same u (by omega)) (Inc.snoc (fun u v g1 g2=>by rw [fs,fs,if_neg (by omega),if_neg (by omega)]; exact inc u v g1 g2) (.inr ⟨by omega,by rw [fs,fs,if_neg (by omega),if_pos rfl,last,e1]; exact lt⟩)) (by rw [fs,if_pos (by omega),e1,show K+(k+1) - 1=K+k by omega]) (fun u hu=>?_) (fun i hi1=>?_)
    ·rw [fs];split
     ·exact ⟨K+k,by omega,e1⟩
     ·obtain ⟨i,g1,g2⟩:=from1 u (by omega);exact ⟨i,by omega,g2⟩
    ·by_cases e:i=K+k
     ·exact ⟨j,by omega,by rw [fs,if_pos rfl,e1,e]⟩
     ·obtain ⟨u,g1,g2⟩:=to1 i (by omega);exact ⟨u,by omega,by rw [fs,if_neg (by omega)]; exact g2⟩
   ·have eq:(Fx xs (K+k)).1=(Fx xs (K+k - 1)).1:=by simpa using hc
    rw [w2];refine ih (k+1) j O3 N3 zs (by omega) (by omega) hj (by omega) h3 c3 lA (fun u hu=>same u (by omega)) inc (by rw [last,show K+(k+1) - 1=K+k by omega,eq]) (fun u hu=>?_) (fun i hi1=>?_)
    ·obtain ⟨i,g1,g2⟩:=from1 u hu;exact ⟨i,by omega,g2⟩
    ·by_cases e:i=K+k
     ·exact ⟨j - 1,by omega,by rw [last,e,eq]⟩
     ·obtain ⟨u,g1,g2⟩:=to1 i (by omega);exact ⟨u,g1,g2⟩
 have first:∀ (c k:Nat) (O2:T AObj) (N2:Nat),k+c=xs.length→1≤k→Arr O2 lo hi s xs→Chg s O N O2 N2→Inc xs k→Goal P keep f0 Q (Wcpa ((k:Nat):Int) s rest O2 N2 G):=by
  intro c
  induction c with
  | zero =>
   intro k O2 N2 hc hk hA cA inc;refine ot zt0 ⟨_,(hA.gv.sv tEn).len tSl _ _,fkf (decide_eq_false (by omega)) ?_⟩;exact all (by rw [← hc]; exact inc) O2 N2 _ cA hA
  | succ c ih =>
   intro k O2 N2 hc hk hA cA inc;have w1:IntKind.i64.wrap (((k:Nat):Int) - (1:Int))=((k - 1:Nat):Int):=by rw [IntKind.wrap_i64]; omega
   have w2:IntKind.i64.wrap (((k:Nat):Int)+(1:Int))=((k+1:Nat):Int):=zq (by omega);obtain ⟨a1,a2,a3,eA,lA⟩:=hA.elem (i:=k) (by omega);obtain ⟨b1,b2,b3,eB,lB⟩:=hA.elem (i:=k - 1) (by omega);rw [← w1] at eB;have nn:=cA.1;refine ot zt0 ⟨_,(hA.gv.sv tEn).len tSl _ _,fkt (decide_eq_true (by omega)) ⟨a1,a2,a3,_,_,b1,b2,b3,_,_,eA,lA _ _,eB,lB _ _,?_⟩⟩;refine zoX fun O3 N3 td ex3=>?_;have h3:=hA.ext ex3 (by omega);have c3:=cA.trans (Chg.ext ex3);refine ot zlW ⟨fun hc=>?_,fun hc=>?_⟩
   ·have eq:(Fx xs k).1=(Fx xs (k - 1)).1:=by simpa using hc
    obtain ⟨s1,e1,sv1⟩:=h3.tail (K:=k) (by omega);refine ⟨s1,e1 _,?_⟩;refine second k s1 hk (by omega) e1 sv1 (xs.length - (k+1)) 1 k O3 N3 xs (by omega) (Nat.le_refl _) hk (by omega) h3 c3 rfl (fun u _=>rfl) inc (by rw [show k+1 - 1=k by omega,eq]) (fun u hu=>⟨u,by omega,rfl⟩) (fun i hi1=>?_)
    by_cases e:i=k
    ·exact ⟨k - 1,by omega,by rw [e,eq]⟩
    ·exact ⟨i,by omega,rfl⟩
   ·have ne:¬ (Fx xs k).1=(Fx xs (k - 1)).1:=by simpa using hc
    rw [w2];exact ih (k+1) O3 N3 (by omega) (by omega) h3 c3 (inc.snoc (.inr ⟨by omega,zsm (so (k - 1) k (Nat.zero_le _) (by omega) (by omega)) ne⟩))
 by_cases h2:xs.length<2
 ·refine ot ztm ⟨_,(h.gv.sv tEn).len tSl _ _,fkt (decide_eq_true (by omega)) ?_⟩;exact all (fun u v g1 g2=>by omega) O N _ Chg.refl h
 ·refine ot ztm ⟨_,(h.gv.sv tEn).len tSl _ _,fkf (decide_eq_false (by omega)) ?_⟩;exact first (xs.length - 1) 1 O N (by omega) (Nat.le_refl _) h Chg.refl (fun u v g1 g2=>by omega)
end Go.Proofs.Ytcdigdplhlgcaaa.gx
end
section
set_option maxRecDepth 100000
set_option linter.unusedVariables false
set_option linter.unusedSectionVars false
set_option linter.unusedSimpArgs false
namespace Go.Proofs.Ytcdigdplhlgcaaa.gx
open Go Ev tp
section
variable (q:Nat) (sa sa2:AV) (n j j2 nn:Int) (sl2:AV) (rest:List AFrame) (O:T AObj) (N:Nat) (G:T (T AV)) (s1:AV)
noncomputable def zst:AM:=⟨frm 67 45 (tX (tX (tY sl2) (tX (tY (.int .i64 n)) tZ)) (tX (tX (tY sa) tZ) (tX (tY (.int .i64 j)) tZ))) [cdi 67 [1,1,0,1,0,0],ili 67 [1,1,0,1,0,0],.inBlock 0,cdi 67 [1,1,1]],rest,⟨O,N,G⟩⟩
noncomputable def zpA:AFrame:=frm 67 45 (tX (tX (tX tZ (tX (tY sl2) tZ)) (tW (tY (.int .i64 n)) (.ptr q 0 0) tZ)) (tX (tX (tY sa) (tX (tY (.ptr q 0 0)) tZ)) (tX (tY (.int .i64 j)) tZ))) [opi 67 [1,1,0,1,0,0,1,1,0,0,1,0,1,0,0] 2,cdi 67 [1,1,0,1,0,0,1,1,0,0,1,0,1,0,1],cdi 67 [1,1,0,1,0,0,1,1,0,0,1,1],.inBlock 1,cdi 67 [1,1,0,1,0,0,1,1,1],ili 67 [1,1,0,1,0,0],.inBlock 0,cdi 67 [1,1,1]]
noncomputable def Walu:AM:=⟨frm 67 45 (tX (tX (tW (tX (tX (tY (.int .i64 j2)) tZ) tZ) sl2 tZ) (tX (tY (.int .i64 n)) (tX tZ (tY sa2)))) (tX (tX (tY sa) tZ) (tX (tY (.int .i64 j)) (tX tZ (tY (.int .i64 nn)))))) [cdi 67 [1,1,0,1,0,0,1,1,0,0,1,1,1,0,0],ili 67 [1,1,0,1,0,0,1,1,0,0,1,1,1,0,0],.inBlock 2,.inBlock 1,cdi 67 [1,1,0,1,0,0,1,1,1],ili 67 [1,1,0,1,0,0],.inBlock 0,cdi 67 [1,1,1]],rest,⟨O,N,G⟩⟩
noncomputable def zsY:AFrame:=frm 67 45 (tX (tX (tX (tW (tX (tY (.int .i64 j2)) tZ) s1 tZ) (tX (tX (tY sl2) tZ) tZ)) (tX (tY (.int .i64 n)) (tX tZ (tY sa2)))) (tX (tX (tY sa) (tX (tX (tY s1) tZ) tZ)) (tX (tY (.int .i64 j)) (tX tZ (tY (.int .i64 nn)))))) [opi 67 [1,1,0,1,0,0,1,1,0,0,1,1,1,0,0,1,1,0,0,1] 2,.inBlock 3,cdi 67 [1,1,0,1,0,0,1,1,0,0,1,1,1,0,0,1,1,1],ili 67 [1,1,0,1,0,0,1,1,0,0,1,1,1,0,0],.inBlock 2,.inBlock 1,cdi 67 [1,1,0,1,0,0,1,1,1],ili 67 [1,1,0,1,0,0],.inBlock 0,cdi 67 [1,1,1]]
noncomputable def Wsa6:AM:=⟨frm 55 17 (tX (tW (tX (tY sa) tZ) (.fn (Fn.func (66:FuncId)) [] []) (tX (tY (.int .i64 j)) tZ)) (tX (tX (tY (.int .i64 n)) tZ) tZ)) [cdi 55 [1,0,1,0,0],ili 55 [1,0,1,0,0],.inBlock 0,cdi 55 [1,1]],rest,⟨O,N,G⟩⟩
noncomputable def zos:AFrame:=frm 55 17 (tX (tW (tX (tY sa) tZ) (.fn (Fn.func (66:FuncId)) [] []) (tX (tY (.int .i64 j)) (tY (.fn (Fn.func (66:FuncId)) [] [])))) (tX (tX (tY (.int .i64 n)) tZ) (tX tZ (tY s1)))) [opi 55 [1,0,1,0,0,1,1,0,0,1,0] 2,cdi 55 [1,0,1,0,0,1,1,0,0,1,1],.inBlock 1,cdi 55 [1,0,1,0,0,1,1,1],ili 55 [1,0,1,0,0],.inBlock 0,cdi 55 [1,1]]
end
section
variable {R:AV→AHeap→Prop} {keep N m q:Nat} {f0:FuncId} {rest:List AFrame} {O:T AObj} {k n j k2 j2 nn:Int} {G:T (T AV)} {K:AM→Prop} {sa s1c sl2 sa2:AV} {td:List AItem} {blq0:Bool} {lrq0:List UInt8}
theorem zrL:((lC O N G m 0 (.int .i64 k))∧K (AM.mk (RF 66 8 (tX tZ (tY (.bool (k==(1:Int))))) [cdi 66 [1,1]]) rest ⟨O,N,G⟩))=OT f0 R keep K (.seq [.run 9,.hop (.int .i64 k) O,.run 4,.keep [2]] .fin) ((AM.mk (enF 66 [.ptr m 0 0]) rest ⟨O,N,G⟩)):=by kernel_rfl
theorem zsw:(∃ (z1:Int),(lN O N G 33 sa z1)∧K (Wsa6 sa z1 0 rest O N G))=OT f0 R keep K (.ex fun z1:Int=>(.seq [.run 8,.hopn (.int .i64 z1) O (N),.run 4,.keep [1,7,8,9]] .fin)) ((AM.mk (enF 55 [sa,.fn (Fn.func 66) [] []]) rest ⟨O,N,G⟩)):=by kernel_rfl
theorem zop:(((decide (j<n))=true→(∃ (i1:Nat) (i2:Nat) (i3:Nat) (s1:AV),(iX 33 sa j i1 i2 i3)∧(lR O N G i1 i2 i3 s1)∧K (AM.mk (enF 66 [s1]) ((zos sa n j s1)::rest) ⟨O,N,G⟩)))∧((decide (j<n))=false→(K (AM.mk (RF 55 17 (tX tZ (tX (tY (.bool false)) tZ)) [cdi 55 [1,0,1,0,0,1,1,0,0,1,1,0,1]]) rest ⟨O,N,G⟩))))=OT f0 R keep K (.seq [.run 5] (.fork 10 (.ex fun i1:Nat=>(.ex fun i2:Nat=>(.ex fun i3:Nat=>(.ex fun s1:AV=>(.seq [.run 6,.hopn (.ptr i1 i2 i3) O (N),.hop (s1) O,.run 6,.keep [1,7,8,9,13,14],.run 1] .fin))))) (.seq [.run 7,.keep [4]] .fin))) ((Wsa6 sa n j rest O N G)):=by kernel_rfl
theorem zjJ:(((blq0)=true→(K (AM.mk (RF 55 17 (tX tZ (tX (tY (.bool true)) tZ)) [cdi 66 [1,1],.inBlock 1,cdi 55 [1,0,1,0,0,1,1,1],ili 55 [1,0,1,0,0],.inBlock 0,cdi 55 [1,1]]) rest ⟨O,N,G⟩)))∧((blq0)=false→(K (Wsa6 sa n (IntKind.i64.wrap (j+(1:Int))) rest O N G))))=OT f0 R keep K (.seq [.run 2] (.fork 15 (.seq [.run 6,.keep [4]] .fin) (.seq [.run 8,.keep [1,7,8,9]] .fin))) ((AM.mk (RF 66 8 (tX tZ (tY (.bool blq0))) td) ((zos sa n j s1c)::rest) ⟨O,N,G⟩)):=by kernel_rfl
theorem t_alt:(∃ (z1:Int),(lN O N G 33 sa z1)∧K (zst sa z1 0 (.nils 0 0) rest O N G))=OT f0 R keep K (.ex fun z1:Int=>(.seq [.run 12,.hopn (.int .i64 z1) O (N),.run 4,.keep [3,8,9,10]] .fin)) ((AM.mk (enF 67 [sa]) rest ⟨O,N,G⟩)):=by kernel_rfl
theorem zr6:(((decide (j<n))=true→(∃ (i1:Nat) (i2:Nat) (i3:Nat),(iX 33 sa j i1 i2 i3)∧(lR O N G i1 i2 i3 (.ptr q 0 0))∧(lC O N G q 0 (.int .i64 k2))∧(((k2 != (9:Int)))=true→(K (AM.mk (enF 47 [.ptr q 0 0]) ((zpA q sa n j sl2)::rest) ⟨O,N,G⟩)))∧(((k2 != (9:Int)))=false→(∃ (z1:Int),(lC O N G q 3 sa2)∧(lN O N G 33 sa2 z1)∧K (Walu sa sa2 n j 0 z1 sl2 rest O N G)))))∧((decide (j<n))=false→(K (AM.mk (RF 67 45 (tX tZ (tY sl2)) [cdi 67 [1,1,1,1]]) rest ⟨O,N,G⟩))))=OT f0 R keep K (.seq [.run 5] (.fork 11 (.ex fun i1:Nat=>(.ex fun i2:Nat=>(.ex fun i3:Nat=>(.seq [.run 6,.hopn (.ptr i1 i2 i3) O (N),.hop (.ptr q 0 0) O,.run 8,.hop (.int .i64 k2) O,.run 2] (.fork 18 (.seq [.run 5,.keep [5,8,9,10,19,20],.run 1] .fin) (.ex fun z1:Int=>(.seq [.run 7,.hop (sa2) O,.hopn (.int .i64 z1) O (N),.run 4,.keep [3,8,9,10,29,30,31]] .fin))))))) (.seq [.run 8,.keep [2]] .fin))) ((zst sa n j sl2 rest O N G)):=by kernel_rfl
theorem zjs:(∃ (O1:T AObj) (s1:AV) (O2:T AObj) (N1:Nat),(zg P (⟨O,N,G⟩) (75) (1) ([(0,.agg [.str lrq0,.ptr q 0 0])])=(some (.slc N 0 0 1 1,⟨O1,N+1,G⟩)))∧(zi P (⟨O1,N+1,G⟩) (Builtin.append) ((some 75)) ((some 75)) ([sl2,.slc N 0 0 1 1])=(some (.val s1 ⟨O2,N1,G⟩)))∧K (zst sa n (IntKind.i64.wrap (j+(1:Int))) s1 rest O2 N1 G))=OT f0 R keep K (.ex fun O1:T AObj=>(.ex fun s1:AV=>(.ex fun O2:T AObj=>(.ex fun N1:Nat=>(.seq [.run 3,.hopn (.slc N 0 0 1 1) O1 (N+1),.hopn (s1) O2 (N1),.run 8,.keep [3,8,9,10]] .fin))))) ((AM.mk (RF 47 12 (tX tZ (tY (.str lrq0))) td) ((zpA q sa n j sl2)::rest) ⟨O,N,G⟩)):=by kernel_rfl
theorem zrP:(((decide (j2<nn))=true→(∃ (i1:Nat) (i2:Nat) (i3:Nat) (s1:AV),(iX 33 sa2 j2 i1 i2 i3)∧(lR O N G i1 i2 i3 s1)∧K (AM.mk (enF 47 [s1]) ((zsY sa sa2 n j j2 nn sl2 s1)::rest) ⟨O,N,G⟩)))∧((decide (j2<nn))=false→(K (zst sa n (IntKind.i64.wrap (j+(1:Int))) sl2 rest O N G))))=OT f0 R keep K (.seq [.run 5] (.fork 32 (.ex fun i1:Nat=>(.ex fun i2:Nat=>(.ex fun i3:Nat=>(.ex fun s1:AV=>(.seq [.run 6,.hopn (.ptr i1 i2 i3) O (N),.hop (s1) O,.run 5,.keep [7,8,9,10,29,30,31,35,36],.run 1] .fin))))) (.seq [.run 8,.keep [3,8,9,10]] .fin))) ((Walu sa sa2 n j j2 nn sl2 rest O N G)):=by kernel_rfl
theorem zmC:(∃ (O1:T AObj) (s1:AV) (O2:T AObj) (N1:Nat),(qa P (79) ([(0,.str lrq0),(1,s1c)])=(some (.agg [.str lrq0,s1c])))∧(zg P (⟨O,N,G⟩) (75) (1) ([(0,.agg [.str lrq0,s1c])])=(some (.slc N 0 0 1 1,⟨O1,N+1,G⟩)))∧(zi P (⟨O1,N+1,G⟩) (Builtin.append) ((some 75)) ((some 75)) ([sl2,.slc N 0 0 1 1])=(some (.val s1 ⟨O2,N1,G⟩)))∧K (Walu sa sa2 n j (IntKind.i64.wrap (j2+(1:Int))) nn s1 rest O2 N1 G))=OT f0 R keep K (.ex fun O1:T AObj=>(.ex fun s1:AV=>(.ex fun O2:T AObj=>(.ex fun N1:Nat=>(.seq [.run 2,.hopn (.agg [.str lrq0,s1c]) O (N),.hopn (.slc N 0 0 1 1) O1 (N+1),.hopn (s1) O2 (N1),.run 8,.keep [3,8,9,10,29,30,31]] .fin))))) ((AM.mk (RF 47 12 (tX tZ (tY (.str lrq0))) td) ((zsY sa sa2 n j j2 nn sl2 s1c)::rest) ⟨O,N,G⟩)):=by kernel_rfl
end
variable {O O':T AObj} {N:Nat} {G:T (T AV)}
theorem ztf {t:Ty}{p:Option Nat}{hi:Nat}(ht:Tr O hi t p)(hn:isNo t=false){keep:Nat}{f0:FuncId}{Q:AV→AHeap→Prop}{rest:List AFrame}
 (hK:∀ td,Goal P keep f0 Q (AM.mk (RF 66 8 (tX tZ (tY (.bool (kd t==1)))) td) rest ⟨O,N,G⟩)):Goal P keep f0 Q (AM.mk (enF 66 [pv p]) rest ⟨O,N,G⟩):=by
 cases t with
 | no=>cases hn
 | mk k nm ns aa r =>
  obtain ⟨id,sn,sb,pq,q,rfl,hid,hob,_⟩:=ht.inv;exact ot zrL ⟨hob.ld 0 rfl,hK _⟩
theorem ztz {ts:List Ty}{ps:List (Option Nat)}{sa:AV}{hi:Nat}(hs:SV O 1 pE 0 hi ps sa)(hl:ps.length=ts.length)(hm:ts.length<1000000)(ht:∀ (j:Nat) (x:Ty) (p:Option Nat),ts[j]?=some x→ps[j]?=some p→Tr O hi x p)(hc:∀ x∈ts,isNo x=false){keep:Nat}{f0:FuncId}{Q:AV→AHeap→Prop}{rest:List AFrame}
 (hK:∀ td,Goal P keep f0 Q (AM.mk (RF 55 17 (tX tZ (tX (tY (.bool (ts.any (fun x=>kd x==1)))) tZ)) td) rest ⟨O,N,G⟩)):Goal P keep f0 Q (AM.mk (enF 55 [sa,.fn (Fn.func 66) [] []]) rest ⟨O,N,G⟩):=by
 have loop:∀ (c i:Nat),i+c=ts.length→ts.any (fun x=>kd x==1)=(ts.drop i).any (fun x=>kd x==1)→Goal P keep f0 Q (Wsa6 sa ((ps.length:Nat):Int) ((i:Nat):Int) rest O N G):=by
  intro c
  induction c with
  | zero =>
   intro i hi' hd;refine ot zop (fkf (decide_eq_false (by omega)) ?_);have hf:ts.any (fun x=>kd x==1)=false:=by rw [hd,List.drop_of_length_le (by omega)]; rfl
   rw [hf] at hK;exact hK _
  | succ c ih =>
   intro i hi' hd;obtain ⟨x,hx,hxm⟩:=nth (l:=ts) (j:=i) (by omega);obtain ⟨p,hp,_⟩:=nth (l:=ps) (j:=i) (by omega);obtain ⟨i1,i2,i3,_,_,eA,rd,_⟩:=hs.at pSl pEn hp;refine ot zop (fkt (decide_eq_true (by omega)) ⟨i1,i2,i3,_,eA,rd.load rfl _ _,?_⟩);refine ztf (ht i x p hx hp) (hc x hxm) fun td=>?_;refine ot zjJ ⟨fun hb=>?_,fun hb=>?_⟩
   ·have hf:ts.any (fun x=>kd x==1)=true:=by rw [hd,zr hx,List.any_cons,hb]; rfl
    rw [hf] at hK;exact hK _
   ·have nx:=ih (i+1) (by omega) (by rw [hd,zr hx,List.any_cons,hb,Bool.false_or]);rw [← zq (i:=i) (by omega)] at nx;exact nx
 exact ot zsw ⟨_,hs.len pSl _ _,loop ts.length 0 (Nat.zero_add _) rfl⟩
def AltR (O:T AObj) (hi:Nat) (es:List TE) (fs:List Ty):Prop:=es.length=fs.length∧∀ (j:Nat) (e:TE) (x:Ty),es[j]?=some e→fs[j]?=some x→e.1=wr x∧Tr O hi x e.2
theorem AltR.nil {hi:Nat}:AltR O hi [] []:=⟨rfl,fun j e x h=>by simp at h⟩
theorem AltR.snoc {hi:Nat}{es:List TE}{fs:List Ty}{p:Option Nat}{x:Ty}(h:AltR O hi es fs)(t:Tr O hi x p):AltR O hi (es++[(wr x,p)]) (fs++[x]):=by
 refine ⟨by rw [List.length_append,List.length_append,h.1]; rfl,fun j e y h1 h2=>?_⟩
 by_cases hj:j<es.length
 ·rw [List.getElem?_append_left hj] at h1;rw [List.getElem?_append_left (by rw [← h.1]; exact hj)] at h2;exact h.2 j e y h1 h2
 ·rw [List.getElem?_append_right (by omega)] at h1;rw [List.getElem?_append_right (by rw [← h.1]; omega),← h.1] at h2;rcases hk:j - es.length with _ | k
  ·rw [hk] at h1 h2;simp only [List.getElem?_cons_zero,Option.some.injEq] at h1 h2;subst h1;subst h2;exact ⟨rfl,t⟩
  ·rw [hk] at h1;simp at h1
theorem litT (e:TE):∀ h:AHeap,zg P h 75 1 [(0,.agg [.str e.1,pv e.2])]=some (.slc h.next 0 0 1 1,xu h 79 (tE e) false):=fun h=>by
 obtain ⟨w,p⟩:=e;cases p <;> kernel_rfl
theorem bldT (e:TE):qa P 79 [(0,.str e.1),(1,pv e.2)]=some (.agg [.str e.1,pv e.2]):=by
 obtain ⟨w,p⟩:=e;cases p <;> kernel_rfl
def Slg (s:AV):Prop:=∃ ri q o n t,s=.slg ri q o n t
theorem addT {lo:Nat}{es:List TE}{s:AV}(g:GV O 79 2 tE lo N es s)(hlo:lo≤N)(hn:es.length<1000000)(e:TE)(G:T (T AV)):∃ O1 O2 N2 s',zg P ⟨O,N,G⟩ 75 1 [(0,.agg [.str e.1,pv e.2])]=some (.slc N 0 0 1 1,⟨O1,N+1,G⟩)∧zi P ⟨O1,N+1,G⟩ .append (some 75) (some 75) [s,.slc N 0 0 1 1]=some (.val s' ⟨O2,N2,G⟩)∧GV O2 79 2 tE lo N2 (es++[e]) s'∧N≤N2∧Slg s'∧∀ j,j<lo→O2.get j=O.get j:=by
 obtain ⟨O1,e1,v1,_,f1⟩:=kU tEn e O N G (st:=75) (el:=79) (litT e);have g1:=g.keep (O':=O1) (fun j _ hj=>f1 j (by omega)) (Nat.le_refl _) (Nat.le_succ N);obtain ⟨O2,N2,s',e2,g2,n2,m2,f2,h2,sl⟩:=g1.app2 tSl tEn v1 (by omega) (by simp only [List.length_cons,List.length_nil]; omega) G;exact ⟨O1,O2,N2,s',e1,e2,g2,by omega,sl (by simp),fun j hj=>(f2 j (by omega) (fun h=>by have:=(g1.sid_lt h).1; omega)).trans (f1 j (by omega))⟩
theorem zfN {ts:List Ty}{i:Nat}{x:Ty}(h:ts[i]?=some x):(ts.take (i+1)).flatMap xq=(ts.take i).flatMap xq++xq x:=by
 rw [List.take_add_one,h,List.flatMap_append];simp
theorem znU {α:Type}{ts:List α}{i:Nat}{x:α}(h:ts[i]?=some x):ts.take (i+1)=ts.take i++[x]:=by
 rw [List.take_add_one,h];rfl
theorem zke:∀ {l:List Ty},(∀ x∈l,okT x=true)→l.length≤zaw l
 | [],_=>Nat.zero_le _
 | x::l,h=>by
  rw [wS,List.length_cons];have:=zgH (h x (List.mem_cons_self ..));have:=zke (l:=l) fun y hy=>h y (List.mem_cons_of_mem _ hy);omega
theorem zsX {ts:List Ty}{ps:List (Option Nat)}{sa:AV}{hi:Nat}(hs:SV O 1 pE 0 hi ps sa)(hl:ps.length=ts.length)(hm:ts.length<10000)(ht:∀ (j:Nat) (x:Ty) (p:Option Nat),ts[j]?=some x→ps[j]?=some p→Tr O hi x p)(hc:∀ x∈ts,okT x=true∧cnt x≤60)(hN:hi≤N){keep:Nat}{f0:FuncId}{Q:AV→AHeap→Prop}{rest:List AFrame}
 (hK:∀ O' N' td es s',Ext O N O' N'→GV O' 79 2 tE N N' es s'→(es≠[]→Slg s')→AltR O hi es (ts.flatMap xq)→es.length≤60*ts.length→Goal P keep f0 Q (AM.mk (RF 67 45 (tX tZ (tY s')) td) rest ⟨O',N',G⟩)):Goal P keep f0 Q (AM.mk (enF 67 [sa]) rest ⟨O,N,G⟩):=by
 have loop:∀ (c i:Nat) (O2:T AObj) (N2:Nat) (es:List TE) (s:AV),i+c=ts.length→Ext O N O2 N2→GV O2 79 2 tE N N2 es s→(es≠[]→Slg s)→AltR O hi es ((ts.take i).flatMap xq)→es.length≤60*i→Goal P keep f0 Q (zst sa ((ps.length:Nat):Int) ((i:Nat):Int) s rest O2 N2 G):=by
  intro c
  induction c with
  | zero =>
   intro i O2 N2 es s hi' ex gv sl al le;refine ot (zr6 (sl2:=s) (q:=0) (k2:=0) (sa2:=.nilp)) (fkf (decide_eq_false (by omega)) ?_);rw [List.take_of_length_le (by omega)] at al;exact hK O2 N2 _ es s ex gv sl al (by omega)
  | succ c ih =>
   intro i O2 N2 es s hi' ex gv sl al le;obtain ⟨x,hx,hxm⟩:=nth (l:=ts) (j:=i) (by omega);obtain ⟨p,hp,_⟩:=nth (l:=ps) (j:=i) (by omega);have tx:=ht i x p hx hp;have tx2:=tx.ext ex hN;have ok:=hc x hxm;obtain ⟨i1,i2,i3,_,_,eA,rd,_⟩:=(hs.keep (O':=O2) (fun j _ hj=>ex.2 j (by omega)) (Nat.le_refl 0) (Nat.le_refl hi)).at pSl pEn hp;cases x with
   | no=>have:=ok.1; rw [xX] at this; cases this
   | mk k nm ns aa r =>
    obtain ⟨id,sn,sb,pq,q,rfl,hid,hob0,hsn,hsa,hpl,hal,_,ha,_⟩:=tx.inv;have hob:=hob0.same (ex.2 id (by omega));refine ot (zr6 (sl2:=s) (q:=id) (k2:=k) (sa2:=sb)) (fkt (decide_eq_true (by omega)) ?_);refine ⟨i1,i2,i3,eA,rd.load rfl _ _,hob.ld 0 rfl,fun hk=>?_,fun hk=>?_⟩
    ·have hk9:¬ k=9:=by simpa using hk
     have fl:xq (.mk k nm ns aa r)=[.mk k nm ns aa r]:=if_neg (show ¬ kd (.mk k nm ns aa r)=9 from hk9)
     refine zgY ok.1 ok.2 keep f0 Q hi (some id) _ O2 N2 tx2 (Nat.le_trans hN ex.1) fun O3 N3 td3 ex3=>?_;have g3:=gv.keep (O':=O3) (fun j _ hj=>ex3.2 j hj) (Nat.le_refl _) ex3.1;have n3:=ex3.1;obtain ⟨O4,O5,N5,s5,e4,e5,g5,n5,sl5,f5⟩:=addT g3 (by have:=ex.1; omega) (by omega) (wr (.mk k nm ns aa r),some id) G;refine ot zjs ⟨O4,s5,O5,N5,e4,e5,?_⟩;have nx:=ih (i+1) O5 N5 _ s5 (by omega) ⟨by have:=ex.1; omega,fun j hj=>(f5 j hj).trans ((ex3.2 j (by have:=ex.1; omega)).trans (ex.2 j hj))⟩ g5 (fun _=>sl5) (by rw [zfN hx,fl]; exact al.snoc tx) (by rw [List.length_append]; simp only [List.length_cons,List.length_nil]; omega);rw [← zq (i:=i) (by omega)] at nx;exact nx
    ·have hk9:k=9:=by simpa using hk
     have fl:xq (.mk k nm ns aa r)=aa:=if_pos (show kd (.mk k nm ns aa r)=9 from hk9)
     have hal60:aa.length+1≤60:=by
      have h1:=zke (l:=aa) (xG ok.1).2.1;have h2:=ok.2;rw [z9] at h2;omega
     have oka:∀ y∈aa,okT y=true∧cnt y≤60:=fun y hy=>zdu ok (by rw [fl]; exact hy);have hsa2:=hsa.keep (O':=O2) (fun j _ hj=>ex.2 j (by omega)) (Nat.le_refl 0) (Nat.le_refl hi);refine ⟨_,hob.ld 3 rfl,hsa2.len pSl _ _,?_⟩;have inner:∀ (c2 k2:Nat) (O3:T AObj) (N3:Nat) (es3:List TE) (s3:AV),k2+c2=aa.length→Ext O N O3 N3→GV O3 79 2 tE N N3 es3 s3→(es3≠[]→Slg s3)→AltR O hi es3 ((ts.take i).flatMap xq++aa.take k2)→es3.length≤60*i+k2→Goal P keep f0 Q (Walu sa sb ((ps.length:Nat):Int) ((i:Nat):Int) ((k2:Nat):Int) ((pq.length:Nat):Int) s3 rest O3 N3 G):=by
      intro c2
      induction c2 with
      | zero =>
       intro k2 O3 N3 es3 s3 hc2 ex03 gv3 sl3 al3 le3;refine ot zrP (fkf (decide_eq_false (by omega)) ?_);have e0:aa.take k2=aa:=List.take_of_length_le (by omega);rw [e0] at al3;have nx:=ih (i+1) O3 N3 es3 s3 (by omega) ex03 gv3 sl3 (by rw [zfN hx,fl]; exact al3) (by omega);rw [← zq (i:=i) (by omega)] at nx;exact nx
      | succ c2 ih2 =>
       intro k2 O3 N3 es3 s3 hc2 ex03 gv3 sl3 al3 le3;obtain ⟨y,hy,hym⟩:=nth (l:=aa) (j:=k2) (by omega);obtain ⟨py,hpy,_⟩:=nth (l:=pq) (j:=k2) (by omega);have n03:=ex03.1;have ty0:=ha k2 y py hy hpy;have ty3:=ty0.ext ex03 hN;obtain ⟨d1,d2,d3,_,_,eD,rD,_⟩:=(hsa.keep (O':=O3) (fun j _ hj=>ex03.2 j (by omega)) (Nat.le_refl 0) (Nat.le_refl hi)).at pSl pEn hpy;refine ot zrP (fkt (decide_eq_true (by omega)) ⟨d1,d2,d3,_,eD,rD.load rfl _ _,?_⟩);refine zgY (oka y hym).1 (oka y hym).2 keep f0 Q hi py _ O3 N3 ty3 (by omega) fun O4 N4 td4 ex4=>?_;have n4:=ex4.1;have g4:=gv3.keep (O':=O4) (fun j _ hj=>ex4.2 j hj) (Nat.le_refl _) ex4.1;obtain ⟨O5,O6,N6,s6,e5,e6,g6,n6,sl6,f6⟩:=addT g4 (by omega) (by omega) (wr y,py) G;refine ot zmC ⟨O5,s6,O6,N6,bldT (wr y,py),e5,e6,?_⟩;have w1:IntKind.i64.wrap (((k2:Nat):Int)+(1:Int))=((k2+1:Nat):Int):=zq (by omega);rw [w1];exact ih2 (k2+1) O6 N6 _ s6 (by omega) ⟨by omega,fun j hj=>(f6 j hj).trans ((ex4.2 j (by omega)).trans (ex03.2 j hj))⟩ g6 (fun _=>sl6) (by rw [znU hy,← List.append_assoc]; exact al3.snoc ty0) (by rw [List.length_append]; simp only [List.length_cons,List.length_nil]; omega)
     exact inner aa.length 0 O2 N2 es s (by omega) ex gv sl (by rw [List.take_zero,List.append_nil]; exact al) (by omega)
 exact ot t_alt ⟨_,hs.len pSl _ _,loop ts.length 0 O N [] (.nils 0 0) (Nat.zero_add _) Ext.refl GV.nil (fun h=>absurd rfl h) AltR.nil (Nat.zero_le _)⟩
end Go.Proofs.Ytcdigdplhlgcaaa.gx
end
section
set_option maxRecDepth 100000
set_option linter.unusedVariables false
set_option linter.unusedSectionVars false
set_option linter.unusedSimpArgs false
namespace Go.Proofs.Ytcdigdplhlgcaaa.gx
open Go Ev tp
section
variable (sa prq2:AV) (n j:Int) (m:Nat) (sl:AV) (rest:List AFrame) (O:T AObj) (N:Nat) (G:T (T AV))
noncomputable def zrz:AFrame:=frm 25 56 (tW (tX (tX tZ (tY (.bool false))) tZ) sa (tX (tX tZ (tY sa)) tZ)) [opi 25 [1,0,0] 5,cdi 25 [1,0,1],cdi 25 [1,1]]
noncomputable def zfT:AFrame:=frm 25 56 (tW (tX (tX (tX (tY sa) tZ) tZ) tZ) sa tZ) [opi 25 [1,1,0,0] 1,cdi 25 [1,1,0,1],cdi 25 [1,1,1]]
noncomputable def jb:AFrame:=frm 25 56 (tX (tX (tX tZ (tX (tY sa) tZ)) tZ) tZ) [opi 25 [1,1,1,0] 1,cdi 25 [1,1,1,1]]
noncomputable def wd:AFrame:=frm 25 56 (tX (tX tZ (tX tZ (tX (tY prq2) tZ))) (tX (tY prq2) tZ)) [opi 25 [1,1,1,1,0] 1,cdi 25 [1,1,1,1,1]]
noncomputable def yI:AFrame:=frm 25 56 (tX (tX (tX (tX tZ (tY prq2)) tZ) tZ) tZ) [opi 25 [1,1,1,1,1,0] 1,cdi 25 [1,1,1,1,1,1]]
noncomputable def Wunj:AM:=⟨frm 25 56 (tX (tX (tX tZ (tX (tX (tY (.int .i64 n)) tZ) tZ)) (tY (.ptr m 0 0))) (tX (tX tZ (tX (tX (tY (.int .i64 j)) tZ) tZ)) (tX (tX (tX (tY sl) tZ) tZ) tZ))) [cdi 25 [1,1,1,1,1,1,1,1,0,1,0,0],ili 25 [1,1,1,1,1,1,1,1,0,1,0,0],.inBlock 0,cdi 25 [1,1,1,1,1,1,1,1,1]],rest,⟨O,N,G⟩⟩
noncomputable def zrR:AFrame:=frm 25 56 (tX tZ (tX (tX tZ (tX (tX tZ (tY (.ptr m 0 0))) tZ)) tZ)) [opi 25 [1,1,1,1,1,1,1,1,1,0] 1,cdi 25 [1,0,1,0,1]]
end
section
variable {R:AV→AHeap→Prop} {keep N m:Nat} {f0:FuncId} {rest:List AFrame} {O:T AObj} {sa prq2 prq4 sl sa2 prq0:AV} {G:T (T AV)} {K:AM→Prop} {td:List AItem} {blq0 blq1:Bool} {n j crq0:Int}
theorem t_unj:(∃ (z1:Int),(lN O N G 33 sa z1)∧(((z1==(0:Int)))=true→(K (AM.mk (RF 25 56 (tX (tX (tY (.int .i64 2)) tZ) (tY .nilp)) [cdi 25 [1,0,1,0,1],cdi 25 [1,1]]) rest ⟨O,N,G⟩)))∧(((z1==(0:Int)))=false→(K (AM.mk (enF 55 [sa,.fn (Fn.func 56) [] []]) ((zrz sa)::rest) ⟨O,N,G⟩))))=OT f0 R keep K (.ex fun z1:Int=>(.seq [.run 9,.hopn (.int .i64 z1) O (N),.run 2] (.fork 11 (.seq [.run 11,.keep [2,3]] .fin) (.seq [.run 1,.keep [0,11,12],.run 1] .fin)))) ((AM.mk (enF 25 [sa]) rest ⟨O,N,G⟩)):=by kernel_rfl
theorem zkl:(((blq0)=true→(K (AM.mk (RF 25 56 (tX (tX (tY (.int .i64 2)) tZ) (tY .nilp)) [cdi 55 [1,0,1,0,0,1,1,0,0,1,1,0,1],cdi 25 [1,1]]) rest ⟨O,N,G⟩)))∧((blq0)=false→(K (AM.mk (enF 55 [sa,.fn (Fn.func 66) [] []]) ((zfT sa)::rest) ⟨O,N,G⟩))))=OT f0 R keep K (.seq [.run 3] (.fork 14 (.seq [.run 7,.keep [2,3]] .fin) (.seq [.run 6,.keep [0,15],.run 1] .fin))) ((AM.mk (RF 55 17 (tX tZ (tX (tY (.bool blq0)) tZ)) td) ((zrz sa)::rest) ⟨O,N,G⟩)):=by kernel_rfl
theorem zdy:(((blq1)=true→(∃ (O1:T AObj),(T.set ((some (.cells (tW (tW (tY (.nils 0 0)) (.str []) tZ) (.int .i64 1) (tW (tY .nilp) (.nils 0 0) tZ)) 5 44 0 0 1 0 false .leaf))) (O) (N)=O1)∧K (AM.mk (RF 25 56 (tX (tX (tY (.int .i64 0)) tZ) (tY (.ptr N 0 0))) [cdi 55 [1,0,1,0,0,1,1,0,0,1,1,0,1],cdi 25 [1,1,1]]) rest ⟨O1,N+1,G⟩)))∧((blq1)=false→(K (AM.mk (enF 67 [sa]) ((jb sa)::rest) ⟨O,N,G⟩))))=OT f0 R keep K (.seq [.run 2] (.fork 16 (.ex fun O1:T AObj=>(.seq [.run 4,.hop (.nilp) O1,.run 4,.keep [2,3]] .fin)) (.seq [.run 5,.keep [19],.run 1] .fin))) ((AM.mk (RF 55 17 (tX tZ (tX (tY (.bool blq1)) tZ)) td) ((zfT sa)::rest) ⟨O,N,G⟩)):=by kernel_rfl
theorem jR:(K (AM.mk (enF 68 [prq2,.fn (Fn.func 69) [] []]) ((wd prq2)::rest) ⟨O,N,G⟩))=OT f0 R keep K (.seq [.run 6,.keep [4,21],.run 1] .fin) ((AM.mk (RF 67 45 (tX tZ (tY prq2)) td) ((jb sa)::rest) ⟨O,N,G⟩)):=by kernel_rfl
theorem vB:(K (AM.mk (enF 70 [prq2,.fn (Fn.func 71) [] []]) ((yI prq2)::rest) ⟨O,N,G⟩))=OT f0 R keep K (.seq [.run 5,.keep [23],.run 1] .fin) ((AM.mk (RF 68 9 .leaf td) ((wd prq2)::rest) ⟨O,N,G⟩)):=by kernel_rfl
theorem qK:(∃ (z1:Int),(lN O N G 75 prq4 z1)∧(((z1==(1:Int)))=true→(∃ (i1:Nat) (i2:Nat) (i3:Nat) (s1:AV),(iX 75 prq4 0 i1 i2 i3)∧(zb (⟨O,N,G⟩) (i1) (i2) (i3+1) (1)=(some [s1]))∧K (AM.mk (RF 25 56 (tX (tX (tY (.int .i64 0)) tZ) (tY s1)) [cdi 70 [1,0,1,0,1],cdi 25 [1,1,1,1,1,1,1]]) rest ⟨O,N,G⟩)))∧(((z1==(1:Int)))=false→(∃ (O1:T AObj) (z2:Int),(T.set ((some (.cells (tW (tW (tY (.nils 0 0)) (.str []) tZ) (.int .i64 9) (tW (tY .nilp) (.nils 0 0) tZ)) 5 44 0 0 1 0 false .leaf))) (O) (N)=O1)∧(lN O1 (N+1) G 75 prq4 z2)∧K (Wunj z2 0 N prq4 rest O1 (N+1) G))))=OT f0 R keep K (.ex fun z1:Int=>(.seq [.run 7,.hopn (.int .i64 z1) O (N),.run 2] (.fork 27 (.ex fun i1:Nat=>(.ex fun i2:Nat=>(.ex fun i3:Nat=>(.ex fun s1:AV=>(.seq [.run 4,.hopn (.ptr i1 i2 i3) O (N),.run 1,.hop (s1) O,.run 4,.keep [2,3]] .fin))))) (.ex fun O1:T AObj=>(.ex fun z2:Int=>(.seq [.run 5,.hop (.nilp) O1,.run 6,.hopn (.int .i64 z2) O1 (N+1),.run 4,.keep [5,34,35,36]] .fin)))))) ((AM.mk (RF 70 66 (tX tZ (tX (tY prq4) tZ)) td) ((yI prq2)::rest) ⟨O,N,G⟩)):=by kernel_rfl
theorem zsZ:(((decide (j<n))=true→(∃ (i1:Nat) (i2:Nat) (i3:Nat) (l1:List UInt8) (s1:AV) (O1:T AObj) (O2:T AObj) (O3:T AObj) (s2:AV) (O4:T AObj) (N1:Nat) (O5:T AObj),(iX 75 sl j i1 i2 i3)∧(zb (⟨O,N,G⟩) (i1) (i2) (i3) (2)=(some [.str l1,s1]))∧(T.set ((some (.cells (tW (tY .nilp) (.str []) tZ) 2 79 0 0 1 0 false .leaf))) (O) (N)=O1)∧((AV.agg [AV.str l1,s1]).cells.length.beq (2)=true∧zc (⟨O1,N+1,G⟩:AHeap) N (0) (0) (AV.agg [AV.str l1,s1]).cells=some (⟨O2,(N+1),G⟩:AHeap))∧(lC O2 (N+1) G m 3 sa2)∧(lC O2 (N+1) G N 1 s1)∧(zg P (⟨O2,N+1,G⟩) (33) (1) ([(0,s1)])=(some (.slc (N+1) 0 0 1 1,⟨O3,N+2,G⟩)))∧(lC O3 (N+2) G N 1 s1)∧(okD 300 s1=true)∧(lC O3 (N+2) G m 3 sa2)∧(okD 300 sa2=true)∧(zi P (⟨O3,N+2,G⟩) (Builtin.append) ((some 33)) ((some 33)) ([sa2,.slc (N+1) 0 0 1 1])=(some (.val s2 ⟨O4,N1,G⟩)))∧(s2.cells.length.beq (1)=true∧zc (⟨O4,N1,G⟩:AHeap) m (0) (3) s2.cells=some (⟨O5,N1,G⟩:AHeap))∧K (Wunj n (IntKind.i64.wrap (j+(1:Int))) m sl rest O5 N1 G)))∧((decide (j<n))=false→(K (AM.mk (enF 61 [.ptr m 0 0]) ((zrR m)::rest) ⟨O,N,G⟩))))=OT f0 R keep K (.seq [.run 5] (.fork 37 (.ex fun i1:Nat=>(.ex fun i2:Nat=>(.ex fun i3:Nat=>(.ex fun l1:List UInt8=>(.ex fun s1:AV=>(.ex fun O1:T AObj=>(.ex fun O2:T AObj=>(.ex fun O3:T AObj=>(.ex fun s2:AV=>(.ex fun O4:T AObj=>(.ex fun N1:Nat=>(.ex fun O5:T AObj=>(.seq [.run 6,.hopn (.ptr i1 i2 i3) O (N),.hop (.agg [.str l1,s1]) O,.hop (.nilp) O1,.hopn (.nilp) O2 (N+1),.run 6,.hop (sa2) O2,.run 1,.hop (s1) O2,.hopn (.slc (N+1) 0 0 1 1) O3 (N+2),.hopn (s2) O4 (N1),.run 2,.hopn (.nilp) O5 (N1),.run 7,.keep [5,34,35,36]] .fin))))))))))))) (.seq [.run 5,.keep [52],.run 1] .fin))) ((Wunj n j m sl rest O N G)):=by kernel_rfl
theorem zmK:(K (AM.mk (RF 25 56 (tX (tX (tY (.int .i64 crq0)) tZ) (tY prq0)) [cdi 25 [1,0,1,0,1]]) rest ⟨O,N,G⟩))=OT f0 R keep K (.seq [.run 7,.keep [2,3]] .fin) ((AM.mk (RF 61 8 (tX (tX (tY (.int .i64 crq0)) tZ) (tY prq0)) td) ((zrR m)::rest) ⟨O,N,G⟩)):=by kernel_rfl
end
variable {O O':T AObj} {N:Nat} {G:T (T AV)}
theorem zcQ {hi:Nat}{fs:List Ty}:∀ {cs:List TE},(∀ c∈cs,∃ x∈fs,c.1=wr x∧Tr O hi x c.2)→∃ us:List Ty,us.length=cs.length∧us.map wr=cs.map Prod.fst∧(∀ u∈us,u∈fs)∧∀ (j:Nat) (u:Ty) (p:Option Nat),us[j]?=some u→(cs.map Prod.snd)[j]?=some p→Tr O hi u p
 | [],_=>⟨[],rfl,rfl,(fun u hu=>by cases hu),(fun j u p h=>by simp at h)⟩
 | c::cs,h=>by
  obtain ⟨us,h1,h2,h3,h4⟩:=zcQ (cs:=cs) fun c hc=>h c (List.mem_cons_of_mem _ hc);obtain ⟨x,hx,e,t⟩:=h c (List.mem_cons_self ..);refine ⟨x::us,by rw [List.length_cons,List.length_cons,h1],by rw [List.map_cons,List.map_cons,h2,e],fun u hu=>?_,fun j u p a b=>?_⟩
  ·rcases List.mem_cons.1 hu with rfl | hu
   ·exact hx
   ·exact h3 u hu
  ·cases j with
   | zero =>
    simp only [List.map_cons,List.getElem?_cons_zero,Option.some.injEq] at a b;subst a;subst b;exact t
   | succ j =>
    rw [List.getElem?_cons_succ] at a;rw [List.map_cons,List.getElem?_cons_succ] at b;exact h4 j u p a b
theorem Inc.up {cs:List TE}(h:Inc cs cs.length):Up (cs.map Prod.fst):=by
 refine List.pairwise_map.2 (List.pairwise_iff_getElem.2 fun i j hi hj hij=>?_);have h1:=h i j hij hj;have f:∀ k (hk:k<cs.length),Fx cs k=cs[k]:=fun k hk=>by
  have:=zbh hk;rw [List.getElem?_eq_getElem hk] at this;exact (Option.some.inj this).symm
 rwa [f i hi,f j hj] at h1
theorem znu {ts:List Ty}{ps:List (Option Nat)}{sa:AV}{hi:Nat}(hs:SV O 1 pE 0 hi ps sa)(hl:ps.length=ts.length)(hm:ts.length<1000)(ht:∀ (j:Nat) (x:Ty) (p:Option Nat),ts[j]?=some x→ps[j]?=some p→Tr O hi x p)(hnm:∀ x∈ts,NM x)(hN:hi≤N){keep:Nat}{f0:FuncId}{Q:AV→AHeap→Prop}{rest:List AFrame}
 (hK:∀ O' N' td p',Ext O N O' N'→Tr O' N' (vh ts).2 p'→Goal P keep f0 Q (AM.mk (RF 25 56 (tX (tX (tY (.int .i64 (vh ts).1)) tZ) (tY (pv p'))) td) rest ⟨O',N',G⟩)):Goal P keep f0 Q (AM.mk (enF 25 [sa]) rest ⟨O,N,G⟩):=by
 have bad:vh ts=(2,.no)→∀ O' N' td,Ext O N O' N'→Goal P keep f0 Q (AM.mk (RF 25 56 (tX (tX (tY (.int .i64 2)) tZ) (tY .nilp)) td) rest ⟨O',N',G⟩):=fun e O' N' td ex=>by
  have:=hK O' N' td none ex (by rw [e]; exact Tr.no);rw [e] at this;exact this
 refine ot t_unj ⟨_,hs.len pSl _ _,fun h0=>?_,fun h0=>?_⟩
 ·have h1:ps.length=0:=by have:=eq_of_beq h0; omega
  obtain rfl:ts=[]:=List.length_eq_zero_iff.1 (by omega);exact bad (if_neg fun h=>h.1 rfl) _ _ _ Ext.refl
 have hne:ts≠[]:=fun h=>by
  rw [h] at hl;rw [hl] at h0;exact absurd h0 (by decide)
 refine ziD hs hl (by omega) ht hN fun O1 N1 td1 x1=>?_;refine ot zkl ⟨fun hb=>?_,fun hb=>?_⟩
 ·refine bad (if_neg fun h=>?_) _ _ _ x1;rw [List.all_eq_not_any_not,hb] at h;exact absurd h.2 (by decide)
 have hall:ts.all (fun x=>chk x==0)=true:=by rw [List.all_eq_not_any_not,hb]; rfl
 have hc:∀ x∈ts,okT x=true∧cnt x≤60:=fun x hx=>tp.chk_ok (by simpa using List.all_eq_true.1 hall x hx)
 have hs1:=hs.keep (O':=O1) (fun j _ hj=>x1.2 j (by omega)) (Nat.le_refl 0) (Nat.le_refl hi);have ht1:∀ (j:Nat) (x:Ty) (p:Option Nat),ts[j]?=some x→ps[j]?=some p→Tr O1 hi x p:=fun j x p a b=>(ht j x p a b).ext x1 hN;have n1:=x1.1;refine ztz hs1 hl (by omega) ht1 (fun x hx=>by
  cases x with
  | no=>have:=(hc _ hx).1; rw [xX] at this; cases this
  | mk=>rfl) fun td2=>?_
 refine ot zdy ⟨fun hb2=>?_,fun hb2=>?_⟩
 ·obtain ⟨O2,e2,b2,f2⟩:=Obj.mk (c:=(tW (tW (tY (.nils 0 0)) (.str []) tZ) (.int .i64 1) (tW (tY .nilp) (.nils 0 0) tZ))) (el:=44) [.int .i64 1,.str [],.nils 0 0,.nils 0 0,.nilp] O1 N1 5 rfl (fun k hk=>by rcases k with _ | _ | _ | _ | _ | k <;> first | rfl | omega)
  have e:vh ts=(0,.mk 1 [] [] [] .no):=by unfold vh; rw [if_pos ⟨hne,hall⟩,if_pos hb2]
  have:=fun td=>hK O2 (N1+1) td (some N1) ⟨by omega,fun j hj=>(f2 j (by omega)).trans (x1.2 j hj)⟩ (by rw [e]; exact Tr.mk (q:=none) (ps:=[]) (Nat.lt_succ_self _) b2 SV.nil SV.nil rfl (by decide) (by decide) (fun j x p a=>by simp at a) Tr.no);rw [e] at this;exact ⟨O2,e2,this _⟩
 refine zsX hs1 hl (by omega) ht1 hc (Nat.le_trans hN x1.1) fun O2 N2 td3 es s x2 gv sl al le=>?_;refine ot jR ?_;have n2:=x2.1;have fne:ts.flatMap xq≠[]:=by
  cases ts with
  | nil=>exact absurd rfl hne
  | cons x l =>
   have ok:=(hc x (List.mem_cons_self ..)).1;intro h;rw [List.flatMap_cons] at h;have h:=(List.append_eq_nil_iff.1 h).1;unfold xq at h;split at h
   ·rename_i h9;cases x with
    | no=>rw [xX] at ok; cases ok
    | mk k nm ns aa r =>
     have h9:k=9:=h9;have h4:=(xG ok).2.2.2;subst h9;have h4:(decide (2≤aa.length)&&aa.all (fun x=>!(kd x==9 || kd x==1))&&qL (aa.map wr))=true:=h4;simp only [Bool.and_eq_true,decide_eq_true_eq] at h4;have h:aa=[]:=h;rw [h] at h4;exact absurd h4.1.1 (by decide)
   ·cases h
 have ene:es≠[]:=fun h=>fne (List.length_eq_zero_iff.1 (by rw [← al.1,h]; rfl));have hA:Arr O2 N1 N2 s es:=⟨gv,sl ene⟩;refine zr2 hA (Nat.le_refl _) (by omega) fun O3 N3 ys td4 h3 c3 r3 s3=>?_;refine ot vB ?_;refine zrZ h3 c3.1 (by rw [r3.1]; omega) (by rw [r3.1]; exact s3) fun O4 N4 cs s4 td5 c4 sv inc from1 to1 lc=>?_;have c24:=c3.trans c4;have n4:=c24.1;have sidl:=hA.sid;have y14:Ext O1 N1 O4 N4:=⟨by omega,fun j hj=>(c24.2 j (by omega) (by omega)).trans (x2.2 j hj)⟩;have y04:=x1.trans y14;have hfs:∀ x∈ts.flatMap xq,okT x=true∧nmT x=true:=fun x hx=>by
  obtain ⟨w,hw,hz⟩:=List.mem_flatMap.1 hx;exact ⟨(zdu (hc w hw) hz).1,zlC (hnm w hw (hc w hw).1) hz⟩
 have ye:∀ e,e∈ys ↔ e∈es:=fun e=>by
  constructor
  ·intro h;obtain ⟨i,h1,h2⟩:=ziv h;obtain ⟨k,_,k2,k3⟩:=(r3.2.2 e).1 ⟨i,Nat.zero_le _,by rw [← r3.1]; exact h1,h2⟩;rw [← k3];exact zij k2
  ·intro h;obtain ⟨i,h1,h2⟩:=ziv h;obtain ⟨k,_,k2,k3⟩:=(r3.2.2 e).2 ⟨i,Nat.zero_le _,h1,h2⟩;rw [← k3];exact zij (by rw [r3.1]; exact k2)
 obtain ⟨us,u1,u2,u3,u4⟩:=zcQ (O:=O1) (hi:=hi) (fs:=ts.flatMap xq) (cs:=cs) fun c hcm=>by
  obtain ⟨j,hj,he⟩:=List.mem_iff_getElem.1 ((ye c).1 (from1 c hcm));have hj2:j<(ts.flatMap xq).length:=by rw [← al.1]; exact hj
  obtain ⟨a1,a2⟩:=al.2 j c _ (by rw [List.getElem?_eq_getElem hj,he]) (List.getElem?_eq_getElem hj2);exact ⟨_,List.getElem_mem hj2,a1,a2⟩
 have heq:us=zcj (ts.flatMap xq) []:=by
  refine zsj hfs u3 (by rw [u2]; exact inc.up) fun x hx=>?_;obtain ⟨j,hj,he⟩:=List.mem_iff_getElem.1 hx;have hj2:j<es.length:=by rw [al.1]; exact hj
  have a1:=(al.2 j _ x (List.getElem?_eq_getElem hj2) (by rw [List.getElem?_eq_getElem hj,he])).1;obtain ⟨c,g1,g2⟩:=to1 _ ((ye _).2 (List.getElem_mem hj2));have:c.1∈us.map wr:=by rw [u2]; exact List.mem_map.2 ⟨c,g1,rfl⟩
  obtain ⟨u,k1,k2⟩:=List.mem_map.1 this;exact ⟨u,k1,by rw [k2,g2,a1]⟩
 have hU:vh ts=zjU us:=by
  unfold vh;rw [if_pos ⟨hne,hall⟩,if_neg (by rw [hb2]; exact Bool.false_ne_true),heq]
 rw [hU] at hK;refine ot qK ⟨_,sv.len tSl _ _,fun h1=>?_,fun h1=>?_⟩
 ·have h1':cs.length=1:=by have:=eq_of_beq h1; omega
  obtain ⟨i1,i2,i3,_,_,eA,rd,_⟩:=sv.at tSl tEn (zbh (xs:=cs) (i:=0) (by omega));have e0:zjU us=(0,us.headD .no):=if_pos (by omega);refine ⟨i1,i2,i3,pv (Fx cs 0).2,eA,rd.nth (u:=1) rfl _ _,?_⟩;have tr:Tr O4 N4 (us.headD .no) (Fx cs 0).2:=by
   cases us with
   | nil=>rw [h1'] at u1; cases u1
   | cons u l =>
    refine ((u4 0 u _ rfl ?_).ext y14 (by omega)).same (fun _ _=>rfl) (by omega);rw [List.getElem?_map,zbh (by omega)];rfl
  rw [e0] at hK;exact hK O4 N4 _ (Fx cs 0).2 y04 tr
 obtain ⟨O5,e5,b5,f5⟩:=Obj.mk (c:=(tW (tW (tY (.nils 0 0)) (.str []) tZ) (.int .i64 9) (tW (tY .nilp) (.nils 0 0) tZ))) (el:=44) [.int .i64 9,.str [],.nils 0 0,.nils 0 0,.nilp] O4 N4 5 rfl (fun k hk=>by rcases k with _ | _ | _ | _ | _ | k <;> first | rfl | omega)
 have sv5:=sv.keep (O':=O5) (fun j _ hj=>f5 j (by omega)) (Nat.le_refl _) (Nat.le_refl _);refine ⟨O5,_,e5,sv5.len tSl _ _,?_⟩;have h1':¬ cs.length=1:=fun h=>by rw [h] at h1; exact absurd h1 (by decide)
 have e0:zjU us=kv (.mk 9 [] [] us .no):=if_neg (by omega);have lcs:cs.length<1000000:=by
  rw [r3.1] at lc;omega
 have loop:∀ (c i:Nat) (O6:T AObj) (N6:Nat) (s6:AV),i+c=cs.length→N4+1≤N6→(∀ j,j<N4+1→j≠N4→O6.get j=O4.get j)→Obj O6 N4 [.int .i64 9,.str [],.nils 0 0,s6,.nilp]→GV O6 23 1 pE (N4+1) N6 ((cs.take i).map Prod.snd) s6→Goal P keep f0 Q (Wunj ((cs.length:Nat):Int) ((i:Nat):Int) N4 s4 rest O6 N6 G):=by
  intro c
  induction c with
  | zero =>
   intro i O6 N6 s6 hc6 hN6 f6 b6 g6;refine ot (zsZ (sa2:=s6)) (fkf (decide_eq_false (by omega)) ?_);rw [List.take_of_length_le (by omega)] at g6;have y16:Ext O1 N1 O6 N6:=⟨by omega,fun j hj=>(f6 j (by omega) (by omega)).trans (y14.2 j hj)⟩;refine za9 (t:=.mk 9 [] [] us .no) (p:=some N4) (hi:=N6) (Tr.mk (q:=none) (by omega) b6 SV.nil ((g6.sv pEn).keep (fun _ _ _=>rfl) (Nat.zero_le _) (Nat.le_refl _)) (by rw [List.length_map,u1]) (by omega) (by decide) (fun j x p a b=>((u4 j x p a b).ext y16 (by omega)).same (fun _ _=>rfl) (by omega)) Tr.no) (Nat.le_refl _) fun O7 N7 td7 p' x7 t7=>?_;refine ot zmK ?_;rw [e0] at hK;exact hK O7 N7 _ p' ((x1.trans y16).trans x7) t7
  | succ c ih =>
   intro i O6 N6 s6 hc6 hN6 f6 b6 g6;have hci:=zbh (xs:=cs) (i:=i) (by omega);have sv6:=sv.keep (O':=O6) (fun j _ hj=>f6 j (by omega) (by omega)) (Nat.le_refl _) (Nat.le_refl _);obtain ⟨i1,i2,i3,_,_,eA,rd,_⟩:=sv6.at tSl tEn hci;obtain ⟨O7,e7,b7,f7⟩:=Obj.mk (c:=(tW (tY .nilp) (.str []) tZ)) (el:=79) [.str [],.nilp] O6 N6 2 rfl (fun k hk=>by rcases k with _ | _ | k <;> first | rfl | omega)
   obtain ⟨O8,e8,b8,f8⟩:=b7.store 0 (tE (Fx cs i)) (N6+1) G (Nat.le_of_ble_eq_true rfl) (tEn.one _);have b8':Obj O8 N6 (tE (Fx cs i)):=b8;have om8:=(b6.same (f7 N4 (by omega))).same (f8 N4 (by omega));obtain ⟨O9,e9,v9,_,f9⟩:=kU pEn (Fx cs i).2 O8 (N6+1) G (st:=33) (el:=23) (zrf _);have g9:=g6.keep (O':=O9) (fun j h1 h2=>(f9 j (by omega)).trans ((f8 j (by omega)).trans (f7 j (by omega)))) (Nat.le_refl _) (show N6≤N6+2 by omega);obtain ⟨O10,N10,s10,e10,g10,n10,m10,f10,h10⟩:=g9.app pSl pEn v9 (by omega) (by rw [List.length_map,List.length_take]; simp only [List.length_cons,List.length_nil]; omega) G;have om9:=om8.same (f9 N4 (by omega));have om10:=om9.same (f10 N4 (by omega) (fun h=>by have:=(g9.sid_lt h).1; omega));obtain ⟨O11,e11,b11,f11⟩:=om10.store 3 [s10] N10 G (Nat.le_of_ble_eq_true rfl) (by rw [List.all_cons,(g10.sv pEn).one]; rfl);refine ot (zsZ (sa2:=s6)) (fkt (decide_eq_true (by omega)) ?_);refine ⟨i1,i2,i3,(Fx cs i).1,pv (Fx cs i).2,O7,O8,O9,s10,O10,N10,O11,eA,rd.load rfl _ _,e7,st2 e8,om8.ld 3 rfl,b8'.ld 1 rfl,e9,(b8'.same (f9 N6 (by omega))).ld 1 rfl,zan _,om9.ld 3 rfl,yT (g6.sv pEn),e10,st1 (g10.sv pEn).cells e11,?_⟩;have nx:=ih (i+1) O11 N10 s10 (by omega) (by omega) (fun j hj hjm=>(f11 j hjm).trans ((f10 j (by omega) (fun h=>by have:=(g9.sid_lt h).1; omega)).trans ((f9 j (by omega)).trans ((f8 j (by omega)).trans ((f7 j (by omega)).trans (f6 j hj hjm)))))) b11 (by
    rw [zdv hci];exact g10.same (fun h=>f11 _ (by have:=(g10.sid_lt h).1; omega)) (Nat.le_refl _) (Nat.le_refl _))
   rw [← zq (i:=i) (by omega)] at nx;exact nx
 exact loop cs.length 0 O5 (N4+1) (.nils 0 0) (Nat.zero_add _) (Nat.le_refl _) (fun j _ hj=>f5 j hj) b5 GV.nil
end Go.Proofs.Ytcdigdplhlgcaaa.gx
end
section
set_option maxRecDepth 100000
set_option linter.unusedVariables false
set_option linter.unusedSectionVars false
namespace Go.Proofs.Ytcdigdplhlgcaaa.gx
open Go Ev tp
theorem zlM {t:Ty}(h:okT t=true)(hc:cnt t≤60):chk t=0:=by
 cases t with
 | no=>rw [xX] at h; cases h
 | mk k nm ns aa r =>
  unfold chk;rw [if_neg (by intro h; cases h),if_neg (by omega),if_pos h]
theorem zdF {t:Ty}(h:(kv t).1≠0):(kv t).2=.no:=by
 unfold kv at h ⊢;split
 ·rfl
 ·rename_i hs;rw [if_neg hs] at h;exact absurd rfl h
theorem zlj {t:Ty}(ho:okT t=true)(h:(kv t).1=0):(kv t).2=t∧chk t=0:=by
 unfold kv at h ⊢;split at h
 ·cases h
 ·rename_i hs;rw [if_neg hs];exact ⟨rfl,zlM ho (by omega)⟩
theorem zns {ts:List Ty}(h:(vh ts).1≠0):(vh ts).2=.no:=by
 unfold vh at h ⊢;split
 ·rename_i hc;rw [if_pos hc] at h;split
  ·rename_i ha;rw [if_pos ha] at h;exact absurd rfl h
  ·rename_i ha;rw [if_neg ha] at h;unfold zjU at h ⊢;split
   ·rename_i h1;rw [if_pos h1] at h;exact absurd rfl h
   ·rename_i h1;rw [if_neg h1] at h;exact zdF h
 ·rfl
theorem zmZ {ts:List Ty}{r:Ty}(h:(zbK ts r).1≠0):(zbK ts r).2=.no:=by
 unfold zbK at h ⊢;split
 ·rename_i hc;rw [if_pos hc] at h;exact zdF h
 ·rfl
theorem znv {ts:List Ty}{r:Ty}(h:(zbK ts r).1=0):chk (zbK ts r).2=0∧cnt (zbK ts r).2≤60:=by
 unfold zbK at h ⊢;split at h
 ·rename_i hc;rw [if_pos hc];have ok:okT (.mk 8 [] [] ts r)=true:=by
   have hr:=(tp.chk_ok hc.2).1;rw [zbQ,wY];have a1:own 8 [] [] ts r=true:=by
    cases r with
    | no=>rw [xX] at hr; cases hr
    | mk=>rfl
   have a2:ts.all okT=true:=List.all_eq_true.2 fun x hx=>(tp.chk_ok (by simpa using List.all_eq_true.1 hc.1 x hx)).1
   rw [a1,a2,hr];simp [okK]
  obtain ⟨h1,h2⟩:=zlj ok h;rw [h1];exact ⟨h2,(tp.chk_ok h2).2⟩
 ·cases h
theorem zqJ {fs out:List Ty}{u:Ty}(h:u∈zcj fs out):u∈out∨u∈fs:=zen h
theorem zq0 {w z:Ty}(h:okT w=true)(ha:kd w≠1)(hz:z∈xq w):kd z≠9∧kd z≠1:=by
 unfold xq at hz;split at hz
 ·rename_i h9;cases w with
  | no=>cases hz
  | mk k nm ns aa r =>
   have h9:k=9:=h9;have h4:=(xG h).2.2.2;subst h9;have h4:(decide (2≤aa.length)&&aa.all (fun x=>!(kd x==9 || kd x==1))&&qL (aa.map wr))=true:=h4;simp only [Bool.and_eq_true,List.all_eq_true] at h4;have:=h4.1.2 z hz;simp at this;exact this
 ·rename_i h9;rw [List.mem_singleton] at hz;rw [hz];exact ⟨h9,ha⟩
theorem zte {ts:List Ty}(h:ts≠[])(hc:∀ x∈ts,okT x=true):ts.flatMap xq≠[]:=by
 cases ts with
 | nil=>exact absurd rfl h
 | cons x l =>
  have ok:=hc x (List.mem_cons_self ..);intro h;rw [List.flatMap_cons] at h;have h:=(List.append_eq_nil_iff.1 h).1;unfold xq at h;split at h
  ·rename_i h9;cases x with
   | no=>rw [xX] at ok; cases ok
   | mk k nm ns aa r =>
    have h9:k=9:=h9;have h4:=(xG ok).2.2.2;subst h9;have h4:(decide (2≤aa.length)&&aa.all (fun x=>!(kd x==9 || kd x==1))&&qL (aa.map wr))=true:=h4;simp only [Bool.and_eq_true,decide_eq_true_eq] at h4;have h:aa=[]:=h;rw [h] at h4;exact absurd h4.1.1 (by decide)
  ·cases h
theorem znY {ts:List Ty}(h:(vh ts).1=0):chk (vh ts).2=0:=by
 unfold vh at h ⊢;split at h
 ·rename_i hc;rw [if_pos hc];have hok:∀ x∈ts,okT x=true∧cnt x≤60:=fun x hx=>tp.chk_ok (by simpa using List.all_eq_true.1 hc.2 x hx)
  split at h
  ·rename_i ha;rw [if_pos ha];exact zlM (by simp [zbQ,wY,own,okK,isNo]) (by simp [z9,vb,jq])
  ·rename_i ha;rw [if_neg ha];have hfs:∀ x∈ts.flatMap xq,(okT x=true∧cnt x≤60)∧kd x≠9∧kd x≠1:=fun x hx=>by
    obtain ⟨w,hw,hz⟩:=List.mem_flatMap.1 hx;refine ⟨zdu (hok w hw) hz,zq0 (hok w hw).1 (fun e=>ha (List.any_eq_true.2 ⟨w,hw,by rw [e]; rfl⟩)) hz⟩
   obtain ⟨up,mem⟩:=zdO (fs:=ts.flatMap xq) (out:=[]) List.Pairwise.nil;have hS:∀ x∈zcj (ts.flatMap xq) [],(okT x=true∧cnt x≤60)∧kd x≠9∧kd x≠1:=fun x hx=>hfs x ((zqJ hx).resolve_left List.not_mem_nil);have hne:zcj (ts.flatMap xq) []≠[]:=fun e=>by
    cases hf:ts.flatMap xq with
    | nil=>exact zte hc.1 (fun x hx=>(hok x hx).1) hf
    | cons z l =>
     have:=(mem (wr z)).2 (.inl (by rw [hf]; exact List.mem_cons_self ..));rw [e] at this;cases this
   revert h hS hne up;generalize zcj (ts.flatMap xq) []=out;intro h up hS hne;unfold zjU at h ⊢;split at h
   ·rename_i h1;rw [if_pos h1];cases out with
    | nil=>exact absurd rfl hne
    | cons u l =>
     have:=hS u (List.mem_cons_self ..);exact zlM this.1.1 this.1.2
   ·rename_i h1;rw [if_neg h1];have h2:2≤out.length:=by
     cases out with
     | nil=>exact absurd rfl hne
     | cons u l =>
      cases l with
      | nil=>exact absurd rfl h1
      | cons v l=>simp
    have ok:okT (.mk 9 [] [] out .no)=true:=by
     rw [zbQ,wY];have a1:own 9 [] [] out .no=true:=rfl;have a2:out.all okT=true:=List.all_eq_true.2 fun x hx=>(hS x hx).1.1;have a3:okK 9 [] [] out=true:=by
      show (decide (2≤out.length)&&out.all (fun x=>!(kd x==9 || kd x==1))&&qL (out.map wr))=true;rw [decide_eq_true h2,List.all_eq_true.2 (fun x hx=>by simp [(hS x hx).2.1,(hS x hx).2.2]),za5 up.srt up.nodup];rfl
     rw [a1,a2,a3];rfl
    obtain ⟨g1,g2⟩:=zlj ok h;rw [g1];exact g2
 ·cases h
end Go.Proofs.Ytcdigdplhlgcaaa.gx
end
section
set_option maxRecDepth 100000
set_option linter.unusedVariables false
set_option linter.unusedSectionVars false
set_option linter.unusedSimpArgs false
namespace Go.Proofs.Ytcdigdplhlgcaaa.gx
open Go Ev tp
variable {O O':T AObj} {N:Nat} {G:T (T AV)}
theorem box1 {t:TypeId}{s:AV}(hs:s.cells=[s])(h1:AV.one s=true)(O:T AObj)(N:Nat):∃ O',((Nat.beq 1 s.cells.length&&s.cells.all AV.one)=true∧T.set (some (AObj.cells (zd T.leaf 0 s.cells) s.cells.length t 0 0 1 0 false T.leaf)) O N=O')∧Obj O' N [s]∧Frm O O' N:=by
 rw [hs];obtain ⟨O',e,b,f⟩:=Obj.mk (c:=zd .leaf 0 [s]) (el:=t) [s] O N 1 rfl (fun k hk=>by rcases k with _ | k; rfl; omega);exact ⟨O',⟨by rw [List.all_cons,h1]; rfl,e⟩,b,f⟩
theorem zmT {ns:List ze}{ts:List Ty}{ps:List (Option Nat)}{sn sa:AV}{hi:Nat}(hn:SV O 1 sE 0 hi ns sn)(hs:SV O 1 pE 0 hi ps sa)(hl:ps.length=ts.length)(hm:ts.length<1000000)(h12:ns.length=ts.length→ns.length≤12)(ht:∀ (j:Nat) (x:Ty) (p:Option Nat),ts[j]?=some x→ps[j]?=some p→Tr O hi x p)(hN:hi≤N){keep:Nat}{f0:FuncId}{Q:AV→AHeap→Prop}{rest:List AFrame}
 (hK:∀ O' N' td p',Ext O N O' N'→Tr O' N' (y0 ns ts).2 p'→Goal P keep f0 Q (AM.mk (RF 22 85 (tX (tX tZ (tY (.int .i64 (y0 ns ts).1))) (tX (tY (pv p')) tZ)) td) rest ⟨O',N',G⟩)):Goal P keep f0 Q (AM.mk (enF 22 [sn,sa]) rest ⟨O,N,G⟩):=by
 have bad:y0 ns ts=(2,.no)→∀ O' N' td,Ext O N O' N'→Goal P keep f0 Q (AM.mk (RF 22 85 (tX (tX tZ (tY (.int .i64 2))) (tX (tY .nilp) tZ)) td) rest ⟨O',N',G⟩):=fun e O' N' td ex=>by
  have:=hK O' N' td none ex (by rw [e]; exact Tr.no);rw [e] at this;exact this
 obtain ⟨O1,eb,b1,f1⟩:=box1 (t:=32) hn.cells hn.one O N;have x1:Ext O N O1 (N+1):=⟨Nat.le_succ N,fun j hj=>f1 j (by omega)⟩;have hn1:=hn.keep (O':=O1) (fun j _ hj=>x1.2 j (by omega)) (Nat.le_refl 0) (Nat.le_refl hi);have hs1:=hs.keep (O':=O1) (fun j _ hj=>x1.2 j (by omega)) (Nat.le_refl 0) (Nat.le_refl hi);refine ot zrv ⟨O1,_,_,eb,b1.ld 0 rfl,hn1.len sSl _ _,hs1.len pSl _ _,fun hc=>?_,fun hc=>?_⟩
 ·exact bad (jm (.inl fun h=>by have:=bne_iff_ne.1 hc; omega)) _ _ _ x1
 have hlen:ns.length=ts.length:=by
  have:((ns.length:Nat):Int)=((ps.length:Nat):Int):=by simpa using hc
  omega
 have hn12:=h12 hlen;refine ⟨b1.ld 0 rfl,?_⟩;refine zoC hn1 (by omega) (by omega) fun O2 N2 td2 x2=>?_;refine ot zfG ⟨fun hc=>bad (jm (.inr (.inl hc))) _ _ _ (x1.trans x2),fun hf=>?_⟩;have x12:=x1.trans x2;have hn2:=hn.keep (O':=O2) (fun j _ hj=>x12.2 j (by omega)) (Nat.le_refl 0) (Nat.le_refl hi);have hs2:=hs.keep (O':=O2) (fun j _ hj=>x12.2 j (by omega)) (Nat.le_refl 0) (Nat.le_refl hi);refine ziD hs2 hl hm (fun j x p a b=>(ht j x p a b).ext x12 hN) (by have:=x12.1; omega) fun O3 N3 td3 x3=>?_;have x13:=x12.trans x3;refine ot kR ⟨fun hc=>bad (jm (.inr (.inr hc))) _ _ _ x13,fun hcm=>?_⟩;have n3:N+1≤N3:=Nat.le_trans x2.1 x3.1;have hn3:=hn.keep (O':=O3) (fun j _ hj=>x13.2 j (by omega)) (Nat.le_refl 0) (Nat.le_refl hi);have hs3:=hs.keep (O':=O3) (fun j _ hj=>x13.2 j (by omega)) (Nat.le_refl 0) (Nat.le_refl hi);have b3:=(b1.same (x2.2 N (by omega))).same (x3.2 N (by have:=x2.1; omega));obtain ⟨O4,e4,b4,f4⟩:=zou (n:=ns.length) (by omega) O3 N3 G;refine ⟨sn,_,_,O4,_,b3.ld 0 rfl,hn3.len sSl _ _,e4,ziP _ _,?_⟩;have hn4:=hn3.keep (O':=O4) (fun j _ hj=>f4 j (by omega)) (Nat.le_refl 0) (Nat.le_refl hi);have hs4:=hs3.keep (O':=O4) (fun j _ hj=>f4 j (by omega)) (Nat.le_refl 0) (Nat.le_refl hi);have b4m:=b3.same (f4 N (by omega));refine zkx (O:=O4) (id:=N3) (n:=ns.length) (mk:=N) (by omega) (fun O5 f5 b5=>?_) ns.length 0 O4 (Nat.zero_add _) (fun _ _=>rfl) (by rw [List.range_zero,List.nil_append]; exact b4);have hn5:=hn4.keep (O':=O5) (fun j _ hj=>f5 j (by omega)) (Nat.le_refl 0) (Nat.le_refl hi);have hs5:=hs4.keep (O':=O5) (fun j _ hj=>f5 j (by omega)) (Nat.le_refl 0) (Nat.le_refl hi);have b5m:=b4m.same (f5 N (by omega));refine zry (O:=O5) (id:=N3) hn5 b5m (by omega) (by omega) (fun k hk=>List.mem_range.1 hk) b5 List.length_range hn12 fun O6 l td6 f6 b6 p6 s6=>?_;have hn6:=hn5.keep (O':=O6) (fun j _ hj=>f6 j (by omega)) (Nat.le_refl 0) (Nat.le_refl hi);have hs6:=hs5.keep (O':=O6) (fun j _ hj=>f6 j (by omega)) (Nat.le_refl 0) (Nat.le_refl hi);have b6m:=b5m.same (f6 N (by omega));have ll:l.length=ns.length:=by rw [p6.length_eq,List.length_range]
 have lm:∀ k∈l,k<ns.length:=fun k hk=>List.mem_range.1 (p6.mem_iff.1 hk);obtain ⟨O7,e7,b7,f7⟩:=Obj.mk (c:=(tW (tW (tY (.nils 0 0)) (.str []) tZ) (.int .i64 7) (tW (tY .nilp) (.nils 0 0) tZ))) (el:=44) [.int .i64 7,.str [],.nils 0 0,.nils 0 0,.nilp] O6 (N3+1) 5 rfl (fun k hk=>by rcases k with _ | _ | _ | _ | _ | k <;> first | rfl | omega)
 refine ot zc7 ⟨O7,_,e7,ziP _ _,?_⟩;have hn7:=hn6.keep (O':=O7) (fun j _ hj=>f7 j (by omega)) (Nat.le_refl 0) (Nat.le_refl hi);have hs7:=hs6.keep (O':=O7) (fun j _ hj=>f7 j (by omega)) (Nat.le_refl 0) (Nat.le_refl hi);have x7:Ext O N O7 (N3+2):=⟨by omega,fun j hj=>(f7 j (by omega)).trans ((f6 j (by omega)).trans ((f5 j (by omega)).trans ((f4 j (by omega)).trans (x13.2 j hj))))⟩;have hcm':ts.all (fun x=>chk x==0)=true:=by rw [List.all_eq_not_any_not,hcm]; rfl
 have re:=ztJ hlen hcm' hf p6 s6;refine zsW (O:=O7) (id:=N3) (l:=l) (m:=N3+1) (mk:=N) (n:=ns.length) hn7 hs7 (b6m.same (f7 N (by omega))) (b6.same (f7 N3 (by omega))) ll (by omega) lm (by omega) (by omega) (by omega) (by omega) (by omega) (by omega) (by omega) (fun O8 N8 s2 s3 n8 f8 b8 gs gp=>?_) ns.length 0 O7 (N3+2) (.nils 0 0) (.nils 0 0) (Nat.zero_add _) (Nat.le_refl _) (fun _ _ _=>rfl) b7 GV.nil GV.nil (fun h=>absurd rfl h);have x8:Ext O N O8 N8:=⟨by omega,fun j hj=>(f8 j (by omega) (by omega)).trans (x7.2 j hj)⟩;refine ziK (gs.sv sEn) (by rw [List.length_map]; omega) fun td8=>?_;refine ot zfg ⟨fun hc=>?_,fun hc=>?_⟩
 ·refine bad ?_ _ _ _ x8;rw [re,if_neg];intro h;rw [h] at hc;cases hc
 have hris:qL (l.map fun k=>ns.getD k [])=true:=by
  cases h:qL (l.map fun k=>ns.getD k []) with
  | true=>rfl
  | false=>rw [h] at hc; cases hc
 rw [if_pos hris] at re;refine za9 (t:=.mk 7 [] (l.map fun k=>ns.getD k []) (l.map fun k=>ts.getD k .no) .no) (p:=some (N3+1)) (hi:=N8) (Tr.mk (q:=none) (by omega) b8 ((gs.sv sEn).keep (fun _ _ _=>rfl) (Nat.zero_le _) (Nat.le_refl _)) ((gp.sv pEn).keep (fun _ _ _=>rfl) (Nat.zero_le _) (Nat.le_refl _)) (by rw [List.length_map,List.length_map]) (by rw [List.length_map]; omega) (by rw [List.length_map]; omega) (fun j x p a b=>?_) Tr.no) (Nat.le_refl _) fun O9 N9 td9 p' x9 t9=>?_
 ·rw [List.getElem?_map] at a b;cases hj:l[j]? with
  | none=>rw [hj] at a; cases a
  | some k =>
   rw [hj,Option.map_some] at a b;cases a;cases b;have hk:=lm k (List.mem_of_getElem? hj);exact (ht k _ _ (by rw [List.getD_eq_getElem?_getD,List.getElem?_eq_getElem (by omega)]; rfl) (ztc (by omega))).ext x8 hN |>.same (O':=O8) (fun _ _=>rfl) (show hi≤N8 from Nat.le_trans hN x8.1)
 ·refine ot kP ?_;rw [re] at hK;exact hK O9 N9 _ p' (x8.trans x9) t9
end Go.Proofs.Ytcdigdplhlgcaaa.gx
end
section
set_option maxRecDepth 100000
set_option linter.unusedVariables false
set_option linter.unusedSectionVars false
set_option linter.unusedSimpArgs false
namespace Go.Proofs.Ytcdigdplhlgcaaa.gx
open Go Ev tp
variable {O O':T AObj} {N:Nat} {G:T (T AV)}
def SVn (O:T AObj) (hi:Nat) (xs:List ze) (s:AV):Prop:=SV O 1 sE 0 hi xs s∨(s=.sle∧xs=[])
theorem SVn.keep {hi hi':Nat}{xs:List ze}{s:AV}(h:SVn O hi xs s)(e:∀ j,j<hi→O'.get j=O.get j)(hh:hi≤hi'):SVn O' hi' xs s:=h.imp_left fun g=>g.keep (fun j _ hj=>e j hj) (Nat.le_refl _) hh
theorem zab (N:Nat)(G:T (T AV)):zL P ⟨O,N,G⟩ .len (some 32) [.sle]=some (.int .i64 ((0:Nat):Int)):=by kernel_rfl
theorem zl7 {xs:List ze}:∀ {k:Nat},(xs.flatMap sE)[k]?=xs[k]?.map fun c=>AV.str c:=by
 induction xs with
 | nil=>intro k; simp
 | cons x xs ih =>
  intro k;rw [List.flatMap_cons];cases k with
  | zero=>rfl
  | succ k =>
   show ([AV.str x]++xs.flatMap sE)[k+1]?=_;rw [List.cons_append,List.nil_append,List.getElem?_cons_succ,List.getElem?_cons_succ];exact ih
theorem zqE (R:Bij)(b:ByteArray):VRel R (.str b.data.toList) (.string b):=by
 show Value.string b=.string ⟨b.data.toList.toArray⟩;rw [Array.toArray_toList]
theorem zq9 {w:World}{v:Value}(h:v=.slice none 0 0∨∃ (a:Addr) (len cap:Nat) (zs:List ByteArray),v=.slice (some a) len cap∧len≤cap∧cap≤maxLen∧zs.length=cap∧(∀ i,i<zs.length→w.cell? (a.add i)=some (.string (zs.getD i .empty)))∧(∀ s∈zs,s.size≤maxLen)) :
 ∃ (x:Inp) (s:Nat→AV) (xs:List ze),x.holds w∧∀ (l:List Inp) (i:Nat) (G:T (T AV)),l[i]?=some x→VRel (wI l) (s i) v∧SVn (vZ l G).objs l.length xs (s i):=by
 rcases h with rfl | ⟨a,len,cap,zs,rfl,hl,_,hz,hc,hwf⟩
 ·exact ⟨⟨false,0,.leaf,0,0⟩,fun _=>.nils 0 0,[],fun h=>(by cases h),fun l i G e=>⟨rfl,.inl SV.nil⟩⟩
 ·by_cases h0:cap=0
  ·subst h0;obtain rfl:len=0:=by omega
   exact ⟨⟨false,0,.leaf,0,0⟩,fun _=>.sle,[],fun h=>(by cases h),fun l i G e=>⟨⟨a,rfl⟩,.inr ⟨rfl,rfl⟩⟩⟩
  ·obtain ⟨b,off,rfl,hold⟩:=zpJ (w:=w) (a:=a) (n:=cap) (f:=fun i=>.string (zs.getD i .empty)) (g:=fun i=>.str (zs.getD i .empty).data.toList) (fun i hi=>hc i (by omega)) (fun i _=>zqE _ _) (by omega);have hxl:((zs.take len).map fun n:ByteArray=>n.data.toList).length=len:=by rw [List.length_map,List.length_take]; omega
   refine ⟨_,fun i=>.slc i 0 off len cap,(zs.take len).map fun n:ByteArray=>n.data.toList,hold,fun l i G e=>⟨⟨⟨b,0,0⟩,?_,Nat.zero_le _,rfl⟩,.inl (.inr (.inl ⟨i,0,off,cap,by rw [hxl],by rw [hxl]; exact hl,Nat.zero_le _,(List.getElem?_eq_some_iff.1 e).1,.inr ⟨_,off,off+cap,(zbH e).trans rfl,rfl,Nat.le_refl _,?_,fun k hk=>?_⟩⟩))⟩⟩
   ·unfold wI;rw [if_pos rfl,e]
   ·rw [sEn.flat,hxl];omega
   ·rw [sEn.flat,hxl] at hk;rw [zl7];show some (AV.str (zs.getD (off+k - off) .empty).data.toList)=_;rw [Nat.add_sub_cancel_left,List.getElem?_map,List.getElem?_take_of_lt (by omega),List.getD_eq_getElem?_getD,List.getElem?_eq_getElem (by omega)];rfl
theorem zhu:y0 [] []=(0,.mk 7 [] [] [] .no):=by
 unfold y0;rw [if_pos ⟨rfl,rfl⟩,recS_nil];unfold kv;simp [z9,vb,jq]
theorem zqh {ts:List Ty}{ps:List (Option Nat)}{sa:AV}{hi:Nat}(hs:SV O 1 pE 0 hi ps sa)(hl:ps.length=ts.length)(hN:hi≤N){keep:Nat}{f0:FuncId}{Q:AV→AHeap→Prop}{rest:List AFrame}
 (hK:∀ O' N' td p',Ext O N O' N'→Tr O' N' (y0 [] ts).2 p'→Goal P keep f0 Q (AM.mk (RF 22 85 (tX (tX tZ (tY (.int .i64 (y0 [] ts).1))) (tX (tY (pv p')) tZ)) td) rest ⟨O',N',G⟩)):Goal P keep f0 Q (AM.mk (enF 22 [.sle,sa]) rest ⟨O,N,G⟩):=by
 have bad:y0 [] ts=(2,.no)→∀ O' N' td,Ext O N O' N'→Goal P keep f0 Q (AM.mk (RF 22 85 (tX (tX tZ (tY (.int .i64 2))) (tX (tY .nilp) tZ)) td) rest ⟨O',N',G⟩):=fun e O' N' td ex=>by
  have:=hK O' N' td none ex (by rw [e]; exact Tr.no);rw [e] at this;exact this
 obtain ⟨O1,eb,b1,f1⟩:=box1 (t:=32) (s:=.sle) rfl rfl O N;have x1:Ext O N O1 (N+1):=⟨Nat.le_succ N,fun j hj=>f1 j (by omega)⟩;have hs1:=hs.keep (O':=O1) (fun j _ hj=>x1.2 j (by omega)) (Nat.le_refl 0) (Nat.le_refl hi);refine ot zrv ⟨O1,_,_,eb,b1.ld 0 rfl,zab _ _,hs1.len pSl _ _,fun hc=>?_,fun hc=>?_⟩
 ·exact bad (jm (.inl fun h=>by
   have:=bne_iff_ne.1 hc;rw [List.length_nil] at h;omega)) _ _ _ x1
 have hl0:ps.length=0:=by
  have:((0:Nat):Int)=((ps.length:Nat):Int):=by simpa using hc
  omega
 obtain rfl:ts=[]:=List.length_eq_zero_iff.1 (by omega);rw [zhu] at hK;refine ⟨b1.ld 0 rfl,?_⟩;refine ot zsu ⟨_,zab _ _,?_⟩;refine ot zku (fkf (decide_eq_false (by decide)) ?_);refine ot zfG ⟨fun h=>absurd h (by decide),fun _=>?_⟩;refine ziD hs1 hl (by decide) (fun j x p a=>by simp at a) (by omega) fun O3 N3 td3 x3=>?_;have x13:=x1.trans x3;have n3:=x3.1;refine ot kR ⟨fun h=>absurd h (by simp),fun _=>?_⟩;have b3:=b1.same (x3.2 N (by omega));obtain ⟨O4,e4,b4,f4⟩:=zou (n:=0) (by omega) O3 N3 G;refine ⟨.sle,_,_,O4,_,b3.ld 0 rfl,zab _ _,e4,ziP _ _,?_⟩;refine zkx (O:=O4) (id:=N3) (n:=0) (mk:=N) (by omega) (fun O5 f5 b5=>?_) 0 0 O4 (Nat.zero_add _) (fun _ _=>rfl) (by rw [List.range_zero,List.nil_append]; exact b4);refine ot zrH ⟨_,ziP _ G,?_⟩;refine zsI (by omega) fun z td=>?_;refine ot zhn ?_;refine ot ztX ?_;refine ot zpn ⟨decide_eq_true (by rw [IntKind.wrap_i64]; omega),?_⟩;refine ot ztp ?_;refine ot zm4 (fkf (decide_eq_false (by decide)) ?_);refine ot zfk ?_;refine ot zb6 ?_;obtain ⟨O7,e7,b7,f7⟩:=Obj.mk (c:=(tW (tW (tY (.nils 0 0)) (.str []) tZ) (.int .i64 7) (tW (tY .nilp) (.nils 0 0) tZ))) (el:=44) [.int .i64 7,.str [],.nils 0 0,.nils 0 0,.nilp] O5 (N3+1) 5 rfl (fun k hk=>by rcases k with _ | _ | _ | _ | _ | k <;> first | rfl | omega)
 refine ot zc7 ⟨O7,_,e7,ziP _ _,?_⟩;have x7:Ext O N O7 (N3+2):=⟨by omega,fun j hj=>(f7 j (by omega)).trans ((f5 j (by omega)).trans ((f4 j (by omega)).trans (x13.2 j hj)))⟩;refine ot (zqx (sn:=.sle) (sn2:=.nils 0 0) (sa2:=.nils 0 0)) (fkf (decide_eq_false (by omega)) ⟨b7.ld 2 rfl,?_⟩);refine ziK (xs:=[]) (lo:=0) (hi:=0) SV.nil (by decide) fun td8=>?_;refine ot zfg ⟨fun h=>absurd h (by decide),fun _=>?_⟩;have e0:kv (.mk 7 [] [] [] .no)=(0,.mk 7 [] [] [] .no):=by
  unfold kv;simp [z9,vb,jq]
 refine za9 (t:=.mk 7 [] [] [] .no) (p:=some (N3+1)) (hi:=N3+2) (Tr.mk (q:=none) (ps:=[]) (by omega) b7 SV.nil SV.nil rfl (by decide) (by decide) (fun j x p a=>by simp at a) Tr.no) (Nat.le_refl _) fun O9 N9 td9 p' x9 t9=>?_;rw [e0] at t9 ⊢;exact ot kP (hK O9 N9 _ p' (x7.trans x9) t9)
theorem ztk {ts:List Ty}{ps:List (Option Nat)}{sa:AV}{hi:Nat}(hs:SV O 1 pE 0 hi ps sa)(hl:ps.length=ts.length)(hm:ts.length<1000000)(ht:∀ (j:Nat) (x:Ty) (p:Option Nat),ts[j]?=some x→ps[j]?=some p→Tr O hi x p)(hN:hi≤N){keep:Nat}{f0:FuncId}{Q:AV→AHeap→Prop}{rest:List AFrame}
 (hK:∀ O' N' td p',Ext O N O' N'→Tr O' N' (y0 [] ts).2 p'→Goal P keep f0 Q (AM.mk (RF 23 135 (tX (tX tZ (tY (.int .i64 (y0 [] ts).1))) (tX (tY (pv p')) tZ)) td) rest ⟨O',N',G⟩)):Goal P keep f0 Q (AM.mk (enF 23 [.sle,sa]) rest ⟨O,N,G⟩):=by
 refine ot zru ⟨_,_,zab _ _,hs.len pSl _ _,fun hc=>?_,fun hc=>?_⟩
 ·have e:y0 [] ts=(2,.no):=jm (.inl fun h=>by
   have:=bne_iff_ne.1 hc;rw [List.length_nil] at h;omega)
  have:=fun td=>hK O N td none Ext.refl (by rw [e]; exact Tr.no);rw [e] at this;exact this _
 have hl0:ps.length=0:=by
  have:((0:Nat):Int)=((ps.length:Nat):Int):=by simpa using hc
  omega
 obtain rfl:ts=[]:=List.length_eq_zero_iff.1 (by omega);rw [zhu] at hK;refine zhj hs hl hm ht hN fun O1 N1 td1 ex1=>?_;have nn1:=ex1.1;refine ot zeC ⟨fun h=>absurd h (by simp),fun _=>?_⟩;obtain ⟨OZ,e19,b19,f19⟩:=Obj.mk (c:=(tW (tW (tY (.nils 0 0)) (.str []) tZ) (.int .i64 7) (tW (tY .nilp) (.nils 0 0) tZ))) (el:=44) [(.int .i64 7),(.str []),(.nils 0 0),(.nils 0 0),.nilp] O1 N1 5 rfl (fun u hu=>by rcases u with _ | _ | _ | _ | _ | u <;> first | rfl | omega)
 refine ⟨OZ,e19,?_⟩;have x2:Ext O N OZ (N1+1):=⟨by omega,fun j hj=>(f19 j (by omega)).trans (ex1.2 j hj)⟩;refine ot zll ⟨_,zab _ _,fkf (decide_eq_false (by decide)) ?_⟩;have node:Tr OZ (N1+1) (.mk 7 [] [] [] .no) (some N1):=Tr.mk (q:=none) (ps:=[]) (Nat.lt_succ_self _) b19 SV.nil SV.nil rfl (by decide) (by decide) (fun j x p a=>by simp at a) Tr.no;refine ziz (p:=some N1) node (fun h td=>?_) (fun h td=>?_)
 ·exact absurd h (by simp [z9,vb,jq])
 ·exact ot jQ (hK OZ (N1+1) _ (some N1) x2 node)
theorem zsA {ns:List ze}{ts:List Ty}{ps:List (Option Nat)}{sn sa:AV}{hi:Nat}(hn:SVn O hi ns sn)(hs:SV O 1 pE 0 hi ps sa)(hl:ps.length=ts.length)(hm:ts.length≤12)(ht:∀ (j:Nat) (x:Ty) (p:Option Nat),ts[j]?=some x→ps[j]?=some p→Tr O hi x p)(hN:hi≤N){keep:Nat}{f0:FuncId}{Q:AV→AHeap→Prop}{rest:List AFrame}
 (hK:∀ O' N' td p',Ext O N O' N'→Tr O' N' (y0 ns ts).2 p'→Goal P keep f0 Q (AM.mk (RF 22 85 (tX (tX tZ (tY (.int .i64 (y0 ns ts).1))) (tX (tY (pv p')) tZ)) td) rest ⟨O',N',G⟩)):Goal P keep f0 Q (AM.mk (enF 22 [sn,sa]) rest ⟨O,N,G⟩):=by
 rcases hn with hn | ⟨rfl,rfl⟩
 ·exact zmT hn hs hl (by omega) (fun h=>by omega) ht hN hK
 ·exact zqh hs hl hN hK
theorem rrecN {ns:List ze}{ts:List Ty}{ps:List (Option Nat)}{sn sa:AV}{hi:Nat}(hn:SVn O hi ns sn)(hs:SV O 1 pE 0 hi ps sa)(hl:ps.length=ts.length)(hm:ts.length≤12)(ht:∀ (j:Nat) (x:Ty) (p:Option Nat),ts[j]?=some x→ps[j]?=some p→Tr O hi x p)(hN:hi≤N){keep:Nat}{f0:FuncId}{Q:AV→AHeap→Prop}{rest:List AFrame}
 (hK:∀ O' N' td p',Ext O N O' N'→Tr O' N' (y0 ns ts).2 p'→Goal P keep f0 Q (AM.mk (RF 23 135 (tX (tX tZ (tY (.int .i64 (y0 ns ts).1))) (tX (tY (pv p')) tZ)) td) rest ⟨O',N',G⟩)):Goal P keep f0 Q (AM.mk (enF 23 [sn,sa]) rest ⟨O,N,G⟩):=by
 rcases hn with hn | ⟨rfl,rfl⟩
 ·exact zkB (mk:=fun _=>False) hn hs hl (by omega) (fun j x p a b=>Tra.of (ht j x p a b) (fun _ _ h=>h)) hN (fun _ h=>h.elim) fun O' N' td p' ex t=>hK O' N' td p' ex t.tr
 ·exact ztk hs hl (by omega) ht hN hK
end Go.Proofs.Ytcdigdplhlgcaaa.gx
end
