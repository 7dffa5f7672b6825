/- Runs in which values are open: commands, what has to be shown, and that it suffices. -/
import Derived.Test.YtcdpmiebmhjmpaaEvSa
namespace Go.Proofs.Ytcdpmiebmhjmpaa.Ev
open Go

/-- From here on it comes to an answer, of which Q tells; the names below 'keep' stay what they are. -/
def Goal (P : Program) (keep : Nat) (f0 : FuncId) (Q : AV → AHeap → Prop) (m : AM) : Prop :=
  ∀ (w0 : Env) (base : List Frame) (fr : Frame) (cs : List Frame) (w : World), (∀ i r L, w0.pin i r = some L → i < keep) → Sim P w0 base m fr cs w →
    ∃ (fr' : Frame) (w' : World) (B : Base) (R : Bij) (v : AV) (v' : Value) (h' : AHeap), Steps P (lone fr cs w) (lone fr' base w') ∧ fr'.leaving P w' (.returned v') ∧ fr'.fn = f0 ∧
      VRel R v v' ∧ B.env = w0 ∧ HRel P B R h' w' ∧ Old0 w0.toWorld w' ∧ Q v h'

noncomputable section
variable (P : Program)

/-! ## What is shown of a region's end -/

mutual
def okD : Nat → AV → Bool
  | 0, _ => false
  | n + 1, v => match v with
    | .fn _ a b => okDL n a && okDL n b
    | .ifc _ v => okD n v
    | .agg l | .tup l => okDL n l
    | _ => true
def okDL : Nat → List AV → Bool
  | 0, _ => false
  | n + 1, l => match l with
    | [] => true
    | v :: r => okD n v && okDL n r
end

def andIf (b : Bool) (K : Prop) : Prop := match b with
  | true => K
  | false => False

/-! ## Operations on what is open: what they come to, if that is so -/

def atP (p : AV) (size : Nat) (i : Int) (len : Nat) : Option (AV × Prop) := match p with
  | .ptr id ver off => some (.ptr id ver (off + i.toNat * size), 0 ≤ i ∧ i < len)
  | .gp g off => some (.gp g (off + i.toNat * size), 0 ≤ i ∧ i < len)
  | _ => none

def elemS (size : Nat) (x : AV) (i : Int) : Option (AV × Prop) := match x with
  | .slc id ver off len _ => atP (.ptr id ver off) size i len
  | .slg id ver off len _ => atP (.ptr id ver off) size i len
  | _ => none

def indexAddrS (t : TypeId) (x ix : AV) : Option (AV × Prop) := match ix with
  | .int _ i => match P.underlying t with
    | some (.array len el) => match sizeT P el with
      | none => none
      | some s => atP x s i len
    | some (.slice el) => match sizeT P el with
      | none => none
      | some s => elemS s x i
    | _ => none
  | _ => none

def isOneT (t : TypeId) : Bool := match aggT P t with
  | some b => !b
  | none => false

def indexS (t : TypeId) (x ix : AV) : Option (AV × Prop) := match ix with
  | .int _ i => match P.underlying t with
    | some .string => match x with
      | .str s => some (.int .u8 (s.getD i.toNat 0).toNat, 0 ≤ i ∧ i < s.length)
      | _ => none
    | some (.array len el) => match x with
      | .agg cs => match isOneT P el with
        | false => none
        | true => match sizeT P el with
          | none => none
          | some s => some (cs.getD (i.toNat * s) undefA, (0 ≤ i ∧ i < len) ∧ i.toNat * s < cs.length)
      | _ => none
    | _ => none
  | _ => none

/-- Bounds that hold: low, high, max, and that they do. -/
def boundsS (len cap : Nat) (lo hi mx : Option Int) : Nat × Nat × Nat × Prop :=
  let m : Nat := match mx with
    | none => cap
    | some v => v.toNat
  let mp : Prop := match mx with
    | none => True
    | some v => 0 ≤ v ∧ v ≤ (cap : Int)
  let h : Nat := match hi with
    | none => len
    | some v => v.toNat
  let hp : Prop := match hi with
    | none => match mx with
      | none => mp
      | some _ => False
    | some v => match mx with
      | none => 0 ≤ v ∧ v ≤ (m : Int)
      | some _ => mp ∧ 0 ≤ v ∧ v ≤ (m : Int)
  match lo with
  | none => (0, h, m, hp)
  | some v => (v.toNat, h, m, match hi with
    | none => match mx with
      | none => 0 ≤ v ∧ v ≤ (h : Int)
      | some _ => False
    | some _ => hp ∧ 0 ≤ v ∧ v ≤ (h : Int))

def sliceS (t : TypeId) (x : AV) (lo hi mx : Option Int) : Option (AV × Prop) := match P.underlying t with
  | some .string => match x with
    | .str s => match mx with
      | some _ => none
      | none => match boundsS s.length s.length lo hi none with
        | (l, h, _, p) => some (.str ((s.drop l).take (h - l)), p)
    | _ => none
  | some (.slice el) => match sizeT P el with
    | none => none
    | some sz => match x with
      | .nils len cap => match boundsS len cap lo hi mx with
        | (l, h, m, p) => some (.nils (h - l) (m - l), p)
      | .slc id ver off len cap => match boundsS len cap lo hi mx with
        | (l, h, m, p) => some (.slc id ver (if m = l then off else off + l * sz) (h - l) (m - l), p)
      | .slg id ver off len st => match mx with
        | some _ => match len with
          | 0 => none
          | _ + 1 => match boundsS len len lo hi mx with
            | (l, h, m, p) => some (.slc id ver (if m = l then off else off + l * sz) (h - l) (m - l), p)
        | none => match boundsS len len lo hi none with
          | (l, h, _, p) => some (.slg id ver (off + l * sz) (h - l) (st + l), p)
      | _ => none
  | _ => none

def binS (op : BinOp) (x y : AV) : Option (AV × Prop) := match x with
  | .str a => match y with
    | .str b => match op with
      | .add => some (.str (a ++ b), a.length + b.length < 2 ^ 40)
      | _ => none
    | _ => none
  | .int k a => match y with
    | .int k' b => match op with
      | .quo => if k = k' then some (.int k (k.wrap (a.tdiv b)), b ≠ 0) else none
      | .rem => if k = k' then some (.int k (a.tmod b), b ≠ 0) else none
      | .shl => some (.int k (k.wrap (a * 2 ^ (min b.toNat k.bits))), 0 ≤ b)
      | .shr => some (.int k (a.fdiv (2 ^ (min b.toNat k.bits))), 0 ≤ b)
      | _ => none
    | _ => none
  | _ => none

/-- Cells, of a version that is there. -/
def cellsS (h : AHeap) (id ver off k : Nat) : Option (List AV × Prop) := match h.get id with
  | some (.ro c lo n) => bif Nat.beq ver 0 then match loadList c off k with
    | none => none
    | some l => some (l, lo ≤ off ∧ off + k ≤ n) else none
  | some (.cells c n _ lo hi _ _ _ ex) => match extOf ex n hi ver with
    | none => none
    | some e => bif Nat.ble lo ver && Nat.ble ver hi then match loadList c off k with
      | none => none
      | some l => some (l, off + k ≤ e) else none
  | _ => none

def loadS (h : AHeap) (t : TypeId) (p : AV) : Option (AV × Prop) := match p with
  | .ptr id ver off => match aggT P t with
    | none => none
    | some true => match P.info? t with
      | none => none
      | some i => match cellsS h id ver off i.size with
        | none => none
        | some (l, p) => some (.agg l, p)
    | some false => match cellsS h id ver off 1 with
      | some ([v], p) => some (v, p)
      | _ => none
  | _ => none

def liftP (h : AHeap) (r : Option (AV × Prop)) : Option (AR × Prop) := match r with
  | none => none
  | some (v, p) => some (.val v h, p)

def two' (ρ : Operand → Option AV) (x y : Operand) (f : AV → AV → Option (AR × Prop)) : Option (AR × Prop) := match ρ x with
  | none => none
  | some a => match ρ y with
    | none => none
    | some b => f a b

/-- An operation on what is open. -/
def opS (ρ : Operand → Option AV) (h : AHeap) (o : Op) : Option (AR × Prop) := match o with
  | .indexAddr t x ix => two' ρ x ix fun a b => liftP h (indexAddrS P t a b)
  | .index t x ix => two' ρ x ix fun a b => liftP h (indexS P t a b)
  | .binOp op _ x y _ => two' ρ x y fun a b => liftP h (binS op a b)
  | .slice t x lo hi mx => match ρ x with
    | none => none
    | some v => match optEv ρ lo with
      | none => none
      | some l => match optEv ρ hi with
        | none => none
        | some hh => match optEv ρ mx with
          | none => none
          | some m => liftP h (sliceS P t v l hh m)
  | .load t a => match ρ a with
    | none => none
    | some p => liftP h (loadS P h t p)
  | _ => none

/-- Is a row's content told by a function? -/
def toldBy (h : AHeap) (id : Nat) : Bool := match h.get id with
  | some (.ro ..) => true
  | some (.cells (.fn _) ..) => true
  | _ => false

def ReadsAt (h : AHeap) (t : TypeId) (p v : AV) (K : Prop) : Prop := match loadS P h t p with
  | none => False
  | some (x, q) => q ∧ x = v ∧ K

/-- What reading comes to. -/
def Reads (ρ : Operand → Option AV) (h : AHeap) (o : Op) (v : AV) (K : Prop) : Prop := match o with
  | .load t a => match ρ a with
    | some (.ptr id ver off) => match toldBy h id with
      | true => ReadsAt P h t (.ptr id ver off) v K
      | false => readA P ρ h (.load t a) = some v ∧ K
    | _ => readA P ρ h (.load t a) = some v ∧ K
  | o => readA P ρ h o = some v ∧ K

/-- It reads the same. -/
def Same1 (all : List Oper) (t : T AV) (h : AHeap) (o : Oper) (K : Prop) : Prop := match wantedA all t o.guard with
  | none => False
  | some w => match w with
    | false => K
    | true => match o.dst with
      | none => (readA P (ev t) h o.op).isSome = true ∧ K
      | some d => match t.get d with
        | none => False
        | some v => Reads P (ev t) h o.op v (andIf (okD 300 v) K)

def Same (all : List Oper) (anc : Nat) (t : T AV) (h : AHeap) : List Nat → Prop → Prop
  | [], K => K
  | p :: r, K => match all[p]? with
    | none => Same all anc t h r K
    | some o => match isRead P o.op && !(anc.testBit p) with
      | false => Same all anc t h r K
      | true => Same1 P all t h o (Same all anc t h r K)

def FinDrw (fr : AFrame) (h : AHeap) (all : Array Oper) (i : Nat) (o : Oper) (l dn : List Nat) (k : List AItem) (t : Option (T AV)) (K : AFrame → Prop) : Prop := match t with
  | none => False
  | some t => match fr with
    | ⟨fn, n, _, _, ds, mode, kind, round⟩ => match isEff P o || isFloat o.op with
      | false => K ⟨fn, n, t, .drw all l (i :: dn) :: k, ds, mode, kind, round⟩
      | true => Same P all.toList (bif isEff P o then (planOf P all.toList).anc.getD i 0 else 0) t h dn (K ⟨fn, n, t, .drw all l (i :: dn) :: k, ds, mode, kind, round⟩)

def optK {α : Type} (o : Option α) (K : α → Prop) : Prop := match o with
  | none => False
  | some a => K a

/-- The operation, at which a frame stands, has come to v. -/
def Fin (fr : AFrame) (h : AHeap) (v : AV) (K : AFrame → Prop) : Prop := match fr.todo with
  | .drw all (i :: l) dn :: k => match all[i]? with
    | none => False
    | some o => FinDrw P fr h all i o l dn k (putT fr.tmps fr.n o.dst v) K
  | _ => optK (finishA P fr h v) K

def Upon [XT P] (fr : AFrame) (rest : List AFrame) (heap : AHeap) (r : AR) (K : AM → Prop) : Prop := match r with
  | .val v h => Fin P fr h v fun fr => K ⟨fr, rest, h⟩
  | .skip h => Fin P fr h undefA fun fr => K ⟨fr, rest, h⟩
  | r => optK (upon P fr rest heap r) K

/-- The operation at which a frame stands. -/
def topOp (fr : AFrame) : Option (List Oper × Oper) := match fr.todo with
  | .ops all (o :: _) :: _ => some (all, o)
  | .drw all (i :: _) _ :: _ => match all[i]? with
    | none => none
    | some o => some (all.toList, o)
  | _ => none

/-! ## Commands -/

def Br (b : Bool) (m : AM) (K : AM → Prop) : Prop := match m with
  | ⟨fr, rest, h⟩ => match fr.mode with
    | .run => match fr.todo with
      | .code (.cond c x y) :: k => match ev fr.tmps c with
        | some (.bool t) => t = b ∧ K ⟨fr.withTodo (.code (bif b then x else y) :: k), rest, h⟩
        | _ => False
      | _ => False
    | _ => False

def Know (u : Nat) (b : Bool) (m : AM) (K : AM → Prop) : Prop := match m with
  | ⟨⟨fn, n, t, todo, ds, mode, kind, round⟩, rest, h⟩ => match t.get u with
    | some (.bool c) => c = b ∧ K ⟨⟨fn, n, t.set (some (.bool b)) u, todo, ds, mode, kind, round⟩, rest, h⟩
    | _ => False

def Slot (u : Nat) (v : AV) (m : AM) (K : AM → Prop) : Prop := match m with
  | ⟨⟨fn, n, t, todo, ds, mode, kind, round⟩, rest, h⟩ => match t.get u with
    | some x => x = v ∧ K ⟨⟨fn, n, t.set (some v) u, todo, ds, mode, kind, round⟩, rest, h⟩
    | _ => False

def OpK [XT P] (m : AM) (K : AM → Prop) : Prop := match m with
  | ⟨fr, rest, h⟩ => match fr.mode with
    | .run => match topOp fr with
      | none => False
      | some (all, o) => match wantedA all fr.tmps o.guard with
        | some true => match opS P (ev fr.tmps) h o.op with
          | none => False
          | some (r, p) => p ∧ Upon P fr rest h r K
        | _ => False
    | _ => False

def ResK [XT P] (r : AR) (m : AM) (K : AM → Prop) : Prop := match m with
  | ⟨fr, rest, h⟩ => match fr.mode with
    | .run => match topOp fr with
      | none => False
      | some (all, o) => match wantedA all fr.tmps o.guard with
        | some true => opA P (ev fr.tmps) h o.op = some r ∧ Upon P fr rest h r K
        | _ => False
    | _ => False

/-- An operation, or an answer that comes back to a region. -/
def StepK [XT P] (m : AM) (K : AM → Prop) : Prop := match m with
  | ⟨fr, rest, h⟩ => match fr.mode with
    | .run => match topOp fr with
      | none => False
      | some (all, o) => match wantedA all fr.tmps o.guard with
        | some true => optK (opA P (ev fr.tmps) h o.op) fun r => Upon P fr rest h r K
        | _ => False
    | .returning => match fr.defers with
      | [] => match fr.kind with
        | .normal => match rest with
          | [] => False
          | c :: r => match c.mode with
            | .run => optK (resA P fr h) fun v => Fin P c h v fun c => K ⟨c, r, h⟩
            | _ => False
        | _ => False
      | _ :: _ => False
    | _ => False

def CallK (us : List Nat) (Q : AV → Prop) (m : AM) (K : AM → Prop) : Prop := match m with
  | ⟨fr, rest, h⟩ => match rest with
    | [] => False
    | c :: r => match fr.kind with
      | .normal => match c.mode with
        | .run => match canM 0 [] us [] ⟨fr, [], h⟩ with
          | none => False
          | some m' => Goal P 0 fr.fn (fun v _ => Q v ∧ plainV 99 v = true) m' ∧ ∀ v, Q v → Fin P c h v fun c => K ⟨c, r, h⟩
        | _ => False
      | _ => False

/-- Where a call begins that takes no memory. -/
def startM (f : FuncId) (args : List AV) (G : T (T AV)) : AM := match enterA P f args .normal with
  | some a => ⟨a, [], ⟨.leaf, 0, G⟩⟩
  | none => ⟨⟨0, 0, .leaf, [], [], .run, .normal, none⟩, [], ⟨.leaf, 0, G⟩⟩

def CallV (us : List Nat) (v : AV) (m : AM) (K : AM → Prop) : Prop := match m with
  | ⟨fr, rest, h⟩ => match rest with
    | [] => False
    | c :: r => match fr.kind with
      | .normal => match c.mode with
        | .run => match canM 0 [] us [] ⟨fr, [], h⟩ with
          | none => False
          | some m' => andIf (plainV 99 v) (Goal P 0 fr.fn (fun x _ => x = v) m' ∧ Fin P c h v fun c => K ⟨c, r, h⟩)
        | _ => False
      | _ => False

/-- Some slots alone, as they are. -/
def keepS (t : T AV) : List Nat → T AV → T AV
  | [], acc => acc
  | u :: r, acc => (acc.set (t.get u) u).seq fun acc => keepS t r acc

def KeepK (us : List Nat) (m : AM) (K : AM → Prop) : Prop := match m with
  | ⟨⟨fn, n, t, todo, ds, mode, kind, round⟩, rest, h⟩ => match todo with
    | .drw _ _ _ :: _ => False
    | todo => K ⟨⟨fn, n, keepS t us .leaf, todo, ds, mode, kind, round⟩, rest, h⟩

def DoneK (f0 : FuncId) (Q : AV → AHeap → Prop) (m : AM) : Prop := optK (doneA P f0 m) fun v => Q v m.heap


end

/-! ## It suffices -/

section
variable {P : Program}

theorem optK_some {α : Type} {o : Option α} {K : α → Prop} (h : optK o K) : ∃ a, o = some a ∧ K a := by
  unfold optK at h
  split at h
  · exact h.elim
  · exact ⟨_, rfl, h⟩

theorem T.set_same' {α : Type} : ∀ {t : T α} {n : Nat} {v : α}, t.get n = some v → t.set (some v) n = t
  | .leaf, _, _, e => by cases e
  | .fn f, n, v, e => by
    show T.fn (fun m => bif Nat.beq m n then some v else f m) = _
    congr 1
    funext m
    cases hb : Nat.beq m n with
    | false => rfl
    | true => rw [Nat.eq_of_beq_eq_true hb]; exact e.symm
  | .node l x r, n, v, e => by
    rw [T.get_node] at e
    show (bif Nat.beq n 0 then T.node l (some v) r else bif Nat.beq (Nat.mod n 2) 1 then T.seq (l.set (some v) (Nat.div n 2)) (fun l => T.node l x r) else T.seq (r.set (some v) (Nat.sub (Nat.div n 2) 1)) (fun r => T.node l x r)) = _
    rw [T.seq_eq, T.seq_eq]
    split at e
    · rename_i h0
      subst h0; subst e; rfl
    · rename_i h0
      have e0 : Nat.beq n 0 = false := by cases n <;> simp_all [Nat.beq]
      rw [e0]
      split at e
      · rename_i h1
        have e1 : Nat.beq (Nat.mod n 2) 1 = true := by rw [show Nat.mod n 2 = 1 from h1]; rfl
        rw [e1]
        show T.node (l.set (some v) (n / 2)) x r = _
        rw [T.set_same' e]
      · rename_i h1
        have e1 : Nat.beq (Nat.mod n 2) 1 = false := by
          rw [show Nat.mod n 2 = 0 from by show n % 2 = 0; omega]; rfl
        rw [e1]
        show T.node l x (r.set (some v) (n / 2 - 1)) = _
        rw [T.set_same' e]

mutual
theorem okD_same : ∀ (n : Nat) (v : AV), okD n v = true → sameAV n v v = true
  | 0, _, h => by simp [okD] at h
  | n + 1, v, h => by
    cases v <;> simp only [okD, Bool.and_eq_true] at h <;> simp only [sameAV, Bool.and_eq_true, decide_eq_true_eq, Nat.beq_refl, and_self, beq_self_eq_true]
    case fn f a b => exact ⟨⟨trivial, okDL_same n _ h.1⟩, okDL_same n _ h.2⟩
    case ifc t v => exact ⟨trivial, okD_same n _ h⟩
    case agg l => exact okDL_same n _ h
    case tup l => exact okDL_same n _ h
theorem okDL_same : ∀ (n : Nat) (v : List AV), okDL n v = true → sameAL n v v = true
  | 0, _, h => by simp [okDL] at h
  | n + 1, l, h => by
    cases l with
    | nil => rfl
    | cons v r =>
      simp only [okDL, Bool.and_eq_true] at h
      simp only [sameAL, Bool.and_eq_true]
      exact ⟨okD_same n _ h.1, okDL_same n _ h.2⟩
end

theorem andIf_true {b : Bool} {K : Prop} (h : andIf b K) : b = true ∧ K := by
  cases b with
  | true => exact ⟨rfl, h⟩
  | false => exact h.elim

theorem atP_ptr {p : AV} {size len : Nat} {i : Int} {v : AV} {q : Prop} (e : atP p size i len = some (v, q)) (hq : q) : ∀ el : Option Nat, el = some size → elemArr len el p i = some v := by
  rintro el rfl
  unfold atP at e
  split at e
  · cases e; simp only [elemArr, elemPtr, if_pos hq]
  · cases e; simp only [elemArr, if_pos hq]
  · cases e

theorem elemS_sl {x : AV} {size : Nat} {i : Int} {v : AV} {q : Prop} (e : elemS size x i = some (v, q)) (hq : q) : elemSl (some size) x i = some v := by
  unfold elemS at e
  split at e
  · cases e; simp only [elemSl, elemPtr, if_pos hq]
  · cases e; simp only [elemSl, elemPtr, if_pos hq]
  · cases e

theorem indexAddrS_ok {t : TypeId} {x ix v : AV} {q : Prop} (e : indexAddrS P t x ix = some (v, q)) (hq : q) : indexAddrA P t x ix = some v := by
  unfold indexAddrS at e
  unfold indexAddrA
  split at e
  · split at e
    · rename_i len el hu
      split at e
      · cases e
      · rename_i s hs
        simp only [hu]
        exact atP_ptr e hq _ hs
    · rename_i el hu
      split at e
      · cases e
      · rename_i s hs
        simp only [hu, hs]
        exact elemS_sl e hq
    · cases e
  · cases e

theorem indexS_ok {t : TypeId} {x ix v : AV} {q : Prop} (e : indexS P t x ix = some (v, q)) (hq : q) : indexA P t x ix = some v := by
  unfold indexS at e
  unfold indexA
  split at e
  · rename_i k i
    split at e
    · rename_i hu
      split at e
      · rename_i s
        cases e
        simp only [hu, indexStr, if_pos hq.1]
        have : i.toNat < s.length := by omega
        rw [List.getElem?_eq_getElem this, List.getD_eq_getElem?_getD, List.getElem?_eq_getElem this]
        rfl
      · cases e
    · rename_i len el hu
      split at e
      · rename_i cs
        split at e
        · cases e
        rename_i ha
        split at e
        · cases e
        rename_i s hs
        cases e
        have hagg : aggT P el = some false := by
          unfold isOneT at ha
          split at ha
          · rename_i b hb
            rw [hb]
            cases b
            · rfl
            · cases ha
          · cases ha
        simp only [hu, indexArr, hs]
        rw [if_pos hq.1]
        simp only [partA, hagg]
        rw [List.getD_eq_getElem?_getD, List.getElem?_eq_getElem hq.2]
        rfl
      · cases e
    · cases e
  · cases e

theorem boundsS_ok {len cap : Nat} {lo hi mx : Option Int} {l h m : Nat} {p : Prop} (e : boundsS len cap lo hi mx = (l, h, m, p)) (hp : p) : boundsA len cap lo hi mx = some (l, h, m) := by
  unfold boundsS at e
  cases lo <;> cases hi <;> cases mx <;> simp only [Prod.mk.injEq] at e <;> obtain ⟨rfl, rfl, rfl, rfl⟩ := e <;>
    simp only [boundsA, boundsMx, boundsHi, boundsLo, boundA, Option.isSome_none, Option.isSome_some] <;> first | rfl | exact (hp : False).elim | (simp_all; done)

theorem sliceS_ok {t : TypeId} {x v : AV} {lo hi mx : Option Int} {q : Prop} (e : sliceS P t x lo hi mx = some (v, q)) (hq : q) : sliceA P t x lo hi mx = some v := by
  unfold sliceS at e
  unfold sliceA
  split at e
  · rename_i hu
    split at e
    · split at e
      · cases e
      · generalize hb : boundsS _ _ _ _ _ = b at e
        obtain ⟨l, h, m, p⟩ := b
        cases e
        simp only [hu, sliceStr, boundsS_ok hb hq, strOf]
    · cases e
  · rename_i el hu
    split at e
    · cases e
    · rename_i sz hs
      simp only [hu, hs, sliceSl]
      split at e
      · generalize hb : boundsS _ _ _ _ _ = b at e
        obtain ⟨l, h, m, p⟩ := b
        cases e
        simp only [boundsS_ok hb hq, nilsOf]
      · generalize hb : boundsS _ _ _ _ _ = b at e
        obtain ⟨l, h, m, p⟩ := b
        cases e
        simp only [boundsS_ok hb hq, slcOf]
      · split at e
        · split at e
          · cases e
          · generalize hb : boundsS _ _ _ _ _ = b at e
            obtain ⟨l, h, m, p⟩ := b
            cases e
            simp only [boundsS_ok hb hq, slgOf, slcOf]
        · generalize hb : boundsS _ _ _ _ _ = b at e
          obtain ⟨l, h, m, p⟩ := b
          cases e
          simp only [boundsS_ok hb hq, slgOf]
      · cases e
  · cases e

theorem binS_ok {h : AHeap} {op : BinOp} {t : TypeId} {lit : Bool} {x y v : AV} {q : Prop} (e : binS op x y = some (v, q)) (hq : q) : binA P h op t lit x y = some v := by
  unfold binS at e
  split at e
  · split at e
    · split at e
      · cases e
        show catA _ _ = _
        unfold catA
        rw [if_pos hq]
      · cases e
    · cases e
  · split at e
    · split at e
      · split at e
        · rename_i hk
          cases e
          simp only [binA, isUnk, Bool.or_self, binB, binIntA, hk, true_or, if_true]
          show quoA _ _ _ = _
          simp only [quoA, if_neg hq]
        · cases e
      · split at e
        · rename_i hk
          cases e
          simp only [binA, isUnk, Bool.or_self, binB, binIntA, hk, true_or, if_true]
          show remA _ _ _ = _
          simp only [remA, if_neg hq]
        · cases e
      · cases e
        simp only [binA, isUnk, Bool.or_self, binB, binIntA, isShift, or_true, if_true]
        show shlA _ _ _ = _
        simp only [shlA, if_neg (Int.not_lt.2 hq)]
      · cases e
        simp only [binA, isUnk, Bool.or_self, binB, binIntA, isShift, or_true, if_true]
        show shrA _ _ _ = _
        simp only [shrA, if_neg (Int.not_lt.2 hq)]
      · cases e
    · cases e
  · cases e

theorem cellsS_ok {h : AHeap} {id ver off k : Nat} {l : List AV} {q : Prop} (e : cellsS h id ver off k = some (l, q)) (hq : q) : loadCellsA h id ver off k = some l := by
  unfold cellsS at e
  unfold loadCellsA
  split at e
  · rename_i c lo n ho
    cases hb : Nat.beq ver 0 with
    | false => rw [hb] at e; cases e
    | true =>
      rw [hb] at e
      simp only [cond_true] at e
      split at e
      · cases e
      · rename_i l' hl
        cases e
        simp only [ho, hl]
        rw [if_pos ⟨Nat.eq_of_beq_eq_true hb, hq⟩]
  · rename_i c n el lo hi nv fz sg ex ho
    split at e
    · cases e
    · rename_i e0 he
      cases hb : (Nat.ble lo ver && Nat.ble ver hi) with
      | false => rw [hb] at e; cases e
      | true =>
        rw [hb] at e
        simp only [cond_true] at e
        rw [Bool.and_eq_true] at hb
        split at e
        · cases e
        · rename_i l' hl
          cases e
          simp only [ho, he, hl]
          rw [if_pos ⟨Nat.le_of_ble_eq_true hb.1, Nat.le_of_ble_eq_true hb.2, hq⟩]
  · cases e

theorem loadS_ok {h : AHeap} {t : TypeId} {p v : AV} {q : Prop} (e : loadS P h t p = some (v, q)) (hq : q) : loadA P h t p = some v := by
  unfold loadS at e
  unfold loadA
  split at e
  · split at e
    · cases e
    · rename_i ha
      split at e
      · cases e
      · rename_i i hi
        split at e
        · cases e
        · rename_i l p' hl
          cases e
          simp only [ha, hi, cellsS_ok hl hq]
    · rename_i ha
      split at e
      · rename_i v' p' hl
        cases e
        simp only [ha, cellsS_ok hl hq]
      · cases e
  · cases e

theorem Reads_ok {ρ : Operand → Option AV} {h : AHeap} {o : Op} {v : AV} {K : Prop} (e : Reads P ρ h o v K) : readA P ρ h o = some v ∧ K := by
  unfold Reads at e
  split at e
  · rename_i t a
    split at e
    · rename_i id ver off ha
      split at e
      · unfold ReadsAt at e
        split at e
        · exact e.elim
        · rename_i x q hx
          obtain ⟨hq, rfl, hk⟩ := e
          refine ⟨?_, hk⟩
          unfold readA
          show (match op_load P t a ρ h with | some (.val v _) => some v | _ => none) = _
          simp only [op_load, one', ha, loadS_ok hx hq, valE]
      · exact e
    · exact e
  · exact e

theorem Same1_ok {all : List Oper} {t : T AV} {h : AHeap} {o : Oper} {K : Prop} (e : Same1 P all t h o K) : recheck1 P all t h o = true ∧ K := by
  unfold Same1 at e
  unfold recheck1
  split at e
  · exact e.elim
  · rename_i w hw
    rw [hw]
    split at e
    · exact ⟨rfl, e⟩
    · split at e
      · rename_i hd; simp only [hd]; exact e
      · rename_i d hd
        simp only [hd]
        split at e
        · exact e.elim
        · rename_i v hv
          obtain ⟨h1, h2⟩ := Reads_ok e
          obtain ⟨h3, h4⟩ := andIf_true h2
          rw [hv, h1]
          exact ⟨okD_same 300 v h3, h4⟩

theorem Same_ok {all : List Oper} {anc : Nat} {t : T AV} {h : AHeap} : ∀ {dn : List Nat} {K : Prop}, Same P all anc t h dn K → recheck P all anc t h dn = true ∧ K
  | [], K, e => ⟨rfl, e⟩
  | p :: r, K, e => by
    unfold Same at e
    unfold recheck
    rw [Bool.and_eq_true]
    split at e
    · rename_i hp
      obtain ⟨g1, g2⟩ := Same_ok e
      rw [hp]
      exact ⟨⟨rfl, g1⟩, g2⟩
    · rename_i o hp
      rw [hp]
      unfold recheckO
      simp only
      split at e
      · rename_i hr
        obtain ⟨g1, g2⟩ := Same_ok e
        rw [hr]
        exact ⟨⟨rfl, g1⟩, g2⟩
      · rename_i hr
        obtain ⟨q1, q2⟩ := Same1_ok e
        obtain ⟨g1, g2⟩ := Same_ok q2
        rw [hr]
        exact ⟨⟨q1, g1⟩, g2⟩

theorem Fin_some {fr : AFrame} {h : AHeap} {v : AV} {K : AFrame → Prop} (e : Fin P fr h v K) : ∃ a, finishA P fr h v = some a ∧ K a := by
  unfold Fin at e
  split at e
  · rename_i all i l dn k htodo
    split at e
    · exact e.elim
    · rename_i o ho
      unfold finishA
      rw [htodo]
      simp only [ho]
      unfold FinDrw at e
      unfold finDrw
      split at e
      · exact e.elim
      · rename_i t ht
        rw [ht]
        obtain ⟨fn, n, t0, td, ds, mode, kind, round⟩ := fr
        simp only at e ⊢
        split at e
        · rename_i hf
          rw [hf]
          exact ⟨_, rfl, e⟩
        · rename_i hf
          obtain ⟨g1, g2⟩ := Same_ok e
          rw [hf, g1]
          exact ⟨_, rfl, g2⟩
  · exact optK_some e

theorem Upon_some [XT P] [XTOk P] {fr : AFrame} {rest : List AFrame} {heap : AHeap} {r : AR} {K : AM → Prop} (e : Upon P fr rest heap r K) : ∃ m, upon P fr rest heap r = some m ∧ K m := by
  unfold Upon at e
  split at e
  · obtain ⟨a, h1, h2⟩ := Fin_some e
    exact ⟨_, by simp only [upon, h1, topM], h2⟩
  · obtain ⟨a, h1, h2⟩ := Fin_some e
    exact ⟨_, by simp only [upon, h1, topM], h2⟩
  · exact optK_some e

theorem topOp_step [XT P] [XTOk P] {fr : AFrame} {rest : List AFrame} {h : AHeap} {all : List Oper} {o : Oper} (hm : fr.mode = .run) (ht : topOp fr = some (all, o)) : stepA P ⟨fr, rest, h⟩ = operA P fr rest h all o := by
  unfold topOp at ht
  simp only [stepA, hm, execA]
  split at ht
  · rename_i all' o' l k htodo
    cases ht
    rw [htodo]
    rfl
  · rename_i all' i l dn k htodo
    split at ht
    · cases ht
    · rename_i o' ho
      cases ht
      rw [htodo]
      show operO P fr rest h all'.toList all'[i]? = _
      rw [ho]; rfl
  · cases ht

theorem opS_ok {ρ : Operand → Option AV} {h : AHeap} {o : Op} {r : AR} {p : Prop} (e : opS P ρ h o = some (r, p)) (hp : p) : opA P ρ h o = some r := by
  have lift : ∀ {x : Option (AV × Prop)} {y : Option AV}, liftP h x = some (r, p) → (∀ v q, x = some (v, q) → q → y = some v) → valE h y = some r := by
    intro x y e g
    unfold liftP at e
    split at e
    · cases e
    · rename_i v q
      cases e
      rw [g v _ rfl hp]; rfl
  cases o <;> simp only [opS] at e
  case binOp op t x y t' =>
    unfold two' at e
    split at e
    · cases e
    · rename_i a ha
      split at e
      · cases e
      · rename_i b hb
        show op_binOp P op t x y t' ρ h = _
        simp only [op_binOp, two, ha, hb]
        exact lift e fun v q e hq => binS_ok e hq
  case slice t x lo hi mx =>
    split at e
    · cases e
    rename_i a ha
    split at e
    · cases e
    rename_i l hl
    split at e
    · cases e
    rename_i hh hhh
    split at e
    · cases e
    rename_i m hm
    show op_slice P t x lo hi mx ρ h = _
    simp only [op_slice, sliceOp, ha, hl, hhh, hm]
    exact lift e fun v q e hq => by simp only [sliceH, sliceS_ok e hq]
  case indexAddr t x y =>
    unfold two' at e
    split at e
    · cases e
    · rename_i a ha
      split at e
      · cases e
      · rename_i b hb
        show op_indexAddr P t x y ρ h = _
        simp only [op_indexAddr, two, ha, hb]
        exact lift e fun v q e hq => indexAddrS_ok e hq
  case index t x y =>
    unfold two' at e
    split at e
    · cases e
    · rename_i a ha
      split at e
      · cases e
      · rename_i b hb
        show op_index P t x y ρ h = _
        simp only [op_index, two, ha, hb]
        exact lift e fun v q e hq => indexS_ok e hq
  case load t x =>
    split at e
    · cases e
    · rename_i a ha
      show op_load P t x ρ h = _
      simp only [op_load, one', ha]
      exact lift e fun v q e hq => loadS_ok e hq
  all_goals cases e

theorem Goal.step [XT P] [XTOk P] (hmix : P.follows .mixedOrders = true) {keep : Nat} {f0 : FuncId} {Q : AV → AHeap → Prop} {m m' : AM} (e : stepA P m = some m') (k : Goal P keep f0 Q m') : Goal P keep f0 Q m := by
  intro w0 base fr cs w hk s
  obtain ⟨fr1, cs1, w1, s1, k1⟩ := step_sim hmix s e
  obtain ⟨fr', w', B, R, v, v', h', s2, g⟩ := k w0 base fr1 cs1 w1 hk k1
  exact ⟨fr', w', B, R, v, v', h', s1.trans s2, g⟩

theorem Goal.runN [XT P] [XTOk P] (hmix : P.follows .mixedOrders = true) {keep : Nat} {f0 : FuncId} {Q : AV → AHeap → Prop} : ∀ {n : Nat} {m m' : AM}, runN P n m = some m' → Goal P keep f0 Q m' → Goal P keep f0 Q m
  | 0, m, m', e, k => by cases e; exact k
  | n + 1, m, m', e, k => by
    unfold Ev.runN at e
    split at e
    · cases e
    · rename_i m1 h1
      exact .step hmix h1 (Goal.runN hmix e k)

theorem HRel.grow {B : Base} {R : Bij} {h : AHeap} {w w' : World} (k : HRel P B R h w) (hB : B.n ≤ w.heap.size) (hs : w.heap.size ≤ w'.heap.size) (ho : ∀ b, b < w.heap.size → w'.heap[b]? = w.heap[b]?) : HRel P B R h w' where
  fresh := k.fresh
  pend := k.pend
  obj i o e hp := (k.obj i o e hp).mono R.le_refl (fun _ => rfl) (fun r L hL => ho _ (k.place i r L hL).2)
  place i r L hL := ⟨(k.place i r L hL).1, Nat.lt_of_lt_of_le (k.place i r L hL).2 hs⟩
  rd := k.rd
  low b hb := (ho b (Nat.lt_of_lt_of_le (Base.low_lt hb) hB)).trans (k.low b hb)
  rp := k.rp
  rol := k.rol
  pin := k.pin
  apart := k.apart
  same := k.same
  glob g c e := by
    obtain ⟨e1, cs, el, fz, e2, e3⟩ := k.glob g c e
    exact ⟨e1, cs, el, fz, (ho g (Nat.lt_of_lt_of_le (Base.low_lt e1) hB)).trans e2, e3⟩

/-- An answer comes back. -/
theorem leaves {fr f : Frame} {cs : List Frame} {w : World} {v : Value} (hl : fr.leaving P w (.returned v)) : step P (lone fr (f :: cs) w) = .next (lone (f.finish v) cs w) := by
  obtain ⟨h1, h2, h3, fn, h4, h5⟩ := hl
  refine step_lone_go (fr' := f.finish v) (cs' := cs) (w' := w) ?_
  have hst : stepG P true { frame := fr, callers := f :: cs, status := .running, dying := none } w = unwind P true fr (f :: cs) none w := by
    simp only [stepG, h1]
  rw [hst]
  simp only [unwind, h2, h1, h4, Sem.runT_eq, h5]
  simp [doReturn, h3]

theorem CallK_goal {keep : Nat} {f0 : FuncId} {Q : AV → AHeap → Prop} {us : List Nat} {q : AV → Prop} {m : AM} {K : AM → Prop} (e : CallK P us q m K) (hK : ∀ m, K m → Goal P keep f0 Q m) : Goal P keep f0 Q m := by
  intro w0 base fr cs w hk s
  obtain ⟨a, rest, h⟩ := m
  unfold CallK at e
  simp only at e
  split at e
  · exact e.elim
  rename_i c r
  split at e
  rotate_left
  · exact e.elim
  rename_i hkind
  split at e
  rotate_left
  · exact e.elim
  rename_i hcm
  split at e
  · exact e.elim
  rename_i m' hm'
  obtain ⟨hspec, hgo⟩ := e
  obtain ⟨B, R, fs, rfl, hb, kh, ho, kt, kb⟩ := s
  obtain ⟨f, fs', rfl, kf, kr⟩ := kb
  have hroom : B.n ≤ w.heap.size := by show B.env.heap.size ≤ _; rw [hb]; exact ho.size
  have hloc : Sim P (Env.of w) (f :: fs' ++ base) m' fr (f :: fs' ++ base) w := by
    simp only [canM, nodup, stays, Bool.and_self, cond_true, tabOf] at hm'
    split at hm'
    · cases hm'
    rename_i h2 hh2
    split at hm'
    · cases hm'
    rename_i top htop
    simp only [canFs] at hm'
    cases hm'
    obtain ⟨objs, next, glob⟩ := h
    simp only [canHeap, List.all_nil, cond_true, canObjs, List.length_nil] at hh2
    cases hh2
    have hR : Tab.re [] R = fun _ _ => none := by
      funext i r
      simp only [Tab.re, List.getElem?_nil]
    refine ⟨Base.of w, fun _ _ => none, [], rfl, rfl, .start fun g c e => ?_, .start w, ?_, rfl⟩
    · obtain ⟨_, cs, el, fz, e2, e3⟩ := kh.glob g c e
      exact ⟨heap_lt e2, cs, el, fz, e2, e3⟩
    · rw [← hR]
      exact canF_rel (Tab.ok [] R) htop kt
  obtain ⟨fr', w', B', R', v, v', h', s1, s2, s3, s4, s5, s6, s7, s8, s9⟩ := hspec (Env.of w) (f :: fs' ++ base) fr (f :: fs' ++ base) w (fun i r L e => by cases e) hloc
  have hold : OldX (Env.of w) w' := s7.all s5 s6
  have hsame : ∀ b, b < w.heap.size → w'.heap[b]? = w.heap[b]? := fun b hb => hold.other b hb id
  obtain ⟨c', q1, q2⟩ := Fin_some (hgo v s8)
  have hsim : Sim P w0 base ⟨c', r, h⟩ (f.finish v') (fs' ++ base) w' :=
    ⟨B, R, fs', rfl, hb, kh.grow hroom s7.size hsame, ⟨s7.os.trans ho.os, s7.tape.trans ho.tape, s7.output.trans ho.output, Nat.le_trans ho.size s7.size, Nat.le_trans ho.drawn s7.drawn⟩, finish_sound kf hcm q1 (plainV_rel 99 _ _ s9 s4), kr⟩
  obtain ⟨fr2, w2, B2, R2, v2, v2', h2, t1, t2⟩ := hK _ q2 w0 base _ _ w' hk hsim
  exact ⟨fr2, w2, B2, R2, v2, v2', h2, s1.trans (.head (leaves s2) t1), t2⟩

theorem Goal.mono {keep : Nat} {f0 : FuncId} {Q Q' : AV → AHeap → Prop} {m : AM} (h : ∀ v k, Q v k → Q' v k) (g : Goal P keep f0 Q m) : Goal P keep f0 Q' m := by
  intro w0 base fr cs w hk s
  obtain ⟨fr', w', B, R, v, v', h', a1, a2, a3, a4, a5, a6, a7, a8⟩ := g w0 base fr cs w hk s
  exact ⟨fr', w', B, R, v, v', h', a1, a2, a3, a4, a5, a6, a7, h _ _ a8⟩

theorem CallV_call {us : List Nat} {v : AV} {m : AM} {K : AM → Prop} (e : CallV P us v m K) : CallK P us (fun x => x = v) m K := by
  obtain ⟨a, rest, h⟩ := m
  unfold CallV at e
  unfold CallK
  simp only at e
  split at e
  · exact e.elim
  split at e
  rotate_left
  · exact e.elim
  rename_i hkind
  split at e
  rotate_left
  · exact e.elim
  rename_i hcm
  split at e
  · exact e.elim
  rename_i m' hm'
  obtain ⟨hp, g1, g2⟩ := andIf_true e
  simp only [hkind, hcm, hm']
  exact ⟨g1.mono fun x _ hx => ⟨hx, by rw [hx]; exact hp⟩, fun x hx => by rw [hx]; exact g2⟩

theorem DoneK_goal {keep : Nat} {f0 : FuncId} {Q : AV → AHeap → Prop} {m : AM} (e : DoneK P f0 Q m) : Goal P keep f0 Q m := by
  intro w0 base fr cs w hk s
  obtain ⟨v, hd, hq⟩ := optK_some e
  obtain ⟨af, rest, h⟩ := m
  obtain ⟨B, R, fs, rfl, hb, kh, ho, kt, kb⟩ := s
  unfold doneA at hd
  simp only at hd
  split at hd
  · cases hd
  split at hd
  rotate_left
  · cases hd
  rename_i hmode
  split at hd
  · cases hd
  rename_i hdef
  split at hd
  rotate_left
  · cases hd
  rename_i hkind
  split at hd
  rotate_left
  · cases hd
  rename_i hf0
  have hfs : fs = [] := kb
  subst hfs
  have hs : Slots R af.tmps fr.tmps := by have := kt.top; rw [hmode] at this; exact this
  obtain ⟨fn, v', r1, r2, r3⟩ := res_sound kh hs kt.fn hd
  have hm : fr.mode = .returning := by have := kt.mode; rw [hmode] at this; exact this
  have hdf : fr.defers = [] := by have := kt.defers; rw [hdef] at this; exact this
  exact ⟨fr, w, B, R, v, v', h, Steps.refl _ _, ⟨hm, hdf, by rw [kt.kind, hkind], fn, r1, r2⟩, kt.fn.trans (Nat.eq_of_beq_eq_true hf0), r3, hb, kh, ho, hq⟩

/-- What the evaluator reckons. -/
theorem Goal.ofRun [XT P] [XTOk P] (hmix : P.follows .mixedOrders = true) {keep : Nat} {f0 : FuncId} {Q : AV → AHeap → Prop} : ∀ {n : Nat} {m : AM} {v : AV}, runA P f0 n m = some v → (∀ h, Q v h) → Goal P keep f0 Q m
  | 0, m, v, e, _ => by cases e
  | n + 1, m, v, e, hq => by
    unfold runA at e
    split at e
    · rename_i v' hd
      cases e
      exact DoneK_goal (m := m) (show optK (doneA P f0 m) _ by rw [hd]; exact hq _)
    · split at e
      · cases e
      · rename_i m1 h1
        exact .step hmix h1 (Goal.ofRun hmix e hq)

theorem keepS_get {t : T AV} : ∀ {us : List Nat} {acc : T AV}, (∀ u v, acc.get u = some v → t.get u = some v) → ∀ u v, (keepS t us acc).get u = some v → t.get u = some v
  | [], _, h, u, v, e => h u v e
  | u0 :: r, acc, h, u, v, e => by
    rw [keepS, T.seq_eq] at e
    refine keepS_get (us := r) (fun u v e => ?_) u v e
    rw [T.get_set] at e
    split at e
    · rename_i hu; rw [hu]; exact e
    · exact h u v e

theorem KeepK_goal {keep : Nat} {f0 : FuncId} {Q : AV → AHeap → Prop} {us : List Nat} {m : AM} {K : AM → Prop} (e : KeepK us m K) (hK : ∀ m, K m → Goal P keep f0 Q m) : Goal P keep f0 Q m := by
  intro w0 base fr cs w hk s
  obtain ⟨⟨fn, n, t, todo, ds, mode, kind, round⟩, rest, h⟩ := m
  obtain ⟨B, R, fs, hc, hb, kh, ho, kt, kb⟩ := s
  unfold KeepK at e
  simp only at e
  have hkeep : ∀ {a : Array Value}, Slots R t a → Slots R (keepS t us .leaf) a := fun hs u v e => hs u v (keepS_get (fun u v e => by cases e) u v e)
  split at e
  · exact e.elim
  · rename_i hn
    refine hK _ e w0 base fr cs w hk ⟨B, R, fs, hc, hb, kh, ho, ?_, kb⟩
    obtain ⟨k1, k2, k3, k4, k5, k6, k7, k8, k9⟩ := kt
    refine ⟨k1, k2, k3, k4, k5, k6, k7, k8, ?_⟩
    cases mode with
    | run =>
      change TodoRel P B R rest.length false h todo t fr.todo fr.tmps at k9
      show TodoRel P B R rest.length false h todo (keepS t us .leaf) fr.todo fr.tmps
      cases todo with
      | nil => exact ⟨k9.1, hkeep k9.2⟩
      | cons it kk =>
        cases it with
        | drw a b c => exact absurd rfl (hn a b c kk)
        | _ => exact ⟨k9.1, hkeep k9.2⟩
    | returning => exact hkeep k9
    | panicking c => exact hkeep k9

theorem CanP_goal {keep k : Nat} {f0 : FuncId} {Q : AV → AHeap → Prop} {ids us : List Nat} {uss : List (List Nat)} {m : AM} {K : AM → Prop} (hkk : keep ≤ k) (e : CanP k ids us uss m K) (hK : ∀ m, K m → Goal P keep f0 Q m) : Goal P keep f0 Q m := by
  intro w0 base fr cs w hk s
  unfold CanP at e
  split at e
  · exact e.elim
  rename_i m' hm'
  obtain ⟨g1, g2⟩ := PlainFns_mem e
  exact hK _ g2 w0 base fr cs w hk (Sim.can (fun i r L h => Nat.lt_of_lt_of_le (hk i r L h) hkk) hm' g1 s)


end

end Go.Proofs.Ytcdpmiebmhjmpaa.Ev
