/-
  A closed call's run, reckoned: own blocks in a tree, what is read and written kept.
-/
import Derived.Test.YtepfokoepibkcaaGreatProg
import Derived.LoopN
import Derived.CheckFast
import Derived.RegionTactic
namespace Go.Proofs.YtepfokoepibkcaaGreat
namespace E
open Go.CheckFast (force)
/-! Frames of 256 values, memory of 4096 blocks: trees of pairs. -/
abbrev F0 := Value
abbrev H0 := Option (List Value)
abbrev F1 := F0 × F0
abbrev F2 := F1 × F1
abbrev F3 := F2 × F2
abbrev F4 := F3 × F3
abbrev F5 := F4 × F4
abbrev F6 := F5 × F5
abbrev F7 := F6 × F6
abbrev F8 := F7 × F7
abbrev H1 := H0 × H0
abbrev H2 := H1 × H1
abbrev H3 := H2 × H2
abbrev H4 := H3 × H3
abbrev H5 := H4 × H4
abbrev H6 := H5 × H5
abbrev H7 := H6 × H6
abbrev H8 := H7 × H7
abbrev H9 := H8 × H8
abbrev H10 := H9 × H9
abbrev H11 := H10 × H10
abbrev H12 := H11 × H11
def gS {α β : Type} (g : α → Nat → β) (p : α × α) (t : Nat) : β := Nat.casesOn (motive := fun _ => β) (Nat.mod t 2) (g p.1 (Nat.div t 2)) (fun _ => g p.2 (Nat.div t 2))
def sS {α β : Type} (s : α → Nat → β → α) (p : α × α) (t : Nat) (v : β) : α × α := Nat.casesOn (motive := fun _ => α × α) (Nat.mod t 2) (s p.1 (Nat.div t 2) v, p.2) (fun _ => (p.1, s p.2 (Nat.div t 2) v))
def fg0 (p : F0) (_ : Nat) : Value := p
def fs0 (_ : F0) (_ : Nat) (v : Value) : F0 := v
def hg0 (p : H0) (_ : Nat) : H0 := p
def hs0 (_ : H0) (_ : Nat) (v : H0) : H0 := v
def fe0 : F0 := undef
def he0 : H0 := none
def fg1 : F1 → Nat → Value := gS fg0
def fs1 : F1 → Nat → Value → F1 := sS fs0
def fe1 : F1 := (fe0, fe0)
def fg2 : F2 → Nat → Value := gS fg1
def fs2 : F2 → Nat → Value → F2 := sS fs1
def fe2 : F2 := (fe1, fe1)
def fg3 : F3 → Nat → Value := gS fg2
def fs3 : F3 → Nat → Value → F3 := sS fs2
def fe3 : F3 := (fe2, fe2)
def fg4 : F4 → Nat → Value := gS fg3
def fs4 : F4 → Nat → Value → F4 := sS fs3
def fe4 : F4 := (fe3, fe3)
def fg5 : F5 → Nat → Value := gS fg4
def fs5 : F5 → Nat → Value → F5 := sS fs4
def fe5 : F5 := (fe4, fe4)
def fg6 : F6 → Nat → Value := gS fg5
def fs6 : F6 → Nat → Value → F6 := sS fs5
def fe6 : F6 := (fe5, fe5)
def fg7 : F7 → Nat → Value := gS fg6
def fs7 : F7 → Nat → Value → F7 := sS fs6
def fe7 : F7 := (fe6, fe6)
def fg8 : F8 → Nat → Value := gS fg7
def fs8 : F8 → Nat → Value → F8 := sS fs7
def fe8 : F8 := (fe7, fe7)
def hg1 : H1 → Nat → H0 := gS hg0
def hs1 : H1 → Nat → H0 → H1 := sS hs0
def he1 : H1 := (he0, he0)
def hg2 : H2 → Nat → H0 := gS hg1
def hs2 : H2 → Nat → H0 → H2 := sS hs1
def he2 : H2 := (he1, he1)
def hg3 : H3 → Nat → H0 := gS hg2
def hs3 : H3 → Nat → H0 → H3 := sS hs2
def he3 : H3 := (he2, he2)
def hg4 : H4 → Nat → H0 := gS hg3
def hs4 : H4 → Nat → H0 → H4 := sS hs3
def he4 : H4 := (he3, he3)
def hg5 : H5 → Nat → H0 := gS hg4
def hs5 : H5 → Nat → H0 → H5 := sS hs4
def he5 : H5 := (he4, he4)
def hg6 : H6 → Nat → H0 := gS hg5
def hs6 : H6 → Nat → H0 → H6 := sS hs5
def he6 : H6 := (he5, he5)
def hg7 : H7 → Nat → H0 := gS hg6
def hs7 : H7 → Nat → H0 → H7 := sS hs6
def he7 : H7 := (he6, he6)
def hg8 : H8 → Nat → H0 := gS hg7
def hs8 : H8 → Nat → H0 → H8 := sS hs7
def he8 : H8 := (he7, he7)
def hg9 : H9 → Nat → H0 := gS hg8
def hs9 : H9 → Nat → H0 → H9 := sS hs8
def he9 : H9 := (he8, he8)
def hg10 : H10 → Nat → H0 := gS hg9
def hs10 : H10 → Nat → H0 → H10 := sS hs9
def he10 : H10 := (he9, he9)
def hg11 : H11 → Nat → H0 := gS hg10
def hs11 : H11 → Nat → H0 → H11 := sS hs10
def he11 : H11 := (he10, he10)
def hg12 : H12 → Nat → H0 := gS hg11
def hs12 : H12 → Nat → H0 → H12 := sS hs11
def he12 : H12 := (he11, he11)

/-- A frame: how many slots, the first 32 of them, the others. -/
structure FT where
  m : Nat
  a : F5
  b : F8
abbrev HT := H12
def fget (f : FT) (t : Nat) : Value := bif Nat.blt t 32 then fg5 f.a t else bif Nat.blt t 256 then fg8 f.b t else undef
def fput (f : FT) (t : Nat) (v : Value) : FT := bif Nat.blt t f.m then (bif Nat.blt t 32 then ⟨f.m, fs5 f.a t v, f.b⟩ else ⟨f.m, f.a, fs8 f.b t v⟩) else f
def hget (h : HT) (i : Nat) : Option (List Value) := bif Nat.blt i 4096 then hg12 h i else none
/-- What a run without effects comes to. -/
def pr (P : Program) {α : Type} : Sem α → Option α
  | .pure a => some a
  | .program k => pr P (k P)
  | .mark _ k => pr P k
  | _ => none
def flat1 (v : Value) : Bool := match v with
  | .bool _ => true
  | .int _ _ => true
  | .string _ => true
  | _ => false
def flat (v : Value) : Bool := match v with
  | .agg cs => cs.toList.all flat1
  | v => flat1 v
/-- What is not known. -/
def unk : Value := .chan (some 0)
def cok1 (v : Value) : Bool := match v with
  | .bool _ => true
  | .int _ _ => true
  | .string _ => true
  | .pointer none => true
  | .slice none _ _ => true
  | .map none => true
  | .nilFunc => true
  | .nilIface => true
  | _ => false
def cok (v : Value) : Bool := match v with
  | .agg cs => cs.toList.all cok1
  | v => cok1 v
def evo (fr : FT) (x : Operand) : Value := match x with
  | .tmp t => fget fr t
  | .const v => bif cok v then v else unk
  | .global _ => unk
  | .func f => .func (.func f) #[] #[]
structure R5 where
  v : Value
  h : HT
  n : Nat
  r : Nat
  w : Nat
def bit (i : Nat) : Nat := Nat.shiftLeft 1 i
def szOf (P : Program) (t : TypeId) : Option Nat := (P.info? t).map (·.size)
def isRow (P : Program) (t : TypeId) : Option Bool := match P.underlying t with
  | some (.struct _) => some true
  | some (.array _ _) => some true
  | some _ => some false
  | none => none
def zeroOf (P : Program) (t : TypeId) : Option Value := (P.info? t).bind (·.zero)
def onI {α : Type} (v : Value) (k : IntKind → Int → Option α) : Option α := match v with
  | .int a b => k a b
  | _ => none
def onP {α : Type} (v : Value) (k : Nat → Nat → Option α) : Option α := match v with
  | .pointer (some ⟨b, o, none⟩) => k b o
  | _ => none
def onS {α : Type} (v : Value) (k : Nat → Nat → Nat → Nat → Option α) : Option α := match v with
  | .slice (some ⟨b, o, none⟩) n e => k b o n e
  | _ => none
def onB {α : Type} (v : Value) (x y : Option α) : Option α := match v with
  | .bool true => x
  | .bool false => y
  | _ => none
def drop' : Nat → List Value → List Value
  | 0, l => l
  | n + 1, l => match l with
    | [] => []
    | _ :: l => drop' n l
def take' : Nat → List Value → Option (List Value)
  | 0, _ => some []
  | n + 1, l => match l with
    | [] => none
    | x :: l => match take' n l with
      | some r => some (x :: r)
      | none => none
/-- Other cells from a place on. -/
def lay' : List Value → List Value → Option (List Value)
  | [], l => some l
  | u :: us, l => match l with
    | [] => none
    | _ :: l => match lay' us l with
      | some r => some (u :: r)
      | none => none
def over : Nat → List Value → List Value → Option (List Value)
  | 0, us, l => lay' us l
  | n + 1, us, l => match l with
    | [] => none
    | x :: l => match over n us l with
      | some r => some (x :: r)
      | none => none
def one (v : Value) : Bool := match v with
  | .agg _ => false
  | .tuple _ => false
  | .chan _ => false
  | _ => true
def allOne : List Value → Bool
  | [] => true
  | v :: l => bif one v then allOne l else false
def nth : Nat → List Value → Option Value
  | 0, l => match l with
    | [] => none
    | x :: _ => some x
  | n + 1, l => match l with
    | [] => none
    | _ :: l => nth n l
def len' : List Value → Nat → Nat
  | [], n => n
  | _ :: l, n => len' l (Nat.succ n)
/-- A value's parts laid over cells. -/
def fillL (place : Nat → Option (Nat × Nat)) : List (Nat × Value) → List Value → Option (List Value)
  | [], cs => some cs
  | p :: r, cs => match place p.1 with
    | none => none
    | some q => bif Nat.beq p.2.cells.toList.length q.2 && allOne p.2.cells.toList then (over q.1 p.2.cells.toList cs).bind (fillL place r) else none
def fplaces (P : Program) : List Field → Option (List (Nat × Nat))
  | [] => some []
  | f :: r => match szOf P f.type with
    | none => none
    | some n => match fplaces P r with
      | none => none
      | some l => some ((f.offset, n) :: l)
def times : Nat → List Value → List Value
  | 0, _ => []
  | n + 1, z => z ++ times n z
/-- A whole number as a place below a bound. -/
def idx (i : Int) (len : Nat) : Option Nat := match i with
  | .ofNat n => bif Nat.blt n len then some n else none
  | .negSucc _ => none
def lo (x : Option Value) (d : Nat) (m : Nat) : Option Nat := match x with
  | none => some d
  | some v => onI v fun _ i => idx i (Nat.succ m)
def val (h : HT) (nx : Nat) (v : Value) : Option R5 := some ⟨v, h, nx, 0, 0⟩
def inR (i : Int) : Bool := match i with
  | .ofNat n => Nat.blt n 9223372036854775808
  | .negSucc n => Nat.blt n 9223372036854775808
def ieq (a b : Int) : Bool := match a with
  | .ofNat m => match b with
    | .ofNat n => Nat.beq m n
    | .negSucc _ => false
  | .negSucc m => match b with
    | .ofNat _ => false
    | .negSucc n => Nat.beq m n
def ilt (a b : Int) : Bool := match a with
  | .ofNat m => match b with
    | .ofNat n => Nat.blt m n
    | .negSucc _ => false
  | .negSucc m => match b with
    | .ofNat _ => true
    | .negSucc n => Nat.blt n m
def beqL : List UInt8 → List UInt8 → Bool
  | [], l => match l with
    | [] => true
    | _ :: _ => false
  | a :: x, l => match l with
    | [] => false
    | b :: y => bif Nat.beq a.toNat b.toNat then beqL x y else false
/-- An int's number worked out. -/
def forceI {α : Type} (i : Int) (k : Int → α) : α := match i with
  | .ofNat n => force n fun n => k (.ofNat n)
  | .negSucc n => force n fun n => k (.negSucc n)
def i64 (P : Program) (op : BinOp) (a b : Int) (r : Int) : Option Value := forceI r fun r => bif inR r then some (.int .i64 r) else pr P (Op.intArith op .i64 a b)
def u64 (n : Nat) : Option Value := force (Nat.mod n 18446744073709551616) fun n => some (.int .u64 (.ofNat n))
def onN {α : Type} (a b : Int) (k : Nat → Nat → Option α) (d : Option α) : Option α := match a with
  | .ofNat m => match b with
    | .ofNat n => k m n
    | .negSucc _ => d
  | .negSucc _ => d
def slow (P : Program) (op : BinOp) (k : IntKind) (a : Int) (k' : IntKind) (b : Int) : Option Value := (pr P (binOp op 0 (.int k a) (.int k' b))).bind fun v => bif flat1 v then some v else none
def bin64 (P : Program) (op : BinOp) (a b : Int) : Option Value := match op with
  | .add => i64 P .add a b (Int.add a b)
  | .sub => i64 P .sub a b (Int.sub a b)
  | .mul => i64 P .mul a b (Int.mul a b)
  | op => slow P op .i64 a .i64 b
def binu (P : Program) (op : BinOp) (a b : Int) : Option Value := match op with
  | .add => onN a b (fun m n => u64 (Nat.add m n)) (slow P .add .u64 a .u64 b)
  | .mul => onN a b (fun m n => u64 (Nat.mul m n)) (slow P .mul .u64 a .u64 b)
  | op => slow P op .u64 a .u64 b
def bini (P : Program) (op : BinOp) (k : IntKind) (a b : Int) : Option Value := match op with
  | .eql => some (.bool (ieq a b))
  | .neq => some (.bool (!ieq a b))
  | .lss => some (.bool (ilt a b))
  | .leq => some (.bool (!ilt b a))
  | .gtr => some (.bool (ilt b a))
  | .geq => some (.bool (!ilt a b))
  | op => match k with
    | .i64 => bin64 P op a b
    | .u64 => binu P op a b
    | k => slow P op k a k b
def isSh (op : BinOp) : Bool := match op with
  | .shl => true
  | .shr => true
  | _ => false
def bins (P : Program) (op : BinOp) (a b : ByteArray) : Option Value := match op with
  | .eql => some (.bool (beqL a.data.toList b.data.toList))
  | .neq => some (.bool (!beqL a.data.toList b.data.toList))
  | op => (pr P (Op.stringOp op a b)).bind fun v => bif flat1 v then some v else none
def keq (a b : IntKind) : Bool := decide (a = b)
def oBinI (P : Program) (op : BinOp) (k : IntKind) (a : Int) (q : Value) : Option Value := onI q fun k' b => bif isSh op then slow P op k a k' b else bif keq k k' then bini P op k a b else none
def oBinS (P : Program) (op : BinOp) (a : ByteArray) (q : Value) : Option Value := match q with
  | .string b => bins P op a b
  | _ => none
def oBinF (P : Program) (op : BinOp) (t : TypeId) (x y : Operand) (p q : Value) : Option Value := bif flat p && flat q then (pr P (do eqGuard op t x y p q; binOp op t p q)).bind fun v => bif flat1 v then some v else none else none
def oBinV (P : Program) (op : BinOp) (t : TypeId) (x y : Operand) (p q : Value) : Option Value := match p with
  | .int k a => oBinI P op k a q
  | .string a => oBinS P op a q
  | p => oBinF P op t x y p q
def oBin (P : Program) (op : BinOp) (t : TypeId) (x y : Operand) (fr : FT) (h : HT) (nx : Nat) : Option R5 := (oBinV P op t x y (evo fr x) (evo fr y)).bind (val h nx)
def oMove (x : Operand) (fr : FT) (h : HT) (nx : Nat) : Option R5 := val h nx (evo fr x)
def oUnV (P : Program) (op : UnOp) (p : Value) : Option Value := bif flat1 p then (pr P (Op.unary op p)).bind fun v => bif flat1 v then some v else none else none
def oUn (P : Program) (op : UnOp) (x : Operand) (fr : FT) (h : HT) (nx : Nat) : Option R5 := (oUnV P op (evo fr x)).bind (val h nx)
def bytes' : List Value → Option (List UInt8)
  | [] => some []
  | v :: l => match v with
    | .int .u8 n => match bytes' l with
      | some r => some (UInt8.ofNat n.toNat :: r)
      | none => none
    | _ => none
def oCvB (P : Program) (s d : TypeId) (h : HT) (nx : Nat) (b o n : Nat) : Option R5 := match P.underlying s, P.underlying d with
  | some (.slice e), some .string => match P.underlying e with
    | some (.int .u8) => ((hget h b).bind fun cs => (take' n (drop' o cs)).bind bytes').bind fun l => some ⟨.string ⟨l.toArray⟩, h, nx, bit b, 0⟩
    | _ => none
  | _, _ => none
def oCvV (P : Program) (s d : TypeId) (p : Value) (h : HT) (nx : Nat) : Option R5 := match p with
  | .slice (some ⟨b, o, none⟩) n _ => oCvB P s d h nx b o n
  | p => bif flat1 p then (pr P (convert s d p)).bind fun v => bif flat1 v then val h nx v else none else none
def oConv (P : Program) (s d : TypeId) (x : Operand) (fr : FT) (h : HT) (nx : Nat) : Option R5 := oCvV P s d (evo fr x) h nx
def oPick (c a b : Operand) (fr : FT) (h : HT) (nx : Nat) : Option R5 := onB (evo fr c) (val h nx (evo fr a)) (val h nx (evo fr b))
def onT {α : Type} (v : Value) (k : List Value → Option α) : Option α := match v with
  | .tuple vs => k vs.toList
  | _ => none
def oExt (x : Operand) (i : Nat) (fr : FT) (h : HT) (nx : Nat) : Option R5 := onT (evo fr x) fun vs => (nth i vs).bind (val h nx)
def oNil (x : Operand) (fr : FT) (h : HT) (nx : Nat) : Option R5 := onP (evo fr x) fun b o => val h nx (.pointer (some ⟨b, o, none⟩))
/-- Where a field lies, if it has cells. -/
def fOff (P : Program) (s : TypeId) (f : Nat) : Option Nat := match P.underlying s with
  | some (.struct fs) => match fs.toList[f]? with
    | some fd => match szOf P fd.type with
      | some (_ + 1) => some fd.offset
      | _ => none
    | none => none
  | _ => none
def oField (P : Program) (s : TypeId) (x : Operand) (f : Nat) (fr : FT) (h : HT) (nx : Nat) : Option R5 := (fOff P s f).bind fun d => onP (evo fr x) fun b o => force (Nat.add o d) fun o => val h nx (.pointer (some ⟨b, o, none⟩))
def oAt (h : HT) (nx : Nat) (b o n : Nat) (i : Int) (len : Nat) : Option R5 := (idx i len).bind fun j => force (Nat.add o (Nat.mul j n)) fun o => val h nx (.pointer (some ⟨b, o, none⟩))
def oIndA (P : Program) (t : TypeId) (x ix : Operand) (fr : FT) (h : HT) (nx : Nat) : Option R5 := match P.underlying t with
  | some (.slice e) => (szOf P e).bind fun n => onS (evo fr x) fun b o len _ => onI (evo fr ix) fun _ i => oAt h nx b o n i len
  | some (.array len e) => (szOf P e).bind fun n => onP (evo fr x) fun b o => onI (evo fr ix) fun _ i => oAt h nx b o n i len
  | _ => none
def nthB : Nat → List UInt8 → Option UInt8
  | 0, l => match l with
    | [] => none
    | x :: _ => some x
  | n + 1, l => match l with
    | [] => none
    | _ :: l => nthB n l
def onStr {α : Type} (v : Value) (k : ByteArray → Option α) : Option α := match v with
  | .string s => k s
  | _ => none
def isStr (P : Program) (t : TypeId) : Bool := match P.underlying t with
  | some .string => true
  | _ => false
def oInd (P : Program) (t : TypeId) (x ix : Operand) (fr : FT) (h : HT) (nx : Nat) : Option R5 := bif isStr P t then onStr (evo fr x) fun s => onI (evo fr ix) fun _ i => match i with
    | .ofNat n => (nthB n s.data.toList).bind fun b => force b.toNat fun m => val h nx (.int .u8 (.ofNat m))
    | .negSucc _ => none
  else none
def oSlV (P : Program) (t : TypeId) (x : Value) (l hi : Option Value) (h : HT) (nx : Nat) : Option R5 := match x with
  | .string s => bif isStr P t then (lo hi s.data.toList.length s.data.toList.length).bind fun b => (lo l 0 b).bind fun a => val h nx (.string ⟨((s.data.toList.drop a).take (b - a)).toArray⟩) else none
  | .slice (some ⟨b, o, none⟩) len es => match P.underlying t with
    | some (.slice e) => (szOf P e).bind fun n => (lo hi len len).bind fun q => (lo l 0 q).bind fun p => bif Nat.beq n es && Nat.blt p len then force (Nat.add o (Nat.mul p n)) fun o => force (Nat.sub q p) fun k => val h nx (.slice (some ⟨b, o, none⟩) k es) else none
    | _ => none
  | _ => none
def oSlice (P : Program) (t : TypeId) (x : Operand) (l hi m : Option Operand) (fr : FT) (h : HT) (nx : Nat) : Option R5 := bif m.isNone then oSlV P t (evo fr x) (l.map (evo fr)) (hi.map (evo fr)) h nx else none
def evp (fr : FT) : List (Nat × Operand) → List (Nat × Value)
  | [] => []
  | p :: l => (p.1, evo fr p.2) :: evp fr l
def evl (fr : FT) : List Operand → List Value
  | [] => []
  | x :: l => evo fr x :: evl fr l
def zok (z : Value) : Bool := z.cells.toList.all cok1
def oBuild (P : Program) (t : TypeId) (parts : Array (Nat × Operand)) (fr : FT) (h : HT) (nx : Nat) : Option R5 := (zeroOf P t).bind fun z => bif zok z then match P.underlying t with
    | some (.struct fs) => (fplaces P fs.toList).bind fun pl => (fillL (fun i => pl[i]?) (evp fr parts.toList) z.cells.toList).bind fun cs => val h nx (.agg cs.toArray)
    | some (.array _ e) => (szOf P e).bind fun n => (fillL (fun i => some (i * n, n)) (evp fr parts.toList) z.cells.toList).bind fun cs => val h nx (.agg cs.toArray)
    | _ => none
  else none
def oNew (h : HT) (nx : Nat) (v : Value) (cs : List Value) (r w : Nat) : Option R5 := bif Nat.blt nx 4096 then some ⟨v, hs12 h nx (some cs), Nat.succ nx, r, Nat.lor w (bit nx)⟩ else none
def oBuildS (P : Program) (t : TypeId) (len : Nat) (parts : Array (Nat × Operand)) (fr : FT) (h : HT) (nx : Nat) : Option R5 := match P.underlying t with
  | some (.slice e) => (szOf P e).bind fun n => (zeroOf P e).bind fun z => bif Nat.ble (len * n) 10000 && Nat.beq z.cells.toList.length n && Nat.blt 0 n && Nat.blt 0 len && zok z then (fillL (fun i => some (i * n, n)) (evp fr parts.toList) (times len z.cells.toList)).bind fun cs => oNew h nx (.slice (some ⟨nx, 0, none⟩) len n) cs 0 0 else none
  | _ => none
def oLd (P : Program) (t : TypeId) (h : HT) (nx : Nat) (b o : Nat) : Option R5 := (hget h b).bind fun cs => (isRow P t).bind fun row => bif row then (szOf P t).bind fun n => (take' n (drop' o cs)).bind fun us => some ⟨.agg us.toArray, h, nx, bit b, 0⟩ else (nth o cs).bind fun v => some ⟨v, h, nx, bit b, 0⟩
def oLoad (P : Program) (t : TypeId) (x : Operand) (fr : FT) (h : HT) (nx : Nat) : Option R5 := onP (evo fr x) (oLd P t h nx)
def oSt (P : Program) (t : TypeId) (us : List Value) (h : HT) (nx : Nat) (b o : Nat) : Option R5 := (hget h b).bind fun cs => (szOf P t).bind fun n => bif Nat.beq us.length n && allOne us then (over o us cs).bind fun cs => some ⟨undef, hs12 h b (some cs), nx, bit b, bit b⟩ else none
def oStore (P : Program) (t : TypeId) (x y : Operand) (fr : FT) (h : HT) (nx : Nat) : Option R5 := onP (evo fr x) (oSt P t (evo fr y).cells.toList h nx)
def oAlloc (P : Program) (t : TypeId) (_ : FT) (h : HT) (nx : Nat) : Option R5 := (zeroOf P t).bind fun z => bif zok z then oNew h nx (.pointer (some ⟨nx, 0, none⟩)) z.cells.toList 0 0 else none
def oBox (x : Operand) (fr : FT) (h : HT) (nx : Nat) : Option R5 := bif allOne (evo fr x).cells.toList then oNew h nx (.pointer (some ⟨nx, 0, none⟩)) (evo fr x).cells.toList 0 0 else none
def oMkS (P : Program) (t : TypeId) (l c : Value) (h : HT) (nx : Nat) : Option R5 := match P.underlying t with
  | some (.slice e) => (szOf P e).bind fun n => (zeroOf P e).bind fun z => ((P.info? e).map (·.bytes)).bind fun by' => onI l fun _ i => onI c fun _ j => (idx i 1001).bind fun a => (idx j 1001).bind fun b =>
      bif Nat.beq a b && Nat.ble by' 1000 && Nat.beq z.cells.toList.length n && Nat.blt 0 n && zok z then oNew h nx (.slice (some ⟨nx, 0, none⟩) a n) (times a z.cells.toList) 0 0 else none
  | _ => none
def oMake (P : Program) (t : TypeId) (l c : Operand) (fr : FT) (h : HT) (nx : Nat) : Option R5 := oMkS P t (evo fr l) (evo fr c) h nx
def oFunc (fn : Fn) (first captured : Array Operand) (fr : FT) (h : HT) (nx : Nat) : Option R5 := match fn with
  | .func f => match first.toList with
    | [] => val h nx (.func (.func f) #[] (evl fr captured.toList).toArray)
    | _ :: _ => none
  | _ => none
def oLen (P : Program) (ts : List TypeId) (vs : List Value) (h : HT) (nx : Nat) : Option R5 := match ts with
  | t :: _ => match vs with
    | x :: _ => match P.underlying t with
      | some .string => onStr x fun s => force s.data.toList.length fun n => val h nx (.int .i64 (.ofNat n))
      | some (.slice _) => match x with
        | .slice _ n _ => val h nx (.int .i64 (.ofNat n))
        | _ => none
      | _ => none
    | [] => none
  | [] => none
def oAp2 (h : HT) (nx : Nat) (n : Nat) (x : Value) (b m : Nat) (zs : List Value) : Option R5 := match x with
  | .slice none 0 0 => oNew h nx (.slice (some ⟨nx, 0, none⟩) m n) zs (bit b) 0
  | .slice (some ⟨a, 0, none⟩) len es => (hget h a).bind fun cs => bif Nat.beq cs.length (len * n) && Nat.beq es n && !Nat.beq a b && Nat.ble len 10000 then
      force (Nat.add len m) fun k => oNew (hs12 h a none) nx (.slice (some ⟨nx, 0, none⟩) k n) (cs ++ zs) (Nat.lor (bit a) (bit b)) (bit a) else none
  | _ => none
/-- Of the elements: how many bytes, and that nought has as many cells. -/
def apOk (P : Program) (e : TypeId) (n : Nat) : Bool := match P.info? e with
  | some i => match i.zero with
    | some z => Nat.ble i.bytes 100000 && Nat.beq z.cells.toList.length n
    | none => false
  | none => false
def oApp (P : Program) (ts : List TypeId) (vs : List Value) (h : HT) (nx : Nat) : Option R5 := match ts with
  | [t, t'] => match vs with
    | [x, y] => match P.underlying t with
      | some (.slice e) => bif Nat.beq t t' then (szOf P e).bind fun n => onS y fun b o m bs => bif Nat.beq bs n && Nat.blt 0 m && Nat.blt 0 n then (hget h b).bind fun us => (take' (m * n) (drop' o us)).bind fun zs => bif allOne zs && apOk P e n && Nat.ble m 10000 then oAp2 h nx n x b m zs else none else none else none
      | _ => none
    | _ => none
  | _ => none
def oBuiltin (P : Program) (b : Builtin) (ts : Array TypeId) (xs : Array Operand) (fr : FT) (h : HT) (nx : Nat) : Option R5 := match b with
  | .len => oLen P ts.toList (evl fr xs.toList) h nx
  | .append => oApp P ts.toList (evl fr xs.toList) h nx
  | _ => none
def oCall (cf : Nat → List Value → HT → Nat → Option R5) (v : Value) (vs : List Value) (h : HT) (nx : Nat) : Option R5 := match v with
  | .func (.func f) first captured => cf f (first.toList ++ vs ++ captured.toList) h nx
  | _ => none
def oNone (_ : FT) (_ : HT) (_ : Nat) : Option R5 := none
def oC (P : Program) (cf : Nat → List Value → HT → Nat → Option R5) (c : Call) (fr : FT) (h : HT) (nx : Nat) : Option R5 := match c.callee with
  | .value x => oCall cf (evo fr x) (evl fr c.args.toList) h nx
  | .builtin b => oBuiltin P b c.argTypes c.args fr h nx
  | _ => none
def op1 (P : Program) (cf : Nat → List Value → HT → Nat → Option R5) (o : Op) : FT → HT → Nat → Option R5 :=
  match o with
  | .move x => oMove x
  | .assign x => oMove x
  | .pick c a b => oPick c a b
  | .extract x i => oExt x i
  | .nilCheck x => oNil x
  | .fieldAddr s x f => oField P s x f
  | .indexAddr t x ix => oIndA P t x ix
  | .index t x ix => oInd P t x ix
  | .slice t x l hi m => oSlice P t x l hi m
  | .build t parts => oBuild P t parts
  | .buildSlice t len parts => oBuildS P t len parts
  | .load t x => oLoad P t x
  | .store t x y => oStore P t x y
  | .alloc t => oAlloc P t
  | .box _ x => oBox x
  | .binOp op t x y _ => oBin P op t x y
  | .unOp op _ x => oUn P op x
  | .convert s d x => oConv P s d x
  | .makeSlice t l c => oMake P t l c
  | .makeFunc fn first captured => oFunc fn first captured
  | .call c => oC P cf c
  | _ => oNone
def want (fr : FT) (ops : Array Oper) (g : Option (Nat × Bool)) : Option Bool := match g with
  | none => some true
  | some (j, w) => match (ops[j]?).bind (·.dst) with
    | some t => match fget fr t with
      | .bool b => some (b == w)
      | .tuple _ => some false
      | _ => none
    | none => none
def put (fr : FT) (d : Option Tmp) (v : Value) : FT := match d with
  | some t => fput fr t v
  | none => fr
/-! Calls whose answers are known: values and blocks, the blocks by numbers from 0 on. -/
def s0 (g : Nat → Nat) (v : Value) : Value := match v with
  | .pointer (some a) => .pointer (some ⟨g a.block, a.off, a.spot⟩)
  | .slice (some a) m e => .slice (some ⟨g a.block, a.off, a.spot⟩) m e
  | v => v
def sL (g : Nat → Nat) : List Value → List Value
  | [] => []
  | v :: l => s0 g v :: sL g l
def s1 (g : Nat → Nat) (v : Value) : Value := match v with
  | .agg cs => .agg (sL g cs.toList).toArray
  | v => s0 g v
def sM (g : Nat → Nat) : List Value → List Value
  | [] => []
  | v :: l => s1 g v :: sM g l
def s2 (g : Nat → Nat) (v : Value) : Value := match v with
  | .tuple cs => .tuple (sM g cs.toList).toArray
  | v => s1 g v
/-- Values whose blocks' numbers can be told. -/
def at0 (v : Value) : Bool := match v with
  | .agg _ => false
  | .tuple _ => false
  | .func _ _ _ => false
  | .iface _ _ => false
  | .chan _ => false
  | .map _ => false
  | _ => true
def at1 (v : Value) : Bool := match v with
  | .agg cs => cs.toList.all at0
  | v => at0 v
def at2 (v : Value) : Bool := match v with
  | .tuple cs => cs.toList.all at1
  | v => at1 v
structure En where
  f : Nat
  args : List Value
  v : Value
  bs : List (List Value)
def aeq (v u : Value) : Bool := match v with
  | .bool a => match u with
    | .bool b => a == b
    | _ => false
  | .int k a => match u with
    | .int k' b => keq k k' && ieq a b
    | _ => false
  | .string a => match u with
    | .string b => beqL a.data.toList b.data.toList
    | _ => false
  | .pointer none => match u with
    | .pointer none => true
    | _ => false
  | .pointer (some ⟨b, o, none⟩) => match u with
    | .pointer (some ⟨b', o', none⟩) => Nat.beq b b' && Nat.beq o o'
    | _ => false
  | .slice none n c => match u with
    | .slice none n' c' => Nat.beq n n' && Nat.beq c c'
    | _ => false
  | .slice (some ⟨b, o, none⟩) n c => match u with
    | .slice (some ⟨b', o', none⟩) n' c' => Nat.beq b b' && Nat.beq o o' && Nat.beq n n' && Nat.beq c c'
    | _ => false
  | .nilFunc => match u with
    | .nilFunc => true
    | _ => false
  | .nilIface => match u with
    | .nilIface => true
    | _ => false
  | _ => false
def leq : List Value → List Value → Bool
  | [], l => match l with
    | [] => true
    | _ :: _ => false
  | v :: x, l => match l with
    | [] => false
    | u :: y => bif aeq v u then leq x y else false
def veq1 (v u : Value) : Bool := match v with
  | .agg cs => match u with
    | .agg us => leq cs.toList us.toList
    | _ => false
  | v => aeq v u
def leq1 : List Value → List Value → Bool
  | [], l => match l with
    | [] => true
    | _ :: _ => false
  | v :: x, l => match l with
    | [] => false
    | u :: y => bif veq1 v u then leq1 x y else false
def veq2 (v u : Value) : Bool := match v with
  | .tuple cs => match u with
    | .tuple us => leq1 cs.toList us.toList
    | _ => false
  | v => veq1 v u
def find (f : Nat) (args : List Value) : List En → Option En
  | [] => none
  | e :: l => bif Nat.beq f e.f && leq args e.args then some e else find f args l
def lays (n : Nat) : List (List Value) → Nat → HT → HT
  | [], _, h => h
  | b :: l, i, h => lays n l (Nat.succ i) (hs12 h i (some (sL (Nat.add n) b)))
/-- The numbers from one up to another. -/
def bits : Nat → Nat → Nat
  | _, 0 => 0
  | i, m + 1 => Nat.lor (bit i) (bits (Nat.succ i) m)
def known (e : En) (h : HT) (nx : Nat) : Option R5 := bif Nat.ble (nx + e.bs.length) 4096 then some ⟨s2 (Nat.add nx) e.v, lays nx e.bs nx h, nx + e.bs.length, 0, bits nx e.bs.length⟩ else none
structure RL where
  f : FT
  h : HT
  n : Nat
  r : Nat
  w : Nat
  l : List (Nat × Nat)
structure RC where
  e : Exit
  f : FT
  h : HT
  n : Nat
  r : Nat
  w : Nat
def opsL (P : Program) (cf : Nat → List Value → HT → Nat → Option R5) (ops : Array Oper) : List Oper → RL → Option RL
  | [], s => some s
  | o :: rest, s => (want s.f ops o.guard).bind fun b => bif b then
      (op1 P cf o.op s.f s.h s.n).bind fun x => force x.n fun nx => force (Nat.lor s.r x.r) fun R => force (Nat.lor s.w x.w) fun W => opsL P cf ops rest ⟨put s.f o.dst x.v, x.h, nx, R, W, (x.r, x.w) :: s.l⟩
    else opsL P cf ops rest ⟨put s.f o.dst undef, s.h, s.n, s.r, s.w, (0, 0) :: s.l⟩
/-- What was done last is not at odds with what was done ahead of it, but where it waits for it. -/
def odds (b r w : Nat) : Nat → List (Nat × Nat) → Bool
  | _, [] => true
  | j, x :: l => bif Nat.testBit b (Nat.pred j) || (Nat.beq (Nat.land w (Nat.lor x.1 x.2)) 0 && Nat.beq (Nat.land x.2 r) 0) then odds b r w (Nat.pred j) l else false
def drawn (bs : List Nat) : Nat → List (Nat × Nat) → Bool
  | _, [] => true
  | j, x :: l => bif odds (bs.getD (Nat.pred j) 0) x.1 x.2 (Nat.pred j) l then drawn bs (Nat.pred j) l else false
def res (P : Program) (fr : FT) (h : HT) : List ResultVar → Option (List Value × Nat)
  | [] => some ([], 0)
  | x :: l => (res P fr h l).bind fun y => match x with
    | .tmp t => some (fget fr t :: y.1, y.2)
    | .cell a t => (oLoad P t (.tmp a) fr h 0).bind fun z => some (z.v :: y.1, Nat.lor y.2 z.r)
def args' (fr : FT) : Nat → List Value → FT
  | _, [] => fr
  | i, v :: l => args' (fput fr i v) (Nat.succ i) l
def single (vs : List Value) : Value := match vs with
  | [v] => v
  | vs => .tuple vs.toArray
def ends (e : Exit) : Bool := match e with
  | .normal => true
  | .ret => true
  | _ => false
def callB (P : Program) (rn : Code → FT → HT → Nat → Option RC) (fn : Func) (c : Code) (args : List Value) (h : HT) (nx : Nat) : Option R5 :=
  (rn c (args' ⟨fn.ntmps, fe5, fe8⟩ 0 args) h nx).bind fun x => (res P x.f x.h fn.results.toList).bind fun y => bif ends x.e then some ⟨single y.1, x.h, x.n, Nat.lor x.r y.2, x.w⟩ else none
def fnok (fn : Func) (n : Nat) : Bool := Nat.ble n fn.ntmps && Nat.ble fn.ntmps 256 && !(fn.name == "runtime.NumGoroutine")
def call0 (P : Program) (rn : Code → FT → HT → Nat → Option RC) (f : Nat) (args : List Value) (h : HT) (nx : Nat) : Option R5 :=
  match P.funcs[f]? with
  | some fn => match fn.body with
    | some c => bif fnok fn args.length then callB P rn fn c args h nx else none
    | none => none
  | none => none
def call (P : Program) (tb' : List En) (rn : Code → FT → HT → Nat → Option RC) (f : Nat) (args : List Value) (h : HT) (nx : Nat) : Option R5 := match find f args tb' with
  | some e => known e h nx
  | none => call0 P rn f args h nx
def orC (x : Option RC) (r w : Nat) : Option RC := x.bind fun x => force (Nat.lor r x.r) fun r => force (Nat.lor w x.w) fun w => some ⟨x.e, x.f, x.h, x.n, r, w⟩
def isN {α : Type} (e : Exit) (x y : α) : α := match e with
  | .normal => x
  | _ => y
def thenC (x : Option RC) (k : FT → HT → Nat → Option RC) : Option RC := x.bind fun x => isN x.e (orC (k x.f x.h x.n) x.r x.w) (some x)
def outE (id : Nat) (e : Exit) : Exit := match e with
  | .exit i => bif Nat.beq i id then .normal else .exit i
  | e => e
def inC (id : Nat) (x : Option RC) : Option RC := x.bind fun x => some ⟨outE id x.e, x.f, x.h, x.n, x.r, x.w⟩
/-- No two that do not wait for each other write a slot that the other looks at. -/
def tmpOf (x : Operand) : Nat := match x with
  | .tmp t => bit t
  | _ => 0
def lookT (ops : Array Oper) (o : Oper) : Nat := Nat.lor (o.op.operands.toList.foldl (fun m x => Nat.lor m (tmpOf x)) 0) (match o.guard with
  | none => 0
  | some (j, _) => match (ops[j]?).bind (·.dst) with
    | some t => bit t
    | none => 0)
def setT (o : Oper) : Nat := match o.dst with
  | some t => bit t
  | none => 0
def bef (ops : Array Oper) : List Nat := (Go.CheckFast.beforeF ops).toList
def edgesBack (ops : Array Oper) : Bool := (List.range ops.size).all fun i => match ops[i]? with
  | some o => o.after.all (fun e => !Region.binds .any e || decide (e.on < i))
  | none => true
def drawOk (ops : Array Oper) : Bool := edgesBack ops && drawn (bef ops) ops.size (ops.toList.reverse.map fun o => (lookT ops o, setT o))
def regC (ops : Array Oper) (draw : Bool) (x : Option RL) : Option RC := x.bind fun s => bif !draw || (drawOk ops && drawn (bef ops) ops.size s.l) then some ⟨.normal, s.f, s.h, s.n, s.r, s.w⟩ else none
def step (P : Program) (tb' : List En) (rn : Code → FT → HT → Nat → Option RC) (c : Code) (fr : FT) (h : HT) (nx : Nat) : Option RC := match c with
  | .skip => some ⟨.normal, fr, h, nx, 0, 0⟩
  | .label _ => some ⟨.normal, fr, h, nx, 0, 0⟩
  | .ret => some ⟨.ret, fr, h, nx, 0, 0⟩
  | .exit i => some ⟨.exit i, fr, h, nx, 0, 0⟩
  | .seq a b => thenC (rn a fr h nx) (rn b)
  | .cond c a b => onB (evo fr c) (rn a fr h nx) (rn b fr h nx)
  | .block id a => inC id (rn a fr h nx)
  | .loop a => thenC (rn a fr h nx) (rn (.loop a))
  | .region _ ops draw => regC ops draw (opsL P (call P tb' rn) ops ops.toList ⟨fr, h, nx, 0, 0, []⟩)
  | _ => none
def run (P : Program) (tb' : List En) : Nat → Code → FT → HT → Nat → Option RC
  | 0 => fun _ _ _ _ => none
  | n + 1 => step P tb' (run P tb' n)
/-- The number that an entry's block had. -/
def ix (ids : List Nat) (i : Nat) : Nat := (ids[i]?).getD 4096
def blocksOk (h : HT) (g : Nat → Nat) : List Nat → List (List Value) → Bool
  | [], l => match l with
    | [] => true
    | _ :: _ => false
  | i :: is, l => match l with
    | [] => false
    | b :: bs => match hget h i with
      | some cs => bif leq cs (sL g b) then blocksOk h g is bs else false
      | none => false
def apartL : List Nat → Bool
  | [] => true
  | i :: l => bif l.any (Nat.beq i) then false else apartL l
def entOk (x : Option R5) (ids : List Nat) (e : En) : Bool := match x with
  | some x => bif veq2 x.v (s2 (ix ids) e.v) then bif apartL ids && Nat.ble x.n 4096 && at2 e.v && e.bs.all (·.all at0) && e.args.all flat1 then blocksOk x.h (ix ids) ids e.bs else false else false
  | none => false
def isTrue (x : Option R5) : Bool := match x with
  | some x => match x.v with
    | .bool b => b
    | _ => false
  | none => false
end E
end Go.Proofs.YtepfokoepibkcaaGreat
