/-
  What a run of code is reckoned to, with letters in it: own blocks by numbers, all else as it came. When a value that was reckoned stands for a value of the run. Memory that was reckoned against memory of the run; one thing done behind another.
-/
import Derived.Test.YtfmfeipeeedfpaaGreatProg
import Derived.LoopN
import Derived.CheckFast
import Derived.RegionTactic
namespace Go.Proofs.YtfmfeipeeedfpaaGreat
namespace S
open Go.CheckFast (force)
/-- A frame: how many slots, what was put where. -/
structure FT where
  m : Nat
  l : List (Nat × Value)
abbrev HT := List (Nat × Option (List Value))
/-- What is not known. -/
def unk : Value := .chan (some 0)
def look : List (Nat × Value) → Nat → Value
  | [], _ => unk
  | x :: l, t => bif Nat.beq x.1 t then x.2 else look l t
def fget (f : FT) (t : Nat) : Value := look f.l t
def fput (f : FT) (t : Nat) (v : Value) : FT := bif Nat.blt t f.m then ⟨f.m, (t, v) :: f.l⟩ else f
def hlook : HT → Nat → Option (List Value)
  | [], _ => none
  | x :: l, t => bif Nat.beq x.1 t then x.2 else hlook l t
def hget (h : HT) (i : Nat) : Option (List Value) := bif Nat.blt i 4096 then hlook h i else none
def hs12 (h : HT) (i : Nat) (c : Option (List Value)) : HT := (i, c) :: h
/-- Truth that is known. -/
def litT : Value := .complex .f64 1 0
def litF : Value := .complex .f64 0 0
/-- A value as it came. -/
abbrev raw (x : Value) : Value := .iface 0 x

def flat1 (v : Value) : Bool := match v with
  | .bool _ => true
  | .int _ _ => true
  | .string _ => true
  | _ => false
def flat (v : Value) : Bool := match v with
  | .agg cs => cs.toList.all flat1
  | v => flat1 v
def cok1 (v : Value) : Bool := match v with
  | .bool _ => true
  | .int _ _ => true
  | .string _ => true
  | .pointer none => true
  | .slice none _ _ => true
  | .map none => true
  | .nilFunc => true
  | .nilIface => true
  | _ => false
def cok (v : Value) : Bool := match v with
  | .agg cs => cs.toList.all cok1
  | v => cok1 v
def cst (v : Value) : Value := match v with
  | .bool b => match b with
    | true => litT
    | false => litF
  | v => bif cok v then v else unk
def evo (fr : FT) (x : Operand) : Value := match x with
  | .tmp t => fget fr t
  | .const v => cst v
  | .global g => raw (.pointer (some ⟨g, 0, none⟩))
  | .func f => .func (.func f) #[] #[]
structure R5 where
  v : Value
  h : HT
  n : Nat
  r : Nat
  w : Nat
def bit (i : Nat) : Nat := Nat.shiftLeft 1 i
def szOf (P : Program) (t : TypeId) : Option Nat := (P.info? t).map (·.size)
def isRow (P : Program) (t : TypeId) : Option Bool := match P.underlying t with
  | some (.struct _) => some true
  | some (.array _ _) => some true
  | some _ => some false
  | none => none
def zeroOf (P : Program) (t : TypeId) : Option Value := (P.info? t).bind (·.zero)
def onI {α : Type} (v : Value) (k : IntKind → Int → Option α) : Option α := match v with
  | .int a b => k a b
  | _ => none
def onP {α : Type} (v : Value) (k : Nat → Nat → Option α) : Option α := match v with
  | .pointer (some ⟨b, o, none⟩) => k b o
  | _ => none
def onS {α : Type} (v : Value) (k : Nat → Nat → Nat → Nat → Option α) : Option α := match v with
  | .slice (some ⟨b, o, none⟩) n e => k b o n e
  | _ => none
def onB {α : Type} (v : Value) (x y : Option α) : Option α := match v with
  | .bool true => x
  | .bool false => y
  | _ => none
def drop' : Nat → List Value → List Value
  | 0, l => l
  | n + 1, l => match l with
    | [] => []
    | _ :: l => drop' n l
def take' : Nat → List Value → Option (List Value)
  | 0, _ => some []
  | n + 1, l => match l with
    | [] => none
    | x :: l => match take' n l with
      | some r => some (x :: r)
      | none => none
def lay' : List Value → List Value → Option (List Value)
  | [], l => some l
  | u :: us, l => match l with
    | [] => none
    | _ :: l => match lay' us l with
      | some r => some (u :: r)
      | none => none
def over : Nat → List Value → List Value → Option (List Value)
  | 0, us, l => lay' us l
  | n + 1, us, l => match l with
    | [] => none
    | x :: l => match over n us l with
      | some r => some (x :: r)
      | none => none
def one0 (v : Value) : Bool := match v with
  | .agg _ => false
  | .tuple _ => false
  | .chan _ => false
  | _ => true
def one (v : Value) : Bool := match v with
  | .agg _ => false
  | .tuple _ => false
  | .chan _ => false
  | .iface _ x => one0 x
  | _ => true
def allOne : List Value → Bool
  | [] => true
  | v :: l => bif one v then allOne l else false
def nth : Nat → List Value → Option Value
  | 0, l => match l with
    | [] => none
    | x :: _ => some x
  | n + 1, l => match l with
    | [] => none
    | _ :: l => nth n l
def fillL (place : Nat → Option (Nat × Nat)) : List (Nat × Value) → List Value → Option (List Value)
  | [], cs => some cs
  | p :: r, cs => match place p.1 with
    | none => none
    | some q => bif Nat.beq p.2.cells.toList.length q.2 && allOne p.2.cells.toList then (over q.1 p.2.cells.toList cs).bind (fillL place r) else none
def fplaces (P : Program) : List Field → Option (List (Nat × Nat))
  | [] => some []
  | f :: r => match szOf P f.type with
    | none => none
    | some n => match fplaces P r with
      | none => none
      | some l => some ((f.offset, n) :: l)
def times : Nat → List Value → List Value
  | 0, _ => []
  | n + 1, z => z ++ times n z
def idx (i : Int) (len : Nat) : Option Nat := match i with
  | .ofNat n => bif Nat.blt n len then some n else none
  | .negSucc _ => none
def lo (x : Option Value) (d : Nat) (m : Nat) : Option Nat := match x with
  | none => some d
  | some v => onI v fun _ i => idx i (Nat.succ m)
def val (h : HT) (nx : Nat) (v : Value) : Option R5 := some ⟨v, h, nx, 0, 0⟩
def inR (i : Int) : Bool := match i with
  | .ofNat n => Nat.blt n 9223372036854775808
  | .negSucc n => Nat.blt n 9223372036854775808
def oMove (x : Operand) (fr : FT) (h : HT) (nx : Nat) : Option R5 := val h nx (evo fr x)
def bytes' : List Value → Option (List UInt8)
  | [] => some []
  | v :: l => match v with
    | .int .u8 n => match bytes' l with
      | some r => some (UInt8.ofNat n.toNat :: r)
      | none => none
    | _ => none
def oCvB (P : Program) (s d : TypeId) (h : HT) (nx : Nat) (b o n : Nat) : Option R5 := match P.underlying s, P.underlying d with
  | some (.slice e), some .string => match P.underlying e with
    | some (.int .u8) => ((hget h b).bind fun cs => (take' n (drop' o cs)).bind bytes').bind fun l => some ⟨.string ⟨l.toArray⟩, h, nx, bit b, 0⟩
    | _ => none
  | _, _ => none
def onT {α : Type} (v : Value) (k : List Value → Option α) : Option α := match v with
  | .tuple vs => k vs.toList
  | _ => none
def oExt (x : Operand) (i : Nat) (fr : FT) (h : HT) (nx : Nat) : Option R5 := onT (evo fr x) fun vs => (nth i vs).bind (val h nx)
def oNil (x : Operand) (fr : FT) (h : HT) (nx : Nat) : Option R5 := onP (evo fr x) fun b o => val h nx (.pointer (some ⟨b, o, none⟩))
def fOff (P : Program) (s : TypeId) (f : Nat) : Option Nat := match P.underlying s with
  | some (.struct fs) => match fs.toList[f]? with
    | some fd => match szOf P fd.type with
      | some (_ + 1) => some fd.offset
      | _ => none
    | none => none
  | _ => none
def oField (P : Program) (s : TypeId) (x : Operand) (f : Nat) (fr : FT) (h : HT) (nx : Nat) : Option R5 := (fOff P s f).bind fun d => onP (evo fr x) fun b o => force (Nat.add o d) fun o => val h nx (.pointer (some ⟨b, o, none⟩))
def oAt (h : HT) (nx : Nat) (b o n : Nat) (i : Int) (len : Nat) : Option R5 := (idx i len).bind fun j => force (Nat.add o (Nat.mul j n)) fun o => val h nx (.pointer (some ⟨b, o, none⟩))
def oIndA (P : Program) (t : TypeId) (x ix : Operand) (fr : FT) (h : HT) (nx : Nat) : Option R5 := match P.underlying t with
  | some (.slice e) => (szOf P e).bind fun n => onS (evo fr x) fun b o len _ => onI (evo fr ix) fun _ i => oAt h nx b o n i len
  | some (.array len e) => (szOf P e).bind fun n => onP (evo fr x) fun b o => onI (evo fr ix) fun _ i => oAt h nx b o n i len
  | _ => none
def nthB : Nat → List UInt8 → Option UInt8
  | 0, l => match l with
    | [] => none
    | x :: _ => some x
  | n + 1, l => match l with
    | [] => none
    | _ :: l => nthB n l
def onStr {α : Type} (v : Value) (k : ByteArray → Option α) : Option α := match v with
  | .string s => k s
  | _ => none
def isStr (P : Program) (t : TypeId) : Bool := match P.underlying t with
  | some .string => true
  | _ => false
def oInd (P : Program) (t : TypeId) (x ix : Operand) (fr : FT) (h : HT) (nx : Nat) : Option R5 := bif isStr P t then onStr (evo fr x) fun s => onI (evo fr ix) fun _ i => match i with
    | .ofNat n => (nthB n s.data.toList).bind fun b => force b.toNat fun m => val h nx (.int .u8 (.ofNat m))
    | .negSucc _ => none
  else none
def oPart (P : Program) (t : TypeId) (cs : List Value) (off : Nat) : Option Value := (isRow P t).bind fun row => bif row then (szOf P t).bind fun n => (take' n (drop' off cs)).bind fun us => some (.agg us.toArray) else nth off cs
def onA {α : Type} (v : Value) (k : List Value → Option α) : Option α := match v with
  | .agg cs => k cs.toList
  | _ => none
def oIndV (P : Program) (t : TypeId) (x ix : Operand) (fr : FT) (h : HT) (nx : Nat) : Option R5 := match P.underlying t with
  | some (.array len e) => onA (evo fr x) fun cs => onI (evo fr ix) fun _ i => (idx i len).bind fun j => (szOf P e).bind fun n => (oPart P e cs (Nat.mul j n)).bind (val h nx)
  | _ => none
def oInd2 (P : Program) (t : TypeId) (x ix : Operand) (fr : FT) (h : HT) (nx : Nat) : Option R5 := bif isStr P t then oInd P t x ix fr h nx else oIndV P t x ix fr h nx
def oFieldV (P : Program) (s : TypeId) (x : Operand) (f : Nat) (fr : FT) (h : HT) (nx : Nat) : Option R5 := match P.underlying s with
  | some (.struct fs) => match fs.toList[f]? with
    | some fd => onA (evo fr x) fun cs => (oPart P fd.type cs fd.offset).bind (val h nx)
    | none => none
  | _ => none
def oSlV (P : Program) (t : TypeId) (x : Value) (l hi : Option Value) (h : HT) (nx : Nat) : Option R5 := match x with
  | .string s => bif isStr P t then (lo hi s.data.toList.length s.data.toList.length).bind fun b => (lo l 0 b).bind fun a => val h nx (.string ⟨((s.data.toList.drop a).take (b - a)).toArray⟩) else none
  | .slice (some ⟨b, o, none⟩) len es => match P.underlying t with
    | some (.slice e) => (szOf P e).bind fun n => (lo hi len len).bind fun q => (lo l 0 q).bind fun p => bif Nat.beq n es && Nat.blt p len then force (Nat.add o (Nat.mul p n)) fun o => force (Nat.sub q p) fun k => val h nx (.slice (some ⟨b, o, none⟩) k es) else none
    | _ => none
  | _ => none
def oSlice (P : Program) (t : TypeId) (x : Operand) (l hi m : Option Operand) (fr : FT) (h : HT) (nx : Nat) : Option R5 := bif m.isNone then oSlV P t (evo fr x) (l.map (evo fr)) (hi.map (evo fr)) h nx else none
def evp (fr : FT) : List (Nat × Operand) → List (Nat × Value)
  | [] => []
  | p :: l => (p.1, evo fr p.2) :: evp fr l
def evl (fr : FT) : List Operand → List Value
  | [] => []
  | x :: l => evo fr x :: evl fr l
def zok (z : Value) : Bool := z.cells.toList.all cok1
def oBuild (P : Program) (t : TypeId) (parts : Array (Nat × Operand)) (fr : FT) (h : HT) (nx : Nat) : Option R5 := (zeroOf P t).bind fun z => bif zok z then match P.underlying t with
    | some (.struct fs) => (fplaces P fs.toList).bind fun pl => (fillL (fun i => pl[i]?) (evp fr parts.toList) z.cells.toList).bind fun cs => val h nx (.agg cs.toArray)
    | some (.array _ e) => (szOf P e).bind fun n => (fillL (fun i => some (i * n, n)) (evp fr parts.toList) z.cells.toList).bind fun cs => val h nx (.agg cs.toArray)
    | _ => none
  else none
def oNew (h : HT) (nx : Nat) (v : Value) (cs : List Value) (r w : Nat) : Option R5 := bif Nat.blt nx 4096 then some ⟨v, hs12 h nx (some cs), Nat.succ nx, r, Nat.lor w (bit nx)⟩ else none
def oBuildS (P : Program) (t : TypeId) (len : Nat) (parts : Array (Nat × Operand)) (fr : FT) (h : HT) (nx : Nat) : Option R5 := match P.underlying t with
  | some (.slice e) => (szOf P e).bind fun n => (zeroOf P e).bind fun z => bif Nat.ble (len * n) 10000 && Nat.beq z.cells.toList.length n && Nat.blt 0 n && Nat.blt 0 len && zok z then (fillL (fun i => some (i * n, n)) (evp fr parts.toList) (times len z.cells.toList)).bind fun cs => oNew h nx (.slice (some ⟨nx, 0, none⟩) len n) cs 0 0 else none
  | _ => none
def oLd (P : Program) (t : TypeId) (h : HT) (nx : Nat) (b o : Nat) : Option R5 := (hget h b).bind fun cs => (isRow P t).bind fun row => bif row then (szOf P t).bind fun n => (take' n (drop' o cs)).bind fun us => some ⟨.agg us.toArray, h, nx, bit b, 0⟩ else (nth o cs).bind fun v => some ⟨v, h, nx, bit b, 0⟩
def oLoad (P : Program) (t : TypeId) (x : Operand) (fr : FT) (h : HT) (nx : Nat) : Option R5 := onP (evo fr x) (oLd P t h nx)
def oSt (P : Program) (t : TypeId) (us : List Value) (h : HT) (nx : Nat) (b o : Nat) : Option R5 := (hget h b).bind fun cs => (szOf P t).bind fun n => bif Nat.beq us.length n && allOne us then (over o us cs).bind fun cs => some ⟨undef, hs12 h b (some cs), nx, bit b, bit b⟩ else none
def oStore (P : Program) (t : TypeId) (x y : Operand) (fr : FT) (h : HT) (nx : Nat) : Option R5 := onP (evo fr x) (oSt P t (evo fr y).cells.toList h nx)
def oAlloc (P : Program) (t : TypeId) (_ : FT) (h : HT) (nx : Nat) : Option R5 := (zeroOf P t).bind fun z => bif zok z then oNew h nx (.pointer (some ⟨nx, 0, none⟩)) z.cells.toList 0 0 else none
def oBox (x : Operand) (fr : FT) (h : HT) (nx : Nat) : Option R5 := bif allOne (evo fr x).cells.toList then oNew h nx (.pointer (some ⟨nx, 0, none⟩)) (evo fr x).cells.toList 0 0 else none
def oMkS (P : Program) (t : TypeId) (l c : Value) (h : HT) (nx : Nat) : Option R5 := match P.underlying t with
  | some (.slice e) => (szOf P e).bind fun n => (zeroOf P e).bind fun z => ((P.info? e).map (·.bytes)).bind fun by' => onI l fun _ i => onI c fun _ j => (idx i 1001).bind fun a => (idx j 1001).bind fun b =>
      bif Nat.beq a b && Nat.ble by' 1000 && Nat.beq z.cells.toList.length n && Nat.blt 0 n && zok z then oNew h nx (.slice (some ⟨nx, 0, none⟩) a n) (times a z.cells.toList) 0 0 else none
  | _ => none
def oMake (P : Program) (t : TypeId) (l c : Operand) (fr : FT) (h : HT) (nx : Nat) : Option R5 := oMkS P t (evo fr l) (evo fr c) h nx
def oFunc (fn : Fn) (first captured : Array Operand) (fr : FT) (h : HT) (nx : Nat) : Option R5 := match fn with
  | .func f => match first.toList with
    | [] => val h nx (.func (.func f) #[] (evl fr captured.toList).toArray)
    | _ :: _ => none
  | _ => none
def oAp2 (h : HT) (nx : Nat) (n : Nat) (x : Value) (b m : Nat) (zs : List Value) : Option R5 := match x with
  | .slice none 0 0 => oNew h nx (.slice (some ⟨nx, 0, none⟩) m n) zs (bit b) 0
  | .slice (some ⟨a, 0, none⟩) len es => (hget h a).bind fun cs => bif Nat.beq cs.length (len * n) && Nat.beq es n && !Nat.beq a b && Nat.ble len 10000 then
      force (Nat.add len m) fun k => oNew (hs12 h a none) nx (.slice (some ⟨nx, 0, none⟩) k n) (cs ++ zs) (Nat.lor (bit a) (bit b)) (bit a) else none
  | _ => none
def apOk (P : Program) (e : TypeId) (n : Nat) : Bool := match P.info? e with
  | some i => match i.zero with
    | some z => Nat.ble i.bytes 100000 && Nat.beq z.cells.toList.length n
    | none => false
  | none => false
def oApp (P : Program) (ts : List TypeId) (vs : List Value) (h : HT) (nx : Nat) : Option R5 := match ts with
  | [t, t'] => match vs with
    | [x, y] => match P.underlying t with
      | some (.slice e) => bif Nat.beq t t' then (szOf P e).bind fun n => onS y fun b o m bs => bif Nat.beq bs n && Nat.blt 0 m && Nat.blt 0 n then (hget h b).bind fun us => (take' (m * n) (drop' o us)).bind fun zs => bif allOne zs && apOk P e n && Nat.ble m 10000 then oAp2 h nx n x b m zs else none else none else none
      | _ => none
    | _ => none
  | _ => none
def put (fr : FT) (d : Option Tmp) (v : Value) : FT := match d with
  | some t => fput fr t v
  | none => fr
structure RL where
  f : FT
  h : HT
  n : Nat
  r : Nat
  w : Nat
  l : List (Nat × Nat)
def odds (b r w : Nat) : Nat → List (Nat × Nat) → Bool
  | _, [] => true
  | j, x :: l => bif Nat.testBit b (Nat.pred j) || (Nat.beq (Nat.land w (Nat.lor x.1 x.2)) 0 && Nat.beq (Nat.land x.2 r) 0) then odds b r w (Nat.pred j) l else false
def drawn (bs : List Nat) : Nat → List (Nat × Nat) → Bool
  | _, [] => true
  | j, x :: l => bif odds (bs.getD (Nat.pred j) 0) x.1 x.2 (Nat.pred j) l then drawn bs (Nat.pred j) l else false
def single (vs : List Value) : Value := match vs with
  | [v] => v
  | vs => .tuple vs.toArray
def outE (id : Nat) (e : Exit) : Exit := match e with
  | .exit i => bif Nat.beq i id then .normal else .exit i
  | e => e
def tmpOf (x : Operand) : Nat := match x with
  | .tmp t => bit t
  | _ => 0
def lookT (ops : Array Oper) (o : Oper) : Nat := Nat.lor (o.op.operands.toList.foldl (fun m x => Nat.lor m (tmpOf x)) 0) (match o.guard with
  | none => 0
  | some (j, _) => match (ops[j]?).bind (·.dst) with
    | some t => bit t
    | none => 0)
def setT (o : Oper) : Nat := match o.dst with
  | some t => bit t
  | none => 0
def bef (ops : Array Oper) : List Nat := (Go.CheckFast.beforeF ops).toList
def edgesBack (ops : Array Oper) : Bool := (List.range ops.size).all fun i => match ops[i]? with
  | some o => o.after.all (fun e => !Region.binds .any e || decide (e.on < i))
  | none => true
def drawOk (ops : Array Oper) : Bool := edgesBack ops && drawn (bef ops) ops.size (ops.toList.reverse.map fun o => (lookT ops o, setT o))
end S
end Go.Proofs.YtfmfeipeeedfpaaGreat
namespace Go.Proofs.YtfmfeipeeedfpaaGreat
namespace S
open Go.CheckFast (force force_eq)
theorem blt_t {a b : Nat} (h : a < b) : Nat.blt a b = true := by rw [Nat.blt_eq]; exact h
theorem blt_f {a b : Nat} (h : ¬ a < b) : Nat.blt a b = false := by
  cases e : Nat.blt a b with
  | false => rfl
  | true => rw [Nat.blt_eq] at e; exact absurd e h
theorem beq_f {a b : Nat} (h : a ≠ b) : Nat.beq a b = false := by
  cases e : Nat.beq a b with
  | false => rfl
  | true => exact absurd (Nat.eq_of_beq_eq_true e) h
theorem fput_m (f : FT) (t : Nat) (v : Value) : (fput f t v).m = f.m := by
  unfold fput; cases Nat.blt t f.m <;> rfl
theorem fget_same {f : FT} {t : Nat} (v : Value) (ht : t < f.m) : fget (fput f t v) t = v := by
  unfold fput; rw [blt_t ht]; simp [fget, look]
theorem fget_ne {f : FT} {t u : Nat} (v : Value) (h : t ≠ u) : fget (fput f t v) u = fget f u := by
  unfold fput
  cases Nat.blt t f.m with
  | false => rfl
  | true => simp only [fget, cond_true, look, beq_f h, cond_false]
theorem hget_same {h : HT} {i : Nat} (c : Option (List Value)) (hi : i < 4096) : hget (hs12 h i c) i = c := by
  unfold hget hs12; rw [blt_t hi]; simp [hlook]
theorem hget_ne {h : HT} {i j : Nat} (c : Option (List Value)) (_ : i < 4096) (hj : i ≠ j) : hget (hs12 h i c) j = hget h j := by
  unfold hget hs12; simp only [hlook, beq_f hj, cond_false]
theorem hget_lt {h : HT} {i : Nat} {c : List Value} (e : hget h i = some c) : i < 4096 := by
  unfold hget at e
  by_cases h2 : i < 4096
  · exact h2
  · rw [blt_f h2] at e; cases e
/-! Values. -/
/-- Own numbers of blocks, where they lie, and how many cells they have. -/
abbrev K := Nat → Option (Nat × Nat)
def V0 (k : K) (v u : Value) : Prop := match v with
  | .pointer (some a) => True ∧ ∃ b z, k a.block = some (b, z + 1) ∧ u = .pointer (some ⟨b, a.off, none⟩)
  | .slice (some a) n e => True ∧ ∃ b z c, k a.block = some (b, z + 1) ∧ u = .slice (some ⟨b, a.off, none⟩) n c ∧ n ≤ c ∧ a.off + c * e ≤ z
  | .chan (some _) => True
  | .complex _ re _ => u = .bool (Nat.beq re 1)
  | .float _ _ => ∃ p c, u = .slice p 0 c
  | .iface _ x => u = x
  | .agg _ => False
  | .tuple _ => False
  | .func _ _ _ => False
  | .map (some i) => ∃ b, k i = some (b, 0) ∧ u = .map (some b)
  | v => u = v
def LR (R : Value → Value → Prop) : List Value → List Value → Prop
  | [], l => l = []
  | x :: xs, l => ∃ y ys, l = y :: ys ∧ R x y ∧ LR R xs ys
def VR (k : K) : Nat → Value → Value → Prop
  | 0 => V0 k
  | d + 1 => fun v u => match v with
    | .agg cs => ∃ us : Array Value, u = .agg us ∧ LR (VR k d) cs.toList us.toList
    | .tuple cs => ∃ us : Array Value, u = .tuple us ∧ LR (VR k d) cs.toList us.toList
    | .func f a c => ∃ a' c' : Array Value, u = .func f a' c' ∧ LR (VR k d) a.toList a'.toList ∧ LR (VR k d) c.toList c'.toList
    | v => V0 k v u
def VX (k : K) (v u : Value) : Prop := ∃ d, VR k d v u
theorem LR.mono {R S : Value → Value → Prop} (h : ∀ v u, R v u → S v u) : ∀ l m, LR R l m → LR S l m
  | [], _, e => e
  | _ :: xs, _, ⟨y, ys, e, r, q⟩ => ⟨y, ys, e, h _ _ r, LR.mono h xs ys q⟩
theorem VR.up {k : K} : ∀ d v u, VR k d v u → VR k (d + 1) v u
  | 0, v, u, h => by
    cases v <;> first | exact h | exact (h : False).elim
  | d + 1, v, u, h => by
    cases v with
    | agg cs => obtain ⟨us, e, l⟩ := h; exact ⟨us, e, LR.mono (VR.up d) _ _ l⟩
    | tuple cs => obtain ⟨us, e, l⟩ := h; exact ⟨us, e, LR.mono (VR.up d) _ _ l⟩
    | func f a c => obtain ⟨us, us', e, l, l'⟩ := h; exact ⟨us, us', e, LR.mono (VR.up d) _ _ l, LR.mono (VR.up d) _ _ l'⟩
    | _ => exact h
theorem VR.le {k : K} {d e : Nat} (h : d ≤ e) {v u : Value} (r : VR k d v u) : VR k e v u := by
  induction h with
  | refl => exact r
  | step _ ih => exact VR.up _ _ _ ih
theorem V0.mono {k k' : K} (h : ∀ i p, k i = some p → k' i = some p) {v u : Value} (r : V0 k v u) : V0 k' v u := by
  cases v with
  | pointer a => cases a with
    | none => exact r
    | some a => obtain ⟨s, b, z, e, r⟩ := r; exact ⟨s, b, z, h _ _ e, r⟩
  | slice a n c => cases a with
    | none => exact r
    | some a => obtain ⟨s, b, z, c, e, r⟩ := r; exact ⟨s, b, z, c, h _ _ e, r⟩
  | chan a => cases a <;> exact r
  | map a => cases a with
    | none => exact r
    | some a => obtain ⟨b, e, r⟩ := r; exact ⟨b, h _ _ e, r⟩
  | _ => exact r
theorem VR.mono {k k' : K} (h : ∀ i p, k i = some p → k' i = some p) : ∀ d v u, VR k d v u → VR k' d v u
  | 0, _, _, r => V0.mono h r
  | d + 1, v, u, r => by
    cases v with
    | agg cs => obtain ⟨us, e, l⟩ := r; exact ⟨us, e, LR.mono (VR.mono h d) _ _ l⟩
    | tuple cs => obtain ⟨us, e, l⟩ := r; exact ⟨us, e, LR.mono (VR.mono h d) _ _ l⟩
    | func f a c => obtain ⟨us, us', e, l, l'⟩ := r; exact ⟨us, us', e, LR.mono (VR.mono h d) _ _ l, LR.mono (VR.mono h d) _ _ l'⟩
    | pointer a => exact V0.mono (v := .pointer a) h r
    | slice a n c => exact V0.mono (v := .slice a n c) h r
    | chan a => exact V0.mono (v := .chan a) h r
    | map a => exact V0.mono (v := .map a) h r
    | _ => exact r
theorem VX.mono {k k' : K} (h : ∀ i p, k i = some p → k' i = some p) {v u : Value} (r : VX k v u) : VX k' v u := ⟨r.choose, VR.mono h _ _ _ r.choose_spec⟩
theorem LX.mono {k k' : K} (h : ∀ i p, k i = some p → k' i = some p) {l m : List Value} (r : LR (VX k) l m) : LR (VX k') l m := LR.mono (fun _ _ => VX.mono h) _ _ r
/-- One depth for all. -/
theorem LR.deep {k : K} : ∀ l m, LR (VX k) l m → ∃ d, LR (VR k d) l m
  | [], _, e => ⟨0, e⟩
  | x :: xs, _, ⟨y, ys, e, ⟨d, r⟩, q⟩ => by
    obtain ⟨d', q'⟩ := LR.deep xs ys q
    exact ⟨max d d', y, ys, e, VR.le (by omega) r, LR.mono (fun _ _ => VR.le (by omega)) _ _ q'⟩
theorem LR.flat {k : K} {d : Nat} {l m : List Value} (h : LR (VR k d) l m) : LR (VX k) l m := LR.mono (fun _ _ r => ⟨d, r⟩) _ _ h
theorem VX.agg {k : K} {cs us : List Value} (h : LR (VX k) cs us) : VX k (.agg cs.toArray) (.agg us.toArray) := by
  obtain ⟨d, h⟩ := LR.deep _ _ h; exact ⟨d + 1, _, rfl, by simpa using h⟩
theorem VX.tuple {k : K} {cs us : List Value} (h : LR (VX k) cs us) : VX k (.tuple cs.toArray) (.tuple us.toArray) := by
  obtain ⟨d, h⟩ := LR.deep _ _ h; exact ⟨d + 1, _, rfl, by simpa using h⟩
theorem VX.func {k : K} {f : Fn} {cs us : List Value} (h : LR (VX k) cs us) : VX k (.func f #[] cs.toArray) (.func f #[] us.toArray) := by
  obtain ⟨d, h⟩ := LR.deep _ _ h; exact ⟨d + 1, _, _, rfl, by simp [LR], by simpa using h⟩
theorem VX.agg_inv {k : K} {cs : Array Value} {u : Value} (h : VX k (.agg cs) u) : ∃ us : List Value, u = .agg us.toArray ∧ LR (VX k) cs.toList us := by
  obtain ⟨d, h⟩ := h
  cases d with
  | zero => exact (h : False).elim
  | succ d => obtain ⟨us, e, l⟩ := h; exact ⟨us.toList, by simpa using e, l.flat⟩
theorem VX.tuple_inv {k : K} {cs : Array Value} {u : Value} (h : VX k (.tuple cs) u) : ∃ us : List Value, u = .tuple us.toArray ∧ LR (VX k) cs.toList us := by
  obtain ⟨d, h⟩ := h
  cases d with
  | zero => exact (h : False).elim
  | succ d => obtain ⟨us, e, l⟩ := h; exact ⟨us.toList, by simpa using e, l.flat⟩
theorem VX.func_inv {k : K} {f : Fn} {a c : Array Value} {u : Value} (h : VX k (.func f a c) u) : ∃ a' c' : List Value, u = .func f a'.toArray c'.toArray ∧ LR (VX k) a.toList a' ∧ LR (VX k) c.toList c' := by
  obtain ⟨d, h⟩ := h
  cases d with
  | zero => exact (h : False).elim
  | succ d => obtain ⟨us, us', e, l, l'⟩ := h; exact ⟨us.toList, us'.toList, by simpa using e, l.flat, l'.flat⟩
/-- Values without parts. -/
theorem VX.v0 {k : K} {v u : Value} (h : VX k v u) (hv : match v with | .agg _ => False | .tuple _ => False | .func _ _ _ => False | _ => True) : V0 k v u := by
  obtain ⟨d, h⟩ := h
  cases d with
  | zero => exact h
  | succ d => cases v <;> first | exact hv.elim | exact h
theorem VX.of0 {k : K} {v u : Value} (h : V0 k v u) : VX k v u := ⟨0, h⟩
theorem VX.ptr_inv {k : K} {a : Addr} {u : Value} (h : VX k (.pointer (some a)) u) : True ∧ ∃ b z, k a.block = some (b, z + 1) ∧ u = .pointer (some ⟨b, a.off, none⟩) := h.v0 trivial
theorem VX.slc_inv {k : K} {a : Addr} {n e : Nat} {u : Value} (h : VX k (.slice (some a) n e) u) : True ∧ ∃ b z c, k a.block = some (b, z + 1) ∧ u = .slice (some ⟨b, a.off, none⟩) n c ∧ n ≤ c ∧ a.off + c * e ≤ z := h.v0 trivial
theorem VX.map_inv {k : K} {i : Nat} {u : Value} (h : VX k (.map (some i)) u) : ∃ b, k i = some (b, 0) ∧ u = .map (some b) := h.v0 trivial
theorem VX.raw_inv {k : K} {t : TypeId} {x u : Value} (h : VX k (.iface t x) u) : u = x := h.v0 trivial
theorem VX.raw {k : K} {x : Value} : VX k (raw x) x := ⟨0, rfl⟩
theorem VX.lit_inv {k : K} {a : FloatKind} {b c : Nat} {u : Value} (h : VX k (.complex a b c) u) : u = .bool (Nat.beq b 1) := h.v0 trivial
theorem VX.emp_inv {k : K} {a : FloatKind} {b : Nat} {u : Value} (h : VX k (.float a b) u) : ∃ p c, u = .slice p 0 c := h.v0 trivial
theorem VX.litT {k : K} : VX k litT (.bool true) := ⟨0, rfl⟩
theorem VX.litF {k : K} : VX k litF (.bool false) := ⟨0, rfl⟩
theorem VX.int_inv {k : K} {a : IntKind} {b : Int} {u : Value} (h : VX k (.int a b) u) : u = .int a b := h.v0 trivial
theorem VX.bool_inv {k : K} {b : Bool} {u : Value} (h : VX k (.bool b) u) : u = .bool b := h.v0 trivial
theorem VX.str_inv {k : K} {b : ByteArray} {u : Value} (h : VX k (.string b) u) : u = .string b := h.v0 trivial
theorem VX.nilslc_inv {k : K} {n c : Nat} {u : Value} (h : VX k (.slice none n c) u) : u = .slice none n c := h.v0 trivial
theorem flat1_eq {k : K} {v u : Value} (h : VX k v u) (hf : flat1 v = true) : u = v := by
  cases v <;> first | exact h.int_inv | exact h.bool_inv | exact h.str_inv | cases hf
theorem flatL_eq {k : K} : ∀ {l m : List Value}, LR (VX k) l m → l.all flat1 = true → m = l
  | [], _, e, _ => e
  | x :: xs, _, ⟨y, ys, e, r, q⟩, hf => by
    simp only [List.all_cons, Bool.and_eq_true] at hf
    rw [e, flat1_eq r hf.1, flatL_eq q hf.2]
theorem flat_eq {k : K} {v u : Value} (h : VX k v u) (hf : flat v = true) : u = v := by
  cases v with
  | agg cs =>
    obtain ⟨us, e, l⟩ := h.agg_inv
    rw [e, flatL_eq l hf]
  | _ => exact flat1_eq h hf
theorem flat1_vx {k : K} {v : Value} (hf : flat1 v = true) : VX k v v := by
  cases v <;> first | exact VX.of0 rfl | cases hf
theorem cok1_vx {k : K} {v : Value} (hf : cok1 v = true) : VX k v v := by
  cases v with
  | pointer a => cases a <;> first | exact VX.of0 rfl | cases hf
  | slice a _ _ => cases a <;> first | exact VX.of0 rfl | cases hf
  | map a => cases a <;> first | exact VX.of0 rfl | cases hf
  | _ => first | exact VX.of0 rfl | cases hf
theorem cokL_vx {k : K} : ∀ {l : List Value}, l.all cok1 = true → LR (VX k) l l
  | [], _ => rfl
  | x :: xs, hf => by
    simp only [List.all_cons, Bool.and_eq_true] at hf
    exact ⟨x, xs, rfl, cok1_vx hf.1, cokL_vx hf.2⟩
theorem cok_vx {k : K} {v : Value} (hf : cok v = true) : VX k v v := by
  cases v with
  | agg cs => have := VX.agg (cokL_vx (k := k) (l := cs.toList) hf); simpa using this
  | _ => exact cok1_vx hf
theorem unk_vx {k : K} {u : Value} : VX k unk u := VX.of0 trivial
theorem cst_vx {k : K} {v : Value} : VX k (cst v) v := by
  unfold cst
  split
  · rename_i b; cases b
    · exact VX.litF
    · exact VX.litT
  · cases hc : cok v with
    | true => exact cok_vx hc
    | false => exact unk_vx
theorem undef_vx {k : K} : VX k undef undef := VX.tuple (cs := []) (us := []) rfl
end S
end Go.Proofs.YtfmfeipeeedfpaaGreat
namespace Go.Proofs.YtfmfeipeeedfpaaGreat
namespace S
open Go.CheckFast (force force_eq)
def tb (m i : Nat) : Prop := m.testBit i = true
theorem tb_or {a b i : Nat} : tb (Nat.lor a b) i ↔ tb a i ∨ tb b i := by
  unfold tb
  show (a ||| b).testBit i = true ↔ _
  rw [Nat.testBit_or, Bool.or_eq_true]
theorem tb_zero {i : Nat} : ¬ tb 0 i := by unfold tb; simp
theorem tb_bit {i j : Nat} : tb (bit i) j ↔ i = j := by
  unfold tb bit
  show (1 <<< i).testBit j = true ↔ _
  rw [Nat.one_shiftLeft, Nat.testBit_two_pow]
  simp
def live (h : HT) (i : Nat) : Prop := ∃ cs, hget h i = some cs
theorem not_live {h : HT} {i : Nat} (e : hget h i = none) : ¬ live h i := fun ⟨cs, h'⟩ => by rw [e] at h'; cases h'
/-- Keys and values of a map, one behind the other. -/
def kvs (es : Array MapEntry) : List Value := es.toList.flatMap fun e => [e.key, e.val]
/-- A map as it is made and filled: each entry bears its place. -/
def MapAt (W : World) (b : Nat) (es : Array MapEntry) : Prop := W.heap[b]? = some (.map es es.size) ∧ ∀ (j : Nat) (e : MapEntry), es[j]? = some e → e.born = j
/-- A block lies there: cells, or a map. -/
def RB (k : K) (W : World) (i : Nat) (cs : List Value) : Prop :=
  (∃ b us sp ty, k i = some (b, us.length + sp.length + 1) ∧ W.heap[b]? = some (.cells (us ++ sp).toArray ty (0, 0)) ∧ LR (VX k) cs us) ∨
  (∃ b es, k i = some (b, 0) ∧ MapAt W b es ∧ LR (VX k) cs (kvs es))
theorem RB.cel {k : K} {W : World} {i : Nat} {cs : List Value} {b' z : Nat} (h : RB k W i cs) (hk : k i = some (b', z + 1)) : ∃ b us sp ty, k i = some (b, us.length + sp.length + 1) ∧ W.heap[b]? = some (.cells (us ++ sp).toArray ty (0, 0)) ∧ LR (VX k) cs us := by
  rcases h with h | ⟨b, es, e, _⟩
  · exact h
  · rw [hk] at e; cases e
theorem RB.map {k : K} {W : World} {i : Nat} {cs : List Value} {b : Nat} (h : RB k W i cs) (hk : k i = some (b, 0)) : ∃ es, MapAt W b es ∧ LR (VX k) cs (kvs es) := by
  rcases h with ⟨b', us, sp, ty, e, _⟩ | ⟨b', es, e, h1, h2⟩
  · rw [hk] at e; cases e
  · rw [hk] at e; cases e; exact ⟨es, h1, h2⟩
theorem RB.blk {k : K} {W : World} {i : Nat} {cs : List Value} (h : RB k W i cs) : ∃ b z o, k i = some (b, z) ∧ W.heap[b]? = some o := by
  rcases h with ⟨b, us, sp, ty, e, h, _⟩ | ⟨b, es, e, h, _⟩
  · exact ⟨b, _, _, e, h⟩
  · exact ⟨b, _, _, e, h.1⟩
theorem RB.mono {k k' : K} {W W' : World} {i j : Nat} {cs cs' : List Value} (h : RB k W i cs) (hk : ∀ p, k i = some p → k' j = some p) (hW : ∀ b z, k i = some (b, z) → b < W.heap.size → W'.heap[b]? = W.heap[b]?) (hl : ∀ us, LR (VX k) cs us → LR (VX k') cs' us) : RB k' W' j cs' := by
  rcases h with ⟨b, us, sp, ty, e, h, l⟩ | ⟨b, es, e, h, l⟩
  · exact Or.inl ⟨b, us, sp, ty, hk _ e, by rw [hW b _ e (Array.getElem?_eq_some_iff.1 h).1]; exact h, hl _ l⟩
  · exact Or.inr ⟨b, es, hk _ e, ⟨by rw [hW b _ e (Array.getElem?_eq_some_iff.1 h.1).1]; exact h.1, h.2⟩, hl _ l⟩
def Rp (k : K) (h : HT) (W : World) (i : Nat) : Prop := ∀ cs, hget h i = some cs → RB k W i cs
structure HR (k : K) (h : HT) (W : World) (m : Nat) : Prop where
  rep : ∀ i, tb m i → Rp k h W i
  inj : ∀ i j, tb m i → tb m j → live h i → live h j → i ≠ j → ∀ b z b' z', k i = some (b, z) → k j = some (b', z') → b ≠ b'
theorem HR.sub {k : K} {h : HT} {W : World} {m m' : Nat} (H : HR k h W m) (s : ∀ i, tb m' i → tb m i) : HR k h W m' :=
  ⟨fun i hi => H.rep i (s i hi), fun i j hi hj => H.inj i j (s i hi) (s j hj)⟩
theorem HR.none {k : K} {h : HT} {W : World} : HR k h W 0 := ⟨fun _ h => absurd h tb_zero, fun _ _ h => absurd h tb_zero⟩
theorem Rp.lt {k : K} {h : HT} {W : World} {i : Nat} (r : Rp k h W i) (l : live h i) : ∃ b z, k i = some (b, z) ∧ b < W.heap.size := by
  obtain ⟨cs, e⟩ := l
  obtain ⟨b, z, o, h1, h2⟩ := (r cs e).blk
  exact ⟨b, _, h1, (Array.getElem?_eq_some_iff.1 h2).1⟩
/-- What is done, by itself. -/
structure Ss (h : HT) (n : Nat) (h' : HT) (n' r w : Nat) : Prop where
  le : n ≤ n'
  nn : (∀ i, n ≤ i → hget h i = Option.none) → ∀ i, n' ≤ i → hget h' i = Option.none
  same : ∀ i, ¬ tb w i → hget h' i = hget h i
  old : ∀ i, tb w i → i < n → tb r i
  lt : ∀ i, tb w i → i < n'
  back : ∀ i, i < n → live h' i → live h i
/-- The tape as it was; draws go on. -/
def Tp (W' W : World) : Prop := W'.tape = W.tape ∧ W.drawn ≤ W'.drawn
theorem Tp.trans {A B C : World} (h : Tp A B) (g : Tp B C) : Tp A C := ⟨h.1.trans g.1, Nat.le_trans g.2 h.2⟩
/-- What is done to a world. -/
structure Sd (h : HT) (n : Nat) (h' : HT) (n' r w : Nat) (k : K) (W : World) (k' : K) (W' : World) : Prop where
  ext : ∀ i p, k i = some p → k' i = some p
  dom : ∀ i, i < n ∨ n' ≤ i → k' i = k i
  rep : HR k' h' W' (Nat.lor r w)
  frm : ∀ b, b < W.heap.size → (∀ j z, tb w j → live h j → k j ≠ some (b, z)) → W'.heap[b]? = W.heap[b]?
  fresh : ∀ i b z, n ≤ i → i < n' → live h' i → k' i = some (b, z) → W.heap.size ≤ b ∨ ∃ j z', tb w j ∧ j < n ∧ live h j ∧ ¬ live h' j ∧ k j = some (b, z')
  own : ∀ D : Nat → Prop, (∀ b, D b → b < W.heap.size) → (∀ i b z, k i = some (b, z) → ¬ D b) → ∀ i b z, k' i = some (b, z) → ¬ D b
  size : W.heap.size ≤ W'.heap.size
  os : W'.os = W.os
  tape : Tp W' W
  output : W'.output = W.output
theorem Ss.refl (h : HT) (n : Nat) : Ss h n h n 0 0 := ⟨Nat.le_refl _, fun h => h, fun _ _ => rfl, fun _ h => absurd h tb_zero, fun _ h => absurd h tb_zero, fun _ _ h => h⟩
theorem Sd.refl (h : HT) (n : Nat) (k : K) (W : World) : Sd h n h n 0 0 k W k W :=
  ⟨fun _ _ h => h, fun _ _ => rfl, HR.none, fun _ _ _ => rfl, fun _ _ _ h1 h2 => absurd h2 (by omega), fun _ _ h => h, Nat.le_refl _, rfl, ⟨rfl, Nat.le_refl _⟩, rfl⟩
theorem Ss.trans {h h1 h2 : HT} {n n1 n2 r1 w1 r2 w2 : Nat} (s : Ss h n h1 n1 r1 w1) (t : Ss h1 n1 h2 n2 r2 w2) : Ss h n h2 n2 (Nat.lor r1 r2) (Nat.lor w1 w2) where
  le := Nat.le_trans s.le t.le
  nn := fun h => t.nn (s.nn h)
  same := fun i hi => by rw [tb_or] at hi; rw [t.same i (fun h => hi (Or.inr h)), s.same i (fun h => hi (Or.inl h))]
  old := fun i hi hn => by
    rw [tb_or] at hi ⊢
    rcases hi with hi | hi
    · exact Or.inl (s.old i hi hn)
    · exact Or.inr (t.old i hi (Nat.lt_of_lt_of_le hn s.le))
  lt := fun i hi => by
    rw [tb_or] at hi
    rcases hi with hi | hi
    · exact Nat.lt_of_lt_of_le (s.lt i hi) t.le
    · exact t.lt i hi
  back := fun i hi hl => s.back i hi (t.back i (Nat.lt_of_lt_of_le hi s.le) hl)
section
variable {h h1 h2 : HT} {n n1 n2 r1 w1 r2 w2 x : Nat} {k k1 k2 : K} {W W1 W2 : World}
/-- Blocks that were not looked at stay beside those that were. -/
theorem Sd.next (s : Ss h n h1 n1 r1 w1) (d : Sd h n h1 n1 r1 w1 k W k1 W1) (nn : ∀ i, n ≤ i → hget h i = Option.none) (H : HR k h W (Nat.lor r1 x)) : HR k1 h1 W1 (Nat.lor (Nat.lor r1 w1) x) := by
  have lo : ∀ j, live h j → j < n := fun j hl => by
    rcases Nat.lt_or_ge j n with h' | h'
    · exact h'
    · exact absurd hl (not_live (nn j h'))
  have lo1 : ∀ j, live h1 j → j < n1 := fun j hl => by
    rcases Nat.lt_or_ge j n1 with h' | h'
    · exact h'
    · exact absurd hl (not_live (s.nn nn j h'))
  -- one that was not looked at, against one that was
  have mix : ∀ i j, ¬ tb (Nat.lor r1 w1) i → tb x i → (tb (Nat.lor r1 w1) j ∨ tb x j) → live h1 i → live h1 j → i ≠ j → ∀ b z b' z', k1 i = some (b, z) → k1 j = some (b', z') → b ≠ b' := by
    intro i j hi hxi hj li lj hne b z b' z' ki kj
    have hiw : ¬ tb w1 i := fun h => hi (tb_or.2 (Or.inr h))
    have li0 : live h i := by obtain ⟨cs, e⟩ := li; exact ⟨cs, by rw [← s.same i hiw]; exact e⟩
    have hin := lo i li0
    have ki0 : k i = some (b, z) := by rw [← d.dom i (Or.inl hin)]; exact ki
    rcases Nat.lt_or_ge j n with hjn | hjn
    · have lj0 := s.back j hjn lj
      have kj0 : k j = some (b', z') := by rw [← d.dom j (Or.inl hjn)]; exact kj
      refine H.inj i j (tb_or.2 (Or.inr hxi)) ?_ li0 lj0 hne b z b' z' ki0 kj0
      rcases hj with hj | hj
      · rcases tb_or.1 hj with hj | hj
        · exact tb_or.2 (Or.inl hj)
        · exact tb_or.2 (Or.inl (s.old j hj hjn))
      · exact tb_or.2 (Or.inr hj)
    · rcases d.fresh j b' z' hjn (lo1 j lj) lj kj with hb | ⟨j0, z0, hw0, hn0, hl0, _, hk0⟩
      · obtain ⟨b2, z2, e2, hlt⟩ := (H.rep i (tb_or.2 (Or.inr hxi))).lt li0
        rw [ki0] at e2; cases e2
        omega
      · exact H.inj i j0 (tb_or.2 (Or.inr hxi)) (tb_or.2 (Or.inl (s.old j0 hw0 hn0))) li0 hl0 (fun e => hiw (e ▸ hw0)) b z b' z0 ki0 hk0
  refine ⟨fun i hi => ?_, fun i j hi hj li lj hne b z b' z' ki kj => ?_⟩
  · by_cases hin : tb (Nat.lor r1 w1) i
    · exact d.rep.rep i hin
    · have hxi : tb x i := (tb_or.1 hi).resolve_left hin
      have hiw : ¬ tb w1 i := fun h => hin (tb_or.2 (Or.inr h))
      intro cs e
      rw [s.same i hiw] at e
      refine (H.rep i (tb_or.2 (Or.inr hxi)) cs e).mono (d.ext i) (fun b z e1 hb => ?_) (fun us => LX.mono d.ext)
      refine d.frm b hb (fun j z hj hl hk => ?_)
      exact H.inj i j (tb_or.2 (Or.inr hxi)) (tb_or.2 (Or.inl (s.old j hj (lo j hl)))) ⟨cs, e⟩ hl (fun e => hiw (e ▸ hj)) _ _ _ _ e1 hk rfl
  · by_cases hi' : tb (Nat.lor r1 w1) i
    · by_cases hj' : tb (Nat.lor r1 w1) j
      · exact d.rep.inj i j hi' hj' li lj hne b z b' z' ki kj
      · exact fun e => mix j i hj' ((tb_or.1 hj).resolve_left hj') (Or.inl hi') lj li (Ne.symm hne) b' z' b z kj ki e.symm
    · exact mix i j hi' ((tb_or.1 hi).resolve_left hi') (tb_or.1 hj) li lj hne b z b' z' ki kj
theorem Sd.trans (s : Ss h n h1 n1 r1 w1) (d : Sd h n h1 n1 r1 w1 k W k1 W1) (t : Ss h1 n1 h2 n2 r2 w2) (e : Sd h1 n1 h2 n2 r2 w2 k1 W1 k2 W2) (nn : ∀ i, n ≤ i → hget h i = Option.none) (H : HR k h W (Nat.lor r1 r2)) :
    Sd h n h2 n2 (Nat.lor r1 r2) (Nat.lor w1 w2) k W k2 W2 where
  ext := fun i p hp => e.ext i p (d.ext i p hp)
  dom := fun i hi => by
    have := s.le; have := t.le
    rw [e.dom i (by omega), d.dom i (by omega)]
  rep := by
    have H1 := Sd.next s d nn H
    have H2 := Sd.next (x := Nat.lor r1 w1) t e (s.nn nn) (H1.sub fun i hi => by rw [tb_or] at hi ⊢; exact hi.symm)
    refine H2.sub fun i hi => ?_
    simp only [tb_or] at hi ⊢
    rcases hi with (h | h) | (h | h)
    · exact Or.inr (Or.inl h)
    · exact Or.inl (Or.inl h)
    · exact Or.inr (Or.inr h)
    · exact Or.inl (Or.inr h)
  frm := fun b hb hj => by
    rw [e.frm b (Nat.lt_of_lt_of_le hb d.size) (fun j z hw hl hk => ?_), d.frm b hb (fun j z hw hl => hj j z (tb_or.2 (Or.inl hw)) hl)]
    rcases Nat.lt_or_ge j n with hjn | hjn
    · exact hj j z (tb_or.2 (Or.inr hw)) (s.back j hjn hl) (by rw [← d.dom j (Or.inl hjn)]; exact hk)
    · have hj1 : j < n1 := by
        rcases Nat.lt_or_ge j n1 with h' | h'
        · exact h'
        · exact absurd hl (not_live (s.nn nn j h'))
      rcases d.fresh j b z hjn hj1 hl hk with h' | ⟨j0, z0, a1, a2, a3, _, a5⟩
      · omega
      · exact hj j0 z0 (tb_or.2 (Or.inl a1)) a3 a5
  fresh := fun i b z hi hi2 hl hk => by
    rcases Nat.lt_or_ge i n1 with h1' | h1'
    · have hk1 : k1 i = some (b, z) := by rw [← e.dom i (Or.inl h1')]; exact hk
      rcases d.fresh i b z hi h1' (t.back i h1' hl) hk1 with h' | ⟨j0, z0, a1, a2, a3, a4, a5⟩
      · exact Or.inl h'
      · exact Or.inr ⟨j0, z0, tb_or.2 (Or.inl a1), a2, a3, fun h => a4 (t.back j0 (Nat.lt_of_lt_of_le a2 s.le) h), a5⟩
    · rcases e.fresh i b z h1' hi2 hl hk with h' | ⟨j, z', b1, b2, b3, b4, b5⟩
      · exact Or.inl (Nat.le_trans d.size h')
      · rcases Nat.lt_or_ge j n with hjn | hjn
        · exact Or.inr ⟨j, z', tb_or.2 (Or.inr b1), hjn, s.back j hjn b3, b4, by rw [← d.dom j (Or.inl hjn)]; exact b5⟩
        · rcases d.fresh j b z' hjn b2 b3 b5 with h' | ⟨j0, z0, a1, a2, a3, a4, a5⟩
          · exact Or.inl h'
          · exact Or.inr ⟨j0, z0, tb_or.2 (Or.inl a1), a2, a3, fun h => a4 (t.back j0 (Nat.lt_of_lt_of_le a2 s.le) h), a5⟩
  own := fun D hD hk => e.own D (fun b hb => Nat.lt_of_lt_of_le (hD b hb) d.size) (d.own D hD hk)
  size := Nat.le_trans d.size e.size
  os := e.os.trans d.os
  tape := e.tape.trans d.tape
  output := e.output.trans d.output
end
end S
end Go.Proofs.YtfmfeipeeedfpaaGreat
