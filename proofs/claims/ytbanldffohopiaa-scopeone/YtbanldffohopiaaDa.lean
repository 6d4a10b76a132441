/-
  Definitions that came in: reading them; that they stay where only maps are written.
-/
import Derived.Test.YtbanldffohopiaaDat
import Derived.Test.YtbanldffohopiaaB1
import Derived.ReadAgain
import Derived.WideKeyArgs
namespace Go.Proofs.Ytbanldffohopiaa
open Go.ChangeShapes Go.WideShapes Go.ChangeAt Go.RowKit
/-- Each cell that was there is as it was. -/
structure Kp (w w' : World) : Prop where
  size : w.heap.size ≤ w'.heap.size
  cell : ∀ k o v, w.cell? ⟨k, o, none⟩ = some v → w'.cell? ⟨k, o, none⟩ = some v
theorem Kp.trans {a b c : World} (h : Kp a b) (k : Kp b c) : Kp a c := ⟨Nat.le_trans h.size k.size, fun x o v e => k.cell x o v (h.cell x o v e)⟩
theorem cell_lt {w : World} {k o : Nat} {v : Value} (h : w.cell? ⟨k, o, none⟩ = some v) : k < w.heap.size := by
  rcases Nat.lt_or_ge k w.heap.size with hk | hk
  · exact hk
  · have h2 : w.heap[k]? = none := Array.getElem?_eq_none hk
    simp [World.cell?, h2] at h
theorem Mo.kp {w w' : World} (m : Mo w w') : Kp w w' := ⟨m.size, fun k o _ e => (m.cell k o (cell_lt e)).trans e⟩
theorem Mk.kp {D : Nat → Prop} {w w' : World} (m : Mk D w w') (hD : ∀ k, D k → ∀ o, w.cell? ⟨k, o, none⟩ = none) : Kp w w' := ⟨m.size, fun k o _ e => (World.cell?_of_block (a := ⟨k, o, none⟩) (m.block k (cell_lt e) (fun d => by rw [hD k d o] at e; cases e))).trans e⟩
theorem At.kp {w w' : World} {k : Nat} {vs : List Value} (h : At w k vs) (m : Kp w w') (hf : ∀ a, w'.frozen? a = w.frozen? a) : At w' k vs := ⟨fun j v hv => m.cell _ _ _ (h.1 j v hv), fun o => (hf _).trans (h.2.1 o), Nat.lt_of_lt_of_le h.2.2 m.size⟩
namespace D
theorem rangeAt_kp {W W' : World} {b o : Nat} {cs : List Value} (h : W.rangeAt b o cs) (m : Kp W W') : W'.rangeAt b o cs := fun j v hv => m.cell _ _ _ (h j v hv)
theorem SL.kp {W W' : World} {n : Nat} {α : Type} {cells : α → List Value} {pa : Option Addr} {L : List α} (h : SL W n cells pa L) (m : Kp W W') : SL W' n cells pa L := ⟨h.1, fun i o e => by
  obtain ⟨b, off, hp, hb, hr⟩ := h.2 i o e
  exact ⟨b, off, hp, Nat.lt_of_lt_of_le hb m.size, rangeAt_kp hr m⟩⟩
theorem LEx.kp {W W' : World} (m : Kp W W') {e : Ex} (h : LEx W e) : LEx W' e :=
  Ex.ind (M := fun e => LEx W e → LEx W' e) (fun _ _ _ _ _ _ _ _ _ _ ih h => .mk h.nm h.se (h.sl.kp m) (fun o ho => ih o ho (h.ar o ho))) e h
theorem LSe.kp {W W' : World} (m : Kp W W') {e : Se} (h : LSe W e) : LSe W' e :=
  Se.ind (M := fun e => LSe W e → LSe W' e) (fun _ _ _ _ _ _ _ _ ih h => .mk (h.it.kp m) (fun o ho => (h.ex o ho).kp m) (h.kd.kp m) (fun o ho => ih o ho (h.kr o ho))) e h
theorem LS5.kp {W W' : World} (m : Kp W W') {x : S5} (h : LS5 W x) : LS5 W' x := ⟨h.it.kp m, fun o ho => (h.ex o ho).kp m⟩
theorem LDf.kp {W W' : World} (m : Kp W W') {x : Df} (h : LDf W x) : LDf W' x :=
  ⟨h.rt.kp m, h.tb.kp m, fun o ho => (h.st o ho).kp m, h.pg.kp m, fun o ho => (h.wh o ho).kp m, fun o ho => (h.it o ho).kp m, h.iz⟩
section runs
variable {P : Program} {w : World} {b o : Nat} {cs : List Value}
theorem run_rowR (h : w.rangeAt b o cs) (ty : TypeId) {d : TypeDesc} (hu : P.underlying ty = some d) (hd : d.isRow = true) (hi : (P.info? ty).map (·.size) = some cs.length) :
    (Instr.loadAt ty (pt b o)).run P w = .ok (.agg cs.toArray) w := run_loadAt_mid w b o ty cs d (fun j v hv => h j v hv) hu hd hi
theorem run_partR (h : w.rangeAt b o cs) (ty : TypeId) (j n : Nat) (us : List Value) (hus : us = (cs.drop j).take n) {d : TypeDesc} (hu : P.underlying ty = some d) (hd : d.isRow = true) (hi : (P.info? ty).map (·.size) = some us.length) :
    (Instr.loadAt ty (pt b (o + j))).run P w = .ok (.agg us.toArray) w := by
  refine run_rowR (fun i v hv => ?_) ty hu hd hi
  subst hus
  rw [List.getElem?_take] at hv
  split at hv
  · rw [List.getElem?_drop] at hv
    have := h (j + i) v hv
    rw [show o + j + i = o + (j + i) by omega]; exact this
  · cases hv
theorem run_oneR (h : w.rangeAt b o cs) (ty : TypeId) (j : Nat) {v : Value} (hv : cs[j]? = some v) {d : TypeDesc} (hu : P.underlying ty = some d) (hd : d.isRow = false) :
    (Instr.loadAt ty (pt b (o + j))).run P w = .ok v w := by
  have hagg : (isAgg ty).run P w = .ok false w := by
    unfold isAgg
    rw [Sem.run_bind, run_underlying hu w]
    cases d <;> simp_all
  have hc := h j v hv
  simp [Instr.loadAt, Instr.sureAddr, loadVar, Sem.run_bind, hagg, hc]
end runs
/-- Cells lie at a place of a block that was there. -/
structure Rw (w : World) (b o : Nat) (cs : List Value) : Prop where
  lt : b < w.heap.size
  at' : w.rangeAt b o cs
theorem Rw.kp {w w' : World} {b o : Nat} {cs : List Value} (h : Rw w b o cs) (m : Kp w w') : Rw w' b o cs := ⟨Nat.lt_of_lt_of_le h.lt m.size, rangeAt_kp h.at' m⟩
theorem Rw.mo {w w' : World} {b o : Nat} {cs : List Value} (h : Rw w b o cs) (m : Mo w w') : Rw w' b o cs := h.kp m.kp
theorem SL.rw {W : World} {n : Nat} {α : Type} {cells : α → List Value} {pa : Option Addr} {L : List α} (h : SL W n cells pa L) {i : Nat} {o : α} (e : L[i]? = some o) : ∃ b off, pa = some ⟨b, off, none⟩ ∧ Rw W b (off + i * n) (cells o) := by
  obtain ⟨b, off, hp, hb, hr⟩ := h.2 i o e
  exact ⟨b, off, hp, hb, hr⟩
theorem ix22 {pa : Option Addr} {b off i n c : Nat} (hp : pa = some ⟨b, off, none⟩) (h : i < n) (w : World) : (Instr.indexAt 22 (.slice pa n c) (.int .i64 (i : Int))).run Try.prog w = .ok (pt b (off + i * 23)) w := by
  subst hp
  have e : (Instr.indexAt 22 (.slice (some ⟨b, off, none⟩) n c) (.int .i64 (i : Int))).run Try.prog w = .ok (.pointer (some ((⟨b, off, none⟩ : Addr).add (i * 23)))) w := by simp [go_sem, h]
  rw [e, Addr.add_mid]
theorem len22 (ρ : Operand → Value) (x : Operand) (p : Option Addr) (m c : Nat) (hx : ρ x = .slice p m c) (dst : Option Tmp) (type : TypeId) (pos : String) (after : Array Edge) (guard : Option (Nat × Bool)) (w : World) : (execOp ρ { dst, op := .call { callee := .builtin .len, args := #[x], argTypes := #[22] }, type, pos, after, guard }).run Try.prog w = .ok (.value (.int .i64 (m : Int))) w := by
  simp [go_sem, hx]
theorem ix23 {pa : Option Addr} {b off i n c : Nat} (hp : pa = some ⟨b, off, none⟩) (h : i < n) (w : World) : (Instr.indexAt 23 (.slice pa n c) (.int .i64 (i : Int))).run Try.prog w = .ok (pt b (off + i * 4)) w := by
  subst hp
  have e : (Instr.indexAt 23 (.slice (some ⟨b, off, none⟩) n c) (.int .i64 (i : Int))).run Try.prog w = .ok (.pointer (some ((⟨b, off, none⟩ : Addr).add (i * 4)))) w := by simp [go_sem, h]
  rw [e, Addr.add_mid]
theorem len23 (ρ : Operand → Value) (x : Operand) (p : Option Addr) (m c : Nat) (hx : ρ x = .slice p m c) (dst : Option Tmp) (type : TypeId) (pos : String) (after : Array Edge) (guard : Option (Nat × Bool)) (w : World) : (execOp ρ { dst, op := .call { callee := .builtin .len, args := #[x], argTypes := #[23] }, type, pos, after, guard }).run Try.prog w = .ok (.value (.int .i64 (m : Int))) w := by
  simp [go_sem, hx]
theorem ix26 {pa : Option Addr} {b off i n c : Nat} (hp : pa = some ⟨b, off, none⟩) (h : i < n) (w : World) : (Instr.indexAt 26 (.slice pa n c) (.int .i64 (i : Int))).run Try.prog w = .ok (pt b (off + i * 2)) w := by
  subst hp
  have e : (Instr.indexAt 26 (.slice (some ⟨b, off, none⟩) n c) (.int .i64 (i : Int))).run Try.prog w = .ok (.pointer (some ((⟨b, off, none⟩ : Addr).add (i * 2)))) w := by simp [go_sem, h]
  rw [e, Addr.add_mid]
theorem len26 (ρ : Operand → Value) (x : Operand) (p : Option Addr) (m c : Nat) (hx : ρ x = .slice p m c) (dst : Option Tmp) (type : TypeId) (pos : String) (after : Array Edge) (guard : Option (Nat × Bool)) (w : World) : (execOp ρ { dst, op := .call { callee := .builtin .len, args := #[x], argTypes := #[26] }, type, pos, after, guard }).run Try.prog w = .ok (.value (.int .i64 (m : Int))) w := by
  simp [go_sem, hx]
theorem ix27 {pa : Option Addr} {b off i n c : Nat} (hp : pa = some ⟨b, off, none⟩) (h : i < n) (w : World) : (Instr.indexAt 27 (.slice pa n c) (.int .i64 (i : Int))).run Try.prog w = .ok (pt b (off + i * 19)) w := by
  subst hp
  have e : (Instr.indexAt 27 (.slice (some ⟨b, off, none⟩) n c) (.int .i64 (i : Int))).run Try.prog w = .ok (.pointer (some ((⟨b, off, none⟩ : Addr).add (i * 19)))) w := by simp [go_sem, h]
  rw [e, Addr.add_mid]
theorem len27 (ρ : Operand → Value) (x : Operand) (p : Option Addr) (m c : Nat) (hx : ρ x = .slice p m c) (dst : Option Tmp) (type : TypeId) (pos : String) (after : Array Edge) (guard : Option (Nat × Bool)) (w : World) : (execOp ρ { dst, op := .call { callee := .builtin .len, args := #[x], argTypes := #[27] }, type, pos, after, guard }).run Try.prog w = .ok (.value (.int .i64 (m : Int))) w := by
  simp [go_sem, hx]
theorem ix37 {pa : Option Addr} {b off i n c : Nat} (hp : pa = some ⟨b, off, none⟩) (h : i < n) (w : World) : (Instr.indexAt 37 (.slice pa n c) (.int .i64 (i : Int))).run Try.prog w = .ok (pt b (off + i * 5)) w := by
  subst hp
  have e : (Instr.indexAt 37 (.slice (some ⟨b, off, none⟩) n c) (.int .i64 (i : Int))).run Try.prog w = .ok (.pointer (some ((⟨b, off, none⟩ : Addr).add (i * 5)))) w := by simp [go_sem, h]
  rw [e, Addr.add_mid]
theorem len37 (ρ : Operand → Value) (x : Operand) (p : Option Addr) (m c : Nat) (hx : ρ x = .slice p m c) (dst : Option Tmp) (type : TypeId) (pos : String) (after : Array Edge) (guard : Option (Nat × Bool)) (w : World) : (execOp ρ { dst, op := .call { callee := .builtin .len, args := #[x], argTypes := #[37] }, type, pos, after, guard }).run Try.prog w = .ok (.value (.int .i64 (m : Int))) w := by
  simp [go_sem, hx]
theorem ix45 {pa : Option Addr} {b off i n c : Nat} (hp : pa = some ⟨b, off, none⟩) (h : i < n) (w : World) : (Instr.indexAt 45 (.slice pa n c) (.int .i64 (i : Int))).run Try.prog w = .ok (pt b (off + i * 1)) w := by
  subst hp
  have e : (Instr.indexAt 45 (.slice (some ⟨b, off, none⟩) n c) (.int .i64 (i : Int))).run Try.prog w = .ok (.pointer (some ((⟨b, off, none⟩ : Addr).add (i * 1)))) w := by simp [go_sem, h]
  rw [e, Addr.add_mid]
theorem len45 (ρ : Operand → Value) (x : Operand) (p : Option Addr) (m c : Nat) (hx : ρ x = .slice p m c) (dst : Option Tmp) (type : TypeId) (pos : String) (after : Array Edge) (guard : Option (Nat × Bool)) (w : World) : (execOp ρ { dst, op := .call { callee := .builtin .len, args := #[x], argTypes := #[45] }, type, pos, after, guard }).run Try.prog w = .ok (.value (.int .i64 (m : Int))) w := by
  simp [go_sem, hx]
theorem ix62 {pa : Option Addr} {b off i n c : Nat} (hp : pa = some ⟨b, off, none⟩) (h : i < n) (w : World) : (Instr.indexAt 62 (.slice pa n c) (.int .i64 (i : Int))).run Try.prog w = .ok (pt b (off + i * 17)) w := by
  subst hp
  have e : (Instr.indexAt 62 (.slice (some ⟨b, off, none⟩) n c) (.int .i64 (i : Int))).run Try.prog w = .ok (.pointer (some ((⟨b, off, none⟩ : Addr).add (i * 17)))) w := by simp [go_sem, h]
  rw [e, Addr.add_mid]
theorem len62 (ρ : Operand → Value) (x : Operand) (p : Option Addr) (m c : Nat) (hx : ρ x = .slice p m c) (dst : Option Tmp) (type : TypeId) (pos : String) (after : Array Edge) (guard : Option (Nat × Bool)) (w : World) : (execOp ρ { dst, op := .call { callee := .builtin .len, args := #[x], argTypes := #[62] }, type, pos, after, guard }).run Try.prog w = .ok (.value (.int .i64 (m : Int))) w := by
  simp [go_sem, hx]
theorem ix73 {pa : Option Addr} {b off i n c : Nat} (hp : pa = some ⟨b, off, none⟩) (h : i < n) (w : World) : (Instr.indexAt 73 (.slice pa n c) (.int .i64 (i : Int))).run Try.prog w = .ok (pt b (off + i * 1)) w := by
  subst hp
  have e : (Instr.indexAt 73 (.slice (some ⟨b, off, none⟩) n c) (.int .i64 (i : Int))).run Try.prog w = .ok (.pointer (some ((⟨b, off, none⟩ : Addr).add (i * 1)))) w := by simp [go_sem, h]
  rw [e, Addr.add_mid]
theorem len73 (ρ : Operand → Value) (x : Operand) (p : Option Addr) (m c : Nat) (hx : ρ x = .slice p m c) (dst : Option Tmp) (type : TypeId) (pos : String) (after : Array Edge) (guard : Option (Nat × Bool)) (w : World) : (execOp ρ { dst, op := .call { callee := .builtin .len, args := #[x], argTypes := #[73] }, type, pos, after, guard }).run Try.prog w = .ok (.value (.int .i64 (m : Int))) w := by
  simp [go_sem, hx]
theorem ix81 {pa : Option Addr} {b off i n c : Nat} (hp : pa = some ⟨b, off, none⟩) (h : i < n) (w : World) : (Instr.indexAt 81 (.slice pa n c) (.int .i64 (i : Int))).run Try.prog w = .ok (pt b (off + i * 1)) w := by
  subst hp
  have e : (Instr.indexAt 81 (.slice (some ⟨b, off, none⟩) n c) (.int .i64 (i : Int))).run Try.prog w = .ok (.pointer (some ((⟨b, off, none⟩ : Addr).add (i * 1)))) w := by simp [go_sem, h]
  rw [e, Addr.add_mid]
theorem len81 (ρ : Operand → Value) (x : Operand) (p : Option Addr) (m c : Nat) (hx : ρ x = .slice p m c) (dst : Option Tmp) (type : TypeId) (pos : String) (after : Array Edge) (guard : Option (Nat × Bool)) (w : World) : (execOp ρ { dst, op := .call { callee := .builtin .len, args := #[x], argTypes := #[81] }, type, pos, after, guard }).run Try.prog w = .ok (.value (.int .i64 (m : Int))) w := by
  simp [go_sem, hx]
theorem ix83 {pa : Option Addr} {b off i n c : Nat} (hp : pa = some ⟨b, off, none⟩) (h : i < n) (w : World) : (Instr.indexAt 83 (.slice pa n c) (.int .i64 (i : Int))).run Try.prog w = .ok (pt b (off + i * 18)) w := by
  subst hp
  have e : (Instr.indexAt 83 (.slice (some ⟨b, off, none⟩) n c) (.int .i64 (i : Int))).run Try.prog w = .ok (.pointer (some ((⟨b, off, none⟩ : Addr).add (i * 18)))) w := by simp [go_sem, h]
  rw [e, Addr.add_mid]
theorem len83 (ρ : Operand → Value) (x : Operand) (p : Option Addr) (m c : Nat) (hx : ρ x = .slice p m c) (dst : Option Tmp) (type : TypeId) (pos : String) (after : Array Edge) (guard : Option (Nat × Bool)) (w : World) : (execOp ρ { dst, op := .call { callee := .builtin .len, args := #[x], argTypes := #[83] }, type, pos, after, guard }).run Try.prog w = .ok (.value (.int .i64 (m : Int))) w := by
  simp [go_sem, hx]
theorem ix92 {pa : Option Addr} {b off i n c : Nat} (hp : pa = some ⟨b, off, none⟩) (h : i < n) (w : World) : (Instr.indexAt 92 (.slice pa n c) (.int .i64 (i : Int))).run Try.prog w = .ok (pt b (off + i * 1)) w := by
  subst hp
  have e : (Instr.indexAt 92 (.slice (some ⟨b, off, none⟩) n c) (.int .i64 (i : Int))).run Try.prog w = .ok (.pointer (some ((⟨b, off, none⟩ : Addr).add (i * 1)))) w := by simp [go_sem, h]
  rw [e, Addr.add_mid]
theorem len92 (ρ : Operand → Value) (x : Operand) (p : Option Addr) (m c : Nat) (hx : ρ x = .slice p m c) (dst : Option Tmp) (type : TypeId) (pos : String) (after : Array Edge) (guard : Option (Nat × Bool)) (w : World) : (execOp ρ { dst, op := .call { callee := .builtin .len, args := #[x], argTypes := #[92] }, type, pos, after, guard }).run Try.prog w = .ok (.value (.int .i64 (m : Int))) w := by
  simp [go_sem, hx]
theorem ix78 {pa : Option Addr} {b off i n c : Nat} (hp : pa = some ⟨b, off, none⟩) (h : i < n) (w : World) : (Instr.indexAt 78 (.slice pa n c) (.int .i64 (i : Int))).run Try.prog w = .ok (pt b (off + i * 1)) w := by
  subst hp
  have e : (Instr.indexAt 78 (.slice (some ⟨b, off, none⟩) n c) (.int .i64 (i : Int))).run Try.prog w = .ok (.pointer (some ((⟨b, off, none⟩ : Addr).add (i * 1)))) w := by simp [go_sem, h]
  rw [e, Addr.add_mid]
theorem len78 (ρ : Operand → Value) (x : Operand) (p : Option Addr) (m c : Nat) (hx : ρ x = .slice p m c) (dst : Option Tmp) (type : TypeId) (pos : String) (after : Array Edge) (guard : Option (Nat × Bool)) (w : World) : (execOp ρ { dst, op := .call { callee := .builtin .len, args := #[x], argTypes := #[78] }, type, pos, after, guard }).run Try.prog w = .ok (.value (.int .i64 (m : Int))) w := by
  simp [go_sem, hx]
end D
theorem sz3 : (Try.prog.info? 3).map (·.size) = some 1 := by kernel_rfl
theorem sz4 : (Try.prog.info? 4).map (·.size) = some 1 := by kernel_rfl
theorem sz9 : (Try.prog.info? 9).map (·.size) = some 1 := by kernel_rfl
theorem sz22 : (Try.prog.info? 22).map (·.size) = some 1 := by kernel_rfl
theorem sz23 : (Try.prog.info? 23).map (·.size) = some 1 := by kernel_rfl
theorem sz25 : (Try.prog.info? 25).map (·.size) = some 4 := by kernel_rfl
theorem sz26 : (Try.prog.info? 26).map (·.size) = some 1 := by kernel_rfl
theorem sz27 : (Try.prog.info? 27).map (·.size) = some 1 := by kernel_rfl
theorem sz29 : (Try.prog.info? 29).map (·.size) = some 7 := by kernel_rfl
theorem sz33 : (Try.prog.info? 33).map (·.size) = some 5 := by kernel_rfl
theorem sz34 : (Try.prog.info? 34).map (·.size) = some 1 := by kernel_rfl
theorem sz37 : (Try.prog.info? 37).map (·.size) = some 1 := by kernel_rfl
theorem sz45 : (Try.prog.info? 45).map (·.size) = some 1 := by kernel_rfl
theorem sz52 : (Try.prog.info? 52).map (·.size) = some 5 := by kernel_rfl
theorem sz62 : (Try.prog.info? 62).map (·.size) = some 1 := by kernel_rfl
theorem sz64 : (Try.prog.info? 64).map (·.size) = some 17 := by kernel_rfl
theorem sz66 : (Try.prog.info? 66).map (·.size) = some 23 := by kernel_rfl
theorem sz72 : (Try.prog.info? 72).map (·.size) = some 1 := by kernel_rfl
theorem sz85 : (Try.prog.info? 85).map (·.size) = some 2 := by kernel_rfl
theorem sz90 : (Try.prog.info? 90).map (·.size) = some 19 := by kernel_rfl
theorem sz91 : (Try.prog.info? 91).map (·.size) = some 1 := by kernel_rfl
theorem sz92 : (Try.prog.info? 92).map (·.size) = some 1 := by kernel_rfl
theorem sz94 : (Try.prog.info? 94).map (·.size) = some 11 := by kernel_rfl
theorem sz106 : (Try.prog.info? 106).map (·.size) = some 1 := by kernel_rfl
theorem sz83 : (Try.prog.info? 83).map (·.size) = some 1 := by kernel_rfl
theorem sz81 : (Try.prog.info? 81).map (·.size) = some 1 := by kernel_rfl
theorem sz50 : (Try.prog.info? 50).map (·.size) = some 1 := by kernel_rfl
theorem sz78 : (Try.prog.info? 78).map (·.size) = some 1 := by kernel_rfl
namespace D
theorem laidOut : laidOutB Try.prog = true := by kernel_rfl
/-- What came in reads as it did, where its places are the same. -/
theorem trodAll_stays {H : Type} {enc : TypeId × Value → H} {W W' : World} {sp' : Nat → Bool} : ∀ {ts : List TypeId} {vs : List Value} {ds : List (DataW H)} {ps : List MemPlace}, (∀ t ∈ ts, Try.prog.readableRec t = true ∧ t < Try.prog.types.size) → DataW.TrodAll enc Try.prog W 0 (fun _ => true) true ts vs ds ps → (∀ p ∈ ps, W.sameAt W' p) → (∀ p ∈ ps, sp' p.block = true) → DataW.TrodAll enc Try.prog W' 0 sp' true ts vs ds ps
  | [], [], [], _, _, h, _, _ => h
  | _ :: _, _ :: _, _ :: _, _, hT, ⟨p, q, h1, h2, e⟩, hm, hs => ⟨p, q, WideElems.Trod_stays laidOut (hT _ (List.mem_cons.2 (Or.inl rfl))).1 (hT _ (List.mem_cons.2 (Or.inl rfl))).2 h1 (fun x hx => hm x (by rw [e]; exact List.mem_append_left _ hx)) (fun x hx => hs x (by rw [e]; exact List.mem_append_left _ hx)),
      trodAll_stays (fun t ht => hT t (List.mem_cons.2 (Or.inr ht))) h2 (fun x hx => hm x (by rw [e]; exact List.mem_append_right _ hx)) (fun x hx => hs x (by rw [e]; exact List.mem_append_right _ hx)), e⟩
theorem rd_def : Try.prog.readableRec 29 = true ∧ 29 < Try.prog.types.size := ⟨by kernel_rfl, of_decide_eq_true (by kernel_rfl)⟩
theorem rd_str : Try.prog.readableRec 9 = true ∧ 9 < Try.prog.types.size := ⟨by kernel_rfl, of_decide_eq_true (by kernel_rfl)⟩
section
variable {H : Type} {enc : TypeId × Value → H} {W : World} {base : Nat} {v : Value} {d : DataW H} {p : List MemPlace}
set_option maxRecDepth 100000 in
theorem open_def (hv : Value.okWide Try.prog W .any base 29 v) (h : DataW.Trod enc Try.prog W 0 (fun _ => true) true 29 v d p) : ∃ x : Df, v = .agg x.cells.toArray ∧ LDf W x := by
  obtain ⟨a, rfl, _⟩ := okWide_struct Try.underlying29 hv
  obtain ⟨fuel, hf⟩ := h
  obtain ⟨x, hx, e⟩ := cut_def hf
  exact ⟨x, by have e2 : a = x.cells.toArray := (by rw [← e]; simp [Value.cells]); rw [e2], hx⟩
end
end D
end Go.Proofs.Ytbanldffohopiaa
