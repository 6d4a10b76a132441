/-
  Definitions that came in: reading them; that they stay where only maps are written. What scope's calls say, over lists; what a checker holds, and that it lies there. Elements put behind a slice of one's own; a definition's sections, flat. The sections, flat. The sections, flat: what they are; what newChecker lays. flat, newChecker.
-/
import Derived.Test.YtepfokoepibkcaaGreatK6
import Derived.ReadAgain
import Derived.WideKeyArgs
import Derived.Maps.AppendAt
namespace Go.Proofs.YtepfokoepibkcaaGreat
open Go.ChangeShapes Go.WideShapes Go.ChangeAt Go.RowKit
namespace D
section runs
variable {P : Program} {w : World} {b o : Nat} {cs : List Value}
end runs
theorem ix22 {pa : Option Addr} {b off i n c : Nat} (hp : pa = some ⟨b, off, none⟩) (h : i < n) (w : World) : (Instr.indexAt 22 (.slice pa n c) (.int .i64 (i : Int))).run Tryz.prog w = .ok (pt b (off + i * 23)) w := by
  subst hp
  have e : (Instr.indexAt 22 (.slice (some ⟨b, off, none⟩) n c) (.int .i64 (i : Int))).run Tryz.prog w = .ok (.pointer (some ((⟨b, off, none⟩ : Addr).add (i * 23)))) w := by simp [go_sem, h]
  rw [e, Addr.add_mid]
theorem len22 (ρ : Operand → Value) (x : Operand) (p : Option Addr) (m c : Nat) (hx : ρ x = .slice p m c) (dst : Option Tmp) (type : TypeId) (pos : String) (after : Array Edge) (guard : Option (Nat × Bool)) (w : World) : (execOp ρ { dst, op := .call { callee := .builtin .len, args := #[x], argTypes := #[22] }, type, pos, after, guard }).run Tryz.prog w = .ok (.value (.int .i64 (m : Int))) w := by
  simp [go_sem, hx]
theorem ix23 {pa : Option Addr} {b off i n c : Nat} (hp : pa = some ⟨b, off, none⟩) (h : i < n) (w : World) : (Instr.indexAt 23 (.slice pa n c) (.int .i64 (i : Int))).run Tryz.prog w = .ok (pt b (off + i * 4)) w := by
  subst hp
  have e : (Instr.indexAt 23 (.slice (some ⟨b, off, none⟩) n c) (.int .i64 (i : Int))).run Tryz.prog w = .ok (.pointer (some ((⟨b, off, none⟩ : Addr).add (i * 4)))) w := by simp [go_sem, h]
  rw [e, Addr.add_mid]
theorem len23 (ρ : Operand → Value) (x : Operand) (p : Option Addr) (m c : Nat) (hx : ρ x = .slice p m c) (dst : Option Tmp) (type : TypeId) (pos : String) (after : Array Edge) (guard : Option (Nat × Bool)) (w : World) : (execOp ρ { dst, op := .call { callee := .builtin .len, args := #[x], argTypes := #[23] }, type, pos, after, guard }).run Tryz.prog w = .ok (.value (.int .i64 (m : Int))) w := by
  simp [go_sem, hx]
theorem ix37 {pa : Option Addr} {b off i n c : Nat} (hp : pa = some ⟨b, off, none⟩) (h : i < n) (w : World) : (Instr.indexAt 37 (.slice pa n c) (.int .i64 (i : Int))).run Tryz.prog w = .ok (pt b (off + i * 5)) w := by
  subst hp
  have e : (Instr.indexAt 37 (.slice (some ⟨b, off, none⟩) n c) (.int .i64 (i : Int))).run Tryz.prog w = .ok (.pointer (some ((⟨b, off, none⟩ : Addr).add (i * 5)))) w := by simp [go_sem, h]
  rw [e, Addr.add_mid]
theorem len37 (ρ : Operand → Value) (x : Operand) (p : Option Addr) (m c : Nat) (hx : ρ x = .slice p m c) (dst : Option Tmp) (type : TypeId) (pos : String) (after : Array Edge) (guard : Option (Nat × Bool)) (w : World) : (execOp ρ { dst, op := .call { callee := .builtin .len, args := #[x], argTypes := #[37] }, type, pos, after, guard }).run Tryz.prog w = .ok (.value (.int .i64 (m : Int))) w := by
  simp [go_sem, hx]
end D
theorem sz22 : (Tryz.prog.info? 22).map (·.size) = some 1 := by kernel_rfl
theorem sz25 : (Tryz.prog.info? 25).map (·.size) = some 4 := by kernel_rfl
theorem sz37 : (Tryz.prog.info? 37).map (·.size) = some 1 := by kernel_rfl
theorem sz54 : (Tryz.prog.info? 54).map (·.size) = some 23 := by kernel_rfl
theorem sz106 : (Tryz.prog.info? 106).map (·.size) = some 1 := by kernel_rfl
namespace D
section
variable {H : Type} {enc : TypeId × Value → H} {W : World} {base : Nat} {v : Value} {d : DataW H} {p : List MemPlace}
end
end D
end Go.Proofs.YtepfokoepibkcaaGreat
namespace Go.Proofs.YtepfokoepibkcaaGreat
open Go.RowKit D
/-- Parents stand ahead. -/
def Wf3 (L : List S5) : Prop := ∀ (i : Nat) (x : S5), L[i]? = some x → x.pr < i ∧ -1 ≤ x.pr ∧ (0 < i → 0 ≤ x.pr)
/-! A checker. -/
end Go.Proofs.YtepfokoepibkcaaGreat
namespace Go.Proofs.YtepfokoepibkcaaGreat
open Go.RowKit D
theorem inf40 : ∃ i, Tryz.prog.info? 40 = some i ∧ i.zero = some (.agg #[.int .i64 0, .int .i64 0, .string ⟨#[]⟩, .int .i64 0, .slice none 0 0]) ∧ i.size = 5 ∧ i.bytes = 64 := by
  have h : (Tryz.prog.info? 40).map (fun i => (i.zero, i.size, i.bytes)) = some (some (.agg #[.int .i64 0, .int .i64 0, .string ⟨#[]⟩, .int .i64 0, .slice none 0 0]), 5, 64) := by kernel_rfl
  cases hi : Tryz.prog.info? 40 with
  | none => rw [hi] at h; cases h
  | some i =>
    rw [hi] at h
    simp at h
    exact ⟨i, rfl, h.1, h.2.1, h.2.2⟩
section
variable {o : Oper} {n : Nat} {l : List (Nat × Value)} {w : World} {ops : Array Oper} {rest : List Oper} {Q : Exit → Act → World → Prop}
end
/-! Flat. -/
def flt : Se → List S5 → Int → Int → List S5
  | .mk nm mx pi ci items pk ck kids, acc, p, dp => if 64 ≤ acc.length ∨ 16 < dp then acc else kids.foldl (fun a k => flt k a acc.length (dp + 1)) (acc ++ [⟨p, dp, nm, mx, pi, ci, items⟩])
theorem flt_eq : ∀ (s : Se) (acc : List S5) (p dp : Int), flt s acc p dp = if 64 ≤ acc.length ∨ 16 < dp then acc else s.kids.foldl (fun a k => flt k a acc.length (dp + 1)) (acc ++ [⟨p, dp, s.nm, s.mx, s.pi, s.ci, s.items⟩])
  | .mk nm mx pi ci items pk ck kids, acc, p, dp => by
    rw [flt]
theorem D.Se.ind2 {M : Se → Prop} (h : ∀ x : Se, (∀ o ∈ x.kids, M o) → M x) : ∀ e, M e := Se.ind (fun nm mx pi ci items pk ck kids ih => h (.mk nm mx pi ci items pk ck kids) ih)
theorem flt_len : ∀ (s : Se) (acc : List S5) (p dp : Int), acc.length ≤ 64 → (flt s acc p dp).length ≤ 64 := by
  refine Se.ind2 ?_
  intro s ih acc p dp ha
  rw [flt_eq]
  split
  · exact ha
  · rename_i hc
    have h0 : (acc ++ [(⟨p, dp, s.nm, s.mx, s.pi, s.ci, s.items⟩ : S5)]).length ≤ 64 := by simp; omega
    have key : ∀ (l : List Se), (∀ o ∈ l, o ∈ s.kids) → ∀ b : List S5, b.length ≤ 64 → (l.foldl (fun a k => flt k a acc.length (dp + 1)) b).length ≤ 64 := by
      intro l
      induction l with
      | nil => intro _ b hb; exact hb
      | cons x l ihl => intro hl b hb; rw [List.foldl_cons]; exact ihl (fun o ho => hl o (List.mem_cons_of_mem _ ho)) _ (ih x (hl x (List.mem_cons_self ..)) b _ _ hb)
    exact key s.kids (fun _ h => h) _ h0
end Go.Proofs.YtepfokoepibkcaaGreat
namespace Go.Proofs.YtepfokoepibkcaaGreat
open Go.RowKit D
/-- What gather's two variables hold. -/
structure GA (w0 w : World) (lb gb : Nat) (pa : Option Addr) (cap : Nat) (acc : List S5) : Prop where
  mo : Mo w0 w
  la : At w lb [.slice pa acc.length cap]
  ga : At w gb [.func (.func 46) #[] #[pt lb 0, pt gb 0]]
  ow : w.ownsRow w0.heap.size 40 5 (.slice pa acc.length cap) acc.length (acc.flatMap S5.cells)
  ap : ∀ k, (Value.slice pa acc.length cap).ownBlock = some k → k ≠ lb ∧ k ≠ gb
def fk (s : Se) (acc : List S5) (p dp : Int) (i : Nat) : List S5 := (s.kids.take i).foldl (fun a k => flt k a acc.length (dp + 1)) (acc ++ [⟨p, dp, s.nm, s.mx, s.pi, s.ci, s.items⟩])
theorem fk_s {s : Se} {acc : List S5} {p dp : Int} {i : Nat} {k : Se} (h : s.kids[i]? = some k) : fk s acc p dp (i + 1) = flt k (fk s acc p dp i) acc.length (dp + 1) := by
  unfold fk; rw [List.take_add_one, h, List.foldl_append]; rfl
theorem fk_len {s : Se} {acc : List S5} {p dp : Int} (h : acc.length < 64) : ∀ i, (fk s acc p dp i).length ≤ 64
  | 0 => by unfold fk; simp; omega
  | i + 1 => by
    cases hk : s.kids[i]? with
    | none =>
      have := fk_len (s := s) (p := p) (dp := dp) h i
      unfold fk at this ⊢
      rw [List.take_add_one, hk]; simpa using this
    | some k => rw [fk_s hk]; exact flt_len _ _ _ _ (fk_len h i)
theorem gather_n {w0 : World} {lb gb : Nat} (ne_lb_gb : lb ≠ gb) (N_lb : w0.heap.size ≤ lb) : ∀ (s : Se), LSe w0 s → ∀ (acc : List S5) (p dp : Int) (pa : Option Addr) (cap : Nat) (w : World), GA w0 w lb gb pa cap acc → acc.length ≤ 64 → 0 ≤ dp → dp ≤ 100 → Calls Tryz.prog 46 #[.agg (s.cells).toArray, .int .i64 p, .int .i64 dp, pt lb 0, pt gb 0] w fun e w' => e = .returned (.tuple #[]) ∧ ∃ pa' cap', GA w0 w' lb gb pa' cap' (flt s acc p dp) := by
  refine Se.ind2 ?_
  intro s ih hL acc p dp pa cap w hG ha hd0 hd1
  refine w_enter 46 Tryz.func46 Tryz.ntmps46 rfl rfl ?_
  have M := hG.mo
  have QL := hG.la
  have QG := hG.ga
  have hown := hG.ow
  have on_lb : (Value.slice pa acc.length cap).ownBlock ≠ some lb := fun e => (hG.ap lb e).1 rfl
  have on_gb : (Value.slice pa acc.length cap).ownBlock ≠ some gb := fun e => (hG.ap gb e).2 rfl
  refine w_seq ?_
  refine w_reg ?_
  refine wl_box 25 (.tmp 0) (.agg (s.cells).toArray) (((s.cells).toArray)) rfl rfl (fun _ => by kernel_rfl) rfl ?_
  intro k1 w1 hk hz hq Q1
  have ne_lb_k1 : lb ≠ k1 := by have := QL.lt; omega
  have ne_gb_k1 : gb ≠ k1 := by have := QG.lt; omega
  have on_k1 : (Value.slice pa acc.length cap).ownBlock ≠ some k1 := fun e => by have := (hown.lt _ e).2; omega
  have N_k1 : w0.heap.size ≤ k1 := by have := M.size; omega
  replace hown := own_mo hown hq
  replace QL := QL.mo hq
  replace QG := QG.mo hq
  replace M := M.trans hq
  clear hk hz hq
  refine w_nil ?_
  refine xn_then ?_
  refine w_seq ?_
  refine w_seq ?_
  refine w_reg ?_
  refine wl_load 37 (.tmp 3) (pt lb 0) (.slice pa acc.length cap) rfl rfl (run_one QL 37 0 rfl Tryz.underlying37 rfl) rfl ?_
  refine wl_val (.int .i64 ((acc.length : Nat) : Int)) (len37 _ _ _ _ _ (by exact rfl) _ _ _ _ _ _) rfl ?_
  cases hf0 : decide (((acc.length : Nat) : Int) = 64) with
  | true =>
    have hf0p := of_decide_eq_true hf0
    refine wl_bin (fun x y => do eqGuard .eql 3 (.tmp 12) (.const (.int .i64 (64))) x y; binOp .eql 3 x y) (.tmp 12) (.const (.int .i64 (64))) (.int .i64 ((acc.length : Nat) : Int)) (.int .i64 (64)) (.bool true) (fun _ => rfl) rfl rfl (eq3 hf0 _ _ _) rfl ?_
    refine wl_mv (.tmp 13) (.bool true) (fun _ => rfl) rfl rfl ?_
    refine wl_skip rfl ?_
    refine wl_skip rfl ?_
    refine wl_pick (.tmp 14) (.const (.bool true)) (.tmp 16) true (.bool true) (fun _ => rfl) rfl rfl rfl ?_
    refine w_nil ?_
    refine xn_then ?_
    refine w_condT rfl ?_
    refine w_ret ?_
    refine xr_then ?_
    exact w_ret0 rfl ⟨rfl, by rw [flt_eq, if_pos (by omega)]; exact ⟨_, _, ⟨M, QL, QG, hown, hG.ap⟩⟩⟩
  | false =>
    have hf0p := of_decide_eq_false hf0
    refine wl_bin (fun x y => do eqGuard .eql 3 (.tmp 12) (.const (.int .i64 (64))) x y; binOp .eql 3 x y) (.tmp 12) (.const (.int .i64 (64))) (.int .i64 ((acc.length : Nat) : Int)) (.int .i64 (64)) (.bool false) (fun _ => rfl) rfl rfl (eq3 hf0 _ _ _) rfl ?_
    refine wl_mv (.tmp 13) (.bool false) (fun _ => rfl) rfl rfl ?_
    refine wl_mv (.tmp 2) (.int .i64 (dp)) (fun _ => rfl) rfl rfl ?_
    cases hf1 : decide (16 < dp) with
    | true =>
      have hf1p := of_decide_eq_true hf1
      refine wl_bin (fun x y => do eqGuard .gtr 3 (.tmp 15) (.const (.int .i64 (16))) x y; binOp .gtr 3 x y) (.tmp 15) (.const (.int .i64 (16))) (.int .i64 (dp)) (.int .i64 (16)) (.bool true) (fun _ => rfl) rfl rfl (gt3 hf1 _ _ _) rfl ?_
      refine wl_pick (.tmp 14) (.const (.bool true)) (.tmp 16) false (.bool true) (fun _ => rfl) rfl rfl rfl ?_
      refine w_nil ?_
      refine xn_then ?_
      refine w_condT rfl ?_
      refine w_ret ?_
      refine xr_then ?_
      exact w_ret0 rfl ⟨rfl, by rw [flt_eq, if_pos (by omega)]; exact ⟨_, _, ⟨M, QL, QG, hown, hG.ap⟩⟩⟩
    | false =>
      have hf1p := of_decide_eq_false hf1
      refine wl_bin (fun x y => do eqGuard .gtr 3 (.tmp 15) (.const (.int .i64 (16))) x y; binOp .gtr 3 x y) (.tmp 15) (.const (.int .i64 (16))) (.int .i64 (dp)) (.int .i64 (16)) (.bool false) (fun _ => rfl) rfl rfl (gt3 hf1 _ _ _) rfl ?_
      refine wl_pick (.tmp 14) (.const (.bool true)) (.tmp 16) false (.bool false) (fun _ => rfl) rfl rfl rfl ?_
      refine w_nil ?_
      refine xn_then ?_
      refine w_condF rfl ?_
      refine w_skip ?_
      refine xn_then ?_
      refine w_seq ?_
      refine w_reg ?_
      refine wl_load 37 (.tmp 3) (pt lb 0) (.slice pa acc.length cap) rfl rfl (run_one QL 37 0 rfl Tryz.underlying37 rfl) rfl ?_
      refine wl_val (.int .i64 ((acc.length : Nat) : Int)) (len37 _ _ _ _ _ (by exact rfl) _ _ _ _ _ _) rfl ?_
      refine wl_mv (.tmp 19) (.int .i64 ((acc.length : Nat) : Int)) (fun _ => rfl) rfl rfl ?_
      refine w_nil ?_
      refine xn_then ?_
      refine w_seq ?_
      refine w_reg ?_
      refine wl_load 37 (.tmp 3) (pt lb 0) (.slice pa acc.length cap) rfl rfl (run_one QL 37 0 rfl Tryz.underlying37 rfl) rfl ?_
      refine wl_mv (.tmp 1) (.int .i64 (p)) (fun _ => rfl) rfl rfl ?_
      refine wl_mv (.tmp 2) (.int .i64 (dp)) (fun _ => rfl) rfl rfl ?_
      refine wl_un (fun v => Instr.fieldAt 25 v 0) (.tmp 5) (pt k1 0) (pt k1 0) (fun _ => rfl) rfl (by kernel_rfl) rfl ?_
      refine wl_load 9 (.tmp 23) (pt k1 0) (.string s.nm) rfl rfl (run_one Q1 9 0 rfl Tryz.underlying9 rfl) rfl ?_
      refine wl_un (fun v => Instr.fieldAt 25 v 1) (.tmp 5) (pt k1 0) (pt k1 1) (fun _ => rfl) rfl (by kernel_rfl) rfl ?_
      refine wl_load 3 (.tmp 25) (pt k1 1) (.int .i64 (s.mx)) rfl rfl (run_one Q1 3 1 rfl Tryz.underlying3 rfl) rfl ?_
      refine wl_un (fun v => Instr.fieldAt 25 v 2) (.tmp 5) (pt k1 0) (pt k1 2) (fun _ => rfl) rfl (by kernel_rfl) rfl ?_
      refine wl_load 22 (.tmp 27) (pt k1 2) (.slice s.pi s.items.length s.ci) rfl rfl (run_one Q1 22 2 rfl Tryz.underlying22 rfl) rfl ?_
      refine wl_build 40 [(0, (.tmp 21)), (1, (.tmp 22)), (2, (.tmp 24)), (3, (.tmp 26)), (4, (.tmp 28))] [(0, .int .i64 (p)), (1, .int .i64 (dp)), (2, .string s.nm), (3, .int .i64 (s.mx)), (4, .slice s.pi s.items.length s.ci)] (.agg #[.int .i64 (p), .int .i64 (dp), .string s.nm, .int .i64 (s.mx), .slice s.pi s.items.length s.ci]) rfl rfl (by kernel_rfl) rfl ?_
      refine wl_bs 37 1 [(0, (.tmp 29))] [(0, .agg #[.int .i64 (p), .int .i64 (dp), .string s.nm, .int .i64 (s.mx), .slice s.pi s.items.length s.ci])] #[.int .i64 (p), .int .i64 (dp), .string s.nm, .int .i64 (s.mx), .slice s.pi s.items.length s.ci] 40 rfl rfl (fun _ => by kernel_rfl) rfl ?_
      intro k2 w2 hk hz hq Q2
      have ne_lb_k2 : lb ≠ k2 := by have := QL.lt; omega
      have ne_gb_k2 : gb ≠ k2 := by have := QG.lt; omega
      have ne_k1_k2 : k1 ≠ k2 := by have := Q1.lt; omega
      have N_k2 : w0.heap.size ≤ k2 := by have := M.size; omega
      have on_k2 : (Value.slice pa acc.length cap).ownBlock ≠ some k2 := fun e => by have := (own_lt hown e).1; omega
      replace hown := own_mo hown hq
      replace QL := QL.mo hq
      replace QG := QG.mo hq
      replace Q1 := Q1.mo hq
      replace M := M.trans hq
      clear hk hz hq
      have hal : acc.length < 64 := by omega
      have lt_lb := QL.lt
      have lt_gb := QG.lt
      have lt_k1 := Q1.lt
      have lt_k2 := Q2.lt
      refine wl_app Tryz.underlying37 inf40 rfl (by decide) (.tmp 20) (.tmp 30) w0.heap.size (.slice pa acc.length cap) acc.length (acc.flatMap S5.cells) k2 1 1 (⟨p, dp, s.nm, s.mx, s.pi, s.ci, s.items⟩ : S5).cells rfl rfl rfl hown rfl Q2 (fun u hu => by simp only [S5.cells, List.mem_cons, List.not_mem_nil, or_false] at hu; rcases hu with rfl | rfl | rfl | rfl | rfl <;> rfl) (by decide) (by unfold maxLen; omega) (by omega) M.size rfl ?_
      intro v9 w3 hOw hm9 hbk
      have hlt9 := fun k e => own_lt hown (k := k) e
      replace M := hm9.mo M (fun k e => (hlt9 k e).2)
      replace QL := hm9.at QL on_lb
      replace QG := hm9.at QG on_gb
      replace Q1 := hm9.at Q1 on_k1
      replace Q2 := hm9.at Q2 on_k2
      obtain ⟨pa1, cap1, rfl, _⟩ := own_form hOw
      replace hOw : w3.ownsRow w0.heap.size 40 5 (.slice pa1 (acc ++ [(⟨p, dp, s.nm, s.mx, s.pi, s.ci, s.items⟩ : S5)]).length cap1) (acc ++ [(⟨p, dp, s.nm, s.mx, s.pi, s.ci, s.items⟩ : S5)]).length ((acc ++ [(⟨p, dp, s.nm, s.mx, s.pi, s.ci, s.items⟩ : S5)]).flatMap S5.cells) := by simpa using hOw
      have hb1 : (Value.slice pa1 (acc ++ [(⟨p, dp, s.nm, s.mx, s.pi, s.ci, s.items⟩ : S5)]).length cap1).ownBlock = (Value.slice pa acc.length cap).ownBlock ∨ (Value.slice pa1 (acc ++ [(⟨p, dp, s.nm, s.mx, s.pi, s.ci, s.items⟩ : S5)]).length cap1).ownBlock = some w2.heap.size := by cases pa1 <;> exact hbk
      replace on_lb : (Value.slice pa1 (acc ++ [(⟨p, dp, s.nm, s.mx, s.pi, s.ci, s.items⟩ : S5)]).length cap1).ownBlock ≠ some lb := fun e => by rcases hb1 with h | h; exact on_lb (h.symm.trans e); have h8 := Option.some.inj (h.symm.trans e); have := lt_lb; omega
      replace on_gb : (Value.slice pa1 (acc ++ [(⟨p, dp, s.nm, s.mx, s.pi, s.ci, s.items⟩ : S5)]).length cap1).ownBlock ≠ some gb := fun e => by rcases hb1 with h | h; exact on_gb (h.symm.trans e); have h8 := Option.some.inj (h.symm.trans e); have := lt_gb; omega
      replace on_k1 : (Value.slice pa1 (acc ++ [(⟨p, dp, s.nm, s.mx, s.pi, s.ci, s.items⟩ : S5)]).length cap1).ownBlock ≠ some k1 := fun e => by rcases hb1 with h | h; exact on_k1 (h.symm.trans e); have h8 := Option.some.inj (h.symm.trans e); have := lt_k1; omega
      replace on_k2 : (Value.slice pa1 (acc ++ [(⟨p, dp, s.nm, s.mx, s.pi, s.ci, s.items⟩ : S5)]).length cap1).ownBlock ≠ some k2 := fun e => by rcases hb1 with h | h; exact on_k2 (h.symm.trans e); have h8 := Option.some.inj (h.symm.trans e); have := lt_k2; omega
      clear hown hlt9 hbk hb1 hm9
      have hown := hOw
      rw [show acc.length + 1 = (acc ++ [(⟨p, dp, s.nm, s.mx, s.pi, s.ci, s.items⟩ : S5)]).length by simp]
      refine wl_stm1 37 (.tmp 3) (.tmp 31) lb 0 (.slice pa1 (acc ++ [(⟨p, dp, s.nm, s.mx, s.pi, s.ci, s.items⟩ : S5)]).length cap1) [.slice pa acc.length cap] [.slice pa1 (acc ++ [(⟨p, dp, s.nm, s.mx, s.pi, s.ci, s.items⟩ : S5)]).length cap1] QL rfl rfl rfl rfl rfl sz37 rfl rfl rfl rfl ?_
      intro w4 hS hm9 Qn
      replace QL := Qn
      clear Qn
      replace QG := hS.other _ _ ne_lb_gb.symm QG
      replace Q1 := hS.other _ _ ne_lb_k1.symm Q1
      replace Q2 := hS.other _ _ ne_lb_k2.symm Q2
      replace hown := own_mk hown hm9 (fun k e h => on_lb (by rw [e, h]))
      replace M := hS.mo _ N_lb M
      clear hS hm9
      refine w_nil ?_
      refine xn_then ?_
      refine w_seq ?_
      refine w_reg ?_
      refine wl_un (fun v => Instr.fieldAt 25 v 3) (.tmp 5) (pt k1 0) (pt k1 3) (fun _ => rfl) rfl (by kernel_rfl) rfl ?_
      refine wl_load 23 (.tmp 32) (pt k1 3) (.slice s.pk s.kids.length s.ck) rfl rfl (run_one Q1 23 3 rfl Tryz.underlying23 rfl) rfl ?_
      refine wl_val (.int .i64 ((s.kids.length : Nat) : Int)) (len23 _ _ _ _ _ (by exact rfl) _ _ _ _ _ _) rfl ?_
      refine wl_mv (.const (.int .i64 (0))) (.int .i64 (0)) (fun _ => rfl) rfl rfl ?_
      refine w_nil ?_
      refine xn_then ?_
      refine w_block ?_
      have hcond : ¬ (64 ≤ acc.length ∨ 16 < dp) := by omega
      have hG1 : GA w0 w4 lb gb pa1 cap1 (acc ++ [(⟨p, dp, s.nm, s.mx, s.pi, s.ci, s.items⟩ : S5)]) := ⟨M, QL, QG, hown, fun k e => ⟨fun h => on_lb (by rw [← h]; exact e), fun h => on_gb (by rw [← h]; exact e)⟩⟩
      have hzk := hL.kd.1
      unfold maxLen at hzk
      refine w_loop (fun m l w1 => ∃ i : Nat, m = s.kids.length - i ∧ i ≤ s.kids.length ∧ look l 0 = .agg (s.cells).toArray ∧ look l 1 = .int .i64 (p) ∧ look l 2 = .int .i64 (dp) ∧ look l 3 = pt lb 0 ∧ look l 4 = pt gb 0 ∧ look l 8 = .int .i64 ((acc.length : Nat) : Int) ∧ look l 33 = .slice s.pk s.kids.length s.ck ∧ look l 34 = .int .i64 ((s.kids.length : Nat) : Int) ∧ look l 35 = .int .i64 ((i : Nat) : Int) ∧ ∃ pa cap, GA w0 w1 lb gb pa cap (fk s acc p dp i)) _ ⟨0, rfl, Nat.zero_le _, rfl, rfl, rfl, rfl, rfl, rfl, rfl, rfl, rfl, ⟨_, _, hG1⟩⟩ ?_
      clear QL QG Q1 Q2 M
      rintro m l40 wl40 ⟨i, rfl, hi, e40_0, e40_1, e40_2, e40_3, e40_4, e40_8, e40_33, e40_34, e40_i, hE⟩
      by_cases hil : i < s.kids.length
      · skip
        have hid : decide (i < s.kids.length) = true := decide_eq_true hil
        obtain ⟨pa2, cap2, hG2⟩ := hE
        have M := hG2.mo
        have QL := hG2.la
        have QG := hG2.ga
        have hown := hG2.ow
        have on_lb : (Value.slice pa2 (fk s acc p dp i).length cap2).ownBlock ≠ some lb := fun e => (hG2.ap lb e).1 rfl
        have on_gb : (Value.slice pa2 (fk s acc p dp i).length cap2).ownBlock ≠ some gb := fun e => (hG2.ap gb e).2 rfl
        obtain ⟨k, hk⟩ := get_of_lt hil
        obtain ⟨b1, o1, hp1, hR1⟩ := D.SL.rw hL.kd hk
        refine w_seq ?_
        refine w_reg ?_
        refine wl_bin (fun x y => do eqGuard .lss 3 (.tmp 35) (.tmp 34) x y; binOp .lss 3 x y) (.tmp 35) (.tmp 34) (.int .i64 ((i : Nat) : Int)) (.int .i64 ((s.kids.length : Nat) : Int)) (.bool true) (fun _ => rfl) e40_i e40_34 (ltN hid _ _ _) rfl ?_
        refine w_nil ?_
        refine xn_then ?_
        refine w_seq ?_
        refine w_condT rfl ?_
        refine w_skip ?_
        refine xn_then ?_
        refine w_seq ?_
        refine w_block ?_
        refine w_seq ?_
        refine w_reg ?_
        refine wl_bin (fun x y => Instr.indexAt 23 x y) (.tmp 33) (.tmp 35) (.slice s.pk s.kids.length s.ck) (.int .i64 ((i : Nat) : Int)) (pt b1 (o1 + i * 4)) (fun _ => rfl) e40_33 e40_i (ix23 (i := i) hp1 hil _) rfl ?_
        refine wl_load 25 (.tmp 37) (pt b1 (o1 + i * 4)) (.agg (k.cells).toArray) rfl rfl (D.run_partR (hR1.mo M).at' 25 0 4 (k.cells) rfl Tryz.underlying25 rfl sz25) rfl ?_
        refine wl_alloc 25 #[.string ⟨#[]⟩, .int .i64 0, .slice none 0 0, .slice none 0 0] rfl (fun _ => by kernel_rfl) rfl ?_
        intro k3 w41 hk hz hq Q3
        have ne_lb_k3 : lb ≠ k3 := by have := QL.lt; omega
        have ne_gb_k3 : gb ≠ k3 := by have := QG.lt; omega
        have on_k3 : (Value.slice pa2 (fk s acc p dp i).length cap2).ownBlock ≠ some k3 := fun e => by have := (hown.lt _ e).2; omega
        have N_k3 : w0.heap.size ≤ k3 := by have := M.size; omega
        replace hown := own_mo hown hq
        replace QL := QL.mo hq
        replace QG := QG.mo hq
        replace M := M.trans hq
        clear hk hz hq
        refine wl_stm 25 (.tmp 10) (.tmp 38) k3 0 ((k.cells).toArray) [.string ⟨#[]⟩, .int .i64 0, .slice none 0 0, .slice none 0 0] (k.cells) Q3 rfl rfl rfl rfl rfl sz25 rfl rfl rfl ?_
        intro w42 hS hm9 Qn
        replace Q3 := Qn
        clear Qn
        replace QL := hS.other _ _ ne_lb_k3 QL
        replace QG := hS.other _ _ ne_gb_k3 QG
        replace hown := own_mk hown hm9 (fun k e h => on_k3 (by rw [e, h]))
        replace M := hS.mo _ N_k3 M
        clear hS hm9
        refine w_nil ?_
        refine xn_then ?_
        refine w_reg ?_
        refine wl_load 106 (.tmp 4) (pt gb 0) (.func (.func 46) #[] #[pt lb 0, pt gb 0]) rfl e40_4 (run_one QG 106 0 rfl Tryz.underlying106 rfl) rfl ?_
        refine wl_load 25 (.tmp 10) (pt k3 0) (.agg (k.cells).toArray) rfl rfl (run_row Q3 25 0 4 (k.cells) rfl Tryz.underlying25 rfl sz25) rfl ?_
        refine wl_mv (.tmp 8) (.int .i64 ((acc.length : Nat) : Int)) (fun _ => rfl) e40_8 rfl ?_
        refine wl_mv (.tmp 2) (.int .i64 (dp)) (fun _ => rfl) e40_2 rfl ?_
        refine wl_bin (fun x y => do eqGuard .add 3 (.tmp 42) (.const (.int .i64 (1))) x y; binOp .add 3 x y) (.tmp 42) (.const (.int .i64 (1))) (.int .i64 (dp)) (.int .i64 (1)) (.int .i64 (dp + 1)) (fun _ => rfl) rfl rfl (add1i (k := dp) (by omega) (by omega) _ _ _) rfl ?_
        have hG3 : GA w0 w42 lb gb pa2 cap2 (fk s acc p dp i) := ⟨M, QL, QG, hown, hG2.ap⟩
        refine wl_callv 46 (.tmp 39) #[] #[pt lb 0, pt gb 0] [(.tmp 40), (.tmp 41), (.tmp 43)] _ [.agg (k.cells).toArray, .int .i64 ((acc.length : Nat) : Int), .int .i64 (dp + 1)] [.agg (k.cells).toArray, .int .i64 ((acc.length : Nat) : Int), .int .i64 (dp + 1), pt lb 0, pt gb 0] rfl rfl rfl rfl (fun _ _ => by kernel_rfl) (ih k (List.mem_of_getElem? hk) (hL.kr k (List.mem_of_getElem? hk)) (fk s acc p dp i) _ _ pa2 cap2 _ hG3 (fk_len (by omega) i) (by omega) (by omega)) rfl ?_
        rintro e9 w43 ⟨rfl, hE2⟩
        refine ⟨_, rfl, ?_⟩
        refine w_nil ?_
        refine xn_blk ?_
        refine xn_then ?_
        refine w_reg ?_
        refine wl_bin (fun x y => do eqGuard .add 3 (.tmp 35) (.const (.int .i64 (1))) x y; binOp .add 3 x y) (.tmp 35) (.const (.int .i64 (1))) (.int .i64 ((i : Nat) : Int)) (.int .i64 (1)) (.int .i64 ((i + 1 : Nat) : Int)) (fun _ => rfl) e40_i rfl (add1r (k := i) (by omega) _ _ _) rfl ?_
        refine wl_mv (.tmp 45) (.int .i64 ((i + 1 : Nat) : Int)) (fun _ => rfl) rfl rfl ?_
        refine w_nil ?_
        exact xn_loop (s.kids.length - (i + 1)) (by omega) ⟨i + 1, rfl, by omega, e40_0, e40_1, e40_2, e40_3, e40_4, e40_8, e40_33, e40_34, rfl, by rw [fk_s hk]; exact hE2⟩
      · skip
        have hid : decide (i < s.kids.length) = false := decide_eq_false hil
        have hie : i = s.kids.length := by omega
        refine w_seq ?_
        refine w_reg ?_
        refine wl_bin (fun x y => do eqGuard .lss 3 (.tmp 35) (.tmp 34) x y; binOp .lss 3 x y) (.tmp 35) (.tmp 34) (.int .i64 ((i : Nat) : Int)) (.int .i64 ((s.kids.length : Nat) : Int)) (.bool false) (fun _ => rfl) e40_i e40_34 (ltN hid _ _ _) rfl ?_
        refine w_nil ?_
        refine xn_then ?_
        refine w_seq ?_
        refine w_condF rfl ?_
        refine w_exit ?_
        refine xx_then ?_
        refine xx_then ?_
        refine xx_blk ?_
        exact w_end0 rfl ⟨rfl, by obtain ⟨pa2, cap2, h⟩ := hE; rw [flt_eq, if_neg hcond]; rw [hie] at h; unfold fk at h; rw [List.take_length] at h; exact ⟨_, _, h⟩⟩
end Go.Proofs.YtepfokoepibkcaaGreat
namespace Go.Proofs.YtepfokoepibkcaaGreat
open Go.RowKit D
theorem foldl_inv {I : List S5 → Prop} {f : List S5 → Se → List S5} : ∀ (l : List Se) (b : List S5), I b → (∀ k ∈ l, ∀ a, I a → I (f a k)) → I (l.foldl f b)
  | [], _, h, _ => h
  | x :: l, b, h, hs => by rw [List.foldl_cons]; exact foldl_inv l _ (hs x (List.mem_cons_self ..) b h) (fun k hk => hs k (List.mem_cons_of_mem _ hk))
theorem flt_ls {W : World} : ∀ (s : Se), LSe W s → ∀ (acc : List S5) (p dp : Int), (∀ x ∈ acc, LS5 W x) → ∀ x ∈ flt s acc p dp, LS5 W x := by
  refine Se.ind2 ?_
  intro s ih hL acc p dp ha
  rw [flt_eq]
  split
  · exact ha
  · refine foldl_inv (I := fun a => ∀ x ∈ a, LS5 W x) s.kids _ (fun x hx => ?_) (fun k hk a hA => ih k hk (hL.kr k hk) a _ _ hA)
    rcases List.mem_append.1 hx with h | h
    · exact ha x h
    · rw [List.mem_singleton.1 h]; exact ⟨hL.it, hL.ex⟩
theorem Wf3.snoc {L : List S5} (h : Wf3 L) {x : S5} (h1 : x.pr < L.length) (h2 : -1 ≤ x.pr) (h3 : 0 < L.length → 0 ≤ x.pr) : Wf3 (L ++ [x]) := fun i y hy => by
  rcases Nat.lt_or_ge i L.length with q | q
  · rw [List.getElem?_append_left q] at hy; exact h i y hy
  · have hi : i = L.length := by have := lt_of_get hy; simp at this; omega
    subst hi
    simp at hy
    subst hy
    exact ⟨h1, h2, h3⟩
theorem flt_wf : ∀ (s : Se) (acc : List S5) (p dp : Int), Wf3 acc → p < acc.length → -1 ≤ p → (0 < acc.length → 0 ≤ p) → Wf3 (flt s acc p dp) ∧ acc.length ≤ (flt s acc p dp).length := by
  refine Se.ind2 ?_
  intro s ih acc p dp hw h1 h2 h3
  rw [flt_eq]
  split
  · exact ⟨hw, Nat.le_refl _⟩
  · have h0 : Wf3 (acc ++ [(⟨p, dp, s.nm, s.mx, s.pi, s.ci, s.items⟩ : S5)]) ∧ acc.length < (acc ++ [(⟨p, dp, s.nm, s.mx, s.pi, s.ci, s.items⟩ : S5)]).length := ⟨hw.snoc h1 h2 h3, by simp⟩
    have := foldl_inv (I := fun a => Wf3 a ∧ acc.length < a.length) (f := fun a k => flt k a acc.length (dp + 1)) s.kids _ h0 (fun k hk a hA => by
      have := ih k hk a acc.length (dp + 1) hA.1 (by omega) (by omega) (fun _ => by omega)
      exact ⟨this.1, by omega⟩)
    exact ⟨this.1, by omega⟩
/-- A definition's sections by their numbers. -/
def fla (d : Df) : List S5 := flt d.rt [] (-1) 1
theorem fla_len (d : Df) : (fla d).length ≤ 64 := flt_len _ _ _ _ (by simp)
theorem Wf3.nil : Wf3 [] := fun i x h => by simp at h
theorem fla_wf (d : Df) : Wf3 (fla d) := (flt_wf d.rt [] (-1) 1 Wf3.nil (by simp) (by omega) (fun h => by simp at h)).1
theorem fla_pos (d : Df) : 0 < (fla d).length := by
  unfold fla
  rw [flt_eq, if_neg (by simp)]
  refine foldl_inv (I := fun a => Wf3 a ∧ 0 < a.length) d.rt.kids _ ⟨Wf3.nil.snoc (by simp) (by simp) (fun h => by simp at h), by simp⟩ (fun k _ a hA => ?_) |>.2
  have := flt_wf k a ([] : List S5).length (1 + 1) hA.1 (by simpa using hA.2) (by simp) (fun _ => by simp)
  exact ⟨this.1, by omega⟩
/-! What newChecker lays. -/
section
variable {wA w w' : World} {kc : Nat} {MI KI : List Nat} {ip kp : Option Addr} {ic kk : Nat}
end
section
variable {P : Program} {o : Oper} {n : Nat} {l : List (Nat × Value)} {w : World} {Q : Exit → Act → World → Prop} {K : Act → World → Prop}
end
end Go.Proofs.YtepfokoepibkcaaGreat
namespace Go.Proofs.YtepfokoepibkcaaGreat
open Go.RowKit D
theorem flat_n (s : Se) {w : World} (hL : LSe w s) : Calls Tryz.prog 24 #[.agg (s.cells).toArray] w fun e w' => ∃ pa cap, e = .returned (.slice pa (flt s [] (-1) 1).length cap) ∧ Mo w w' ∧ w'.ownsRow w.heap.size 40 5 (.slice pa (flt s [] (-1) 1).length cap) (flt s [] (-1) 1).length ((flt s [] (-1) 1).flatMap S5.cells) := by
  refine w_enter 10 Tryz.func24 Tryz.ntmps24 rfl rfl ?_
  have M : Mo w w := Mo.refl _
  refine w_seq ?_
  refine w_reg ?_
  refine wl_box 25 (.tmp 0) (.agg (s.cells).toArray) (((s.cells).toArray)) rfl rfl (fun _ => by kernel_rfl) rfl ?_
  intro k1 w1 hk hz hq Q1
  have N_k1 : w.heap.size ≤ k1 := by have := M.size; omega
  replace M := M.trans hq
  clear hk hz hq
  refine wl_mv (.const (.slice none 0 0)) (.slice none 0 0) (fun _ => rfl) rfl rfl ?_
  refine w_nil ?_
  refine xn_then ?_
  refine w_seq ?_
  refine w_reg ?_
  refine wl_alloc 37 #[.slice none 0 0] rfl (fun _ => by kernel_rfl) rfl ?_
  intro k2 w2 hk hz hq Q2
  have ne_k1_k2 : k1 ≠ k2 := by have := Q1.lt; omega
  have N_k2 : w.heap.size ≤ k2 := by have := M.size; omega
  replace Q1 := Q1.mo hq
  replace M := M.trans hq
  clear hk hz hq
  refine w_nil ?_
  refine xn_then ?_
  refine w_seq ?_
  refine w_reg ?_
  refine wl_alloc 106 #[.nilFunc] rfl (fun _ => by kernel_rfl) rfl ?_
  intro k3 w3 hk hz hq Q3
  have ne_k1_k3 : k1 ≠ k3 := by have := Q1.lt; omega
  have ne_k2_k3 : k2 ≠ k3 := by have := Q2.lt; omega
  have N_k3 : w.heap.size ≤ k3 := by have := M.size; omega
  replace Q1 := Q1.mo hq
  replace Q2 := Q2.mo hq
  replace M := M.trans hq
  clear hk hz hq
  refine w_nil ?_
  refine xn_then ?_
  refine w_seq ?_
  refine w_reg ?_
  refine wl_mf (.func 46) [] [(.tmp 3), (.tmp 4)] [] [pt k2 0, pt k3 0] rfl rfl rfl rfl ?_
  refine wl_st1 106 (.tmp 4) (.tmp 5) k3 0 (.func (.func 46) #[] #[pt k2 0, pt k3 0]) [.nilFunc] [.func (.func 46) #[] #[pt k2 0, pt k3 0]] Q3 rfl rfl rfl rfl rfl sz106 rfl rfl rfl rfl ?_
  intro w4 hS Qn
  replace Q3 := Qn
  clear Qn
  replace Q1 := hS.other _ _ ne_k1_k3 Q1
  replace Q2 := hS.other _ _ ne_k2_k3 Q2
  replace M := hS.mo _ N_k3 M
  clear hS
  refine w_nil ?_
  refine xn_then ?_
  refine w_seq ?_
  refine w_reg ?_
  refine wl_load 106 (.tmp 4) (pt k3 0) (.func (.func 46) #[] #[pt k2 0, pt k3 0]) rfl rfl (run_one Q3 106 0 rfl Tryz.underlying106 rfl) rfl ?_
  refine wl_load 25 (.tmp 1) (pt k1 0) (.agg (s.cells).toArray) rfl rfl (run_row Q1 25 0 4 (s.cells) rfl Tryz.underlying25 rfl sz25) rfl ?_
  have hG3 : GA w w4 k2 k3 none 0 [] := ⟨M, Q2, Q3, ⟨rfl, Or.inl ⟨rfl, rfl⟩⟩, fun k e => by cases e⟩
  refine wl_callv 46 (.tmp 6) #[] #[pt k2 0, pt k3 0] [(.tmp 7), (.const (.int .i64 (-1))), (.const (.int .i64 (1)))] _ [.agg (s.cells).toArray, .int .i64 (-1), .int .i64 (1)] [.agg (s.cells).toArray, .int .i64 (-1), .int .i64 (1), pt k2 0, pt k3 0] rfl rfl rfl rfl (fun _ _ => by kernel_rfl) (gather_n ne_k2_k3 N_k2 s hL [] _ _ none 0 _ hG3 (by simp) (by omega) (by omega)) rfl ?_
  rintro e9 w5 ⟨rfl, pa, cap, hG4⟩
  refine ⟨_, rfl, ?_⟩
  have QF := hG4.la
  replace M := hG4.mo
  refine w_nil ?_
  refine xn_then ?_
  refine w_seq ?_
  refine w_reg ?_
  refine wl_load 37 (.tmp 3) (pt k2 0) (.slice pa (flt s [] (-1) 1).length cap) rfl rfl (run_one QF 37 0 rfl Tryz.underlying37 rfl) rfl ?_
  refine wl_mv (.tmp 9) (.slice pa (flt s [] (-1) 1).length cap) (fun _ => rfl) rfl rfl ?_
  refine w_nil ?_
  refine xn_then ?_
  refine w_ret ?_
  exact w_ret1 _ (.slice pa (flt s [] (-1) 1).length cap) rfl rfl ⟨pa, cap, rfl, M, hG4.ow⟩
end Go.Proofs.YtepfokoepibkcaaGreat
