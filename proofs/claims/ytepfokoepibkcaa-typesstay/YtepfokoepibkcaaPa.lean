/-
  Definitions that came in: reading them; that they stay where only maps are written. What scope's calls say, over lists; what a checker holds, and that it lies there. Elements put behind a slice of one's own; a definition's sections, flat. The sections, flat. The sections, flat: what they are; what newChecker lays. flat, newChecker. Copies of expressions and items; Flat. Flat. Kinds go by what sections tell, not by where they lie. Kind. What is more at the ends changes no kind.
-/
import Derived.Test.YtepfokoepibkcaaKa
import Derived.ReadAgain
import Derived.WideKeyArgs
import Derived.Maps.AppendAt
namespace Go.Proofs.Ytepfokoepibkcaa
open Go.ChangeShapes Go.WideShapes Go.ChangeAt Go.RowKit
namespace D
section runs
variable {P : Program} {w : World} {b o : Nat} {cs : List Value}
end runs
theorem ix45 {pa : Option Addr} {b off i n c : Nat} (hp : pa = some ⟨b, off, none⟩) (h : i < n) (w : World) : (Instr.indexAt 45 (.slice pa n c) (.int .i64 (i : Int))).run Try.prog w = .ok (pt b (off + i * 23)) w := by
  subst hp
  have e : (Instr.indexAt 45 (.slice (some ⟨b, off, none⟩) n c) (.int .i64 (i : Int))).run Try.prog w = .ok (.pointer (some ((⟨b, off, none⟩ : Addr).add (i * 23)))) w := by simp [go_sem, h]
  rw [e, Addr.add_mid]
theorem len45 (ρ : Operand → Value) (x : Operand) (p : Option Addr) (m c : Nat) (hx : ρ x = .slice p m c) (dst : Option Tmp) (type : TypeId) (pos : String) (after : Array Edge) (guard : Option (Nat × Bool)) (w : World) : (execOp ρ { dst, op := .call { callee := .builtin .len, args := #[x], argTypes := #[45] }, type, pos, after, guard }).run Try.prog w = .ok (.value (.int .i64 (m : Int))) w := by
  simp [go_sem, hx]
theorem ix46 {pa : Option Addr} {b off i n c : Nat} (hp : pa = some ⟨b, off, none⟩) (h : i < n) (w : World) : (Instr.indexAt 46 (.slice pa n c) (.int .i64 (i : Int))).run Try.prog w = .ok (pt b (off + i * 4)) w := by
  subst hp
  have e : (Instr.indexAt 46 (.slice (some ⟨b, off, none⟩) n c) (.int .i64 (i : Int))).run Try.prog w = .ok (.pointer (some ((⟨b, off, none⟩ : Addr).add (i * 4)))) w := by simp [go_sem, h]
  rw [e, Addr.add_mid]
theorem len46 (ρ : Operand → Value) (x : Operand) (p : Option Addr) (m c : Nat) (hx : ρ x = .slice p m c) (dst : Option Tmp) (type : TypeId) (pos : String) (after : Array Edge) (guard : Option (Nat × Bool)) (w : World) : (execOp ρ { dst, op := .call { callee := .builtin .len, args := #[x], argTypes := #[46] }, type, pos, after, guard }).run Try.prog w = .ok (.value (.int .i64 (m : Int))) w := by
  simp [go_sem, hx]
theorem ix55 {pa : Option Addr} {b off i n c : Nat} (hp : pa = some ⟨b, off, none⟩) (h : i < n) (w : World) : (Instr.indexAt 55 (.slice pa n c) (.int .i64 (i : Int))).run Try.prog w = .ok (pt b (off + i * 5)) w := by
  subst hp
  have e : (Instr.indexAt 55 (.slice (some ⟨b, off, none⟩) n c) (.int .i64 (i : Int))).run Try.prog w = .ok (.pointer (some ((⟨b, off, none⟩ : Addr).add (i * 5)))) w := by simp [go_sem, h]
  rw [e, Addr.add_mid]
theorem len55 (ρ : Operand → Value) (x : Operand) (p : Option Addr) (m c : Nat) (hx : ρ x = .slice p m c) (dst : Option Tmp) (type : TypeId) (pos : String) (after : Array Edge) (guard : Option (Nat × Bool)) (w : World) : (execOp ρ { dst, op := .call { callee := .builtin .len, args := #[x], argTypes := #[55] }, type, pos, after, guard }).run Try.prog w = .ok (.value (.int .i64 (m : Int))) w := by
  simp [go_sem, hx]
end D
theorem sz45 : (Try.prog.info? 45).map (·.size) = some 1 := by kernel_rfl
theorem sz48 : (Try.prog.info? 48).map (·.size) = some 4 := by kernel_rfl
theorem sz55 : (Try.prog.info? 55).map (·.size) = some 1 := by kernel_rfl
theorem sz67 : (Try.prog.info? 67).map (·.size) = some 23 := by kernel_rfl
theorem sz133 : (Try.prog.info? 133).map (·.size) = some 1 := by kernel_rfl
namespace D
section
variable {H : Type} {enc : TypeId × Value → H} {W : World} {base : Nat} {v : Value} {d : DataW H} {p : List MemPlace}
end
end D
end Go.Proofs.Ytepfokoepibkcaa
namespace Go.Proofs.Ytepfokoepibkcaa
open Go.RowKit D
/-- Parents stand ahead. -/
def Wf3 (L : List S5) : Prop := ∀ (i : Nat) (x : S5), L[i]? = some x → x.pr < i ∧ -1 ≤ x.pr ∧ (0 < i → 0 ≤ x.pr)
/-! A checker. -/
end Go.Proofs.Ytepfokoepibkcaa
namespace Go.Proofs.Ytepfokoepibkcaa
open Go.RowKit D
theorem inf62 : ∃ i, Try.prog.info? 62 = some i ∧ i.zero = some (.agg #[.int .i64 0, .int .i64 0, .string ⟨#[]⟩, .int .i64 0, .slice none 0 0]) ∧ i.size = 5 ∧ i.bytes = 64 := by
  have h : (Try.prog.info? 62).map (fun i => (i.zero, i.size, i.bytes)) = some (some (.agg #[.int .i64 0, .int .i64 0, .string ⟨#[]⟩, .int .i64 0, .slice none 0 0]), 5, 64) := by kernel_rfl
  cases hi : Try.prog.info? 62 with
  | none => rw [hi] at h; cases h
  | some i =>
    rw [hi] at h
    simp at h
    exact ⟨i, rfl, h.1, h.2.1, h.2.2⟩
section
variable {o : Oper} {n : Nat} {l : List (Nat × Value)} {w : World} {ops : Array Oper} {rest : List Oper} {Q : Exit → Act → World → Prop}
end
/-! Flat. -/
def flt : Se → List S5 → Int → Int → List S5
  | .mk nm mx pi ci items pk ck kids, acc, p, dp => if 64 ≤ acc.length ∨ 16 < dp then acc else kids.foldl (fun a k => flt k a acc.length (dp + 1)) (acc ++ [⟨p, dp, nm, mx, pi, ci, items⟩])
theorem flt_eq : ∀ (s : Se) (acc : List S5) (p dp : Int), flt s acc p dp = if 64 ≤ acc.length ∨ 16 < dp then acc else s.kids.foldl (fun a k => flt k a acc.length (dp + 1)) (acc ++ [⟨p, dp, s.nm, s.mx, s.pi, s.ci, s.items⟩])
  | .mk nm mx pi ci items pk ck kids, acc, p, dp => by
    rw [flt]
theorem D.Se.ind2 {M : Se → Prop} (h : ∀ x : Se, (∀ o ∈ x.kids, M o) → M x) : ∀ e, M e := Se.ind (fun nm mx pi ci items pk ck kids ih => h (.mk nm mx pi ci items pk ck kids) ih)
theorem flt_len : ∀ (s : Se) (acc : List S5) (p dp : Int), acc.length ≤ 64 → (flt s acc p dp).length ≤ 64 := by
  refine Se.ind2 ?_
  intro s ih acc p dp ha
  rw [flt_eq]
  split
  · exact ha
  · rename_i hc
    have h0 : (acc ++ [(⟨p, dp, s.nm, s.mx, s.pi, s.ci, s.items⟩ : S5)]).length ≤ 64 := by simp; omega
    have key : ∀ (l : List Se), (∀ o ∈ l, o ∈ s.kids) → ∀ b : List S5, b.length ≤ 64 → (l.foldl (fun a k => flt k a acc.length (dp + 1)) b).length ≤ 64 := by
      intro l
      induction l with
      | nil => intro _ b hb; exact hb
      | cons x l ihl => intro hl b hb; rw [List.foldl_cons]; exact ihl (fun o ho => hl o (List.mem_cons_of_mem _ ho)) _ (ih x (hl x (List.mem_cons_self ..)) b _ _ hb)
    exact key s.kids (fun _ h => h) _ h0
end Go.Proofs.Ytepfokoepibkcaa
namespace Go.Proofs.Ytepfokoepibkcaa
open Go.RowKit D
/-- What gather's two variables hold. -/
structure GA (w0 w : World) (lb gb : Nat) (pa : Option Addr) (cap : Nat) (acc : List S5) : Prop where
  mo : Mo w0 w
  la : At w lb [.slice pa acc.length cap]
  ga : At w gb [.func (.func 70) #[] #[pt lb 0, pt gb 0]]
  ow : w.ownsRow w0.heap.size 62 5 (.slice pa acc.length cap) acc.length (acc.flatMap S5.cells)
  ap : ∀ k, (Value.slice pa acc.length cap).ownBlock = some k → k ≠ lb ∧ k ≠ gb
def fk (s : Se) (acc : List S5) (p dp : Int) (i : Nat) : List S5 := (s.kids.take i).foldl (fun a k => flt k a acc.length (dp + 1)) (acc ++ [⟨p, dp, s.nm, s.mx, s.pi, s.ci, s.items⟩])
theorem fk_s {s : Se} {acc : List S5} {p dp : Int} {i : Nat} {k : Se} (h : s.kids[i]? = some k) : fk s acc p dp (i + 1) = flt k (fk s acc p dp i) acc.length (dp + 1) := by
  unfold fk; rw [List.take_add_one, h, List.foldl_append]; rfl
theorem fk_len {s : Se} {acc : List S5} {p dp : Int} (h : acc.length < 64) : ∀ i, (fk s acc p dp i).length ≤ 64
  | 0 => by unfold fk; simp; omega
  | i + 1 => by
    cases hk : s.kids[i]? with
    | none =>
      have := fk_len (s := s) (p := p) (dp := dp) h i
      unfold fk at this ⊢
      rw [List.take_add_one, hk]; simpa using this
    | some k => rw [fk_s hk]; exact flt_len _ _ _ _ (fk_len h i)
theorem gather_n {w0 : World} {lb gb : Nat} (ne_lb_gb : lb ≠ gb) (N_lb : w0.heap.size ≤ lb) : ∀ (s : Se), LSe w0 s → ∀ (acc : List S5) (p dp : Int) (pa : Option Addr) (cap : Nat) (w : World), GA w0 w lb gb pa cap acc → acc.length ≤ 64 → 0 ≤ dp → dp ≤ 100 → Calls Try.prog 70 #[.agg (s.cells).toArray, .int .i64 p, .int .i64 dp, pt lb 0, pt gb 0] w fun e w' => e = .returned (.tuple #[]) ∧ ∃ pa' cap', GA w0 w' lb gb pa' cap' (flt s acc p dp) := by
  refine Se.ind2 ?_
  intro s ih hL acc p dp pa cap w hG ha hd0 hd1
  refine w_enter 46 Try.func70 Try.ntmps70 rfl rfl ?_
  have M := hG.mo
  have QL := hG.la
  have QG := hG.ga
  have hown := hG.ow
  have on_lb : (Value.slice pa acc.length cap).ownBlock ≠ some lb := fun e => (hG.ap lb e).1 rfl
  have on_gb : (Value.slice pa acc.length cap).ownBlock ≠ some gb := fun e => (hG.ap gb e).2 rfl
  refine w_seq ?_
  refine w_reg ?_
  refine wl_box 48 (.tmp 0) (.agg (s.cells).toArray) (((s.cells).toArray)) rfl rfl (fun _ => by kernel_rfl) rfl ?_
  intro k1 w1 hk hz hq Q1
  have ne_lb_k1 : lb ≠ k1 := by have := QL.lt; omega
  have ne_gb_k1 : gb ≠ k1 := by have := QG.lt; omega
  have on_k1 : (Value.slice pa acc.length cap).ownBlock ≠ some k1 := fun e => by have := (hown.lt _ e).2; omega
  have N_k1 : w0.heap.size ≤ k1 := by have := M.size; omega
  replace hown := own_mo hown hq
  replace QL := QL.mo hq
  replace QG := QG.mo hq
  replace M := M.trans hq
  clear hk hz hq
  refine w_nil ?_
  refine xn_then ?_
  refine w_seq ?_
  refine w_seq ?_
  refine w_reg ?_
  refine wl_load 55 (.tmp 3) (pt lb 0) (.slice pa acc.length cap) rfl rfl (run_one QL 55 0 rfl Try.underlying55 rfl) rfl ?_
  refine wl_val (.int .i64 ((acc.length : Nat) : Int)) (len55 _ _ _ _ _ (by exact rfl) _ _ _ _ _ _) rfl ?_
  cases hf0 : decide (((acc.length : Nat) : Int) = 64) with
  | true =>
    have hf0p := of_decide_eq_true hf0
    refine wl_bin (fun x y => do eqGuard .eql 3 (.tmp 12) (.const (.int .i64 (64))) x y; binOp .eql 3 x y) (.tmp 12) (.const (.int .i64 (64))) (.int .i64 ((acc.length : Nat) : Int)) (.int .i64 (64)) (.bool true) (fun _ => rfl) rfl rfl (eq3 hf0 _ _ _) rfl ?_
    refine wl_mv (.tmp 13) (.bool true) (fun _ => rfl) rfl rfl ?_
    refine wl_skip rfl ?_
    refine wl_skip rfl ?_
    refine wl_pick (.tmp 14) (.const (.bool true)) (.tmp 16) true (.bool true) (fun _ => rfl) rfl rfl rfl ?_
    refine w_nil ?_
    refine xn_then ?_
    refine w_condT rfl ?_
    refine w_ret ?_
    refine xr_then ?_
    exact w_ret0 rfl ⟨rfl, by rw [flt_eq, if_pos (by omega)]; exact ⟨_, _, ⟨M, QL, QG, hown, hG.ap⟩⟩⟩
  | false =>
    have hf0p := of_decide_eq_false hf0
    refine wl_bin (fun x y => do eqGuard .eql 3 (.tmp 12) (.const (.int .i64 (64))) x y; binOp .eql 3 x y) (.tmp 12) (.const (.int .i64 (64))) (.int .i64 ((acc.length : Nat) : Int)) (.int .i64 (64)) (.bool false) (fun _ => rfl) rfl rfl (eq3 hf0 _ _ _) rfl ?_
    refine wl_mv (.tmp 13) (.bool false) (fun _ => rfl) rfl rfl ?_
    refine wl_mv (.tmp 2) (.int .i64 (dp)) (fun _ => rfl) rfl rfl ?_
    cases hf1 : decide (16 < dp) with
    | true =>
      have hf1p := of_decide_eq_true hf1
      refine wl_bin (fun x y => do eqGuard .gtr 3 (.tmp 15) (.const (.int .i64 (16))) x y; binOp .gtr 3 x y) (.tmp 15) (.const (.int .i64 (16))) (.int .i64 (dp)) (.int .i64 (16)) (.bool true) (fun _ => rfl) rfl rfl (gt3 hf1 _ _ _) rfl ?_
      refine wl_pick (.tmp 14) (.const (.bool true)) (.tmp 16) false (.bool true) (fun _ => rfl) rfl rfl rfl ?_
      refine w_nil ?_
      refine xn_then ?_
      refine w_condT rfl ?_
      refine w_ret ?_
      refine xr_then ?_
      exact w_ret0 rfl ⟨rfl, by rw [flt_eq, if_pos (by omega)]; exact ⟨_, _, ⟨M, QL, QG, hown, hG.ap⟩⟩⟩
    | false =>
      have hf1p := of_decide_eq_false hf1
      refine wl_bin (fun x y => do eqGuard .gtr 3 (.tmp 15) (.const (.int .i64 (16))) x y; binOp .gtr 3 x y) (.tmp 15) (.const (.int .i64 (16))) (.int .i64 (dp)) (.int .i64 (16)) (.bool false) (fun _ => rfl) rfl rfl (gt3 hf1 _ _ _) rfl ?_
      refine wl_pick (.tmp 14) (.const (.bool true)) (.tmp 16) false (.bool false) (fun _ => rfl) rfl rfl rfl ?_
      refine w_nil ?_
      refine xn_then ?_
      refine w_condF rfl ?_
      refine w_skip ?_
      refine xn_then ?_
      refine w_seq ?_
      refine w_reg ?_
      refine wl_load 55 (.tmp 3) (pt lb 0) (.slice pa acc.length cap) rfl rfl (run_one QL 55 0 rfl Try.underlying55 rfl) rfl ?_
      refine wl_val (.int .i64 ((acc.length : Nat) : Int)) (len55 _ _ _ _ _ (by exact rfl) _ _ _ _ _ _) rfl ?_
      refine wl_mv (.tmp 19) (.int .i64 ((acc.length : Nat) : Int)) (fun _ => rfl) rfl rfl ?_
      refine w_nil ?_
      refine xn_then ?_
      refine w_seq ?_
      refine w_reg ?_
      refine wl_load 55 (.tmp 3) (pt lb 0) (.slice pa acc.length cap) rfl rfl (run_one QL 55 0 rfl Try.underlying55 rfl) rfl ?_
      refine wl_mv (.tmp 1) (.int .i64 (p)) (fun _ => rfl) rfl rfl ?_
      refine wl_mv (.tmp 2) (.int .i64 (dp)) (fun _ => rfl) rfl rfl ?_
      refine wl_un (fun v => Instr.fieldAt 48 v 0) (.tmp 5) (pt k1 0) (pt k1 0) (fun _ => rfl) rfl (by kernel_rfl) rfl ?_
      refine wl_load 9 (.tmp 23) (pt k1 0) (.string s.nm) rfl rfl (run_one Q1 9 0 rfl Try.underlying9 rfl) rfl ?_
      refine wl_un (fun v => Instr.fieldAt 48 v 1) (.tmp 5) (pt k1 0) (pt k1 1) (fun _ => rfl) rfl (by kernel_rfl) rfl ?_
      refine wl_load 3 (.tmp 25) (pt k1 1) (.int .i64 (s.mx)) rfl rfl (run_one Q1 3 1 rfl Try.underlying3 rfl) rfl ?_
      refine wl_un (fun v => Instr.fieldAt 48 v 2) (.tmp 5) (pt k1 0) (pt k1 2) (fun _ => rfl) rfl (by kernel_rfl) rfl ?_
      refine wl_load 45 (.tmp 27) (pt k1 2) (.slice s.pi s.items.length s.ci) rfl rfl (run_one Q1 45 2 rfl Try.underlying45 rfl) rfl ?_
      refine wl_build 62 [(0, (.tmp 21)), (1, (.tmp 22)), (2, (.tmp 24)), (3, (.tmp 26)), (4, (.tmp 28))] [(0, .int .i64 (p)), (1, .int .i64 (dp)), (2, .string s.nm), (3, .int .i64 (s.mx)), (4, .slice s.pi s.items.length s.ci)] (.agg #[.int .i64 (p), .int .i64 (dp), .string s.nm, .int .i64 (s.mx), .slice s.pi s.items.length s.ci]) rfl rfl (by kernel_rfl) rfl ?_
      refine wl_bs 55 1 [(0, (.tmp 29))] [(0, .agg #[.int .i64 (p), .int .i64 (dp), .string s.nm, .int .i64 (s.mx), .slice s.pi s.items.length s.ci])] #[.int .i64 (p), .int .i64 (dp), .string s.nm, .int .i64 (s.mx), .slice s.pi s.items.length s.ci] 62 rfl rfl (fun _ => by kernel_rfl) rfl ?_
      intro k2 w2 hk hz hq Q2
      have ne_lb_k2 : lb ≠ k2 := by have := QL.lt; omega
      have ne_gb_k2 : gb ≠ k2 := by have := QG.lt; omega
      have ne_k1_k2 : k1 ≠ k2 := by have := Q1.lt; omega
      have N_k2 : w0.heap.size ≤ k2 := by have := M.size; omega
      have on_k2 : (Value.slice pa acc.length cap).ownBlock ≠ some k2 := fun e => by have := (own_lt hown e).1; omega
      replace hown := own_mo hown hq
      replace QL := QL.mo hq
      replace QG := QG.mo hq
      replace Q1 := Q1.mo hq
      replace M := M.trans hq
      clear hk hz hq
      have hal : acc.length < 64 := by omega
      have lt_lb := QL.lt
      have lt_gb := QG.lt
      have lt_k1 := Q1.lt
      have lt_k2 := Q2.lt
      refine wl_app Try.underlying55 inf62 rfl (by decide) (.tmp 20) (.tmp 30) w0.heap.size (.slice pa acc.length cap) acc.length (acc.flatMap S5.cells) k2 1 1 (⟨p, dp, s.nm, s.mx, s.pi, s.ci, s.items⟩ : S5).cells rfl rfl rfl hown rfl Q2 (fun u hu => by simp only [S5.cells, List.mem_cons, List.not_mem_nil, or_false] at hu; rcases hu with rfl | rfl | rfl | rfl | rfl <;> rfl) (by decide) (by unfold maxLen; omega) (by omega) M.size rfl ?_
      intro v9 w3 hOw hm9 hbk
      have hlt9 := fun k e => own_lt hown (k := k) e
      replace M := hm9.mo M (fun k e => (hlt9 k e).2)
      replace QL := hm9.at QL on_lb
      replace QG := hm9.at QG on_gb
      replace Q1 := hm9.at Q1 on_k1
      replace Q2 := hm9.at Q2 on_k2
      obtain ⟨pa1, cap1, rfl, _⟩ := own_form hOw
      replace hOw : w3.ownsRow w0.heap.size 62 5 (.slice pa1 (acc ++ [(⟨p, dp, s.nm, s.mx, s.pi, s.ci, s.items⟩ : S5)]).length cap1) (acc ++ [(⟨p, dp, s.nm, s.mx, s.pi, s.ci, s.items⟩ : S5)]).length ((acc ++ [(⟨p, dp, s.nm, s.mx, s.pi, s.ci, s.items⟩ : S5)]).flatMap S5.cells) := by simpa using hOw
      have hb1 : (Value.slice pa1 (acc ++ [(⟨p, dp, s.nm, s.mx, s.pi, s.ci, s.items⟩ : S5)]).length cap1).ownBlock = (Value.slice pa acc.length cap).ownBlock ∨ (Value.slice pa1 (acc ++ [(⟨p, dp, s.nm, s.mx, s.pi, s.ci, s.items⟩ : S5)]).length cap1).ownBlock = some w2.heap.size := by cases pa1 <;> exact hbk
      replace on_lb : (Value.slice pa1 (acc ++ [(⟨p, dp, s.nm, s.mx, s.pi, s.ci, s.items⟩ : S5)]).length cap1).ownBlock ≠ some lb := fun e => by rcases hb1 with h | h; exact on_lb (h.symm.trans e); have h8 := Option.some.inj (h.symm.trans e); have := lt_lb; omega
      replace on_gb : (Value.slice pa1 (acc ++ [(⟨p, dp, s.nm, s.mx, s.pi, s.ci, s.items⟩ : S5)]).length cap1).ownBlock ≠ some gb := fun e => by rcases hb1 with h | h; exact on_gb (h.symm.trans e); have h8 := Option.some.inj (h.symm.trans e); have := lt_gb; omega
      replace on_k1 : (Value.slice pa1 (acc ++ [(⟨p, dp, s.nm, s.mx, s.pi, s.ci, s.items⟩ : S5)]).length cap1).ownBlock ≠ some k1 := fun e => by rcases hb1 with h | h; exact on_k1 (h.symm.trans e); have h8 := Option.some.inj (h.symm.trans e); have := lt_k1; omega
      replace on_k2 : (Value.slice pa1 (acc ++ [(⟨p, dp, s.nm, s.mx, s.pi, s.ci, s.items⟩ : S5)]).length cap1).ownBlock ≠ some k2 := fun e => by rcases hb1 with h | h; exact on_k2 (h.symm.trans e); have h8 := Option.some.inj (h.symm.trans e); have := lt_k2; omega
      clear hown hlt9 hbk hb1 hm9
      have hown := hOw
      rw [show acc.length + 1 = (acc ++ [(⟨p, dp, s.nm, s.mx, s.pi, s.ci, s.items⟩ : S5)]).length by simp]
      refine wl_stm1 55 (.tmp 3) (.tmp 31) lb 0 (.slice pa1 (acc ++ [(⟨p, dp, s.nm, s.mx, s.pi, s.ci, s.items⟩ : S5)]).length cap1) [.slice pa acc.length cap] [.slice pa1 (acc ++ [(⟨p, dp, s.nm, s.mx, s.pi, s.ci, s.items⟩ : S5)]).length cap1] QL rfl rfl rfl rfl rfl sz55 rfl rfl rfl rfl ?_
      intro w4 hS hm9 Qn
      replace QL := Qn
      clear Qn
      replace QG := hS.other _ _ ne_lb_gb.symm QG
      replace Q1 := hS.other _ _ ne_lb_k1.symm Q1
      replace Q2 := hS.other _ _ ne_lb_k2.symm Q2
      replace hown := own_mk hown hm9 (fun k e h => on_lb (by rw [e, h]))
      replace M := hS.mo _ N_lb M
      clear hS hm9
      refine w_nil ?_
      refine xn_then ?_
      refine w_seq ?_
      refine w_reg ?_
      refine wl_un (fun v => Instr.fieldAt 48 v 3) (.tmp 5) (pt k1 0) (pt k1 3) (fun _ => rfl) rfl (by kernel_rfl) rfl ?_
      refine wl_load 46 (.tmp 32) (pt k1 3) (.slice s.pk s.kids.length s.ck) rfl rfl (run_one Q1 46 3 rfl Try.underlying46 rfl) rfl ?_
      refine wl_val (.int .i64 ((s.kids.length : Nat) : Int)) (len46 _ _ _ _ _ (by exact rfl) _ _ _ _ _ _) rfl ?_
      refine wl_mv (.const (.int .i64 (0))) (.int .i64 (0)) (fun _ => rfl) rfl rfl ?_
      refine w_nil ?_
      refine xn_then ?_
      refine w_block ?_
      have hcond : ¬ (64 ≤ acc.length ∨ 16 < dp) := by omega
      have hG1 : GA w0 w4 lb gb pa1 cap1 (acc ++ [(⟨p, dp, s.nm, s.mx, s.pi, s.ci, s.items⟩ : S5)]) := ⟨M, QL, QG, hown, fun k e => ⟨fun h => on_lb (by rw [← h]; exact e), fun h => on_gb (by rw [← h]; exact e)⟩⟩
      have hzk := hL.kd.1
      unfold maxLen at hzk
      refine w_loop (fun m l w1 => ∃ i : Nat, m = s.kids.length - i ∧ i ≤ s.kids.length ∧ look l 0 = .agg (s.cells).toArray ∧ look l 1 = .int .i64 (p) ∧ look l 2 = .int .i64 (dp) ∧ look l 3 = pt lb 0 ∧ look l 4 = pt gb 0 ∧ look l 8 = .int .i64 ((acc.length : Nat) : Int) ∧ look l 33 = .slice s.pk s.kids.length s.ck ∧ look l 34 = .int .i64 ((s.kids.length : Nat) : Int) ∧ look l 35 = .int .i64 ((i : Nat) : Int) ∧ ∃ pa cap, GA w0 w1 lb gb pa cap (fk s acc p dp i)) _ ⟨0, rfl, Nat.zero_le _, rfl, rfl, rfl, rfl, rfl, rfl, rfl, rfl, rfl, ⟨_, _, hG1⟩⟩ ?_
      clear QL QG Q1 Q2 M
      rintro m l40 wl40 ⟨i, rfl, hi, e40_0, e40_1, e40_2, e40_3, e40_4, e40_8, e40_33, e40_34, e40_i, hE⟩
      by_cases hil : i < s.kids.length
      · skip
        have hid : decide (i < s.kids.length) = true := decide_eq_true hil
        obtain ⟨pa2, cap2, hG2⟩ := hE
        have M := hG2.mo
        have QL := hG2.la
        have QG := hG2.ga
        have hown := hG2.ow
        have on_lb : (Value.slice pa2 (fk s acc p dp i).length cap2).ownBlock ≠ some lb := fun e => (hG2.ap lb e).1 rfl
        have on_gb : (Value.slice pa2 (fk s acc p dp i).length cap2).ownBlock ≠ some gb := fun e => (hG2.ap gb e).2 rfl
        obtain ⟨k, hk⟩ := get_of_lt hil
        obtain ⟨b1, o1, hp1, hR1⟩ := D.SL.rw hL.kd hk
        refine w_seq ?_
        refine w_reg ?_
        refine wl_bin (fun x y => do eqGuard .lss 3 (.tmp 35) (.tmp 34) x y; binOp .lss 3 x y) (.tmp 35) (.tmp 34) (.int .i64 ((i : Nat) : Int)) (.int .i64 ((s.kids.length : Nat) : Int)) (.bool true) (fun _ => rfl) e40_i e40_34 (ltN hid _ _ _) rfl ?_
        refine w_nil ?_
        refine xn_then ?_
        refine w_seq ?_
        refine w_condT rfl ?_
        refine w_skip ?_
        refine xn_then ?_
        refine w_seq ?_
        refine w_block ?_
        refine w_seq ?_
        refine w_reg ?_
        refine wl_bin (fun x y => Instr.indexAt 46 x y) (.tmp 33) (.tmp 35) (.slice s.pk s.kids.length s.ck) (.int .i64 ((i : Nat) : Int)) (pt b1 (o1 + i * 4)) (fun _ => rfl) e40_33 e40_i (ix46 (i := i) hp1 hil _) rfl ?_
        refine wl_load 48 (.tmp 37) (pt b1 (o1 + i * 4)) (.agg (k.cells).toArray) rfl rfl (D.run_partR (hR1.mo M).at' 48 0 4 (k.cells) rfl Try.underlying48 rfl sz48) rfl ?_
        refine wl_alloc 48 #[.string ⟨#[]⟩, .int .i64 0, .slice none 0 0, .slice none 0 0] rfl (fun _ => by kernel_rfl) rfl ?_
        intro k3 w41 hk hz hq Q3
        have ne_lb_k3 : lb ≠ k3 := by have := QL.lt; omega
        have ne_gb_k3 : gb ≠ k3 := by have := QG.lt; omega
        have on_k3 : (Value.slice pa2 (fk s acc p dp i).length cap2).ownBlock ≠ some k3 := fun e => by have := (hown.lt _ e).2; omega
        have N_k3 : w0.heap.size ≤ k3 := by have := M.size; omega
        replace hown := own_mo hown hq
        replace QL := QL.mo hq
        replace QG := QG.mo hq
        replace M := M.trans hq
        clear hk hz hq
        refine wl_stm 48 (.tmp 10) (.tmp 38) k3 0 ((k.cells).toArray) [.string ⟨#[]⟩, .int .i64 0, .slice none 0 0, .slice none 0 0] (k.cells) Q3 rfl rfl rfl rfl rfl sz48 rfl rfl rfl ?_
        intro w42 hS hm9 Qn
        replace Q3 := Qn
        clear Qn
        replace QL := hS.other _ _ ne_lb_k3 QL
        replace QG := hS.other _ _ ne_gb_k3 QG
        replace hown := own_mk hown hm9 (fun k e h => on_k3 (by rw [e, h]))
        replace M := hS.mo _ N_k3 M
        clear hS hm9
        refine w_nil ?_
        refine xn_then ?_
        refine w_reg ?_
        refine wl_load 133 (.tmp 4) (pt gb 0) (.func (.func 70) #[] #[pt lb 0, pt gb 0]) rfl e40_4 (run_one QG 133 0 rfl Try.underlying133 rfl) rfl ?_
        refine wl_load 48 (.tmp 10) (pt k3 0) (.agg (k.cells).toArray) rfl rfl (run_row Q3 48 0 4 (k.cells) rfl Try.underlying48 rfl sz48) rfl ?_
        refine wl_mv (.tmp 8) (.int .i64 ((acc.length : Nat) : Int)) (fun _ => rfl) e40_8 rfl ?_
        refine wl_mv (.tmp 2) (.int .i64 (dp)) (fun _ => rfl) e40_2 rfl ?_
        refine wl_bin (fun x y => do eqGuard .add 3 (.tmp 42) (.const (.int .i64 (1))) x y; binOp .add 3 x y) (.tmp 42) (.const (.int .i64 (1))) (.int .i64 (dp)) (.int .i64 (1)) (.int .i64 (dp + 1)) (fun _ => rfl) rfl rfl (add1i (k := dp) (by omega) (by omega) _ _ _) rfl ?_
        have hG3 : GA w0 w42 lb gb pa2 cap2 (fk s acc p dp i) := ⟨M, QL, QG, hown, hG2.ap⟩
        refine wl_callv 70 (.tmp 39) #[] #[pt lb 0, pt gb 0] [(.tmp 40), (.tmp 41), (.tmp 43)] _ [.agg (k.cells).toArray, .int .i64 ((acc.length : Nat) : Int), .int .i64 (dp + 1)] [.agg (k.cells).toArray, .int .i64 ((acc.length : Nat) : Int), .int .i64 (dp + 1), pt lb 0, pt gb 0] rfl rfl rfl rfl (fun _ _ => by kernel_rfl) (ih k (List.mem_of_getElem? hk) (hL.kr k (List.mem_of_getElem? hk)) (fk s acc p dp i) _ _ pa2 cap2 _ hG3 (fk_len (by omega) i) (by omega) (by omega)) rfl ?_
        rintro e9 w43 ⟨rfl, hE2⟩
        refine ⟨_, rfl, ?_⟩
        refine w_nil ?_
        refine xn_blk ?_
        refine xn_then ?_
        refine w_reg ?_
        refine wl_bin (fun x y => do eqGuard .add 3 (.tmp 35) (.const (.int .i64 (1))) x y; binOp .add 3 x y) (.tmp 35) (.const (.int .i64 (1))) (.int .i64 ((i : Nat) : Int)) (.int .i64 (1)) (.int .i64 ((i + 1 : Nat) : Int)) (fun _ => rfl) e40_i rfl (add1r (k := i) (by omega) _ _ _) rfl ?_
        refine wl_mv (.tmp 45) (.int .i64 ((i + 1 : Nat) : Int)) (fun _ => rfl) rfl rfl ?_
        refine w_nil ?_
        exact xn_loop (s.kids.length - (i + 1)) (by omega) ⟨i + 1, rfl, by omega, e40_0, e40_1, e40_2, e40_3, e40_4, e40_8, e40_33, e40_34, rfl, by rw [fk_s hk]; exact hE2⟩
      · skip
        have hid : decide (i < s.kids.length) = false := decide_eq_false hil
        have hie : i = s.kids.length := by omega
        refine w_seq ?_
        refine w_reg ?_
        refine wl_bin (fun x y => do eqGuard .lss 3 (.tmp 35) (.tmp 34) x y; binOp .lss 3 x y) (.tmp 35) (.tmp 34) (.int .i64 ((i : Nat) : Int)) (.int .i64 ((s.kids.length : Nat) : Int)) (.bool false) (fun _ => rfl) e40_i e40_34 (ltN hid _ _ _) rfl ?_
        refine w_nil ?_
        refine xn_then ?_
        refine w_seq ?_
        refine w_condF rfl ?_
        refine w_exit ?_
        refine xx_then ?_
        refine xx_then ?_
        refine xx_blk ?_
        exact w_end0 rfl ⟨rfl, by obtain ⟨pa2, cap2, h⟩ := hE; rw [flt_eq, if_neg hcond]; rw [hie] at h; unfold fk at h; rw [List.take_length] at h; exact ⟨_, _, h⟩⟩
end Go.Proofs.Ytepfokoepibkcaa
namespace Go.Proofs.Ytepfokoepibkcaa
open Go.RowKit D
theorem foldl_inv {I : List S5 → Prop} {f : List S5 → Se → List S5} : ∀ (l : List Se) (b : List S5), I b → (∀ k ∈ l, ∀ a, I a → I (f a k)) → I (l.foldl f b)
  | [], _, h, _ => h
  | x :: l, b, h, hs => by rw [List.foldl_cons]; exact foldl_inv l _ (hs x (List.mem_cons_self ..) b h) (fun k hk => hs k (List.mem_cons_of_mem _ hk))
theorem flt_ls {W : World} : ∀ (s : Se), LSe W s → ∀ (acc : List S5) (p dp : Int), (∀ x ∈ acc, LS5 W x) → ∀ x ∈ flt s acc p dp, LS5 W x := by
  refine Se.ind2 ?_
  intro s ih hL acc p dp ha
  rw [flt_eq]
  split
  · exact ha
  · refine foldl_inv (I := fun a => ∀ x ∈ a, LS5 W x) s.kids _ (fun x hx => ?_) (fun k hk a hA => ih k hk (hL.kr k hk) a _ _ hA)
    rcases List.mem_append.1 hx with h | h
    · exact ha x h
    · rw [List.mem_singleton.1 h]; exact ⟨hL.it, hL.ex⟩
theorem Wf3.snoc {L : List S5} (h : Wf3 L) {x : S5} (h1 : x.pr < L.length) (h2 : -1 ≤ x.pr) (h3 : 0 < L.length → 0 ≤ x.pr) : Wf3 (L ++ [x]) := fun i y hy => by
  rcases Nat.lt_or_ge i L.length with q | q
  · rw [List.getElem?_append_left q] at hy; exact h i y hy
  · have hi : i = L.length := by have := lt_of_get hy; simp at this; omega
    subst hi
    simp at hy
    subst hy
    exact ⟨h1, h2, h3⟩
theorem flt_wf : ∀ (s : Se) (acc : List S5) (p dp : Int), Wf3 acc → p < acc.length → -1 ≤ p → (0 < acc.length → 0 ≤ p) → Wf3 (flt s acc p dp) ∧ acc.length ≤ (flt s acc p dp).length := by
  refine Se.ind2 ?_
  intro s ih acc p dp hw h1 h2 h3
  rw [flt_eq]
  split
  · exact ⟨hw, Nat.le_refl _⟩
  · have h0 : Wf3 (acc ++ [(⟨p, dp, s.nm, s.mx, s.pi, s.ci, s.items⟩ : S5)]) ∧ acc.length < (acc ++ [(⟨p, dp, s.nm, s.mx, s.pi, s.ci, s.items⟩ : S5)]).length := ⟨hw.snoc h1 h2 h3, by simp⟩
    have := foldl_inv (I := fun a => Wf3 a ∧ acc.length < a.length) (f := fun a k => flt k a acc.length (dp + 1)) s.kids _ h0 (fun k hk a hA => by
      have := ih k hk a acc.length (dp + 1) hA.1 (by omega) (by omega) (fun _ => by omega)
      exact ⟨this.1, by omega⟩)
    exact ⟨this.1, by omega⟩
/-- A definition's sections by their numbers. -/
def fla (d : Df) : List S5 := flt d.rt [] (-1) 1
theorem fla_len (d : Df) : (fla d).length ≤ 64 := flt_len _ _ _ _ (by simp)
theorem Wf3.nil : Wf3 [] := fun i x h => by simp at h
theorem fla_wf (d : Df) : Wf3 (fla d) := (flt_wf d.rt [] (-1) 1 Wf3.nil (by simp) (by omega) (fun h => by simp at h)).1
theorem fla_pos (d : Df) : 0 < (fla d).length := by
  unfold fla
  rw [flt_eq, if_neg (by simp)]
  refine foldl_inv (I := fun a => Wf3 a ∧ 0 < a.length) d.rt.kids _ ⟨Wf3.nil.snoc (by simp) (by simp) (fun h => by simp at h), by simp⟩ (fun k _ a hA => ?_) |>.2
  have := flt_wf k a ([] : List S5).length (1 + 1) hA.1 (by simpa using hA.2) (by simp) (fun _ => by simp)
  exact ⟨this.1, by omega⟩
/-! What newChecker lays. -/
section
variable {wA w w' : World} {kc : Nat} {MI KI : List Nat} {ip kp : Option Addr} {ic kk : Nat}
end
section
variable {P : Program} {o : Oper} {n : Nat} {l : List (Nat × Value)} {w : World} {Q : Exit → Act → World → Prop} {K : Act → World → Prop}
end
end Go.Proofs.Ytepfokoepibkcaa
namespace Go.Proofs.Ytepfokoepibkcaa
open Go.RowKit D
theorem flat_n (s : Se) {w : World} (hL : LSe w s) : Calls Try.prog 51 #[.agg (s.cells).toArray] w fun e w' => ∃ pa cap, e = .returned (.slice pa (flt s [] (-1) 1).length cap) ∧ Mo w w' ∧ w'.ownsRow w.heap.size 62 5 (.slice pa (flt s [] (-1) 1).length cap) (flt s [] (-1) 1).length ((flt s [] (-1) 1).flatMap S5.cells) := by
  refine w_enter 10 Try.func51 Try.ntmps51 rfl rfl ?_
  have M : Mo w w := Mo.refl _
  refine w_seq ?_
  refine w_reg ?_
  refine wl_box 48 (.tmp 0) (.agg (s.cells).toArray) (((s.cells).toArray)) rfl rfl (fun _ => by kernel_rfl) rfl ?_
  intro k1 w1 hk hz hq Q1
  have N_k1 : w.heap.size ≤ k1 := by have := M.size; omega
  replace M := M.trans hq
  clear hk hz hq
  refine wl_mv (.const (.slice none 0 0)) (.slice none 0 0) (fun _ => rfl) rfl rfl ?_
  refine w_nil ?_
  refine xn_then ?_
  refine w_seq ?_
  refine w_reg ?_
  refine wl_alloc 55 #[.slice none 0 0] rfl (fun _ => by kernel_rfl) rfl ?_
  intro k2 w2 hk hz hq Q2
  have ne_k1_k2 : k1 ≠ k2 := by have := Q1.lt; omega
  have N_k2 : w.heap.size ≤ k2 := by have := M.size; omega
  replace Q1 := Q1.mo hq
  replace M := M.trans hq
  clear hk hz hq
  refine w_nil ?_
  refine xn_then ?_
  refine w_seq ?_
  refine w_reg ?_
  refine wl_alloc 133 #[.nilFunc] rfl (fun _ => by kernel_rfl) rfl ?_
  intro k3 w3 hk hz hq Q3
  have ne_k1_k3 : k1 ≠ k3 := by have := Q1.lt; omega
  have ne_k2_k3 : k2 ≠ k3 := by have := Q2.lt; omega
  have N_k3 : w.heap.size ≤ k3 := by have := M.size; omega
  replace Q1 := Q1.mo hq
  replace Q2 := Q2.mo hq
  replace M := M.trans hq
  clear hk hz hq
  refine w_nil ?_
  refine xn_then ?_
  refine w_seq ?_
  refine w_reg ?_
  refine wl_mf (.func 70) [] [(.tmp 3), (.tmp 4)] [] [pt k2 0, pt k3 0] rfl rfl rfl rfl ?_
  refine wl_st1 133 (.tmp 4) (.tmp 5) k3 0 (.func (.func 70) #[] #[pt k2 0, pt k3 0]) [.nilFunc] [.func (.func 70) #[] #[pt k2 0, pt k3 0]] Q3 rfl rfl rfl rfl rfl sz133 rfl rfl rfl rfl ?_
  intro w4 hS Qn
  replace Q3 := Qn
  clear Qn
  replace Q1 := hS.other _ _ ne_k1_k3 Q1
  replace Q2 := hS.other _ _ ne_k2_k3 Q2
  replace M := hS.mo _ N_k3 M
  clear hS
  refine w_nil ?_
  refine xn_then ?_
  refine w_seq ?_
  refine w_reg ?_
  refine wl_load 133 (.tmp 4) (pt k3 0) (.func (.func 70) #[] #[pt k2 0, pt k3 0]) rfl rfl (run_one Q3 133 0 rfl Try.underlying133 rfl) rfl ?_
  refine wl_load 48 (.tmp 1) (pt k1 0) (.agg (s.cells).toArray) rfl rfl (run_row Q1 48 0 4 (s.cells) rfl Try.underlying48 rfl sz48) rfl ?_
  have hG3 : GA w w4 k2 k3 none 0 [] := ⟨M, Q2, Q3, ⟨rfl, Or.inl ⟨rfl, rfl⟩⟩, fun k e => by cases e⟩
  refine wl_callv 70 (.tmp 6) #[] #[pt k2 0, pt k3 0] [(.tmp 7), (.const (.int .i64 (-1))), (.const (.int .i64 (1)))] _ [.agg (s.cells).toArray, .int .i64 (-1), .int .i64 (1)] [.agg (s.cells).toArray, .int .i64 (-1), .int .i64 (1), pt k2 0, pt k3 0] rfl rfl rfl rfl (fun _ _ => by kernel_rfl) (gather_n ne_k2_k3 N_k2 s hL [] _ _ none 0 _ hG3 (by simp) (by omega) (by omega)) rfl ?_
  rintro e9 w5 ⟨rfl, pa, cap, hG4⟩
  refine ⟨_, rfl, ?_⟩
  have QF := hG4.la
  replace M := hG4.mo
  refine w_nil ?_
  refine xn_then ?_
  refine w_seq ?_
  refine w_reg ?_
  refine wl_load 55 (.tmp 3) (pt k2 0) (.slice pa (flt s [] (-1) 1).length cap) rfl rfl (run_one QF 55 0 rfl Try.underlying55 rfl) rfl ?_
  refine wl_mv (.tmp 9) (.slice pa (flt s [] (-1) 1).length cap) (fun _ => rfl) rfl rfl ?_
  refine w_nil ?_
  refine xn_then ?_
  refine w_ret ?_
  exact w_ret1 _ (.slice pa (flt s [] (-1) 1).length cap) rfl rfl ⟨pa, cap, rfl, M, hG4.ow⟩
end Go.Proofs.Ytepfokoepibkcaa
namespace Go.Proofs.Ytepfokoepibkcaa
open Go.RowKit D
theorem inf38 : ∃ i, Try.prog.info? 38 = some i ∧ i.zero = some (.agg #[.int .i64 0, .int .i64 0, .string ⟨#[]⟩, .string ⟨#[]⟩, .int .i64 0, .bool false, .int .u64 0, .int .u64 0, .int .u64 0, .int .u64 0, .int .i64 0, .bool false, .string ⟨#[]⟩, .int .i64 0, .int .i64 0, .int .i64 0, .slice none 0 0]) ∧ i.size = 17 ∧ i.bytes = 176 := by
  have h : (Try.prog.info? 38).map (fun i => (i.zero, i.size, i.bytes)) = some (some (.agg #[.int .i64 0, .int .i64 0, .string ⟨#[]⟩, .string ⟨#[]⟩, .int .i64 0, .bool false, .int .u64 0, .int .u64 0, .int .u64 0, .int .u64 0, .int .i64 0, .bool false, .string ⟨#[]⟩, .int .i64 0, .int .i64 0, .int .i64 0, .slice none 0 0]), 17, 176) := by kernel_rfl
  cases hi : Try.prog.info? 38 with
  | none => rw [hi] at h; cases h
  | some i =>
    rw [hi] at h
    simp at h
    exact ⟨i, rfl, h.1, h.2.1, h.2.2⟩
theorem inf67 : ∃ i, Try.prog.info? 67 = some i ∧ i.zero = some (.agg #[.string ⟨#[]⟩, .int .i64 0, .int .i64 0, .int .i64 0, .bool false, .int .i64 0, .int .i64 0, .int .i64 0, .string ⟨#[]⟩, .string ⟨#[]⟩, .int .i64 0, .bool false, .int .u64 0, .int .u64 0, .int .u64 0, .int .u64 0, .int .i64 0, .bool false, .string ⟨#[]⟩, .int .i64 0, .int .i64 0, .int .i64 0, .slice none 0 0]) ∧ i.size = 23 ∧ i.bytes = 232 := by
  have h : (Try.prog.info? 67).map (fun i => (i.zero, i.size, i.bytes)) = some (some (.agg #[.string ⟨#[]⟩, .int .i64 0, .int .i64 0, .int .i64 0, .bool false, .int .i64 0, .int .i64 0, .int .i64 0, .string ⟨#[]⟩, .string ⟨#[]⟩, .int .i64 0, .bool false, .int .u64 0, .int .u64 0, .int .u64 0, .int .u64 0, .int .i64 0, .bool false, .string ⟨#[]⟩, .int .i64 0, .int .i64 0, .int .i64 0, .slice none 0 0]), 23, 232) := by kernel_rfl
  cases hi : Try.prog.info? 67 with
  | none => rw [hi] at h; cases h
  | some i =>
    rw [hi] at h
    simp at h
    exact ⟨i, rfl, h.1, h.2.1, h.2.2⟩
/-- No list of parts is longer than memory. -/
def AB : Ex → Prop
  | .mk _ _ _ _ _ _ _ _ _ args => args.length * 176 ≤ 140737488351232 ∧ ∀ o ∈ args, AB o
theorem AB.inv : ∀ {x : Ex}, AB x → x.args.length * 176 ≤ 140737488351232 ∧ ∀ o ∈ x.args, AB o
  | .mk _ _ _ _ _ _ _ _ _ _, h => by rw [AB] at h; exact h
theorem AB.mk : ∀ {x : Ex}, x.args.length * 176 ≤ 140737488351232 → (∀ o ∈ x.args, AB o) → AB x
  | .mk _ _ _ _ _ _ _ _ _ _, h1, h2 => by rw [AB]; exact ⟨h1, h2⟩
theorem AB.ln {x : Ex} (h : AB x) : x.args.length * 176 ≤ 140737488351232 := h.inv.1
theorem AB.ar {x : Ex} (h : AB x) : ∀ o ∈ x.args, AB o := h.inv.2
theorem cargs_n : ∀ (x : Ex), AB x → ∀ {w : World}, LEx w x → Calls Try.prog 71 #[.slice x.pa x.args.length x.cap] w fun e w' => ∃ pa cap, e = .returned (.slice pa x.args.length cap) ∧ Mo w w' := by
  refine Ex.ind2 ?_
  intro x ih hB w hL
  refine w_enter 22 Try.func71 Try.ntmps71 rfl rfl ?_
  have M : Mo w w := Mo.refl _
  refine w_seq ?_
  refine w_reg ?_
  refine wl_mv (.const (.slice none 0 0)) (.slice none 0 0) (fun _ => rfl) rfl rfl ?_
  refine w_nil ?_
  refine xn_then ?_
  refine w_seq ?_
  refine w_reg ?_
  refine wl_mv (.const (.slice none 0 0)) (.slice none 0 0) (fun _ => rfl) rfl rfl ?_
  refine w_nil ?_
  refine xn_then ?_
  refine w_seq ?_
  refine w_seq ?_
  refine w_reg ?_
  refine wl_mv (.tmp 0) (.slice x.pa x.args.length x.cap) (fun _ => rfl) rfl rfl ?_
  refine wl_val (.int .i64 ((x.args.length : Nat) : Int)) (len36 _ _ _ _ _ (by exact rfl) _ _ _ _ _ _) rfl ?_
  refine wl_mv (.const (.int .i64 (0))) (.int .i64 (0)) (fun _ => rfl) rfl rfl ?_
  refine w_nil ?_
  refine xn_then ?_
  refine w_block ?_
  have hz := hB.ln
  refine w_loop (fun m l w1 => ∃ i : Nat, m = x.args.length - i ∧ i ≤ x.args.length ∧ look l 6 = .slice x.pa x.args.length x.cap ∧ look l 7 = .int .i64 ((x.args.length : Nat) : Int) ∧ look l 8 = .int .i64 ((i : Nat) : Int) ∧ ∃ pa1 cap1 xs, look l 3 = .slice pa1 i cap1 ∧ w1.ownsRow w.heap.size 38 17 (.slice pa1 i cap1) i xs ∧ Mo w w1) _ ⟨0, rfl, Nat.zero_le _, rfl, rfl, rfl, ⟨none, 0, [], rfl, ⟨rfl, Or.inl ⟨rfl, rfl⟩⟩, M⟩⟩ ?_
  clear M
  rintro m l40 wl40 ⟨i, rfl, hi, e40_6, e40_7, e40_i, hE⟩
  by_cases hil : i < x.args.length
  · skip
    have hid : decide (i < x.args.length) = true := decide_eq_true hil
    obtain ⟨pa1, cap1, xs, e3, hown, M⟩ := hE
    obtain ⟨a, ha⟩ := get_of_lt hil
    have hma := List.mem_of_getElem? ha
    obtain ⟨b1, o1, hp1, hR1⟩ := D.SL.rw hL.sl ha
    refine w_seq ?_
    refine w_reg ?_
    refine wl_bin (fun x y => do eqGuard .lss 3 (.tmp 8) (.tmp 7) x y; binOp .lss 3 x y) (.tmp 8) (.tmp 7) (.int .i64 ((i : Nat) : Int)) (.int .i64 ((x.args.length : Nat) : Int)) (.bool true) (fun _ => rfl) e40_i e40_7 (ltN hid _ _ _) rfl ?_
    refine w_nil ?_
    refine xn_then ?_
    refine w_seq ?_
    refine w_condT rfl ?_
    refine w_skip ?_
    refine xn_then ?_
    refine w_seq ?_
    refine w_block ?_
    refine w_seq ?_
    refine w_reg ?_
    refine wl_bin (fun x y => Instr.indexAt 36 x y) (.tmp 6) (.tmp 8) (.slice x.pa x.args.length x.cap) (.int .i64 ((i : Nat) : Int)) (pt b1 (o1 + i * 17)) (fun _ => rfl) e40_6 e40_i (ix36 (i := i) hp1 hil _) rfl ?_
    refine wl_load 38 (.tmp 10) (pt b1 (o1 + i * 17)) (.agg (a.cells).toArray) rfl rfl (D.run_partR (hR1.mo M).at' 38 0 17 (a.cells) rfl Try.underlying38 rfl sz38) rfl ?_
    refine wl_alloc 38 #[.int .i64 0, .int .i64 0, .string ⟨#[]⟩, .string ⟨#[]⟩, .int .i64 0, .bool false, .int .u64 0, .int .u64 0, .int .u64 0, .int .u64 0, .int .i64 0, .bool false, .string ⟨#[]⟩, .int .i64 0, .int .i64 0, .int .i64 0, .slice none 0 0] rfl (fun _ => by kernel_rfl) rfl ?_
    intro k1 u41 hk hz hq Q1
    have on_k1 : (Value.slice pa1 i cap1).ownBlock ≠ some k1 := fun e => by have := (hown.lt _ e).2; omega
    have N_k1 : w.heap.size ≤ k1 := by have := M.size; omega
    replace hown := own_mo hown hq
    replace M := M.trans hq
    clear hk hz hq
    refine wl_stm 38 (.tmp 5) (.tmp 11) k1 0 ((a.cells).toArray) [.int .i64 0, .int .i64 0, .string ⟨#[]⟩, .string ⟨#[]⟩, .int .i64 0, .bool false, .int .u64 0, .int .u64 0, .int .u64 0, .int .u64 0, .int .i64 0, .bool false, .string ⟨#[]⟩, .int .i64 0, .int .i64 0, .int .i64 0, .slice none 0 0] (a.cells) Q1 rfl rfl rfl rfl rfl sz38 rfl rfl rfl ?_
    intro u42 hS hm9 Qn
    replace Q1 := Qn
    clear Qn
    replace hown := own_mk hown hm9 (fun k e h => on_k1 (by rw [e, h]))
    replace M := hS.mo _ N_k1 M
    clear hS hm9
    refine w_nil ?_
    refine xn_then ?_
    refine w_seq ?_
    refine w_reg ?_
    refine wl_un (fun v => Instr.fieldAt 38 v 7) (.tmp 5) (pt k1 0) (pt k1 16) (fun _ => rfl) rfl (by kernel_rfl) rfl ?_
    refine wl_load 36 (.tmp 12) (pt k1 16) (.slice a.pa a.args.length a.cap) rfl rfl (run_one Q1 36 16 rfl Try.underlying36 rfl) rfl ?_
    refine wl_callx 71 [(.tmp 13)] _ [.slice a.pa a.args.length a.cap] rfl rfl (fun _ _ => by kernel_rfl) (ih a hma (hB.ar a hma) ((hL.ar a hma).kp M.kp)) rfl ?_
    rintro e9 u43 ⟨pa9, cap9, rfl, hq⟩
    refine ⟨_, rfl, ?_⟩
    replace hown := own_mo hown hq
    replace Q1 := Q1.mo hq
    replace M := M.trans hq
    clear hq
    refine wl_un (fun v => Instr.fieldAt 38 v 7) (.tmp 5) (pt k1 0) (pt k1 16) (fun _ => rfl) rfl (by kernel_rfl) rfl ?_
    refine wl_stm1 36 (.tmp 15) (.tmp 14) k1 16 (.slice pa9 a.args.length cap9) (a.cells) [.int .i64 a.k, .int .i64 a.op, .string a.nm, .string a.se, .int .i64 a.v.k, .bool a.v.d.b, .int .u64 a.v.d.n0, .int .u64 a.v.d.n1, .int .u64 a.v.d.n2, .int .u64 a.v.d.n3, .int .i64 a.v.d.s, .bool a.v.f, .string a.v.t, .int .i64 a.v.e, .int .i64 a.sc, .int .i64 a.po, .slice pa9 a.args.length cap9] Q1 rfl rfl rfl rfl rfl sz36 rfl rfl rfl rfl ?_
    intro u44 hS hm9 Qn
    replace Q1 := Qn
    clear Qn
    replace hown := own_mk hown hm9 (fun k e h => on_k1 (by rw [e, h]))
    replace M := hS.mo _ N_k1 M
    clear hS hm9
    refine w_nil ?_
    refine xn_then ?_
    refine w_reg ?_
    refine wl_mv (.tmp 3) (.slice pa1 i cap1) (fun _ => rfl) e3 rfl ?_
    refine wl_load 38 (.tmp 5) (pt k1 0) (.agg #[.int .i64 a.k, .int .i64 a.op, .string a.nm, .string a.se, .int .i64 a.v.k, .bool a.v.d.b, .int .u64 a.v.d.n0, .int .u64 a.v.d.n1, .int .u64 a.v.d.n2, .int .u64 a.v.d.n3, .int .i64 a.v.d.s, .bool a.v.f, .string a.v.t, .int .i64 a.v.e, .int .i64 a.sc, .int .i64 a.po, .slice pa9 a.args.length cap9]) rfl rfl (run_row Q1 38 0 17 [.int .i64 a.k, .int .i64 a.op, .string a.nm, .string a.se, .int .i64 a.v.k, .bool a.v.d.b, .int .u64 a.v.d.n0, .int .u64 a.v.d.n1, .int .u64 a.v.d.n2, .int .u64 a.v.d.n3, .int .i64 a.v.d.s, .bool a.v.f, .string a.v.t, .int .i64 a.v.e, .int .i64 a.sc, .int .i64 a.po, .slice pa9 a.args.length cap9] rfl Try.underlying38 rfl sz38) rfl ?_
    refine wl_bs 36 1 [(0, (.tmp 17))] [(0, .agg #[.int .i64 a.k, .int .i64 a.op, .string a.nm, .string a.se, .int .i64 a.v.k, .bool a.v.d.b, .int .u64 a.v.d.n0, .int .u64 a.v.d.n1, .int .u64 a.v.d.n2, .int .u64 a.v.d.n3, .int .i64 a.v.d.s, .bool a.v.f, .string a.v.t, .int .i64 a.v.e, .int .i64 a.sc, .int .i64 a.po, .slice pa9 a.args.length cap9])] #[.int .i64 a.k, .int .i64 a.op, .string a.nm, .string a.se, .int .i64 a.v.k, .bool a.v.d.b, .int .u64 a.v.d.n0, .int .u64 a.v.d.n1, .int .u64 a.v.d.n2, .int .u64 a.v.d.n3, .int .i64 a.v.d.s, .bool a.v.f, .string a.v.t, .int .i64 a.v.e, .int .i64 a.sc, .int .i64 a.po, .slice pa9 a.args.length cap9] 38 rfl rfl (fun _ => by kernel_rfl) rfl ?_
    intro k2 u45 hk hz hq Q2
    have ne_k1_k2 : k1 ≠ k2 := by have := Q1.lt; omega
    have N_k2 : w.heap.size ≤ k2 := by have := M.size; omega
    have on_k2 : (Value.slice pa1 i cap1).ownBlock ≠ some k2 := fun e => by have := (own_lt hown e).1; omega
    replace hown := own_mo hown hq
    replace Q1 := Q1.mo hq
    replace M := M.trans hq
    clear hk hz hq
    refine wl_app Try.underlying36 inf38 rfl (by decide) (.tmp 16) (.tmp 18) w.heap.size (.slice pa1 i cap1) i xs k2 1 1 [.int .i64 a.k, .int .i64 a.op, .string a.nm, .string a.se, .int .i64 a.v.k, .bool a.v.d.b, .int .u64 a.v.d.n0, .int .u64 a.v.d.n1, .int .u64 a.v.d.n2, .int .u64 a.v.d.n3, .int .i64 a.v.d.s, .bool a.v.f, .string a.v.t, .int .i64 a.v.e, .int .i64 a.sc, .int .i64 a.po, .slice pa9 a.args.length cap9] rfl rfl rfl hown rfl Q2 (fun u hu => by simp only [List.mem_cons, List.not_mem_nil, or_false] at hu; rcases hu with rfl | rfl | rfl | rfl | rfl | rfl | rfl | rfl | rfl | rfl | rfl | rfl | rfl | rfl | rfl | rfl | rfl <;> rfl) (by decide) (by unfold maxLen; omega) (by omega) M.size rfl ?_
    intro v9 u46 hOw hm9 hbk
    replace M := hm9.mo M (fun k e => (own_lt hown e).2)
    obtain ⟨pa2, cap2, rfl, _⟩ := own_form hOw
    clear hown hbk hm9
    refine wl_mv (.tmp 19) (.slice pa2 (i + 1) cap2) (fun _ => rfl) rfl rfl ?_
    refine w_nil ?_
    refine xn_blk ?_
    refine xn_then ?_
    refine w_reg ?_
    refine wl_bin (fun x y => do eqGuard .add 3 (.tmp 8) (.const (.int .i64 (1))) x y; binOp .add 3 x y) (.tmp 8) (.const (.int .i64 (1))) (.int .i64 ((i : Nat) : Int)) (.int .i64 (1)) (.int .i64 ((i + 1 : Nat) : Int)) (fun _ => rfl) e40_i rfl (add1r (k := i) (by omega) _ _ _) rfl ?_
    refine wl_mv (.tmp 20) (.int .i64 ((i + 1 : Nat) : Int)) (fun _ => rfl) rfl rfl ?_
    refine w_nil ?_
    exact xn_loop (x.args.length - (i + 1)) (by omega) ⟨i + 1, rfl, by omega, e40_6, e40_7, rfl, ⟨pa2, cap2, _, rfl, hOw, M⟩⟩
  · skip
    have hid : decide (i < x.args.length) = false := decide_eq_false hil
    have hie : i = x.args.length := by omega
    obtain ⟨pa1, cap1, xs, e3, hown, M⟩ := hE
    refine w_seq ?_
    refine w_reg ?_
    refine wl_bin (fun x y => do eqGuard .lss 3 (.tmp 8) (.tmp 7) x y; binOp .lss 3 x y) (.tmp 8) (.tmp 7) (.int .i64 ((i : Nat) : Int)) (.int .i64 ((x.args.length : Nat) : Int)) (.bool false) (fun _ => rfl) e40_i e40_7 (ltN hid _ _ _) rfl ?_
    refine w_nil ?_
    refine xn_then ?_
    refine w_seq ?_
    refine w_condF rfl ?_
    refine w_exit ?_
    refine xx_then ?_
    refine xx_then ?_
    refine xx_blk ?_
    refine xn_then ?_
    refine w_seq ?_
    refine w_reg ?_
    refine wl_mv (.tmp 3) (.slice pa1 i cap1) (fun _ => rfl) e3 rfl ?_
    refine wl_mv (.tmp 21) (.slice pa1 i cap1) (fun _ => rfl) rfl rfl ?_
    refine w_nil ?_
    refine xn_then ?_
    refine w_ret ?_
    exact w_ret1 _ (.slice pa1 i cap1) rfl rfl ⟨pa1, cap1, by rw [hie], M⟩
/-- The same item, but for where its expression's parts lie. -/
def cpI (y : It) (pa : Option Addr) (cap : Nat) : It := ⟨y.nm, y.k, y.tk, y.ts, y.nd, y.po, .mk y.ex.k y.ex.op y.ex.nm y.ex.se y.ex.v y.ex.sc y.ex.po pa cap y.ex.args⟩
theorem citems_n {w : World} {pa : Option Addr} {c : Nat} {L : List It} (hS : SL w 23 It.cells pa L) (hE0 : ∀ y ∈ L, LEx w y.ex) (hB : ∀ y ∈ L, AB y.ex) (hz : L.length ≤ 600000000000) : Calls Try.prog 52 #[.slice pa L.length c] w fun e w' => ∃ (pa1 : Option Addr) (cap1 : Nat) (L1 : List It), e = .returned (.slice pa1 L1.length cap1) ∧ L1.map (fun y => (y.nm, y.k, y.tk, y.ts)) = L.map (fun y => (y.nm, y.k, y.tk, y.ts)) ∧ w'.ownsRow w.heap.size 67 23 (.slice pa1 L1.length cap1) L1.length (L1.flatMap It.cells) ∧ Mo w w' := by
  refine w_enter 24 Try.func52 Try.ntmps52 rfl rfl ?_
  have M : Mo w w := Mo.refl _
  refine w_seq ?_
  refine w_reg ?_
  refine wl_mv (.const (.slice none 0 0)) (.slice none 0 0) (fun _ => rfl) rfl rfl ?_
  refine w_nil ?_
  refine xn_then ?_
  refine w_seq ?_
  refine w_reg ?_
  refine wl_mv (.const (.slice none 0 0)) (.slice none 0 0) (fun _ => rfl) rfl rfl ?_
  refine w_nil ?_
  refine xn_then ?_
  refine w_seq ?_
  refine w_seq ?_
  refine w_reg ?_
  refine wl_mv (.tmp 0) (.slice pa L.length c) (fun _ => rfl) rfl rfl ?_
  refine wl_val (.int .i64 ((L.length : Nat) : Int)) (len45 _ _ _ _ _ (by exact rfl) _ _ _ _ _ _) rfl ?_
  refine wl_mv (.const (.int .i64 (0))) (.int .i64 (0)) (fun _ => rfl) rfl rfl ?_
  refine w_nil ?_
  refine xn_then ?_
  refine w_block ?_
  refine w_loop (fun m l w1 => ∃ i : Nat, m = L.length - i ∧ i ≤ L.length ∧ look l 6 = .slice pa L.length c ∧ look l 7 = .int .i64 ((L.length : Nat) : Int) ∧ look l 8 = .int .i64 ((i : Nat) : Int) ∧ ∃ (pa1 : Option Addr) (cap1 : Nat) (L1 : List It), look l 3 = .slice pa1 i cap1 ∧ L1.length = i ∧ L1.map (fun y => (y.nm, y.k, y.tk, y.ts)) = (L.take i).map (fun y => (y.nm, y.k, y.tk, y.ts)) ∧ w1.ownsRow w.heap.size 67 23 (.slice pa1 i cap1) i (L1.flatMap It.cells) ∧ Mo w w1) _ ⟨0, rfl, Nat.zero_le _, rfl, rfl, rfl, ⟨none, 0, [], rfl, rfl, rfl, ⟨rfl, Or.inl ⟨rfl, rfl⟩⟩, M⟩⟩ ?_
  clear M
  rintro m l40 wl40 ⟨i, rfl, hi, e40_6, e40_7, e40_i, hE⟩
  by_cases hil : i < L.length
  · skip
    have hid : decide (i < L.length) = true := decide_eq_true hil
    obtain ⟨pa1, cap1, L1, e3, hL1, hn1, hown, M⟩ := hE
    obtain ⟨y, hy⟩ := get_of_lt hil
    have hmy := List.mem_of_getElem? hy
    have hxs : ∃ xs, xs = L1.flatMap It.cells := ⟨_, rfl⟩
    obtain ⟨xs, hxs⟩ := hxs
    rw [← hxs] at hown
    obtain ⟨b1, o1, hp1, hR1⟩ := D.SL.rw hS hy
    refine w_seq ?_
    refine w_reg ?_
    refine wl_bin (fun x y => do eqGuard .lss 3 (.tmp 8) (.tmp 7) x y; binOp .lss 3 x y) (.tmp 8) (.tmp 7) (.int .i64 ((i : Nat) : Int)) (.int .i64 ((L.length : Nat) : Int)) (.bool true) (fun _ => rfl) e40_i e40_7 (ltN hid _ _ _) rfl ?_
    refine w_nil ?_
    refine xn_then ?_
    refine w_seq ?_
    refine w_condT rfl ?_
    refine w_skip ?_
    refine xn_then ?_
    refine w_seq ?_
    refine w_block ?_
    refine w_seq ?_
    refine w_reg ?_
    refine wl_bin (fun x y => Instr.indexAt 45 x y) (.tmp 6) (.tmp 8) (.slice pa L.length c) (.int .i64 ((i : Nat) : Int)) (pt b1 (o1 + i * 23)) (fun _ => rfl) e40_6 e40_i (ix45 (i := i) hp1 hil _) rfl ?_
    refine wl_load 67 (.tmp 10) (pt b1 (o1 + i * 23)) (.agg (y.cells).toArray) rfl rfl (D.run_partR (hR1.mo M).at' 67 0 23 (y.cells) rfl Try.underlying67 rfl sz67) rfl ?_
    refine wl_alloc 67 #[.string ⟨#[]⟩, .int .i64 0, .int .i64 0, .int .i64 0, .bool false, .int .i64 0, .int .i64 0, .int .i64 0, .string ⟨#[]⟩, .string ⟨#[]⟩, .int .i64 0, .bool false, .int .u64 0, .int .u64 0, .int .u64 0, .int .u64 0, .int .i64 0, .bool false, .string ⟨#[]⟩, .int .i64 0, .int .i64 0, .int .i64 0, .slice none 0 0] rfl (fun _ => by kernel_rfl) rfl ?_
    intro k1 u41 hk hz hq Q1
    have on_k1 : (Value.slice pa1 i cap1).ownBlock ≠ some k1 := fun e => by have := (hown.lt _ e).2; omega
    have N_k1 : w.heap.size ≤ k1 := by have := M.size; omega
    replace hown := own_mo hown hq
    replace M := M.trans hq
    clear hk hz hq
    refine wl_stm 67 (.tmp 5) (.tmp 11) k1 0 ((y.cells).toArray) [.string ⟨#[]⟩, .int .i64 0, .int .i64 0, .int .i64 0, .bool false, .int .i64 0, .int .i64 0, .int .i64 0, .string ⟨#[]⟩, .string ⟨#[]⟩, .int .i64 0, .bool false, .int .u64 0, .int .u64 0, .int .u64 0, .int .u64 0, .int .i64 0, .bool false, .string ⟨#[]⟩, .int .i64 0, .int .i64 0, .int .i64 0, .slice none 0 0] (y.cells) Q1 rfl rfl rfl rfl rfl sz67 rfl rfl rfl ?_
    intro u42 hS hm9 Qn
    replace Q1 := Qn
    clear Qn
    replace hown := own_mk hown hm9 (fun k e h => on_k1 (by rw [e, h]))
    replace M := hS.mo _ N_k1 M
    clear hS hm9
    refine w_nil ?_
    refine xn_then ?_
    refine w_seq ?_
    refine w_reg ?_
    refine wl_un (fun v => Instr.fieldAt 67 v 5) (.tmp 5) (pt k1 0) (pt k1 6) (fun _ => rfl) rfl (by kernel_rfl) rfl ?_
    refine wl_un (fun v => Instr.fieldAt 38 v 7) (.tmp 12) (pt k1 6) (pt k1 22) (fun _ => rfl) rfl (by kernel_rfl) rfl ?_
    refine wl_load 36 (.tmp 13) (pt k1 22) (.slice y.ex.pa y.ex.args.length y.ex.cap) rfl rfl (run_one Q1 36 22 rfl Try.underlying36 rfl) rfl ?_
    refine wl_callx 71 [(.tmp 14)] _ [.slice y.ex.pa y.ex.args.length y.ex.cap] rfl rfl (fun _ _ => by kernel_rfl) (cargs_n y.ex (hB y hmy) ((hE0 y hmy).kp M.kp)) rfl ?_
    rintro e9 u43 ⟨pa9, cap9, rfl, hq⟩
    refine ⟨_, rfl, ?_⟩
    replace hown := own_mo hown hq
    replace Q1 := Q1.mo hq
    replace M := M.trans hq
    clear hq
    refine wl_un (fun v => Instr.fieldAt 67 v 5) (.tmp 5) (pt k1 0) (pt k1 6) (fun _ => rfl) rfl (by kernel_rfl) rfl ?_
    refine wl_un (fun v => Instr.fieldAt 38 v 7) (.tmp 16) (pt k1 6) (pt k1 22) (fun _ => rfl) rfl (by kernel_rfl) rfl ?_
    refine wl_stm1 36 (.tmp 17) (.tmp 15) k1 22 (.slice pa9 y.ex.args.length cap9) (y.cells) [.string y.nm, .int .i64 y.k, .int .i64 y.tk, .int .i64 y.ts, .bool y.nd, .int .i64 y.po, .int .i64 y.ex.k, .int .i64 y.ex.op, .string y.ex.nm, .string y.ex.se, .int .i64 y.ex.v.k, .bool y.ex.v.d.b, .int .u64 y.ex.v.d.n0, .int .u64 y.ex.v.d.n1, .int .u64 y.ex.v.d.n2, .int .u64 y.ex.v.d.n3, .int .i64 y.ex.v.d.s, .bool y.ex.v.f, .string y.ex.v.t, .int .i64 y.ex.v.e, .int .i64 y.ex.sc, .int .i64 y.ex.po, .slice pa9 y.ex.args.length cap9] Q1 rfl rfl rfl rfl rfl sz36 rfl rfl rfl rfl ?_
    intro u44 hS hm9 Qn
    replace Q1 := Qn
    clear Qn
    replace hown := own_mk hown hm9 (fun k e h => on_k1 (by rw [e, h]))
    replace M := hS.mo _ N_k1 M
    clear hS hm9
    refine w_nil ?_
    refine xn_then ?_
    refine w_reg ?_
    refine wl_mv (.tmp 3) (.slice pa1 i cap1) (fun _ => rfl) e3 rfl ?_
    refine wl_load 67 (.tmp 5) (pt k1 0) (.agg #[.string y.nm, .int .i64 y.k, .int .i64 y.tk, .int .i64 y.ts, .bool y.nd, .int .i64 y.po, .int .i64 y.ex.k, .int .i64 y.ex.op, .string y.ex.nm, .string y.ex.se, .int .i64 y.ex.v.k, .bool y.ex.v.d.b, .int .u64 y.ex.v.d.n0, .int .u64 y.ex.v.d.n1, .int .u64 y.ex.v.d.n2, .int .u64 y.ex.v.d.n3, .int .i64 y.ex.v.d.s, .bool y.ex.v.f, .string y.ex.v.t, .int .i64 y.ex.v.e, .int .i64 y.ex.sc, .int .i64 y.ex.po, .slice pa9 y.ex.args.length cap9]) rfl rfl (run_row Q1 67 0 23 [.string y.nm, .int .i64 y.k, .int .i64 y.tk, .int .i64 y.ts, .bool y.nd, .int .i64 y.po, .int .i64 y.ex.k, .int .i64 y.ex.op, .string y.ex.nm, .string y.ex.se, .int .i64 y.ex.v.k, .bool y.ex.v.d.b, .int .u64 y.ex.v.d.n0, .int .u64 y.ex.v.d.n1, .int .u64 y.ex.v.d.n2, .int .u64 y.ex.v.d.n3, .int .i64 y.ex.v.d.s, .bool y.ex.v.f, .string y.ex.v.t, .int .i64 y.ex.v.e, .int .i64 y.ex.sc, .int .i64 y.ex.po, .slice pa9 y.ex.args.length cap9] rfl Try.underlying67 rfl sz67) rfl ?_
    refine wl_bs 45 1 [(0, (.tmp 19))] [(0, .agg #[.string y.nm, .int .i64 y.k, .int .i64 y.tk, .int .i64 y.ts, .bool y.nd, .int .i64 y.po, .int .i64 y.ex.k, .int .i64 y.ex.op, .string y.ex.nm, .string y.ex.se, .int .i64 y.ex.v.k, .bool y.ex.v.d.b, .int .u64 y.ex.v.d.n0, .int .u64 y.ex.v.d.n1, .int .u64 y.ex.v.d.n2, .int .u64 y.ex.v.d.n3, .int .i64 y.ex.v.d.s, .bool y.ex.v.f, .string y.ex.v.t, .int .i64 y.ex.v.e, .int .i64 y.ex.sc, .int .i64 y.ex.po, .slice pa9 y.ex.args.length cap9])] #[.string y.nm, .int .i64 y.k, .int .i64 y.tk, .int .i64 y.ts, .bool y.nd, .int .i64 y.po, .int .i64 y.ex.k, .int .i64 y.ex.op, .string y.ex.nm, .string y.ex.se, .int .i64 y.ex.v.k, .bool y.ex.v.d.b, .int .u64 y.ex.v.d.n0, .int .u64 y.ex.v.d.n1, .int .u64 y.ex.v.d.n2, .int .u64 y.ex.v.d.n3, .int .i64 y.ex.v.d.s, .bool y.ex.v.f, .string y.ex.v.t, .int .i64 y.ex.v.e, .int .i64 y.ex.sc, .int .i64 y.ex.po, .slice pa9 y.ex.args.length cap9] 67 rfl rfl (fun _ => by kernel_rfl) rfl ?_
    intro k2 u45 hk hz hq Q2
    have ne_k1_k2 : k1 ≠ k2 := by have := Q1.lt; omega
    have N_k2 : w.heap.size ≤ k2 := by have := M.size; omega
    have on_k2 : (Value.slice pa1 i cap1).ownBlock ≠ some k2 := fun e => by have := (own_lt hown e).1; omega
    replace hown := own_mo hown hq
    replace Q1 := Q1.mo hq
    replace M := M.trans hq
    clear hk hz hq
    refine wl_app Try.underlying45 inf67 rfl (by decide) (.tmp 18) (.tmp 20) w.heap.size (.slice pa1 i cap1) i xs k2 1 1 [.string y.nm, .int .i64 y.k, .int .i64 y.tk, .int .i64 y.ts, .bool y.nd, .int .i64 y.po, .int .i64 y.ex.k, .int .i64 y.ex.op, .string y.ex.nm, .string y.ex.se, .int .i64 y.ex.v.k, .bool y.ex.v.d.b, .int .u64 y.ex.v.d.n0, .int .u64 y.ex.v.d.n1, .int .u64 y.ex.v.d.n2, .int .u64 y.ex.v.d.n3, .int .i64 y.ex.v.d.s, .bool y.ex.v.f, .string y.ex.v.t, .int .i64 y.ex.v.e, .int .i64 y.ex.sc, .int .i64 y.ex.po, .slice pa9 y.ex.args.length cap9] rfl rfl rfl hown rfl Q2 (fun u hu => by simp only [List.mem_cons, List.not_mem_nil, or_false] at hu; rcases hu with rfl | rfl | rfl | rfl | rfl | rfl | rfl | rfl | rfl | rfl | rfl | rfl | rfl | rfl | rfl | rfl | rfl | rfl | rfl | rfl | rfl | rfl | rfl <;> rfl) (by decide) (by unfold maxLen; omega) (by omega) M.size rfl ?_
    intro v9 u46 hOw hm9 hbk
    replace M := hm9.mo M (fun k e => (own_lt hown e).2)
    obtain ⟨pa2, cap2, rfl, _⟩ := own_form hOw
    clear hown hbk hm9
    refine wl_mv (.tmp 21) (.slice pa2 (i + 1) cap2) (fun _ => rfl) rfl rfl ?_
    refine w_nil ?_
    refine xn_blk ?_
    refine xn_then ?_
    refine w_reg ?_
    refine wl_bin (fun x y => do eqGuard .add 3 (.tmp 8) (.const (.int .i64 (1))) x y; binOp .add 3 x y) (.tmp 8) (.const (.int .i64 (1))) (.int .i64 ((i : Nat) : Int)) (.int .i64 (1)) (.int .i64 ((i + 1 : Nat) : Int)) (fun _ => rfl) e40_i rfl (add1r (k := i) (by omega) _ _ _) rfl ?_
    refine wl_mv (.tmp 22) (.int .i64 ((i + 1 : Nat) : Int)) (fun _ => rfl) rfl rfl ?_
    refine w_nil ?_
    exact xn_loop (L.length - (i + 1)) (by omega) ⟨i + 1, rfl, by omega, e40_6, e40_7, rfl, ⟨pa2, cap2, L1 ++ [cpI y pa9 cap9], rfl, by simp [hL1], by rw [List.map_append, hn1, List.take_add_one, hy]; simp [cpI], by rw [hxs] at hOw; rw [List.flatMap_append]; exact hOw, M⟩⟩
  · skip
    have hid : decide (i < L.length) = false := decide_eq_false hil
    have hie : i = L.length := by omega
    obtain ⟨pa1, cap1, L1, e3, hL1, hn1, hown, M⟩ := hE
    refine w_seq ?_
    refine w_reg ?_
    refine wl_bin (fun x y => do eqGuard .lss 3 (.tmp 8) (.tmp 7) x y; binOp .lss 3 x y) (.tmp 8) (.tmp 7) (.int .i64 ((i : Nat) : Int)) (.int .i64 ((L.length : Nat) : Int)) (.bool false) (fun _ => rfl) e40_i e40_7 (ltN hid _ _ _) rfl ?_
    refine w_nil ?_
    refine xn_then ?_
    refine w_seq ?_
    refine w_condF rfl ?_
    refine w_exit ?_
    refine xx_then ?_
    refine xx_then ?_
    refine xx_blk ?_
    refine xn_then ?_
    refine w_seq ?_
    refine w_reg ?_
    refine wl_mv (.tmp 3) (.slice pa1 i cap1) (fun _ => rfl) e3 rfl ?_
    refine wl_mv (.tmp 23) (.slice pa1 i cap1) (fun _ => rfl) rfl rfl ?_
    refine w_nil ?_
    refine xn_then ?_
    refine w_ret ?_
    exact w_ret1 _ (.slice pa1 i cap1) rfl rfl ⟨pa1, cap1, L1, by rw [hL1], by rw [hn1, hie, List.take_length], by rw [← hL1] at hown; exact hown, M⟩
end Go.Proofs.Ytepfokoepibkcaa
namespace Go.Proofs.Ytepfokoepibkcaa
open Go.RowKit D
theorem flat_set {v : Value} {x' : S5} (hv : v = .slice x'.pi x'.items.length x'.ci) : ∀ (R : List S5) (n : Nat) (x : S5), R[n]? = some x → x'.pr = x.pr → x'.dp = x.dp → x'.nm = x.nm → x'.mx = x.mx → (R.flatMap S5.cells).take (n * 5 + 4) ++ [v] ++ (R.flatMap S5.cells).drop (n * 5 + 4 + 1) = (R.set n x').flatMap S5.cells
  | [], n, x, h, _, _, _, _ => by simp at h
  | y :: R, 0, x, h, h1, h2, h3, h4 => by
    simp at h; subst h
    rw [List.set_cons_zero, List.flatMap_cons, List.flatMap_cons, hv]
    simp [S5.cells, h1, h2, h3, h4]
  | y :: R, n + 1, x, h, h1, h2, h3, h4 => by
    simp at h
    have ih := flat_set hv R n x h h1 h2 h3 h4
    have e : (n + 1) * 5 + 4 = y.cells.length + (n * 5 + 4) := by show _ = 5 + _; omega
    rw [List.set_cons_succ, List.flatMap_cons, List.flatMap_cons, ← ih, e, List.take_length_add_append, Nat.add_assoc, List.drop_length_add_append]
    simp
theorem own_at {w : World} {N e sz : Nat} {g cap : Nat} {n : Nat} {xs : List Value} (h : w.ownsRow N e sz (.slice (some ⟨g, 0, none⟩) n cap) n xs) : At w g xs ∧ N ≤ g := by
  rcases h.2 with ⟨q, _⟩ | ⟨g', c2, cur, q, hg, hb, hnc, hcm, hcs, htk⟩
  · cases q
  · cases q
    refine ⟨⟨fun j v hv => ?_, fun o => ?_, (Array.getElem?_eq_some_iff.1 hb).1⟩, hg⟩
    · rw [← htk, List.getElem?_take] at hv
      split at hv
      · rw [Nat.zero_add]
        simp only [World.cell?, hb]
        simpa using hv
      · cases hv
    · simp [World.frozen?, hb]
/-- What of a section by its number Flat tells, but for addresses. -/
def key5 (x : S5) : Int × Int × ByteArray × Int × List (ByteArray × Int × Int × Int) := (x.pr, x.dp, x.nm, x.mx, x.items.map (fun y => (y.nm, y.k, y.tk, y.ts)))
theorem set_key {R : List S5} {n : Nat} {x x' : S5} (h : R[n]? = some x) (hk : key5 x' = key5 x) : (R.set n x').map key5 = R.map key5 := by
  rw [List.map_set, hk]
  refine List.ext_getElem? (fun i => ?_)
  rw [List.getElem?_set]
  by_cases e : n = i
  · subst e
    have hl := lt_of_get h
    rw [if_pos rfl, List.length_map, if_pos hl, List.getElem?_map, h]; rfl
  · rw [if_neg e]
theorem pflat_n (d : Df) {w : World} (hD : LDf w d) (hB : ∀ x ∈ fla d, x.items.length ≤ 600000000000 ∧ ∀ y ∈ x.items, AB y.ex) : Calls Try.prog 35 #[.agg (d.cells).toArray] w fun e w' => ∃ (pa : Option Addr) (cap : Nat) (R : List S5), e = .returned (.slice pa R.length cap) ∧ R.map key5 = (fla d).map key5 ∧ SL w' 5 S5.cells pa R ∧ (∀ x ∈ R, SL w' 23 It.cells x.pi x.items) ∧ Mo w w' := by
  refine w_enter 25 Try.func35 Try.ntmps35 rfl rfl ?_
  have M : Mo w w := Mo.refl _
  refine w_seq ?_
  refine w_reg ?_
  refine wl_box 52 (.tmp 0) (.agg (d.cells).toArray) (((d.cells).toArray)) rfl rfl (fun _ => by kernel_rfl) rfl ?_
  intro k1 w1 hk hz hq Q1
  have N_k1 : w.heap.size ≤ k1 := by have := M.size; omega
  replace M := M.trans hq
  clear hk hz hq
  refine wl_mv (.const (.slice none 0 0)) (.slice none 0 0) (fun _ => rfl) rfl rfl ?_
  refine w_nil ?_
  refine xn_then ?_
  refine w_seq ?_
  refine w_reg ?_
  refine wl_un (fun v => Instr.fieldAt 52 v 1) (.tmp 1) (pt k1 0) (pt k1 1) (fun _ => rfl) rfl (by kernel_rfl) rfl ?_
  refine wl_load 48 (.tmp 5) (pt k1 1) (.agg (d.rt.cells).toArray) rfl rfl (run_row Q1 48 1 4 (d.rt.cells) rfl Try.underlying48 rfl sz48) rfl ?_
  refine wl_callx 51 [(.tmp 6)] _ [.agg (d.rt.cells).toArray] rfl rfl (fun _ _ => by kernel_rfl) (flat_n d.rt (hD.rt.kp M.kp)) rfl ?_
  rintro e9 w2 ⟨pa, cap, rfl, hq, hown⟩
  refine ⟨_, rfl, ?_⟩
  obtain ⟨g, rfl⟩ : ∃ g, pa = some ⟨g, 0, none⟩ := by rcases hown.2 with ⟨_, q⟩ | ⟨g, _, _, q, _⟩; exact absurd q (by have := fla_pos d; unfold fla at this; omega); exact ⟨g, by cases q; rfl⟩
  have MK : Mk (fun _ => False) w w2 := Mk.of _ (M.trans hq)
  obtain ⟨QR, hgN⟩ := own_at hown
  replace hgN : w.heap.size ≤ g := by have := M.size; omega
  clear hown M hq
  obtain ⟨L, hL⟩ : ∃ L, L = fla d := ⟨_, rfl⟩
  rw [show flt d.rt [] (-1) 1 = L by rw [hL]; rfl] at QR ⊢
  have M : Mo w2 w2 := Mo.refl _
  refine wl_mv (.tmp 7) (.slice (some ⟨g, 0, none⟩) L.length cap) (fun _ => rfl) rfl rfl ?_
  refine w_nil ?_
  refine xn_then ?_
  refine w_seq ?_
  refine w_seq ?_
  refine w_reg ?_
  refine wl_mv (.tmp 3) (.slice (some ⟨g, 0, none⟩) L.length cap) (fun _ => rfl) rfl rfl ?_
  refine wl_val (.int .i64 ((L.length : Nat) : Int)) (len55 _ _ _ _ _ (by exact rfl) _ _ _ _ _ _) rfl ?_
  refine wl_mv (.const (.int .i64 (0))) (.int .i64 (0)) (fun _ => rfl) rfl rfl ?_
  refine w_nil ?_
  refine xn_then ?_
  refine w_block ?_
  have hz : L.length ≤ 64 := by rw [hL]; exact fla_len d
  have hLS : ∀ x ∈ L, LS5 w x := fun x hx => flt_ls d.rt hD.rt [] _ _ (fun _ h => by cases h) x (by rw [hL] at hx; exact hx)
  rw [← hL] at hB
  refine w_loop (fun m l w1 => ∃ i : Nat, m = L.length - i ∧ i ≤ L.length ∧ look l 3 = .slice (some ⟨g, 0, none⟩) L.length cap ∧ look l 8 = .slice (some ⟨g, 0, none⟩) L.length cap ∧ look l 9 = .int .i64 ((L.length : Nat) : Int) ∧ look l 10 = .int .i64 ((i : Nat) : Int) ∧ ∃ R : List S5, R.length = L.length ∧ R.map key5 = L.map key5 ∧ (∀ j, i ≤ j → R[j]? = L[j]?) ∧ (∀ j x, j < i → R[j]? = some x → w1.ownsRow (g + 1) 67 23 (.slice x.pi x.items.length x.ci) x.items.length (x.items.flatMap It.cells) ∧ x.items.length ≤ maxLen) ∧ At w1 g (R.flatMap S5.cells) ∧ Mk (fun _ => False) w w1) _ ⟨0, rfl, Nat.zero_le _, rfl, rfl, rfl, rfl, ⟨L, rfl, rfl, fun _ _ => rfl, fun j x hj => by omega, QR, MK⟩⟩ ?_
  clear M
  rintro m l40 wl40 ⟨i, rfl, hi, e40_3, e40_8, e40_9, e40_i, hE⟩
  by_cases hil : i < L.length
  · skip
    have hid : decide (i < L.length) = true := decide_eq_true hil
    obtain ⟨R, hRl, hRk, hRr, hRc, QR, MK⟩ := hE
    have hlt := QR.lt
    have M : Mo wl40 wl40 := Mo.refl _
    obtain ⟨x, hxL⟩ := get_of_lt hil
    have hx : R[i]? = some x := by rw [hRr i (Nat.le_refl _)]; exact hxL
    have hmx := List.mem_of_getElem? hxL
    have hir : i < R.length := by omega
    have hSR : SL _ 5 S5.cells (some ⟨g, 0, none⟩) R := SL.of_at (n := 5) (cells := S5.cells) (L := R) (fun _ => rfl) (by unfold maxLen; omega) QR
    have hKw := MK.kp (fun _ h => h.elim)
    obtain ⟨b1, o1, hp1, hR1⟩ := D.SL.rw hSR hx
    obtain ⟨rfl, rfl⟩ : g = b1 ∧ 0 = o1 := by cases hp1; exact ⟨rfl, rfl⟩
    refine w_seq ?_
    refine w_reg ?_
    refine wl_bin (fun x y => do eqGuard .lss 3 (.tmp 10) (.tmp 9) x y; binOp .lss 3 x y) (.tmp 10) (.tmp 9) (.int .i64 ((i : Nat) : Int)) (.int .i64 ((L.length : Nat) : Int)) (.bool true) (fun _ => rfl) e40_i e40_9 (ltN hid _ _ _) rfl ?_
    refine w_nil ?_
    refine xn_then ?_
    refine w_seq ?_
    refine w_condT rfl ?_
    refine w_skip ?_
    refine xn_then ?_
    refine w_seq ?_
    refine w_block ?_
    refine w_seq ?_
    refine w_reg ?_
    refine wl_mv (.tmp 10) (.int .i64 ((i : Nat) : Int)) (fun _ => rfl) e40_i rfl ?_
    refine wl_mv (.tmp 12) (.int .i64 ((i : Nat) : Int)) (fun _ => rfl) rfl rfl ?_
    refine w_nil ?_
    refine xn_then ?_
    refine w_reg ?_
    refine wl_mv (.tmp 3) (.slice (some ⟨g, 0, none⟩) L.length cap) (fun _ => rfl) e40_3 rfl ?_
    refine wl_mv (.tmp 4) (.int .i64 ((i : Nat) : Int)) (fun _ => rfl) rfl rfl ?_
    refine wl_mv (.tmp 3) (.slice (some ⟨g, 0, none⟩) L.length cap) (fun _ => rfl) e40_3 rfl ?_
    refine wl_mv (.tmp 4) (.int .i64 ((i : Nat) : Int)) (fun _ => rfl) rfl rfl ?_
    refine wl_bin (fun x y => Instr.indexAt 55 x y) (.tmp 15) (.tmp 16) (.slice (some ⟨g, 0, none⟩) L.length cap) (.int .i64 ((i : Nat) : Int)) (pt g (0 + i * 5)) (fun _ => rfl) rfl rfl (ix55 (i := i) rfl hil _) rfl ?_
    refine wl_un (fun v => Instr.fieldAt 62 v 4) (.tmp 17) (pt g (0 + i * 5)) (pt g (0 + i * 5 + 4)) (fun _ => rfl) rfl (by kernel_rfl) rfl ?_
    refine wl_load 45 (.tmp 18) (pt g (0 + i * 5 + 4)) (.slice x.pi x.items.length x.ci) rfl rfl (D.run_oneR (hR1.mo M).at' 45 4 rfl Try.underlying45 rfl) rfl ?_
    refine wl_callx 52 [(.tmp 19)] _ [.slice x.pi x.items.length x.ci] rfl rfl (fun _ _ => by kernel_rfl) (citems_n ((hLS x hmx).it.kp (hKw.trans M.kp)) (fun y hy => ((hLS x hmx).ex y hy).kp (hKw.trans M.kp)) (hB x hmx).2 (hB x hmx).1) rfl ?_
    rintro e9 w41 ⟨pi1, ci1, I1, rfl, hI1, hown, hq⟩
    refine ⟨_, rfl, ?_⟩
    replace hown := own_base hown (N' := g + 1) (by have := M.size; omega)
    replace M := M.trans hq
    clear hq
    refine wl_bin (fun x y => Instr.indexAt 55 x y) (.tmp 13) (.tmp 14) (.slice (some ⟨g, 0, none⟩) L.length cap) (.int .i64 ((i : Nat) : Int)) (pt g (0 + i * 5)) (fun _ => rfl) rfl rfl (ix55 (i := i) rfl hil _) rfl ?_
    refine wl_un (fun v => Instr.fieldAt 62 v 4) (.tmp 21) (pt g (0 + i * 5)) (pt g (0 + i * 5 + 4)) (fun _ => rfl) rfl (by kernel_rfl) rfl ?_
    obtain ⟨x1, hx1⟩ : ∃ x1 : S5, x1 = ⟨x.pr, x.dp, x.nm, x.mx, pi1, ci1, I1⟩ := ⟨_, rfl⟩
    have hlI : I1.length = x.items.length := by have := congrArg List.length hI1; simpa using this
    refine wl_stm1 45 (.tmp 22) (.tmp 20) g (0 + i * 5 + 4) (.slice pi1 I1.length ci1) (R.flatMap S5.cells) ((R.set i x1).flatMap S5.cells) (QR.mo M) rfl rfl rfl rfl (by rw [Nat.blt_eq, flat_len (cells := S5.cells) (n := 5) (fun _ => rfl) R]; omega) sz45 rfl rfl (by rw [Nat.zero_add]; exact (flat_set (by rw [hx1]) R i x hx (by rw [hx1]) (by rw [hx1]) (by rw [hx1]) (by rw [hx1])).symm) rfl ?_
    intro w42 hS hm9 QR1
    replace MK := (MK.trans M).tr hm9 (fun j hj e => by omega)
    have hRc1 : ∀ j x, j < i + 1 → (R.set i x1)[j]? = some x → w42.ownsRow (g + 1) 67 23 (.slice x.pi x.items.length x.ci) x.items.length (x.items.flatMap It.cells) ∧ x.items.length ≤ maxLen := by
      intro j y hj hy
      rw [List.getElem?_set] at hy
      by_cases hji : i = j
      · rw [if_pos hji, if_pos (by omega)] at hy; cases hy; rw [hx1]; exact ⟨own_mk hown hm9 (fun k e h => by have := (own_lt hown e).2; omega), by show I1.length ≤ _; rw [hlI]; exact (hLS x hmx).it.1⟩
      · rw [if_neg hji] at hy; exact ⟨own_mk (own_mo (hRc j y (by omega) hy).1 M) hm9 (fun k e h => by have := (own_lt (hRc j y (by omega) hy).1 e).2; omega), (hRc j y (by omega) hy).2⟩
    clear M hS
    have M : Mo w42 w42 := Mo.refl _
    refine w_nil ?_
    refine xn_blk ?_
    refine xn_then ?_
    refine w_reg ?_
    refine wl_bin (fun x y => do eqGuard .add 3 (.tmp 10) (.const (.int .i64 (1))) x y; binOp .add 3 x y) (.tmp 10) (.const (.int .i64 (1))) (.int .i64 ((i : Nat) : Int)) (.int .i64 (1)) (.int .i64 ((i + 1 : Nat) : Int)) (fun _ => rfl) e40_i rfl (add1r (k := i) (by omega) _ _ _) rfl ?_
    refine wl_mv (.tmp 23) (.int .i64 ((i + 1 : Nat) : Int)) (fun _ => rfl) rfl rfl ?_
    refine w_nil ?_
    exact xn_loop (L.length - (i + 1)) (by omega) ⟨i + 1, rfl, by omega, e40_3, e40_8, e40_9, rfl, ⟨R.set i x1, by rw [List.length_set]; exact hRl, by rw [set_key hx (by rw [hx1]; unfold key5; simp only [hI1])]; exact hRk, fun j hj => by rw [List.getElem?_set, if_neg (by omega)]; exact hRr j (by omega), hRc1, QR1, MK.trans M⟩⟩
  · skip
    have hid : decide (i < L.length) = false := decide_eq_false hil
    have hie : i = L.length := by omega
    obtain ⟨R, hRl, hRk, hRr, hRc, QR, MK⟩ := hE
    have M : Mo wl40 wl40 := Mo.refl _
    refine w_seq ?_
    refine w_reg ?_
    refine wl_bin (fun x y => do eqGuard .lss 3 (.tmp 10) (.tmp 9) x y; binOp .lss 3 x y) (.tmp 10) (.tmp 9) (.int .i64 ((i : Nat) : Int)) (.int .i64 ((L.length : Nat) : Int)) (.bool false) (fun _ => rfl) e40_i e40_9 (ltN hid _ _ _) rfl ?_
    refine w_nil ?_
    refine xn_then ?_
    refine w_seq ?_
    refine w_condF rfl ?_
    refine w_exit ?_
    refine xx_then ?_
    refine xx_then ?_
    refine xx_blk ?_
    refine xn_then ?_
    refine w_seq ?_
    refine w_reg ?_
    refine wl_mv (.tmp 3) (.slice (some ⟨g, 0, none⟩) L.length cap) (fun _ => rfl) e40_3 rfl ?_
    refine wl_mv (.tmp 24) (.slice (some ⟨g, 0, none⟩) L.length cap) (fun _ => rfl) rfl rfl ?_
    refine w_nil ?_
    refine xn_then ?_
    refine w_ret ?_
    exact w_ret1 _ (.slice (some ⟨g, 0, none⟩) L.length cap) rfl rfl ⟨some ⟨g, 0, none⟩, cap, R, by rw [hRl], by rw [← hL]; exact hRk, SL.of_at (n := 5) (cells := S5.cells) (L := R) (fun _ => rfl) (by unfold maxLen; omega) QR, fun x hx => by obtain ⟨j, hj⟩ := List.getElem?_of_mem hx; have h9 := hRc j x (by have := lt_of_get hj; omega) hj; exact own_sl (cells := It.cells) It.len h9.2 h9.1, (MK.trans M).mo (Mo.refl _) (fun _ h => h.elim)⟩
end Go.Proofs.Ytepfokoepibkcaa
namespace Go.Proofs.Ytepfokoepibkcaa
open Go.RowKit D
/-! Kinds go by what sections tell, not by where they lie. -/
theorem key_get {R L : List S5} (h : R.map key5 = L.map key5) (n : Nat) : (R[n]?).map key5 = (L[n]?).map key5 := by
  have := congrArg (fun q => q[n]?) h
  simpa using this
theorem key_len {R L : List S5} (h : R.map key5 = L.map key5) : R.length = L.length := by simpa using congrArg List.length h
theorem find_key {α β : Type} {f : α → β} {p : β → Bool} {A B : List α} (h : A.map f = B.map f) : A.findIdx? (fun x => p (f x)) = B.findIdx? (fun x => p (f x)) := by
  have h1 : (A.map f).findIdx? p = A.findIdx? (p ∘ f) := List.findIdx?_map
  have h2 : (B.map f).findIdx? p = B.findIdx? (p ∘ f) := List.findIdx?_map
  rw [h] at h1
  exact h1.symm.trans h2
theorem pIt_key {x y : S5} (h : key5 x = key5 y) (nm : ByteArray) : x.items.findIdx? (pIt nm) = y.items.findIdx? (pIt nm) := by
  simp only [key5, Prod.mk.injEq] at h
  exact find_key (f := fun y : It => (y.nm, y.k, y.tk, y.ts)) (p := fun q => decide (q.1 = nm) && cbr q.2.1) h.2.2.2.2
theorem fnF_key {R L : List S5} (h : R.map key5 = L.map key5) (nm : ByteArray) : ∀ n : Nat, fnF R nm n = fnF L nm n := by
  intro n
  induction n using Nat.strongRecOn with
  | ind n ih =>
    cases n with
    | zero => rw [fnF, fnF]
    | succ n =>
      rw [fnF, fnF]
      have hg := key_get h n
      cases hr : R[n]? with
      | none =>
        rw [hr] at hg
        have hl : L[n]? = none := by cases hl : L[n]? with
          | none => rfl
          | some y => rw [hl] at hg; cases hg
        simp only [hl]
      | some x =>
        rw [hr] at hg
        cases hl : L[n]? with
        | none => rw [hl] at hg; cases hg
        | some y =>
          rw [hl] at hg
          have hk : key5 x = key5 y := by simpa using hg
          have hp : x.pr = y.pr := by simp only [key5, Prod.mk.injEq] at hk; exact hk.1
          simp only [pIt_key hk nm, hp]
          rw [ih _ (by omega)]
theorem itA_key {R L : List S5} (h : R.map key5 = L.map key5) (k i : Nat) : (itA R k i).map (fun y => (y.tk, y.ts)) = (itA L k i).map (fun y => (y.tk, y.ts)) := by
  unfold itA
  have hg := key_get h k
  cases hr : R[k]? with
  | none =>
    rw [hr] at hg
    cases hl : L[k]? with
    | none => rfl
    | some y => rw [hl] at hg; cases hg
  | some x =>
    rw [hr] at hg
    cases hl : L[k]? with
    | none => rw [hl] at hg; cases hg
    | some y =>
      rw [hl] at hg
      have hk : key5 x = key5 y := by simpa using hg
      simp only [key5, Prod.mk.injEq] at hk
      have h2 := congrArg (fun q => (q[i]?).map (fun z => (z.2.2.1, z.2.2.2))) hk.2.2.2.2
      simp only [List.getElem?_map, Option.map_map] at h2
      exact h2
theorem nmK_key {R L : List S5} (h : R.map key5 = L.map key5) (s : Nat) (nm : ByteArray) : nmK R s nm = nmK L s nm := by
  unfold nmK
  rw [fnF_key h]
  cases fnF L nm (s + 1) with
  | none => rfl
  | some q =>
    have hi := itA_key h q.1 q.2
    show (match itA R q.1 q.2 with | none => _ | some y => _) = (match itA L q.1 q.2 with | none => _ | some y => _)
    cases hr : itA R q.1 q.2 with
    | none => cases hl : itA L q.1 q.2 with
      | none => rfl
      | some y => rw [hr, hl] at hi; cases hi
    | some x => cases hl : itA L q.1 q.2 with
      | none => rw [hr, hl] at hi; cases hi
      | some y =>
        rw [hr, hl] at hi
        simp at hi
        simp only [hi.1, hi.2]
theorem kid_key {R L : List S5} (h : R.map key5 = L.map key5) (s : Int) (nm : ByteArray) : R.findIdx? (pKd s nm) = L.findIdx? (pKd s nm) :=
  find_key (f := key5) (p := fun q => decide (q.1 = s) && decide (q.2.2.1 = nm)) h
theorem agK_key {R L : List S5} (h : R.map key5 = L.map key5) (s : Nat) (x : Ex) : agK R s x = agK L s x := by
  unfold agK
  rw [kid_key h]
  cases L.findIdx? (pKd s x.se) with
  | none => rfl
  | some k =>
    show (if x.op = 16 then _ else _) = (if x.op = 16 then _ else _)
    rw [fnF_key h]
    cases fnF L x.nm (k + 1) with
    | none => rfl
    | some q =>
      have hi := itA_key h q.1 q.2
      show (if x.op = 16 then _ else (if q.1 = k then (match itA R q.1 q.2 with | none => _ | some y => _) else _)) = (if x.op = 16 then _ else (if q.1 = k then (match itA L q.1 q.2 with | none => _ | some y => _) else _))
      cases hr : itA R q.1 q.2 with
      | none => cases hl : itA L q.1 q.2 with
        | none => rfl
        | some y => rw [hr, hl] at hi; cases hi
      | some x2 => cases hl : itA L q.1 q.2 with
        | none => rw [hr, hl] at hi; cases hi
        | some y =>
          rw [hr, hl] at hi
          simp at hi
          simp only [hi.1]
theorem ndK_key {R L : List S5} (h : R.map key5 = L.map key5) (d : Df) (s : Nat) (x : Ex) (A : List Int) : ndK d R s x A = ndK d L s x A := by
  unfold ndK
  rw [nmK_key h, agK_key h]
theorem whK_key {R L : List S5} (h : R.map key5 = L.map key5) (d : Df) (s : Nat) : ∀ x : Ex, whK d R s x = whK d L s x := by
  refine Ex.ind2 ?_
  intro x ih
  rw [whK_eq d R s x, whK_eq d L s x]
  have e : ∀ (l : List Ex), (∀ a ∈ l, a ∈ x.args) → ∀ acc, l.foldl (fun acc a => acK acc (whK d R s a)) acc = l.foldl (fun acc a => acK acc (whK d L s a)) acc := by
    intro l
    induction l with
    | nil => intro _ acc; rfl
    | cons a l il => intro hm acc; simp only [List.foldl_cons]; rw [ih a (hm a (List.mem_cons_self ..))]; exact il (fun y hy => hm y (List.mem_cons_of_mem _ hy)) _
  rw [e x.args (fun _ q => q)]
  unfold endK
  split
  · rfl
  · exact ndK_key h d s x _
theorem kdK_key {R L : List S5} (h : R.map key5 = L.map key5) (d : Df) (s : Nat) (x : Ex) : kdK d R s x = kdK d L s x := by
  unfold kdK; rw [whK_key h]
theorem Wf.key {R L : List S5} (h : R.map key5 = L.map key5) (hW : Wf L) : Wf R := fun i x hx => by
  have hg := key_get h i
  rw [hx] at hg
  cases hl : L[i]? with
  | none => rw [hl] at hg; cases hg
  | some y =>
    rw [hl] at hg
    have hk : key5 x = key5 y := by simpa using hg
    have hp : x.pr = y.pr := by simp only [key5, Prod.mk.injEq] at hk; exact hk.1
    rw [hp]; exact hW i y hl
/-- Kind. -/
def knd (d : Df) (s : Int) (x : Ex) : Int × Int := if s < 0 ∨ ((fla d).length : Int) ≤ s then (0, 4) else kdK d (fla d) s.toNat x
end Go.Proofs.Ytepfokoepibkcaa
namespace Go.Proofs.Ytepfokoepibkcaa
open Go.RowKit D
/-- What copies of a definition's sections want: no list is longer than memory. -/
def FB (d : Df) : Prop := ∀ x ∈ fla d, x.items.length ≤ 600000000000 ∧ ∀ y ∈ x.items, AB y.ex
theorem knd_no {d : Df} {s : Int} {x : Ex} (h : s < 0 ∨ ((fla d).length : Int) ≤ s) : knd d s x = (0, 4) := by unfold knd; rw [if_pos h]
theorem knd_of {d : Df} {n : Nat} {x : Ex} (h : n < (fla d).length) : knd d ((n : Nat) : Int) x = kdK d (fla d) n x := by unfold knd; rw [if_neg (by omega)]; rfl
theorem Wf3.wf {L : List S5} (h : Wf3 L) : Wf L := fun i x hx => ⟨(h i x hx).1, (h i x hx).2.1⟩
theorem kind_p {d : Df} {x : Ex} {w : World} (hD : LDf w d) (hL : LEx w x) (hB : FB d) (hz : nd x ≤ 4000000) (n : Nat) : Calls Try.prog 17 #[.agg (d.cells).toArray, .int .i64 ((n : Nat) : Int), .agg (x.cells).toArray] w fun e w' => e = .returned (tu2 (knd d n x)) ∧ Mo w w' := by
  refine w_enter 27 Try.func17 Try.ntmps17 rfl rfl ?_
  have M : Mo w w := Mo.refl _
  refine w_seq ?_
  refine w_reg ?_
  refine wl_box 52 (.tmp 0) (.agg (d.cells).toArray) (((d.cells).toArray)) rfl rfl (fun _ => by kernel_rfl) rfl ?_
  intro k1 u1 hk hz hq Q1
  have N_k1 : w.heap.size ≤ k1 := by have := M.size; omega
  replace M := M.trans hq
  clear hk hz hq
  refine wl_box 38 (.tmp 2) (.agg (x.cells).toArray) (((x.cells).toArray)) rfl rfl (fun _ => by kernel_rfl) rfl ?_
  intro k2 u2 hk hz hq Q2
  have ne_k1_k2 : k1 ≠ k2 := by have := Q1.lt; omega
  have N_k2 : w.heap.size ≤ k2 := by have := M.size; omega
  replace Q1 := Q1.mo hq
  replace M := M.trans hq
  clear hk hz hq
  refine wl_mv (.const (.int .i64 (0))) (.int .i64 (0)) (fun _ => rfl) rfl rfl ?_
  refine wl_mv (.const (.int .i64 (0))) (.int .i64 (0)) (fun _ => rfl) rfl rfl ?_
  refine w_nil ?_
  refine xn_then ?_
  refine w_seq ?_
  refine w_reg ?_
  refine wl_load 52 (.tmp 3) (pt k1 0) (.agg (d.cells).toArray) rfl rfl (run_row Q1 52 0 7 (d.cells) rfl Try.underlying52 rfl sz52) rfl ?_
  refine wl_callx 35 [(.tmp 9)] _ [.agg (d.cells).toArray] rfl rfl (fun _ _ => by kernel_rfl) (pflat_n d (hD.kp M.kp) hB) rfl ?_
  rintro e9 u3 ⟨pa, cap, R, rfl, hkey, hSR, hIR, hq⟩
  refine ⟨_, rfl, ?_⟩
  replace Q1 := Q1.mo hq
  replace Q2 := Q2.mo hq
  replace M := M.trans hq
  clear hq
  have hlen := key_len hkey
  refine wl_mv (.tmp 10) (.slice pa R.length cap) (fun _ => rfl) rfl rfl ?_
  refine w_nil ?_
  refine xn_then ?_
  refine w_seq ?_
  refine w_seq ?_
  refine w_reg ?_
  refine wl_mv (.tmp 1) (.int .i64 ((n : Nat) : Int)) (fun _ => rfl) rfl rfl ?_
  refine wl_bin (fun x y => do eqGuard .lss 3 (.tmp 11) (.const (.int .i64 (0))) x y; binOp .lss 3 x y) (.tmp 11) (.const (.int .i64 (0))) (.int .i64 ((n : Nat) : Int)) (.int .i64 (0)) (.bool false) (fun _ => rfl) rfl rfl (ltN (decide_eq_false (Nat.not_lt_zero n)) _ _ _) rfl ?_
  refine wl_mv (.tmp 12) (.bool false) (fun _ => rfl) rfl rfl ?_
  refine wl_mv (.tmp 1) (.int .i64 ((n : Nat) : Int)) (fun _ => rfl) rfl rfl ?_
  refine wl_mv (.tmp 8) (.slice pa R.length cap) (fun _ => rfl) rfl rfl ?_
  refine wl_val (.int .i64 ((R.length : Nat) : Int)) (len55 _ _ _ _ _ (by exact rfl) _ _ _ _ _ _) rfl ?_
  cases hf0 : decide (((R.length : Nat) : Int) ≤ ((n : Nat) : Int)) with
  | true =>
    have hf0p := of_decide_eq_true hf0
    refine wl_bin (fun x y => do eqGuard .geq 3 (.tmp 14) (.tmp 16) x y; binOp .geq 3 x y) (.tmp 14) (.tmp 16) (.int .i64 ((n : Nat) : Int)) (.int .i64 ((R.length : Nat) : Int)) (.bool true) (fun _ => rfl) rfl rfl (ge3 hf0 _ _ _) rfl ?_
    refine wl_pick (.tmp 13) (.const (.bool true)) (.tmp 17) false (.bool true) (fun _ => rfl) rfl rfl rfl ?_
    refine w_nil ?_
    refine xn_then ?_
    refine w_condT rfl ?_
    refine w_seq ?_
    refine w_reg ?_
    refine wl_mv (.const (.int .i64 (0))) (.int .i64 (0)) (fun _ => rfl) rfl rfl ?_
    refine wl_mv (.const (.int .i64 (4))) (.int .i64 (4)) (fun _ => rfl) rfl rfl ?_
    refine w_nil ?_
    refine xn_then ?_
    refine w_ret ?_
    refine xr_then ?_
    exact w_ret2 _ _ (.int .i64 (0)) (.int .i64 (4)) rfl rfl rfl ⟨by rw [knd_no (Or.inr (by omega))], M⟩
  | false =>
    have hf0p := of_decide_eq_false hf0
    refine wl_bin (fun x y => do eqGuard .geq 3 (.tmp 14) (.tmp 16) x y; binOp .geq 3 x y) (.tmp 14) (.tmp 16) (.int .i64 ((n : Nat) : Int)) (.int .i64 ((R.length : Nat) : Int)) (.bool false) (fun _ => rfl) rfl rfl (ge3 hf0 _ _ _) rfl ?_
    refine wl_pick (.tmp 13) (.const (.bool true)) (.tmp 17) false (.bool false) (fun _ => rfl) rfl rfl rfl ?_
    refine w_nil ?_
    refine xn_then ?_
    refine w_condF rfl ?_
    refine w_skip ?_
    refine xn_then ?_
    refine w_seq ?_
    refine w_reg ?_
    refine wl_load 52 (.tmp 3) (pt k1 0) (.agg (d.cells).toArray) rfl rfl (run_row Q1 52 0 7 (d.cells) rfl Try.underlying52 rfl sz52) rfl ?_
    refine wl_mv (.tmp 8) (.slice pa R.length cap) (fun _ => rfl) rfl rfl ?_
    refine wl_mv (.tmp 1) (.int .i64 ((n : Nat) : Int)) (fun _ => rfl) rfl rfl ?_
    refine wl_build 88 [(0, (.tmp 19)), (1, (.tmp 20)), (2, (.tmp 21))] [(0, .agg (d.cells).toArray), (1, .slice pa R.length cap), (2, .int .i64 ((n : Nat) : Int))] (.agg #[.string d.nm, .string d.rt.nm, .int .i64 d.rt.mx, .slice d.rt.pi d.rt.items.length d.rt.ci, .slice d.rt.pk d.rt.kids.length d.rt.ck, .slice d.pt d.tb.length d.ct, .slice d.pp d.pg.length d.cp, .slice pa R.length cap, .int .i64 ((n : Nat) : Int)]) rfl rfl (by kernel_rfl) rfl ?_
    refine wl_load 38 (.tmp 5) (pt k2 0) (.agg (x.cells).toArray) rfl rfl (run_row Q2 38 0 17 (x.cells) rfl Try.underlying38 rfl sz38) rfl ?_
    refine wl_call 36 [(.tmp 22), (.tmp 23)] _ [.agg #[.string d.nm, .string d.rt.nm, .int .i64 d.rt.mx, .slice d.rt.pi d.rt.items.length d.rt.ci, .slice d.rt.pk d.rt.kids.length d.rt.ck, .slice d.pt d.tb.length d.ct, .slice d.pp d.pg.length d.cp, .slice pa R.length cap, .int .i64 ((n : Nat) : Int)], .agg (x.cells).toArray] (.tuple #[.int .i64 ((kdK d R n x).1), .int .i64 ((kdK d R n x).2)]) rfl rfl (fun _ _ => by kernel_rfl) (kdK_n cap x (hL.kp M.kp) ⟨hD.kp M.kp, hSR, hIR, (fla_wf d).wf.key hkey, by have := fla_len d; omega, by omega⟩ hz) rfl ?_
    intro u4 hq
    replace Q1 := Q1.mo hq
    replace Q2 := Q2.mo hq
    replace M := M.trans hq
    clear hq
    refine wl_un (fun v => Instr.extract v 0) (.tmp 24) (.tuple #[.int .i64 ((kdK d R n x).1), .int .i64 ((kdK d R n x).2)]) (.int .i64 ((kdK d R n x).1)) (fun _ => rfl) rfl (by kernel_rfl) rfl ?_
    refine wl_un (fun v => Instr.extract v 1) (.tmp 24) (.tuple #[.int .i64 ((kdK d R n x).1), .int .i64 ((kdK d R n x).2)]) (.int .i64 ((kdK d R n x).2)) (fun _ => rfl) rfl (by kernel_rfl) rfl ?_
    refine wl_mv (.tmp 25) (.int .i64 ((kdK d R n x).1)) (fun _ => rfl) rfl rfl ?_
    refine wl_mv (.tmp 26) (.int .i64 ((kdK d R n x).2)) (fun _ => rfl) rfl rfl ?_
    refine w_nil ?_
    refine xn_then ?_
    refine w_ret ?_
    exact w_ret2 _ _ (.int .i64 ((kdK d R n x).1)) (.int .i64 ((kdK d R n x).2)) rfl rfl rfl ⟨by rw [knd_of (by omega), ← kdK_key hkey], M⟩
theorem kind_m {d : Df} {x : Ex} {w : World} (hD : LDf w d) (hB : FB d) (s : Int) (hs : s < 0) : Calls Try.prog 17 #[.agg (d.cells).toArray, .int .i64 s, .agg (x.cells).toArray] w fun e w' => e = .returned (tu2 (knd d s x)) ∧ Mo w w' := by
  refine w_enter 27 Try.func17 Try.ntmps17 rfl rfl ?_
  have M : Mo w w := Mo.refl _
  refine w_seq ?_
  refine w_reg ?_
  refine wl_box 52 (.tmp 0) (.agg (d.cells).toArray) (((d.cells).toArray)) rfl rfl (fun _ => by kernel_rfl) rfl ?_
  intro k1 u1 hk hz hq Q1
  have N_k1 : w.heap.size ≤ k1 := by have := M.size; omega
  replace M := M.trans hq
  clear hk hz hq
  refine wl_box 38 (.tmp 2) (.agg (x.cells).toArray) (((x.cells).toArray)) rfl rfl (fun _ => by kernel_rfl) rfl ?_
  intro k2 u2 hk hz hq Q2
  have ne_k1_k2 : k1 ≠ k2 := by have := Q1.lt; omega
  have N_k2 : w.heap.size ≤ k2 := by have := M.size; omega
  replace Q1 := Q1.mo hq
  replace M := M.trans hq
  clear hk hz hq
  refine wl_mv (.const (.int .i64 (0))) (.int .i64 (0)) (fun _ => rfl) rfl rfl ?_
  refine wl_mv (.const (.int .i64 (0))) (.int .i64 (0)) (fun _ => rfl) rfl rfl ?_
  refine w_nil ?_
  refine xn_then ?_
  refine w_seq ?_
  refine w_reg ?_
  refine wl_load 52 (.tmp 3) (pt k1 0) (.agg (d.cells).toArray) rfl rfl (run_row Q1 52 0 7 (d.cells) rfl Try.underlying52 rfl sz52) rfl ?_
  refine wl_callx 35 [(.tmp 9)] _ [.agg (d.cells).toArray] rfl rfl (fun _ _ => by kernel_rfl) (pflat_n d (hD.kp M.kp) hB) rfl ?_
  rintro e9 u3 ⟨pa, cap, R, rfl, hkey, hSR, hIR, hq⟩
  refine ⟨_, rfl, ?_⟩
  replace Q1 := Q1.mo hq
  replace Q2 := Q2.mo hq
  replace M := M.trans hq
  clear hq
  refine wl_mv (.tmp 10) (.slice pa R.length cap) (fun _ => rfl) rfl rfl ?_
  refine w_nil ?_
  refine xn_then ?_
  refine w_seq ?_
  refine w_seq ?_
  refine w_reg ?_
  refine wl_mv (.tmp 1) (.int .i64 (s)) (fun _ => rfl) rfl rfl ?_
  refine wl_bin (fun x y => do eqGuard .lss 3 (.tmp 11) (.const (.int .i64 (0))) x y; binOp .lss 3 x y) (.tmp 11) (.const (.int .i64 (0))) (.int .i64 (s)) (.int .i64 (0)) (.bool true) (fun _ => rfl) rfl rfl (lt3 (decide_eq_true hs) _ _ _) rfl ?_
  refine wl_mv (.tmp 12) (.bool true) (fun _ => rfl) rfl rfl ?_
  refine wl_skip rfl ?_
  refine wl_skip rfl ?_
  refine wl_skip rfl ?_
  refine wl_skip rfl ?_
  refine wl_pick (.tmp 13) (.const (.bool true)) (.tmp 17) true (.bool true) (fun _ => rfl) rfl rfl rfl ?_
  refine w_nil ?_
  refine xn_then ?_
  refine w_condT rfl ?_
  refine w_seq ?_
  refine w_reg ?_
  refine wl_mv (.const (.int .i64 (0))) (.int .i64 (0)) (fun _ => rfl) rfl rfl ?_
  refine wl_mv (.const (.int .i64 (4))) (.int .i64 (4)) (fun _ => rfl) rfl rfl ?_
  refine w_nil ?_
  refine xn_then ?_
  refine w_ret ?_
  refine xr_then ?_
  exact w_ret2 _ _ (.int .i64 (0)) (.int .i64 (4)) rfl rfl rfl ⟨by rw [knd_no (Or.inl hs)], M⟩
/-- Kind, whatever the section. -/
theorem kind_n {d : Df} {x : Ex} {w : World} (hD : LDf w d) (hL : LEx w x) (hB : FB d) (hz : nd x ≤ 4000000) (s : Int) : Calls Try.prog 17 #[.agg (d.cells).toArray, .int .i64 s, .agg (x.cells).toArray] w fun e w' => e = .returned (tu2 (knd d s x)) ∧ Mo w w' := by
  rcases Int.lt_or_le s 0 with h | h
  · exact kind_m hD hB s h
  · obtain ⟨n, rfl⟩ : ∃ n : Nat, s = n := ⟨s.toNat, by omega⟩
    exact kind_p hD hL hB hz n
end Go.Proofs.Ytepfokoepibkcaa
namespace Go.Proofs.Ytepfokoepibkcaa
open Go.RowKit D
/-! What an expression reads, its parts read. -/
theorem insl_mono {l o : List Rd} {r : Rd} (h : hasR o r = true) : hasR (l.foldl ins o) r = true := any_insl l o h
theorem foldr_has {f : Ex → List Rd} {r : Rd} : ∀ (l : List Ex) (q : List Rd), hasR q r = true → hasR (l.foldl (fun o a => (f a).foldl ins o) q) r = true
  | [], _, h => h
  | _ :: l, _, h => foldr_has l _ (insl_mono h)
theorem foldr_mem {f : Ex → List Rd} {r : Rd} : ∀ (l : List Ex) (q : List Rd) {a : Ex}, a ∈ l → hasR (f a) r = true → hasR (l.foldl (fun o a => (f a).foldl ins o) q) r = true
  | _ :: l, _, _, ha, h => by
    rcases List.mem_cons.1 ha with rfl | ha
    · exact foldr_has l _ (has_insl _ _ h)
    · exact foldr_mem l _ ha h
theorem rds_arg {x a : Ex} (ha : a ∈ x.args) {r : Rd} (h : hasR (rds a) r = true) : hasR (rds x) r = true := by
  rw [rds_eq]; exact foldr_mem x.args _ ha h
theorem rds_nm {x : Ex} (h : x.k = 2) : hasR (rds x) (⟨#[]⟩, x.nm) = true := by
  rw [rds_eq]
  refine foldr_has _ _ ?_
  rw [ownR, if_pos h]; simp [hasR]
theorem rds_ag {x : Ex} (h : x.k = 10) : hasR (rds x) (x.se, x.nm) = true := by
  rw [rds_eq]
  refine foldr_has _ _ ?_
  rw [ownR, if_neg (by omega), if_pos h]; simp [hasR]
/-- No name of these is read. -/
def Nrd (nm nu : ByteArray) (x : Ex) : Prop := ∀ r : Rd, hasR (rds x) r = true → ¬ r.2 = nm ∧ ¬ r.1 = nm ∧ ¬ r.1 = nu
theorem Nrd.arg {nm nu : ByteArray} {x a : Ex} (h : Nrd nm nu x) (ha : a ∈ x.args) : Nrd nm nu a := fun r hr => h r (rds_arg ha hr)
/-! One item more at the root's end, one section more at the list's end, one table more. -/
abbrev kI (y : It) : ByteArray × Int × Int × Int := (y.nm, y.k, y.tk, y.ts)
/-- The sections of a definition with more. -/
structure Mor (nm nu : ByteArray) (L L' : List S5) : Prop where
  hd : ∃ r r' T E, L = r :: T ∧ L' = r' :: (T ++ E) ∧ r.pr = -1 ∧ r'.pr = -1 ∧ r'.nm = r.nm ∧ r'.items.map kI = r.items.map kI ++ [(nm, 1, 3, 0)] ∧ ∀ e ∈ E, e.nm = nu
theorem fi_app {α : Type} {p : α → Bool} {A B : List α} {i : Nat} (h : A.findIdx? p = some i) : (A ++ B).findIdx? p = some i := by
  rw [List.findIdx?_append, h]; rfl
theorem pIt_more {x y : S5} {nm nm2 : ByteArray} (h : y.items.map kI = x.items.map kI ++ [(nm, 1, 3, 0)]) (hne : ¬ nm2 = nm) : y.items.findIdx? (pIt nm2) = x.items.findIdx? (pIt nm2) := by
  have e1 : (y.items.map kI).findIdx? (fun q => decide (q.1 = nm2) && cbr q.2.1) = y.items.findIdx? (pIt nm2) := List.findIdx?_map
  have e2 : (x.items.map kI).findIdx? (fun q => decide (q.1 = nm2) && cbr q.2.1) = x.items.findIdx? (pIt nm2) := List.findIdx?_map
  rw [← e1, ← e2, h, List.findIdx?_append]
  have h3 : ([(nm, (1 : Int), (3 : Int), (0 : Int))] : List (ByteArray × Int × Int × Int)).findIdx? (fun q => decide (q.1 = nm2) && cbr q.2.1) = none := by
    have q : decide (nm = nm2) = false := decide_eq_false (fun e => hne e.symm)
    simp [q]
  rw [h3]
  cases (x.items.map kI).findIdx? (fun q => decide (q.1 = nm2) && cbr q.2.1) <;> rfl
theorem fnF_0 {L : List S5} {r : S5} {T : List S5} {nm2 : ByteArray} (hL : L = r :: T) : fnF L nm2 1 = (r.items.findIdx? (pIt nm2)).map (fun i => (0, i)) := by
  subst hL
  rw [fnF]
  show (match r.items.findIdx? (pIt nm2) with | some i => some (0, i) | none => fnF (r :: T) nm2 (min 0 (r.pr + 1).toNat)) = _
  cases r.items.findIdx? (pIt nm2) with
  | some i => rfl
  | none => rw [Nat.zero_min, fnF]; rfl
theorem get_more {x y : S5} {nm : ByteArray} {i : Nat} {z : It} (h : y.items.map kI = x.items.map kI ++ [(nm, 1, 3, 0)]) (hz : x.items[i]? = some z) : ∃ z', y.items[i]? = some z' ∧ z'.tk = z.tk ∧ z'.ts = z.ts := by
  have h2 := congrArg (fun q => q[i]?) h
  simp only [List.getElem?_map] at h2
  rw [List.getElem?_append_left (by simpa using lt_of_get hz), List.getElem?_map, hz] at h2
  cases hy : y.items[i]? with
  | none => rw [hy] at h2; cases h2
  | some z' =>
    rw [hy] at h2
    simp only [Option.map_some, Option.some.injEq, Prod.mk.injEq] at h2
    exact ⟨z', rfl, h2.2.2.1, h2.2.2.2⟩
theorem nmK_more {nm nu : ByteArray} {L L' : List S5} (h : Mor nm nu L L') {nm2 : ByteArray} (hne : ¬ nm2 = nm) : nmK L' 0 nm2 = nmK L 0 nm2 := by
  obtain ⟨r, r', T, E, hL, hL', _, _, _, hi, _⟩ := h.hd
  have e1 := fnF_0 (nm2 := nm2) hL
  have e2 := fnF_0 (nm2 := nm2) hL'
  rw [pIt_more hi hne] at e2
  cases hf : r.items.findIdx? (pIt nm2) with
  | none =>
    rw [hf] at e1 e2
    rw [nmK_no e1, nmK_no e2]
  | some i =>
    rw [hf] at e1 e2
    obtain ⟨hj, _⟩ := List.findIdx?_eq_some_iff_getElem.1 hf
    have hz : r.items[i]? = some r.items[i] := List.getElem?_eq_getElem hj
    obtain ⟨z', hz', h1, h2⟩ := get_more hi hz
    rw [nmK_of e1 (itA_of (x := r) (by rw [hL]; rfl) hz), nmK_of e2 (itA_of (x := r') (by rw [hL']; rfl) hz'), h1, h2]
theorem fnF_lt {L : List S5} {nm : ByteArray} : ∀ (n : Nat) {k i : Nat}, fnF L nm n = some (k, i) → k < n := by
  intro n
  induction n using Nat.strongRecOn with
  | ind n ih =>
    intro k i h
    cases n with
    | zero => rw [fnF] at h; cases h
    | succ n =>
      rw [fnF] at h
      cases hx : L[n]? with
      | none => simp only [hx] at h; cases h
      | some x =>
        simp only [hx] at h
        cases hi : x.items.findIdx? (pIt nm) with
        | none => simp only [hi] at h; have := ih _ (by omega) h; omega
        | some j => simp only [hi] at h; cases h; omega
/-- An aggregate goes by the kid's own items alone. -/
theorem agK_at {L : List S5} {s k : Nat} {x : Ex} {z : S5} (h1 : L.findIdx? (pKd s x.se) = some k) (hz : L[k]? = some z) : agK L s x = if x.op = 16 then (if x.nm = ⟨#[]⟩ then (1, 0) else (0, 100)) else match z.items.findIdx? (pIt x.nm) with
    | none => (0, 91)
    | some i => match z.items[i]? with
      | none => (0, 0)
      | some y => sui (colK x.op y.tk) := by
  unfold agK
  rw [h1]
  show (if x.op = 16 then _ else _) = (if x.op = 16 then _ else _)
  by_cases ho : x.op = 16
  · rw [if_pos ho, if_pos ho]
  · rw [if_neg ho, if_neg ho]
    cases hi : z.items.findIdx? (pIt x.nm) with
    | some i =>
      rw [fnF_hit hz hi]
      show (if k = k then (match itA L k i with | none => _ | some y => _) else _) = _
      rw [if_pos rfl]
      have e : itA L k i = z.items[i]? := by unfold itA; rw [hz]; rfl
      rw [e]
    | none =>
      have e : fnF L x.nm (k + 1) = fnF L x.nm (min k (z.pr + 1).toNat) := by
        rw [fnF]; simp only [hz, hi]
      rw [e]
      cases hf : fnF L x.nm (min k (z.pr + 1).toNat) with
      | none => rfl
      | some q =>
        obtain ⟨j, i⟩ := q
        have := fnF_lt _ hf
        show (if j = k then _ else _) = _
        rw [if_neg (by omega)]
theorem kid_more {nm nu : ByteArray} {L L' : List S5} (h : Mor nm nu L L') {se : ByteArray} (hne : ¬ se = nu) : L'.findIdx? (pKd 0 se) = L.findIdx? (pKd 0 se) ∧ ∀ k, L.findIdx? (pKd 0 se) = some k → L'[k]? = L[k]? := by
  obtain ⟨r, r', T, E, rfl, rfl, hp, hp', _, _, hE⟩ := h.hd
  have hr : pKd 0 se r = false := by simp [pKd, hp]
  have hr' : pKd 0 se r' = false := by simp [pKd, hp']
  have hEn : E.findIdx? (pKd 0 se) = none := by
    rw [List.findIdx?_eq_none_iff]
    intro e he
    have := hE e he
    simp only [pKd, this, Bool.and_eq_false_iff, decide_eq_false_iff_not]
    exact Or.inr (fun q => hne q.symm)
  constructor
  · rw [List.findIdx?_cons, List.findIdx?_cons, hr, hr', List.findIdx?_append, hEn]
    cases T.findIdx? (pKd 0 se) <;> rfl
  · intro k hk
    rw [List.findIdx?_cons, hr] at hk
    simp only [Bool.false_eq_true, if_false, Option.map_eq_some_iff] at hk
    obtain ⟨j, hj, rfl⟩ := hk
    obtain ⟨hj2, _⟩ := List.findIdx?_eq_some_iff_getElem.1 hj
    rw [List.getElem?_cons_succ, List.getElem?_cons_succ, List.getElem?_append_left hj2]
theorem agK_more {nm nu : ByteArray} {L L' : List S5} (h : Mor nm nu L L') {x : Ex} (hne : ¬ x.se = nu) : agK L' 0 x = agK L 0 x := by
  obtain ⟨h1, h2⟩ := kid_more h hne
  cases hk : L.findIdx? (pKd 0 x.se) with
  | none =>
    unfold agK
    rw [show L'.findIdx? (pKd ((0 : Nat) : Int) x.se) = none from h1.trans hk, show L.findIdx? (pKd ((0 : Nat) : Int) x.se) = none from hk]
  | some k =>
    have hg := h2 k hk
    obtain ⟨hj, _⟩ := List.findIdx?_eq_some_iff_getElem.1 hk
    have hz : L[k]? = some L[k] := List.getElem?_eq_getElem hj
    rw [agK_at (L := L') (s := 0) (h1.trans hk) (hg.trans hz), agK_at (L := L) (s := 0) hk hz]
section
variable {nm nu : ByteArray} {L L' : List S5} {d d' : Df}
theorem ndK_more (h : Mor nm nu L L') (ht : ∀ q, (tbF d q).isSome = true → (tbF d' q).isSome = true) {x : Ex} (hN : Nrd nm nu x) {A : List Int} (he : (ndK d L 0 x A).2 = 0) : ndK d' L' 0 x A = ndK d L 0 x A := by
  unfold ndK at he ⊢
  by_cases h1 : x.k = 1
  · rw [if_pos h1, if_pos h1]
  rw [if_neg h1] at he
  rw [if_neg h1, if_neg h1]
  by_cases h2 : x.k = 2
  · rw [if_pos h2, if_pos h2, nmK_more h (hN _ (rds_nm h2)).1]
  rw [if_neg h2] at he
  rw [if_neg h2, if_neg h2]
  by_cases h10 : x.k = 10
  · rw [if_pos h10, if_pos h10, agK_more h (hN _ (rds_ag h10)).2.2]
  rw [if_neg h10] at he
  rw [if_neg h10, if_neg h10]
  by_cases h7 : x.k = 7
  · rw [if_pos h7, if_pos h7]
  rw [if_neg h7] at he
  rw [if_neg h7, if_neg h7]
  by_cases h8 : x.k = 8
  · rw [if_pos h8] at he
    rw [if_pos h8, if_pos h8]
    by_cases hs : (tbF d x.nm).isSome = true
    · rw [if_pos hs, if_pos (ht _ hs)]
    · rw [if_neg hs] at he; exact absurd he (by decide)
  · rw [if_neg h8, if_neg h8]
theorem ac_ne {f : Ex → Int × Int} {e : Int} : ∀ (l : List Ex) (acc : Except Int (List Int)), (∀ q, acc = .error q → q ≠ 0) → l.foldl (fun acc a => acK acc (f a)) acc = .error e → e ≠ 0
  | [], acc, h, he => h e he
  | a :: l, acc, h, he => by
    refine ac_ne l (acK acc (f a)) (fun q hq => ?_) he
    cases acc with
    | error q2 => exact h q (by simpa [acK] using hq)
    | ok B =>
      by_cases hz : (f a).2 = 0
      · rw [show acK (.ok B) (f a) = .ok (B ++ [(f a).1]) by show (if (f a).2 = 0 then _ else _) = _; rw [if_pos hz]] at hq; cases hq
      · rw [show acK (.ok B) (f a) = .error (f a).2 by show (if (f a).2 = 0 then _ else _) = _; rw [if_neg hz]] at hq; cases hq; exact hz
theorem ac_same {f g : Ex → Int × Int} {A : List Int} : ∀ (l : List Ex) (acc : Except Int (List Int)), (∀ a ∈ l, (f a).2 = 0 → g a = f a) → l.foldl (fun acc a => acK acc (f a)) acc = .ok A → l.foldl (fun acc a => acK acc (g a)) acc = .ok A
  | [], acc, _, he => he
  | a :: l, acc, h, he => by
    simp only [List.foldl_cons] at he ⊢
    cases acc with
    | error q => rw [show acK (.error q) (f a) = .error q from rfl, ac_err] at he; cases he
    | ok B =>
      by_cases hz : (f a).2 = 0
      · rw [h a (List.mem_cons_self ..) hz]
        exact ac_same l _ (fun y hy => h y (List.mem_cons_of_mem _ hy)) he
      · rw [show acK (.ok B) (f a) = .error (f a).2 by show (if (f a).2 = 0 then _ else _) = _; rw [if_neg hz], ac_err] at he; cases he
theorem whK_more (h : Mor nm nu L L') (ht : ∀ q, (tbF d q).isSome = true → (tbF d' q).isSome = true) : ∀ x : Ex, Nrd nm nu x → (whK d L 0 x).2 = 0 → whK d' L' 0 x = whK d L 0 x := by
  refine Ex.ind2 ?_
  intro x ih hN he
  rw [whK_eq d L 0 x] at he
  rw [whK_eq d L 0 x, whK_eq d' L' 0 x]
  cases hf : x.args.foldl (fun acc a => acK acc (whK d L 0 a)) (.ok []) with
  | error e =>
    rw [hf] at he
    exact absurd he (ac_ne x.args (.ok []) (fun q hq => by cases hq) hf)
  | ok A =>
    rw [hf] at he
    rw [ac_same (g := whK d' L' 0) x.args (.ok []) (fun a ha hz => ih a ha (hN.arg ha) hz) hf]
    exact ndK_more h ht hN he
theorem kdK_more (h : Mor nm nu L L') (ht : ∀ q, (tbF d q).isSome = true → (tbF d' q).isSome = true) {x : Ex} (hN : Nrd nm nu x) (he : (kdK d L 0 x).2 = 0) : kdK d' L' 0 x = kdK d L 0 x := by
  unfold kdK at he ⊢
  by_cases hz : 64 < nd x
  · rw [if_pos hz] at he; exact absurd he (by decide)
  · rw [if_neg hz] at he
    rw [if_neg hz, if_neg hz]; exact whK_more h ht x hN he
end
end Go.Proofs.Ytepfokoepibkcaa
