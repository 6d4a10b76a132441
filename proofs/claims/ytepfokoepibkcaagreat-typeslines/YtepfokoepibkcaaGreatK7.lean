/-
  Nodes; the kind of an expression.
-/
import Derived.Test.YtepfokoepibkcaaGreatK6
namespace Go.Proofs.YtepfokoepibkcaaGreat
open Go.RowKit D
/-- How many nodes there are, as an int counts them. -/
def ndw : Ex → Int
  | .mk _ _ _ _ _ _ _ _ _ args => args.foldl (fun n a => IntKind.i64.wrap (n + ndw a)) 1
theorem ndw_eq : ∀ x : Ex, ndw x = x.args.foldl (fun n a => IntKind.i64.wrap (n + ndw a)) 1
  | .mk k op nm se v sc po pa cap args => by
    rw [ndw]
theorem foldl_s {α β : Type} {f : β → α → β} {l : List α} {i : Nat} {a : α} {b : β} (ha : l[i]? = some a) : (l.take (i + 1)).foldl f b = f ((l.take i).foldl f b) a := by
  rw [List.take_add_one, ha, List.foldl_append]; rfl
theorem addW (a b : Int) (x y : Operand) (w : World) : (do eqGuard .add 3 x y (.int .i64 a) (.int .i64 b); binOp .add 3 (.int .i64 a) (.int .i64 b)).run Tryz.prog w = .ok (.int .i64 (IntKind.i64.wrap (a + b))) w := by kernel_rfl
/-- No list of parts is longer than memory. -/
def AB : Ex → Prop
  | .mk _ _ _ _ _ _ _ _ _ args => args.length * 176 ≤ 140737488351232 ∧ ∀ o ∈ args, AB o
theorem AB.inv : ∀ {x : Ex}, AB x → x.args.length * 176 ≤ 140737488351232 ∧ ∀ o ∈ x.args, AB o
  | .mk _ _ _ _ _ _ _ _ _ _, h => by rw [AB] at h; exact h
theorem AB.mk : ∀ {x : Ex}, x.args.length * 176 ≤ 140737488351232 → (∀ o ∈ x.args, AB o) → AB x
  | .mk _ _ _ _ _ _ _ _ _ _, h1, h2 => by rw [AB]; exact ⟨h1, h2⟩
theorem AB.ln {x : Ex} (h : AB x) : x.args.length * 176 ≤ 140737488351232 := h.inv.1
theorem AB.ar {x : Ex} (h : AB x) : ∀ o ∈ x.args, AB o := h.inv.2
theorem nodes_n : ∀ (x : Ex) {w : World}, LEx w x → Calls Tryz.prog 19 #[.agg (x.cells).toArray] w fun e w' => e = .returned (.int .i64 (ndw x)) ∧ Mo w w' := by
  refine Ex.ind2 ?_
  intro x ih w hL
  refine w_enter 19 Tryz.func19 Tryz.ntmps19 rfl rfl ?_
  have M : Mo w w := Mo.refl _
  refine w_seq ?_
  refine w_reg ?_
  refine wl_box 52 (.tmp 0) (.agg (x.cells).toArray) (((x.cells).toArray)) rfl rfl (fun _ => by kernel_rfl) rfl ?_
  intro k1 u1 hk hz hq Q1
  have N_k1 : w.heap.size ≤ k1 := by have := M.size; omega
  replace M := M.trans hq
  clear hk hz hq
  refine wl_mv (.const (.int .i64 (0))) (.int .i64 (0)) (fun _ => rfl) rfl rfl ?_
  refine w_nil ?_
  refine xn_then ?_
  refine w_seq ?_
  refine w_reg ?_
  refine wl_mv (.const (.int .i64 (1))) (.int .i64 (1)) (fun _ => rfl) rfl rfl ?_
  refine w_nil ?_
  refine xn_then ?_
  refine w_seq ?_
  refine w_seq ?_
  refine w_reg ?_
  refine wl_un (fun v => Instr.fieldAt 52 v 7) (.tmp 1) (pt k1 0) (pt k1 16) (fun _ => rfl) rfl (by kernel_rfl) rfl ?_
  refine wl_load 50 (.tmp 6) (pt k1 16) (.slice x.pa x.args.length x.cap) rfl rfl (run_one Q1 50 16 rfl Tryz.underlying50 rfl) rfl ?_
  refine wl_val (.int .i64 ((x.args.length : Nat) : Int)) (len50 _ _ _ _ _ (by exact rfl) _ _ _ _ _ _) rfl ?_
  refine wl_mv (.const (.int .i64 (0))) (.int .i64 (0)) (fun _ => rfl) rfl rfl ?_
  refine w_nil ?_
  refine xn_then ?_
  refine w_block ?_
  have hz9 := hL.sl.1
  unfold maxLen at hz9
  refine w_loop (fun m l w1 => ∃ i : Nat, m = x.args.length - i ∧ i ≤ x.args.length ∧ look l 7 = .slice x.pa x.args.length x.cap ∧ look l 8 = .int .i64 ((x.args.length : Nat) : Int) ∧ look l 9 = .int .i64 ((i : Nat) : Int) ∧ (look l 3 = .int .i64 ((x.args.take i).foldl (fun n a => IntKind.i64.wrap (n + ndw a)) 1)) ∧ Mo w w1) _ ⟨0, rfl, Nat.zero_le _, rfl, rfl, rfl, rfl, M⟩ ?_
  clear Q1 M
  rintro m l40 wl40 ⟨i, rfl, hi, e40_7, e40_8, e40_i, e3x, M⟩
  by_cases hil : i < x.args.length
  · skip
    have hid : decide (i < x.args.length) = true := decide_eq_true hil
    obtain ⟨a, ha⟩ := get_of_lt hil
    have hma := List.mem_of_getElem? ha
    obtain ⟨bp, op, hpp, hRp⟩ := D.SL.rw hL.sl ha
    refine w_seq ?_
    refine w_reg ?_
    refine wl_bin (fun x y => do eqGuard .lss 3 (.tmp 9) (.tmp 8) x y; binOp .lss 3 x y) (.tmp 9) (.tmp 8) (.int .i64 ((i : Nat) : Int)) (.int .i64 ((x.args.length : Nat) : Int)) (.bool true) (fun _ => rfl) e40_i e40_8 (ltN hid _ _ _) rfl ?_
    refine w_nil ?_
    refine xn_then ?_
    refine w_seq ?_
    refine w_condT rfl ?_
    refine w_skip ?_
    refine xn_then ?_
    refine w_seq ?_
    refine w_block ?_
    refine w_seq ?_
    refine w_reg ?_
    refine wl_bin (fun x y => Instr.indexAt 50 x y) (.tmp 7) (.tmp 9) (.slice x.pa x.args.length x.cap) (.int .i64 ((i : Nat) : Int)) (pt bp (op + i * 17)) (fun _ => rfl) e40_7 e40_i (ix50 (i := i) hpp hil _) rfl ?_
    refine wl_load 52 (.tmp 11) (pt bp (op + i * 17)) (.agg (a.cells).toArray) rfl rfl (D.run_partR (hRp.mo M).at' 52 0 17 (a.cells) rfl Tryz.underlying52 rfl sz52) rfl ?_
    refine wl_alloc 52 #[.int .i64 0, .int .i64 0, .string ⟨#[]⟩, .string ⟨#[]⟩, .int .i64 0, .bool false, .int .u64 0, .int .u64 0, .int .u64 0, .int .u64 0, .int .i64 0, .bool false, .string ⟨#[]⟩, .int .i64 0, .int .i64 0, .int .i64 0, .slice none 0 0] rfl (fun _ => by kernel_rfl) rfl ?_
    intro k2 u41 hk hz hq Q2
    have N_k2 : w.heap.size ≤ k2 := by have := M.size; omega
    replace M := M.trans hq
    clear hk hz hq
    refine wl_st 52 (.tmp 5) (.tmp 12) k2 0 ((a.cells).toArray) [.int .i64 0, .int .i64 0, .string ⟨#[]⟩, .string ⟨#[]⟩, .int .i64 0, .bool false, .int .u64 0, .int .u64 0, .int .u64 0, .int .u64 0, .int .i64 0, .bool false, .string ⟨#[]⟩, .int .i64 0, .int .i64 0, .int .i64 0, .slice none 0 0] (a.cells) Q2 rfl rfl rfl rfl rfl sz52 rfl rfl rfl ?_
    intro u42 hS Qn
    replace Q2 := Qn
    clear Qn
    replace M := hS.mo _ N_k2 M
    clear hS
    refine w_nil ?_
    refine xn_then ?_
    refine w_reg ?_
    refine wl_mv (.tmp 3) (.int .i64 ((x.args.take i).foldl (fun n a => IntKind.i64.wrap (n + ndw a)) 1)) (fun _ => rfl) e3x rfl ?_
    refine wl_load 52 (.tmp 5) (pt k2 0) (.agg (a.cells).toArray) rfl rfl (run_row Q2 52 0 17 (a.cells) rfl Tryz.underlying52 rfl sz52) rfl ?_
    refine wl_call 19 [(.tmp 14)] _ [.agg (a.cells).toArray] (.int .i64 (ndw a)) rfl rfl (fun _ _ => by kernel_rfl) (ih a hma ((hL.ar a hma).kp M.kp)) rfl ?_
    intro u43 hq
    replace Q2 := Q2.mo hq
    replace M := M.trans hq
    clear hq
    refine wl_bin (fun x y => do eqGuard .add 3 (.tmp 13) (.tmp 15) x y; binOp .add 3 x y) (.tmp 13) (.tmp 15) (.int .i64 ((x.args.take i).foldl (fun n a => IntKind.i64.wrap (n + ndw a)) 1)) (.int .i64 (ndw a)) (.int .i64 (IntKind.i64.wrap ((x.args.take i).foldl (fun n a => IntKind.i64.wrap (n + ndw a)) 1 + ndw a))) (fun _ => rfl) rfl rfl (addW _ _ _ _ _) rfl ?_
    refine wl_mv (.tmp 16) (.int .i64 (IntKind.i64.wrap ((x.args.take i).foldl (fun n a => IntKind.i64.wrap (n + ndw a)) 1 + ndw a))) (fun _ => rfl) rfl rfl ?_
    refine w_nil ?_
    refine xn_blk ?_
    refine xn_then ?_
    refine w_reg ?_
    refine wl_bin (fun x y => do eqGuard .add 3 (.tmp 9) (.const (.int .i64 (1))) x y; binOp .add 3 x y) (.tmp 9) (.const (.int .i64 (1))) (.int .i64 ((i : Nat) : Int)) (.int .i64 (1)) (.int .i64 ((i + 1 : Nat) : Int)) (fun _ => rfl) e40_i rfl (add1r (k := i) (by omega) _ _ _) rfl ?_
    refine wl_mv (.tmp 17) (.int .i64 ((i + 1 : Nat) : Int)) (fun _ => rfl) rfl rfl ?_
    refine w_nil ?_
    exact xn_loop (x.args.length - (i + 1)) (by omega) ⟨i + 1, rfl, by omega, e40_7, e40_8, rfl, by rw [foldl_s ha]; rfl, M⟩
  · skip
    have hid : decide (i < x.args.length) = false := decide_eq_false hil
    have hie : i = x.args.length := by omega
    refine w_seq ?_
    refine w_reg ?_
    refine wl_bin (fun x y => do eqGuard .lss 3 (.tmp 9) (.tmp 8) x y; binOp .lss 3 x y) (.tmp 9) (.tmp 8) (.int .i64 ((i : Nat) : Int)) (.int .i64 ((x.args.length : Nat) : Int)) (.bool false) (fun _ => rfl) e40_i e40_8 (ltN hid _ _ _) rfl ?_
    refine w_nil ?_
    refine xn_then ?_
    refine w_seq ?_
    refine w_condF rfl ?_
    refine w_exit ?_
    refine xx_then ?_
    refine xx_then ?_
    refine xx_blk ?_
    refine xn_then ?_
    refine w_seq ?_
    refine w_reg ?_
    refine wl_mv (.tmp 3) (.int .i64 ((x.args.take i).foldl (fun n a => IntKind.i64.wrap (n + ndw a)) 1)) (fun _ => rfl) e3x rfl ?_
    refine wl_mv (.tmp 18) (.int .i64 ((x.args.take i).foldl (fun n a => IntKind.i64.wrap (n + ndw a)) 1)) (fun _ => rfl) rfl rfl ?_
    refine w_nil ?_
    refine xn_then ?_
    refine w_ret ?_
    exact w_ret1 _ (.int .i64 ((x.args.take i).foldl (fun n a => IntKind.i64.wrap (n + ndw a)) 1)) rfl rfl ⟨by rw [ndw_eq, hie, List.take_length], M⟩
def acK (acc : Except Int (List Int)) (r : Int × Int) : Except Int (List Int) := match acc with
  | .error e => .error e
  | .ok A => if r.2 = 0 then .ok (A ++ [r.1]) else .error r.2
def endK (d : Df) (L : List S5) (s : Nat) (x : Ex) (r : Except Int (List Int)) : Int × Int := match r with
  | .error e => (0, e)
  | .ok A => ndK d L s x A
/-- The kind of an expression, or its first error. -/
def whK (d : Df) (L : List S5) (s : Nat) : Ex → Int × Int
  | .mk k op nm se v sc po pa cap args => endK d L s (.mk k op nm se v sc po pa cap args) (args.foldl (fun acc a => acK acc (whK d L s a)) (.ok []))
theorem whK_eq (d : Df) (L : List S5) (s : Nat) : ∀ x : Ex, whK d L s x = endK d L s x (x.args.foldl (fun acc a => acK acc (whK d L s a)) (.ok []))
  | .mk k op nm se v sc po pa cap args => by
    rw [whK]
theorem ac_err {f : Ex → Int × Int} (e : Int) : ∀ l : List Ex, l.foldl (fun acc a => acK acc (f a)) (.error e) = .error e
  | [] => rfl
  | _ :: l => ac_err e l
theorem ac_ok {f : Ex → Int × Int} {l : List Ex} {i : Nat} {a : Ex} {A : List Int} (h : (l.take i).foldl (fun acc a => acK acc (f a)) (.ok []) = .ok A) (ha : l[i]? = some a) (he : (f a).2 = 0) : (l.take (i + 1)).foldl (fun acc a => acK acc (f a)) (.ok []) = .ok (A ++ [(f a).1]) := by
  rw [foldl_s ha, h]; show (if (f a).2 = 0 then _ else _) = _; rw [if_pos he]
theorem ac_no {f : Ex → Int × Int} {l : List Ex} {i : Nat} {a : Ex} {A : List Int} (h : (l.take i).foldl (fun acc a => acK acc (f a)) (.ok []) = .ok A) (ha : l[i]? = some a) (he : ¬ (f a).2 = 0) : l.foldl (fun acc a => acK acc (f a)) (.ok []) = .error (f a).2 := by
  have h1 : (l.take (i + 1)).foldl (fun acc a => acK acc (f a)) (.ok []) = .error (f a).2 := by
    rw [foldl_s ha, h]; show (if (f a).2 = 0 then _ else _) = _; rw [if_neg he]
  have e : l = l.take (i + 1) ++ l.drop (i + 1) := (List.take_append_drop _ _).symm
  rw [e, List.foldl_append, h1, ac_err]
/-- Kinds in a slice of one's own, apart from two blocks. -/
structure KO (w : World) (N k1 k2 : Nat) (pv : Option Addr) (cv : Nat) (A : List Int) : Prop where
  own : w.ownsRow N 3 1 (.slice pv A.length cv) A.length (A.flatMap kc)
  nk : ∀ k, Value.ownBlock (.slice pv A.length cv) = some k → k ≠ k1 ∧ k ≠ k2
theorem KO.mo {w w' : World} {N k1 k2 : Nat} {pv : Option Addr} {cv : Nat} {A : List Int} (h : KO w N k1 k2 pv cv A) (m : Mo w w') : KO w' N k1 k2 pv cv A := ⟨own_mo h.own m, h.nk⟩
theorem KO.nil (w : World) (N k1 k2 : Nat) : KO w N k1 k2 none 0 [] := ⟨⟨rfl, Or.inl ⟨rfl, rfl⟩⟩, fun k e => by cases e⟩
theorem inf3 : ∃ i, Tryz.prog.info? 3 = some i ∧ i.zero = some (.int .i64 0) ∧ i.size = 1 ∧ i.bytes = 8 := by
  have h : (Tryz.prog.info? 3).map (fun i => (i.zero, i.size, i.bytes)) = some (some (.int .i64 0), 1, 8) := by kernel_rfl
  cases hi : Tryz.prog.info? 3 with
  | none => rw [hi] at h; cases h
  | some i =>
    rw [hi] at h
    simp at h
    exact ⟨i, rfl, h.1, h.2.1, h.2.2⟩
section
variable {o : Oper} {n : Nat} {l : List (Nat × Value)} {w : World} {ops : Array Oper} {rest : List Oper} {Q : Exit → Act → World → Prop}
theorem wl_apK (s x : Operand) {N k1 k2 : Nat} {pv : Option Addr} {cv : Nat} {A : List Int} {r : Int} (kb : Nat) (ho : o.op = .call { callee := .builtin .append, args := #[s, x], argTypes := #[132, 132] }) (hs : evl n l s = .slice pv A.length cv) (hx : evl n l x = .slice (some ⟨kb, 0, none⟩) 1 1)
    (h : KO w N k1 k2 pv cv A) (hA : At w kb (kc r)) (hz : A.length < 900000000000) (hN : N ≤ w.heap.size) (hk1 : k1 < w.heap.size) (hk2 : k2 < w.heap.size) (hg : wnt n l ops o = true)
    (hk : ∀ pv2 cv2 w', KO w' N k1 k2 pv2 cv2 (A ++ [r]) → (∀ a : World, a.heap.size = N → Mo a w → Mo a w') → Mk (fun j => Value.ownBlock (.slice pv A.length cv) = some j) w w' → WL Tryz.prog ops Q rest n (ext l o.dst (.slice pv2 (A ++ [r]).length cv2)) w') : WL Tryz.prog ops Q (o :: rest) n l w := by
  refine wl_app Tryz.underlying132 inf3 rfl (by decide) s x N (.slice pv A.length cv) A.length (A.flatMap kc) kb 1 1 (kc r) ho hs hx h.own rfl hA (by simp [Value.oneCell']) (by decide) (by unfold maxLen; omega) (by omega) hN hg ?_
  intro v2 w' hw m hv
  have e : (A ++ [r]).length = A.length + 1 := by simp
  have e2 : (A ++ [r]).flatMap kc = A.flatMap kc ++ kc r := by simp
  obtain ⟨pv2, cv2, rfl, _⟩ := own_form hw
  rw [← e] at hv hw ⊢
  rw [← e2] at hw
  refine hk pv2 cv2 w' ⟨hw, fun k e3 => ?_⟩ (fun a ha q => m.mo q (fun k e3 => by have := (own_lt h.own e3).2; omega)) m
  rcases hv with q | q
  · exact h.nk k (q ▸ e3)
  · rw [q] at e3; cases e3; omega
end
theorem whK_n {d : Df} {sp : Option Addr} {L : List S5} {s : Nat} (sc : Nat) : ∀ (x : Ex) {w : World}, LEx w x → RD w d sp L s → AB x → Calls Tryz.prog 39 #[.agg (rdr d sp L sc s).toArray, .agg (x.cells).toArray] w fun e w' => e = .returned (tu2 (whK d L s x)) ∧ Mo w w' := by
  refine Ex.ind2 ?_
  intro x ih w hL hR hB
  refine w_enter 38 Tryz.func39 Tryz.ntmps39 rfl rfl ?_
  have M : Mo w w := Mo.refl _
  refine w_seq ?_
  refine w_reg ?_
  refine wl_box 65 (.tmp 0) (.agg (rdr d sp L sc s).toArray) (((rdr d sp L sc s).toArray)) rfl rfl (fun _ => by kernel_rfl) rfl ?_
  intro k1 u1 hk hz hq Q1
  have N_k1 : w.heap.size ≤ k1 := by have := M.size; omega
  replace M := M.trans hq
  clear hk hz hq
  refine wl_box 52 (.tmp 1) (.agg (x.cells).toArray) (((x.cells).toArray)) rfl rfl (fun _ => by kernel_rfl) rfl ?_
  intro k2 u2 hk hz hq Q2
  have ne_k1_k2 : k1 ≠ k2 := by have := Q1.lt; omega
  have N_k2 : w.heap.size ≤ k2 := by have := M.size; omega
  replace Q1 := Q1.mo hq
  replace M := M.trans hq
  clear hk hz hq
  refine wl_mv (.const (.int .i64 (0))) (.int .i64 (0)) (fun _ => rfl) rfl rfl ?_
  refine wl_mv (.const (.int .i64 (0))) (.int .i64 (0)) (fun _ => rfl) rfl rfl ?_
  refine w_nil ?_
  refine xn_then ?_
  refine w_seq ?_
  refine w_reg ?_
  refine wl_mv (.const (.slice none 0 0)) (.slice none 0 0) (fun _ => rfl) rfl rfl ?_
  refine w_nil ?_
  refine xn_then ?_
  refine w_seq ?_
  refine w_seq ?_
  refine w_reg ?_
  refine wl_un (fun v => Instr.fieldAt 52 v 7) (.tmp 3) (pt k2 0) (pt k2 16) (fun _ => rfl) rfl (by kernel_rfl) rfl ?_
  refine wl_load 50 (.tmp 11) (pt k2 16) (.slice x.pa x.args.length x.cap) rfl rfl (run_one Q2 50 16 rfl Tryz.underlying50 rfl) rfl ?_
  refine wl_val (.int .i64 ((x.args.length : Nat) : Int)) (len50 _ _ _ _ _ (by exact rfl) _ _ _ _ _ _) rfl ?_
  refine wl_mv (.const (.int .i64 (0))) (.int .i64 (0)) (fun _ => rfl) rfl rfl ?_
  refine w_nil ?_
  refine xn_then ?_
  refine w_block ?_
  have hz9 := hL.sl.1
  unfold maxLen at hz9
  refine w_loop (fun m l w1 => ∃ i : Nat, m = x.args.length - i ∧ i ≤ x.args.length ∧ look l 2 = pt k1 0 ∧ look l 3 = pt k2 0 ∧ look l 12 = .slice x.pa x.args.length x.cap ∧ look l 13 = .int .i64 ((x.args.length : Nat) : Int) ∧ look l 14 = .int .i64 ((i : Nat) : Int) ∧ At w1 k1 (rdr d sp L sc s) ∧ At w1 k2 (x.cells) ∧ (∃ A pv cv, (x.args.take i).foldl (fun acc a => acK acc (whK d L s a)) (.ok []) = .ok A ∧ A.length = i ∧ look l 6 = .slice pv A.length cv ∧ KO w1 w.heap.size k1 k2 pv cv A) ∧ Mo w w1) _ ⟨0, rfl, Nat.zero_le _, rfl, rfl, rfl, rfl, rfl, Q1, Q2, ⟨[], none, 0, rfl, rfl, rfl, KO.nil _ _ _ _⟩, M⟩ ?_
  clear Q1 Q2 M
  rintro m l40 wl40 ⟨i, rfl, hi, e40_2, e40_3, e40_12, e40_13, e40_i, Q1, Q2, hE, M⟩
  by_cases hil : i < x.args.length
  · skip
    have hid : decide (i < x.args.length) = true := decide_eq_true hil
    obtain ⟨A, pv, cv, hF, hAl, e6, hKO⟩ := hE
    have Mw := M
    clear M
    have M : Mo wl40 wl40 := Mo.refl _
    obtain ⟨a, ha⟩ := get_of_lt hil
    have hma := List.mem_of_getElem? ha
    have hS1 := hL.sl.kp Mw.kp
    obtain ⟨bp, op, hpp, hRp⟩ := D.SL.rw hS1 ha
    refine w_seq ?_
    refine w_reg ?_
    refine wl_bin (fun x y => do eqGuard .lss 3 (.tmp 14) (.tmp 13) x y; binOp .lss 3 x y) (.tmp 14) (.tmp 13) (.int .i64 ((i : Nat) : Int)) (.int .i64 ((x.args.length : Nat) : Int)) (.bool true) (fun _ => rfl) e40_i e40_13 (ltN hid _ _ _) rfl ?_
    refine w_nil ?_
    refine xn_then ?_
    refine w_seq ?_
    refine w_condT rfl ?_
    refine w_skip ?_
    refine xn_then ?_
    refine w_seq ?_
    refine w_block ?_
    refine w_seq ?_
    refine w_reg ?_
    refine wl_bin (fun x y => Instr.indexAt 50 x y) (.tmp 12) (.tmp 14) (.slice x.pa x.args.length x.cap) (.int .i64 ((i : Nat) : Int)) (pt bp (op + i * 17)) (fun _ => rfl) e40_12 e40_i (ix50 (i := i) hpp hil _) rfl ?_
    refine wl_load 52 (.tmp 16) (pt bp (op + i * 17)) (.agg (a.cells).toArray) rfl rfl (D.run_partR (hRp.mo M).at' 52 0 17 (a.cells) rfl Tryz.underlying52 rfl sz52) rfl ?_
    refine wl_alloc 52 #[.int .i64 0, .int .i64 0, .string ⟨#[]⟩, .string ⟨#[]⟩, .int .i64 0, .bool false, .int .u64 0, .int .u64 0, .int .u64 0, .int .u64 0, .int .i64 0, .bool false, .string ⟨#[]⟩, .int .i64 0, .int .i64 0, .int .i64 0, .slice none 0 0] rfl (fun _ => by kernel_rfl) rfl ?_
    intro k3 u41 hk hz hq Q3
    have ne_k1_k3 : k1 ≠ k3 := by have := Q1.lt; omega
    have ne_k2_k3 : k2 ≠ k3 := by have := Q2.lt; omega
    have N_k3 : wl40.heap.size ≤ k3 := by have := M.size; omega
    replace Q1 := Q1.mo hq
    replace Q2 := Q2.mo hq
    replace M := M.trans hq
    clear hk hz hq
    refine wl_st 52 (.tmp 8) (.tmp 17) k3 0 ((a.cells).toArray) [.int .i64 0, .int .i64 0, .string ⟨#[]⟩, .string ⟨#[]⟩, .int .i64 0, .bool false, .int .u64 0, .int .u64 0, .int .u64 0, .int .u64 0, .int .i64 0, .bool false, .string ⟨#[]⟩, .int .i64 0, .int .i64 0, .int .i64 0, .slice none 0 0] (a.cells) Q3 rfl rfl rfl rfl rfl sz52 rfl rfl rfl ?_
    intro u42 hS Qn
    replace Q3 := Qn
    clear Qn
    replace Q1 := hS.other _ _ ne_k1_k3 Q1
    replace Q2 := hS.other _ _ ne_k2_k3 Q2
    replace M := hS.mo _ N_k3 M
    clear hS
    refine w_nil ?_
    refine xn_then ?_
    refine w_seq ?_
    refine w_reg ?_
    refine wl_load 65 (.tmp 2) (pt k1 0) (.agg (rdr d sp L sc s).toArray) rfl e40_2 (run_row Q1 65 0 9 (rdr d sp L sc s) rfl Tryz.underlying65 rfl sz65) rfl ?_
    refine wl_load 52 (.tmp 8) (pt k3 0) (.agg (a.cells).toArray) rfl rfl (run_row Q3 52 0 17 (a.cells) rfl Tryz.underlying52 rfl sz52) rfl ?_
    refine wl_call 39 [(.tmp 19), (.tmp 20)] _ [.agg (rdr d sp L sc s).toArray, .agg (a.cells).toArray] (.tuple #[.int .i64 ((whK d L s a).1), .int .i64 ((whK d L s a).2)]) rfl rfl (fun _ _ => by kernel_rfl) (ih a hma ((hL.ar a hma).kp (Mw.trans M).kp) (hR.kp (Mw.trans M).kp) (hB.ar a hma)) rfl ?_
    intro u43 hq
    replace Q1 := Q1.mo hq
    replace Q2 := Q2.mo hq
    replace Q3 := Q3.mo hq
    replace M := M.trans hq
    clear hq
    refine wl_mv (.tmp 21) (.tuple #[.int .i64 ((whK d L s a).1), .int .i64 ((whK d L s a).2)]) (fun _ => rfl) rfl rfl ?_
    refine wl_un (fun v => Instr.extract v 0) (.tmp 18) (.tuple #[.int .i64 ((whK d L s a).1), .int .i64 ((whK d L s a).2)]) (.int .i64 ((whK d L s a).1)) (fun _ => rfl) rfl (by kernel_rfl) rfl ?_
    refine wl_un (fun v => Instr.extract v 1) (.tmp 18) (.tuple #[.int .i64 ((whK d L s a).1), .int .i64 ((whK d L s a).2)]) (.int .i64 ((whK d L s a).2)) (fun _ => rfl) rfl (by kernel_rfl) rfl ?_
    refine wl_mv (.tmp 22) (.int .i64 ((whK d L s a).1)) (fun _ => rfl) rfl rfl ?_
    refine wl_mv (.tmp 23) (.int .i64 ((whK d L s a).2)) (fun _ => rfl) rfl rfl ?_
    refine w_nil ?_
    refine xn_then ?_
    refine w_seq ?_
    refine w_seq ?_
    refine w_reg ?_
    refine wl_mv (.tmp 10) (.int .i64 ((whK d L s a).2)) (fun _ => rfl) rfl rfl ?_
    cases hf30 : decide ((whK d L s a).2 = 0) with
    | true =>
      have hf30p := of_decide_eq_true hf30
      refine wl_bin (fun x y => do eqGuard .neq 32 (.tmp 24) (.const (.int .i64 (0))) x y; binOp .neq 32 x y) (.tmp 24) (.const (.int .i64 (0))) (.int .i64 ((whK d L s a).2)) (.int .i64 (0)) (.bool false) (fun _ => rfl) rfl rfl (ne34 hf30 _ _ _) rfl ?_
      refine w_nil ?_
      refine xn_then ?_
      refine w_condF rfl ?_
      refine w_skip ?_
      refine xn_then ?_
      refine w_reg ?_
      refine wl_mv (.tmp 6) (.slice pv A.length cv) (fun _ => rfl) e6 rfl ?_
      refine wl_mv (.tmp 9) (.int .i64 ((whK d L s a).1)) (fun _ => rfl) rfl rfl ?_
      refine wl_bs 132 1 [(0, (.tmp 28))] [(0, .int .i64 ((whK d L s a).1))] #[.int .i64 ((whK d L s a).1)] 3 rfl rfl (fun _ => by kernel_rfl) rfl ?_
      intro k4 u44 hk hz hq Q4
      have ne_k1_k4 : k1 ≠ k4 := by have := Q1.lt; omega
      have ne_k2_k4 : k2 ≠ k4 := by have := Q2.lt; omega
      have ne_k3_k4 : k3 ≠ k4 := by have := Q3.lt; omega
      have N_k4 : wl40.heap.size ≤ k4 := by have := M.size; omega
      replace Q1 := Q1.mo hq
      replace Q2 := Q2.mo hq
      replace Q3 := Q3.mo hq
      replace M := M.trans hq
      clear hk hz hq
      have hKO3 := hKO.mo M
      replace M := Mw.trans M
      refine wl_apK (.tmp 27) (.tmp 29) (N := w.heap.size) (k1 := k1) (k2 := k2) (r := (whK d L s a).1) k4 rfl rfl rfl hKO3 Q4 (by have := hB.ln; omega) M.size Q1.2.2 Q2.2.2 rfl ?_
      intro pv2 cv2 u45 hKO2 hMo9 m4
      replace M := hMo9 w rfl M
      replace Q1 := m4.at Q1 (fun e => (hKO3.nk _ e).1 rfl)
      replace Q2 := m4.at Q2 (fun e => (hKO3.nk _ e).2 rfl)
      refine wl_mv (.tmp 30) (.slice pv2 (A ++ [(whK d L s a).1]).length cv2) (fun _ => rfl) rfl rfl ?_
      refine w_nil ?_
      refine xn_blk ?_
      refine xn_then ?_
      refine w_reg ?_
      refine wl_bin (fun x y => do eqGuard .add 3 (.tmp 14) (.const (.int .i64 (1))) x y; binOp .add 3 x y) (.tmp 14) (.const (.int .i64 (1))) (.int .i64 ((i : Nat) : Int)) (.int .i64 (1)) (.int .i64 ((i + 1 : Nat) : Int)) (fun _ => rfl) e40_i rfl (add1r (k := i) (by omega) _ _ _) rfl ?_
      refine wl_mv (.tmp 31) (.int .i64 ((i + 1 : Nat) : Int)) (fun _ => rfl) rfl rfl ?_
      refine w_nil ?_
      exact xn_loop (x.args.length - (i + 1)) (by omega) ⟨i + 1, rfl, by omega, e40_2, e40_3, e40_12, e40_13, rfl, Q1, Q2, ⟨_, pv2, cv2, ac_ok hF ha hf30p, by simp; omega, rfl, hKO2⟩, M⟩
    | false =>
      have hf30p := of_decide_eq_false hf30
      refine wl_bin (fun x y => do eqGuard .neq 32 (.tmp 24) (.const (.int .i64 (0))) x y; binOp .neq 32 x y) (.tmp 24) (.const (.int .i64 (0))) (.int .i64 ((whK d L s a).2)) (.int .i64 (0)) (.bool true) (fun _ => rfl) rfl rfl (ne34 hf30 _ _ _) rfl ?_
      refine w_nil ?_
      refine xn_then ?_
      refine w_condT rfl ?_
      refine w_seq ?_
      refine w_reg ?_
      refine wl_mv (.tmp 10) (.int .i64 ((whK d L s a).2)) (fun _ => rfl) rfl rfl ?_
      refine wl_mv (.const (.int .i64 (0))) (.int .i64 (0)) (fun _ => rfl) rfl rfl ?_
      refine wl_mv (.tmp 26) (.int .i64 ((whK d L s a).2)) (fun _ => rfl) rfl rfl ?_
      refine w_nil ?_
      refine xn_then ?_
      refine w_ret ?_
      refine xr_then ?_
      refine xr_blk ?_
      refine xr_then ?_
      refine xr_then ?_
      refine xr_blk ?_
      refine xr_then ?_
      exact w_ret2 _ _ (.int .i64 (0)) (.int .i64 ((whK d L s a).2)) rfl rfl rfl ⟨by rw [whK_eq d L s x, ac_no hF ha hf30p]; rfl, Mw.trans M⟩
  · skip
    have hid : decide (i < x.args.length) = false := decide_eq_false hil
    have hie : i = x.args.length := by omega
    obtain ⟨A, pv, cv, hF, hAl, e6, hKO⟩ := hE
    have hSA := own_sl (cells := kc) (fun _ => rfl) (by have := hB.ln; unfold maxLen; omega) hKO.own
    rw [hie, List.take_length] at hF
    refine w_seq ?_
    refine w_reg ?_
    refine wl_bin (fun x y => do eqGuard .lss 3 (.tmp 14) (.tmp 13) x y; binOp .lss 3 x y) (.tmp 14) (.tmp 13) (.int .i64 ((i : Nat) : Int)) (.int .i64 ((x.args.length : Nat) : Int)) (.bool false) (fun _ => rfl) e40_i e40_13 (ltN hid _ _ _) rfl ?_
    refine w_nil ?_
    refine xn_then ?_
    refine w_seq ?_
    refine w_condF rfl ?_
    refine w_exit ?_
    refine xx_then ?_
    refine xx_then ?_
    refine xx_blk ?_
    refine xn_then ?_
    refine w_seq ?_
    refine w_reg ?_
    refine wl_load 65 (.tmp 2) (pt k1 0) (.agg (rdr d sp L sc s).toArray) rfl e40_2 (run_row Q1 65 0 9 (rdr d sp L sc s) rfl Tryz.underlying65 rfl sz65) rfl ?_
    refine wl_load 52 (.tmp 3) (pt k2 0) (.agg (x.cells).toArray) rfl e40_3 (run_row Q2 52 0 17 (x.cells) rfl Tryz.underlying52 rfl sz52) rfl ?_
    refine wl_mv (.tmp 6) (.slice pv A.length cv) (fun _ => rfl) e6 rfl ?_
    refine wl_call 69 [(.tmp 32), (.tmp 33), (.tmp 34)] _ [.agg (rdr d sp L sc s).toArray, .agg (x.cells).toArray, .slice pv A.length cv] (.tuple #[.int .i64 ((ndK d L s x A).1), .int .i64 ((ndK d L s x A).2)]) rfl rfl (fun _ _ => by kernel_rfl) (ndK_n (hR.kp M.kp) sc x cv A hSA) rfl ?_
    intro u41 hq
    replace Q1 := Q1.mo hq
    replace Q2 := Q2.mo hq
    replace M := M.trans hq
    clear hq
    refine wl_un (fun v => Instr.extract v 0) (.tmp 35) (.tuple #[.int .i64 ((ndK d L s x A).1), .int .i64 ((ndK d L s x A).2)]) (.int .i64 ((ndK d L s x A).1)) (fun _ => rfl) rfl (by kernel_rfl) rfl ?_
    refine wl_un (fun v => Instr.extract v 1) (.tmp 35) (.tuple #[.int .i64 ((ndK d L s x A).1), .int .i64 ((ndK d L s x A).2)]) (.int .i64 ((ndK d L s x A).2)) (fun _ => rfl) rfl (by kernel_rfl) rfl ?_
    refine wl_mv (.tmp 36) (.int .i64 ((ndK d L s x A).1)) (fun _ => rfl) rfl rfl ?_
    refine wl_mv (.tmp 37) (.int .i64 ((ndK d L s x A).2)) (fun _ => rfl) rfl rfl ?_
    refine w_nil ?_
    refine xn_then ?_
    refine w_ret ?_
    exact w_ret2 _ _ (.int .i64 ((ndK d L s x A).1)) (.int .i64 ((ndK d L s x A).2)) rfl rfl rfl ⟨by rw [whK_eq d L s x, hF]; rfl, M⟩
def kdK (d : Df) (L : List S5) (s : Nat) (x : Ex) : Int × Int := if 64 < ndw x then (0, 101) else whK d L s x
theorem kdK_n {d : Df} {sp : Option Addr} {L : List S5} {s : Nat} (sc : Nat) (x : Ex) {w : World} (hL : LEx w x) (hR : RD w d sp L s) (hB : AB x) : Calls Tryz.prog 21 #[.agg (rdr d sp L sc s).toArray, .agg (x.cells).toArray] w fun e w' => e = .returned (tu2 (kdK d L s x)) ∧ Mo w w' := by
  refine w_enter 14 Tryz.func21 Tryz.ntmps21 rfl rfl ?_
  have M : Mo w w := Mo.refl _
  refine w_seq ?_
  refine w_reg ?_
  refine wl_box 65 (.tmp 0) (.agg (rdr d sp L sc s).toArray) (((rdr d sp L sc s).toArray)) rfl rfl (fun _ => by kernel_rfl) rfl ?_
  intro k1 u1 hk hz hq Q1
  have N_k1 : w.heap.size ≤ k1 := by have := M.size; omega
  replace M := M.trans hq
  clear hk hz hq
  refine wl_box 52 (.tmp 1) (.agg (x.cells).toArray) (((x.cells).toArray)) rfl rfl (fun _ => by kernel_rfl) rfl ?_
  intro k2 u2 hk hz hq Q2
  have ne_k1_k2 : k1 ≠ k2 := by have := Q1.lt; omega
  have N_k2 : w.heap.size ≤ k2 := by have := M.size; omega
  replace Q1 := Q1.mo hq
  replace M := M.trans hq
  clear hk hz hq
  refine wl_mv (.const (.int .i64 (0))) (.int .i64 (0)) (fun _ => rfl) rfl rfl ?_
  refine wl_mv (.const (.int .i64 (0))) (.int .i64 (0)) (fun _ => rfl) rfl rfl ?_
  refine w_nil ?_
  refine xn_then ?_
  refine w_seq ?_
  refine w_seq ?_
  refine w_reg ?_
  refine wl_load 52 (.tmp 3) (pt k2 0) (.agg (x.cells).toArray) rfl rfl (run_row Q2 52 0 17 (x.cells) rfl Tryz.underlying52 rfl sz52) rfl ?_
  refine wl_call 19 [(.tmp 6)] _ [.agg (x.cells).toArray] (.int .i64 (ndw x)) rfl rfl (fun _ _ => by kernel_rfl) (nodes_n x (hL.kp M.kp)) rfl ?_
  intro u3 hq
  replace Q1 := Q1.mo hq
  replace Q2 := Q2.mo hq
  replace M := M.trans hq
  clear hq
  cases hf0 : decide (64 < ndw x) with
  | true =>
    have hf0p := of_decide_eq_true hf0
    refine wl_bin (fun x y => do eqGuard .gtr 3 (.tmp 7) (.const (.int .i64 (64))) x y; binOp .gtr 3 x y) (.tmp 7) (.const (.int .i64 (64))) (.int .i64 (ndw x)) (.int .i64 (64)) (.bool true) (fun _ => rfl) rfl rfl (gt3 hf0 _ _ _) rfl ?_
    refine w_nil ?_
    refine xn_then ?_
    refine w_condT rfl ?_
    refine w_seq ?_
    refine w_reg ?_
    refine wl_mv (.const (.int .i64 (0))) (.int .i64 (0)) (fun _ => rfl) rfl rfl ?_
    refine wl_mv (.const (.int .i64 (101))) (.int .i64 (101)) (fun _ => rfl) rfl rfl ?_
    refine w_nil ?_
    refine xn_then ?_
    refine w_ret ?_
    refine xr_then ?_
    exact w_ret2 _ _ (.int .i64 (0)) (.int .i64 (101)) rfl rfl rfl ⟨by unfold kdK; rw [if_pos hf0p], M⟩
  | false =>
    have hf0p := of_decide_eq_false hf0
    refine wl_bin (fun x y => do eqGuard .gtr 3 (.tmp 7) (.const (.int .i64 (64))) x y; binOp .gtr 3 x y) (.tmp 7) (.const (.int .i64 (64))) (.int .i64 (ndw x)) (.int .i64 (64)) (.bool false) (fun _ => rfl) rfl rfl (gt3 hf0 _ _ _) rfl ?_
    refine w_nil ?_
    refine xn_then ?_
    refine w_condF rfl ?_
    refine w_skip ?_
    refine xn_then ?_
    refine w_seq ?_
    refine w_reg ?_
    refine wl_load 65 (.tmp 2) (pt k1 0) (.agg (rdr d sp L sc s).toArray) rfl rfl (run_row Q1 65 0 9 (rdr d sp L sc s) rfl Tryz.underlying65 rfl sz65) rfl ?_
    refine wl_load 52 (.tmp 3) (pt k2 0) (.agg (x.cells).toArray) rfl rfl (run_row Q2 52 0 17 (x.cells) rfl Tryz.underlying52 rfl sz52) rfl ?_
    refine wl_call 39 [(.tmp 9), (.tmp 10)] _ [.agg (rdr d sp L sc s).toArray, .agg (x.cells).toArray] (.tuple #[.int .i64 ((whK d L s x).1), .int .i64 ((whK d L s x).2)]) rfl rfl (fun _ _ => by kernel_rfl) (whK_n sc x (hL.kp M.kp) (hR.kp M.kp) hB) rfl ?_
    intro u4 hq
    replace Q1 := Q1.mo hq
    replace Q2 := Q2.mo hq
    replace M := M.trans hq
    clear hq
    refine wl_un (fun v => Instr.extract v 0) (.tmp 11) (.tuple #[.int .i64 ((whK d L s x).1), .int .i64 ((whK d L s x).2)]) (.int .i64 ((whK d L s x).1)) (fun _ => rfl) rfl (by kernel_rfl) rfl ?_
    refine wl_un (fun v => Instr.extract v 1) (.tmp 11) (.tuple #[.int .i64 ((whK d L s x).1), .int .i64 ((whK d L s x).2)]) (.int .i64 ((whK d L s x).2)) (fun _ => rfl) rfl (by kernel_rfl) rfl ?_
    refine wl_mv (.tmp 12) (.int .i64 ((whK d L s x).1)) (fun _ => rfl) rfl rfl ?_
    refine wl_mv (.tmp 13) (.int .i64 ((whK d L s x).2)) (fun _ => rfl) rfl rfl ?_
    refine w_nil ?_
    refine xn_then ?_
    refine w_ret ?_
    exact w_ret2 _ _ (.int .i64 ((whK d L s x).1)) (.int .i64 ((whK d L s x).2)) rfl rfl rfl ⟨by unfold kdK; rw [if_neg hf0p], M⟩
end Go.Proofs.YtepfokoepibkcaaGreat
