/-
  A part of the proof.
-/
import Derived.Test.YthgknegocfhdbaaDoorC5
import Derived.Test.YthgknegocfhdbaaDoorC6
/-
 exciseref03.Parse: the number of a text.
-/
namespace Go.Proofs.YthgknegocfhdbaaDoor
open Go.RowKit
theorem app2 (w : World) (ty : TypeId) (N : Nat) (v : Value) (n : Nat) (xs : List Value) (hown : w.ownsRow N 5 1 v n xs) (k : Nat) (c : Int) (hA : At w k [.int .u8 c]) (hn : n + 1 ≤ 140737488355328) (hN : N ≤ w.heap.size) :
  ∃ v' w', (Builtin.append_ #[62, 62] ty #[v, .slice (some ⟨k, 0, none⟩) 1 1]).run Tryd.prog w = .ok v' w' ∧ w'.ownsRow N 5 1 v' (n + 1) (xs ++ [.int .u8 c]) ∧ AppW v w w' ∧ (v'.ownBlock = v.ownBlock ∨ v'.ownBlock = some w.heap.size) := by
 obtain ⟨i, hi, hz, hs, hby⟩ := inf5
 have hnews : ∀ j u, ([Value.int .u8 c] : List Value)[j]? = some u → w.cell? ((⟨k, 0, none⟩ : Addr).add j) = some u := fun j u hu => by
  rw [Addr.add_mid]; have := hA.1 j u hu; simpa using this
 obtain ⟨v', w', hr, h2, h3, _, h5⟩ := run_append_own_at (P := Tryd.prog) w N 62 ty 5 i (.int .u8 0) 1 1 Tryd.underlying62 hi hz hs hby rfl (by decide) v n xs hown ⟨k, 0, none⟩ 1 1 [.int .u8 c] rfl hnews (by simp [Value.oneCell']) (by unfold maxLen; omega) (by omega) hN
 refine ⟨v', w', hr, h2, ⟨h3.os, h3.tape, h3.output, h3.size, fun j hj hne => h3.block j hj (fun e => hne e.symm), ?_⟩, h5⟩
 -- the marks: arm by arm
 rcases hown.2 with ⟨rfl, rfl⟩ | ⟨g, cap, cur, rfl, hbg, hg, hnc, hcm, hcs, htake⟩
 ·have hr2 := run_append_nil (P := Tryd.prog) w 62 ty 5 i (.int .u8 0) Tryd.underlying62 hi hz ⟨k, 0, none⟩ 1 1 [.int .u8 c] (by rw [hs]; rfl) hnews (by decide) (by decide) (by omega)
  rw [hr2] at hr
  cases hr
  exact ((Mo.refl w).drew.alloc _ _).2
 ·by_cases hroom : n + 1 ≤ cap
  ·have hr2 := run_append_room (P := Tryd.prog) w 62 ty 5 i Tryd.underlying62 hi g n cap cur hg ⟨k, 0, none⟩ 1 1 [.int .u8 c] (by rw [hs]; rfl) hnews (by simp [Value.oneCell']) hroom (by rw [hs]; simp; omega)
   rw [hr2] at hr
   cases hr
   intro a
   by_cases e : a.block = g
   ·have h1 := setRow_heap w g cur (cur.toList.take (n * i.size) ++ [Value.int .u8 c] ++ cur.toList.drop (n * i.size + [Value.int .u8 c].length)).toArray 5 (0, 0) hg
    simp only [World.frozen?, e, h1, hg]
   ·exact World.frozen?_of_block (setRow_other w g a.block _ e)
  ·have hr2 := run_append_grow (P := Tryd.prog) w 62 ty 5 i (.int .u8 0) Tryd.underlying62 hi hz ⟨g, 0, none⟩ n cap xs (by rw [hs]; exact hown.1) (hown.cells (g := g) rfl) ⟨k, 0, none⟩ 1 1 [.int .u8 c] (by rw [hs]; rfl) hnews (by omega) (by omega) (by rw [hby]; exact growslice_fits (by omega) (by omega))
   rw [hr2] at hr
   cases hr
   exact ((Mo.refl w).drew.alloc _ _).2
section
variable {o : Oper} {n : Nat} {l : List (Nat × Value)} {w : World} {ops : Array Oper} {rest : List Oper} {Q : Exit → Act → World → Prop}
theorem wl_app2 (s x : Operand) (N : Nat) (v : Value) (m : Nat) (xs : List Value) (k : Nat) (c : Int) (ho : o.op = .call { callee := .builtin .append, args := #[s, x], argTypes := #[62, 62] }) (hs : evl n l s = v) (hx : evl n l x = .slice (some ⟨k, 0, none⟩) 1 1)
  (hown : w.ownsRow N 5 1 v m xs) (hA : At w k [.int .u8 c]) (hm : m + 1 ≤ 140737488355328) (hN : N ≤ w.heap.size) (hg : wnt n l ops o = true)
  (hk : ∀ v' w', w'.ownsRow N 5 1 v' (m + 1) (xs ++ [.int .u8 c]) → AppW v w w' → (v'.ownBlock = v.ownBlock ∨ v'.ownBlock = some w.heap.size) → WL Tryd.prog ops Q rest n (ext l o.dst v') w') : WL Tryd.prog ops Q (o :: rest) n l w := by
 obtain ⟨v', w', hr, h2, h3, h4⟩ := app2 w o.type N v m xs hown k c hA hm hN
 refine ⟨l_step hg (o_val v' (w' := w') ?_ (hk v' w' h2 h3 h4).out)⟩
 unfold execOp
 simp only [ho, resolve, invoke, builtin, Sem.run_bind, Sem.run_pure, Result.andThen_ok, List.map_toArray, List.map_cons, List.map_nil, hs, hx, hr]
end
theorem lens_r2 (ρ : Operand → Value) (x : Operand) (p : Option Addr) (m c : Nat) (hx : ρ x = .slice p m c) (dst : Option Tmp) (type : TypeId) (pos : String) (after : Array Edge) (guard : Option (Nat × Bool)) (w : World) : (execOp ρ { dst, op := .call { callee := .builtin .len, args := #[x], argTypes := #[62] }, type, pos, after, guard }).run Tryd.prog w = .ok (.value (.int .i64 (m : Int))) w := by
 simp [go_sem, hx]
theorem own_form {w : World} {N n : Nat} {v : Value} {xs : List Value} (h : w.ownsRow N 5 1 v n xs) : ∃ p c, v = .slice p n c := by
 rcases h.2 with ⟨rfl, rfl⟩ | ⟨g, cap, cur, rfl, _⟩
 ·exact ⟨none, 0, rfl⟩
 ·exact ⟨_, cap, rfl⟩
def pr (s : ByteArray) (i : Nat) (a : List Int) (h : Nat) (q : Bool) : List Int × Nat :=
 if _h : i < s.size then
  if bt s i == 46 then pr s (i + 1) a h true
  else if dgt (bt s i) then pr s (i + 1) (if decide (0 < a.length) || !(bt s i == 48) then a ++ [bt s i] else a) (if q then h + 1 else h) q
  else pr s (i + 1) a h q
 else (a, h)
termination_by s.size - i
theorem pr_out {s : ByteArray} {i : Nat} {a : List Int} {h : Nat} {q : Bool} (hi : ¬ i < s.size) : pr s i a h q = (a, h) := by rw [pr, dif_neg hi]
theorem pr_in {s : ByteArray} {i : Nat} {a : List Int} {h : Nat} {q : Bool} (hi : i < s.size) : pr s i a h q = if bt s i == 46 then pr s (i + 1) a h true
  else if dgt (bt s i) then pr s (i + 1) (if decide (0 < a.length) || !(bt s i == 48) then a ++ [bt s i] else a) (if q then h + 1 else h) q
  else pr s (i + 1) a h q := by rw [pr, dif_pos hi]
abbrev prs (s : ByteArray) : List Int × Nat := pr s 0 [] 0 false
def rps (s : ByteArray) (N E : Int) : Value :=
 if whl s = false then er 30 else if 18 < (prs s).2 then er 31 else if (prs s).1.length = 0 then .tuple #[dc (bt s 0 == 45) 0 ((prs s).2 : Int), .int .i64 0]
 else if (E == 0) = false then er E else .tuple #[dc (bt s 0 == 45) N ((prs s).2 : Int), .int .i64 0]
theorem whl_pos {s : ByteArray} (h : whl s = true) : 0 < s.size := by
 rw [whl_dec] at h
 unfold isDec at h
 rw [emp_iff] at h
 by_cases h0 : s.size = 0
 ·rw [decide_eq_true h0] at h; cases h
 ·omega
theorem whole_c {s : ByteArray} {r : Bool} (hs : s.size ≤ maxLen) (h : whl s = r) (w : World) : Calls Tryd.prog 50 #[.string s] w fun e w' => e = .returned (.bool r) ∧ Mo w w' := h ▸ whole_n s w hs
theorem ne30 {a b : Int} {r : Bool} (h : (a == b) = r) (x y : Operand) (w : World) : (do eqGuard .neq 23 x y (.int .i64 a) (.int .i64 b); binOp .neq 23 (.int .i64 a) (.int .i64 b)).run Tryd.prog w = .ok (.bool (!r)) w := by
 subst h; kernel_rfl
theorem eqz5 {a b : Int} (x y : Operand) (w : World) : (do eqGuard .eql 5 x y (.int .u8 a) (.int .u8 b); binOp .eql 5 (.int .u8 a) (.int .u8 b)).run Tryd.prog w = .ok (.bool (a == b)) w := by kernel_rfl
theorem rpa_n (s : ByteArray) (N E : Int) (w : World) (hs : s.size ≤ maxLen) (hsz0 : s.size ≤ 140737488355328) (hrp : (prs s).1 ≠ [] → ∀ w, Calls Tryd.prog 51 #[.string (strOf (prs s).1)] w fun e w' => e = .returned (.tuple #[nv N, .int .i64 E]) ∧ Mo w w') : Calls Tryd.prog 33 #[.string s] w fun e w' => e = .returned (rps s N E) ∧ Mo w w' := by
 refine w_enter 75 Tryd.func33 Tryd.ntmps33 rfl rfl ?_
 have M : Mo w w := Mo.refl _
 refine w_seq (w_reg ?_)
 refine wl_alloc 33 #[.bool false, .int .u64 0, .int .u64 0, .int .u64 0, .int .u64 0, .int .i64 0] rfl (fun _ => by kernel_rfl) rfl ?_
 intro k1 w1 hk hz hq Q1
 have N_k1 : w.heap.size ≤ k1 := by have := M.size; omega
 replace M := M.trans hq
 clear hk hz hq
 refine wl_m (.const (.int .i64 (0))) (.int .i64 (0)) ?_
 refine w_nil (xn_then (w_seq (w_seq ?_)))
 cases hf0 : whl s with
 | true =>
  refine w_reg ?_
  refine wl_m (.tmp 0) (.string s) ?_
  refine wl_call 50 [(.tmp 11)] _ [.string s] (.bool true) rfl rfl (fun _ _ => by kernel_rfl) (whole_c hs hf0 _) rfl ?_
  intro w2 hq
  replace Q1 := Q1.mo hq
  replace M := M.trans hq
  clear hq
  refine wl_un (fun v => Op.unary .not v) (.tmp 12) (.bool true) (.bool false) (fun _ => rfl) rfl (by kernel_rfl) rfl ?_
  refine w_nil (xn_then (w_condF rfl (w_skip (xn_then (w_seq (w_reg ?_))))))
  refine wl_m (.tmp 0) (.string s) ?_
  refine wl_bin (fun x y => Instr.index 9 x y) (.tmp 15) (.const (.int .i64 (0))) (.string s) (.int .i64 (0)) (.int .u8 (bt s 0)) (fun _ => rfl) rfl rfl (idx_b (k := 0) (whl_pos hf0) _) rfl ?_
  refine wl_b .eql 5 (.tmp 16) (.const (.int .u8 (45))) (.int .u8 (bt s 0)) (.int .u8 (45)) (.bool (bt s 0 == 45)) (eqz5 _ _ _) ?_
  refine wl_build 33 [(0, (.tmp 17))] [(0, .bool (bt s 0 == 45))] (.agg #[.bool (bt s 0 == 45), .int .u64 0, .int .u64 0, .int .u64 0, .int .u64 0, .int .i64 0]) rfl rfl (by kernel_rfl) rfl ?_
  refine wl_alloc 33 #[.bool false, .int .u64 0, .int .u64 0, .int .u64 0, .int .u64 0, .int .i64 0] rfl (fun _ => by kernel_rfl) rfl ?_
  intro k2 w3 hk hz hq Q2
  have ne_k1_k2 : k1 ≠ k2 := by have := Q1.lt; omega
  have N_k2 : w.heap.size ≤ k2 := by have := M.size; omega
  replace Q1 := Q1.mo hq
  replace M := M.trans hq
  clear hk hz hq
  refine wl_st 33 (.tmp 4) (.tmp 18) k2 0 #[.bool (bt s 0 == 45), .int .u64 0, .int .u64 0, .int .u64 0, .int .u64 0, .int .i64 0] _ [.bool (bt s 0 == 45), .int .u64 0, .int .u64 0, .int .u64 0, .int .u64 0, .int .i64 0] Q2 rfl rfl rfl rfl rfl sz26 rfl rfl rfl ?_
  intro w4 hS Qn
  replace Q2 := Qn
  clear Qn
  replace Q1 := hS.other _ _ ne_k1_k2 Q1
  replace M := hS.mo _ N_k2 M
  clear hS
  refine w_nil (xn_then (w_seq (w_reg ?_)))
  refine wl_m (.const (.slice none 0 0)) (.slice none 0 0) ?_
  refine w_nil (xn_then (w_seq (w_reg ?_)))
  refine wl_m (.const (.int .i64 (0))) (.int .i64 (0)) ?_
  refine w_nil (xn_then (w_seq (w_reg ?_)))
  refine wl_m (.const (.bool false)) (.bool false) ?_
  refine w_nil (xn_then ?_)
  refine w_cut (fun l w1 => ∃ (p : Option Addr) (cv h : Nat) (xs : List Int), look l 2 = pt k1 0 ∧ look l 4 = pt k2 0 ∧ look l 5 = .slice p xs.length cv ∧ look l 6 = .int .i64 (h : Int) ∧ (xs ≠ [] → ∃ g, p = some ⟨g, 0, none⟩ ∧ g ≠ k1 ∧ g ≠ k2 ∧ At w1 g (xs.map (Value.int .u8)) ∧ w.heap.size ≤ g) ∧ At w1 k1 z40l ∧ At w1 k2 [.bool (bt s 0 == 45), .int .u64 0, .int .u64 0, .int .u64 0, .int .u64 0, .int .i64 (0)] ∧ prs s = (xs, h) ∧ Mo w w1) ?_ ?_
  ·skip
   clear M Q1 Q2
   rintro l wc ⟨p, cv, h, xs, e2, e4, e5, e6, hg, Q1, Q2, hR, M⟩
   by_cases hx : xs = []
   ·have hxl : decide (xs.length = 0) = true := by rw [hx]; rfl
    refine w_seq (w_seq ?_)
    cases hf1 : decide (18 < h) with
    | true =>
     have hf1p := of_decide_eq_true hf1
     refine w_reg ?_
     refine wl_mv (.tmp 6) (.int .i64 ((h : Nat) : Int)) (fun _ => rfl) e6 rfl ?_
     refine wl_b .gtr 3 (.tmp 53) (.const (.int .i64 (18))) (.int .i64 ((h : Nat) : Int)) (.int .i64 (18)) (.bool true) (gtN hf1 _ _ _) ?_
     refine w_nil (xn_then (w_condT rfl (w_seq (w_reg ?_))))
     refine wl_build 33 [] [] (.agg #[.bool false, .int .u64 0, .int .u64 0, .int .u64 0, .int .u64 0, .int .i64 0]) rfl rfl (by kernel_rfl) rfl ?_
     refine wl_st 33 (.tmp 2) (.tmp 55) k1 0 #[.bool false, .int .u64 0, .int .u64 0, .int .u64 0, .int .u64 0, .int .i64 0] _ [.bool false, .int .u64 0, .int .u64 0, .int .u64 0, .int .u64 0, .int .i64 0] Q1 rfl rfl e2 rfl rfl sz26 rfl rfl rfl ?_
     intro w41 hS Qn
     replace Q1 := Qn
     clear Qn
     replace Q2 := hS.other _ _ ne_k1_k2.symm Q2
     replace M := hS.mo _ N_k1 M
     clear hS
     refine wl_m (.const (.int .i64 (31))) (.int .i64 (31)) ?_
     refine w_nil (xn_then (w_ret (xr_then ?_)))
     have hfin : rps s N E = .tuple #[.agg #[.bool false, .int .u64 0, .int .u64 0, .int .u64 0, .int .u64 0, .int .i64 0], .int .i64 (31)] := by unfold rps; rw [if_neg (by rw [hf0]; simp), hR, if_pos (of_decide_eq_true hf1)]; try rfl
     exact w_ret2 _ _ (.agg #[.bool false, .int .u64 0, .int .u64 0, .int .u64 0, .int .u64 0, .int .i64 0]) (.int .i64 (31)) rfl ⟨k1, e2, (run_row Q1 33 0 6 _ rfl Tryd.underlying33 rfl sz26)⟩ rfl ⟨by rw [hfin], M⟩
    | false =>
     have hf1p := of_decide_eq_false hf1
     refine w_reg ?_
     refine wl_mv (.tmp 6) (.int .i64 ((h : Nat) : Int)) (fun _ => rfl) e6 rfl ?_
     refine wl_b .gtr 3 (.tmp 53) (.const (.int .i64 (18))) (.int .i64 ((h : Nat) : Int)) (.int .i64 (18)) (.bool false) (gtN hf1 _ _ _) ?_
     refine w_nil (xn_then (w_condF rfl (w_skip (xn_then (w_seq (w_reg ?_))))))
     refine wl_mv (.tmp 6) (.int .i64 ((h : Nat) : Int)) (fun _ => rfl) e6 rfl ?_
     refine wl_un (fun v => Instr.fieldAt 33 v 2) (.tmp 4) (pt k2 0) (pt k2 5) (fun _ => rfl) e4 (by kernel_rfl) rfl ?_
     refine wl_st1 3 (.tmp 57) (.tmp 56) k2 5 (.int .i64 ((h : Nat) : Int)) _ [.bool (bt s 0 == 45), .int .u64 0, .int .u64 0, .int .u64 0, .int .u64 0, .int .i64 ((h : Nat) : Int)] Q2 rfl rfl rfl rfl rfl sz3 rfl rfl rfl rfl ?_
     intro w41 hS Qn
     replace Q2 := Qn
     clear Qn
     replace Q1 := hS.other _ _ ne_k1_k2 Q1
     replace M := hS.mo _ N_k2 M
     clear hS
     refine w_nil (xn_then (w_seq (w_seq (w_reg ?_))))
     refine wl_mv (.tmp 5) (.slice p xs.length cv) (fun _ => rfl) e5 rfl ?_
     refine wl_val (.int .i64 ((xs.length : Nat) : Int)) (lens_r2 _ _ _ _ cv (by exact rfl) _ _ _ _ _ _) rfl ?_
     refine wl_b .eql 3 (.tmp 59) (.const (.int .i64 (0))) (.int .i64 ((xs.length : Nat) : Int)) (.int .i64 (0)) (.bool true) (eqN hxl _ _ _) ?_
     refine w_nil (xn_then (w_condT rfl (w_seq (w_reg ?_))))
     refine wl_load 33 (.tmp 4) (pt k2 0) (.agg #[.bool (bt s 0 == 45), .int .u64 0, .int .u64 0, .int .u64 0, .int .u64 0, .int .i64 ((h : Nat) : Int)]) rfl e4 (run_row Q2 33 0 6 _ rfl Tryd.underlying33 rfl sz26) rfl ?_
     refine wl_st 33 (.tmp 2) (.tmp 61) k1 0 #[.bool (bt s 0 == 45), .int .u64 0, .int .u64 0, .int .u64 0, .int .u64 0, .int .i64 ((h : Nat) : Int)] _ [.bool (bt s 0 == 45), .int .u64 0, .int .u64 0, .int .u64 0, .int .u64 0, .int .i64 ((h : Nat) : Int)] Q1 rfl rfl e2 rfl rfl sz26 rfl rfl rfl ?_
     intro w42 hS Qn
     replace Q1 := Qn
     clear Qn
     replace Q2 := hS.other _ _ ne_k1_k2.symm Q2
     replace M := hS.mo _ N_k1 M
     clear hS
     refine wl_m (.const (.int .i64 (0))) (.int .i64 (0)) ?_
     refine w_nil (xn_then (w_ret (xr_then ?_)))
     have hfin : rps s N E = .tuple #[.agg #[.bool (bt s 0 == 45), .int .u64 0, .int .u64 0, .int .u64 0, .int .u64 0, .int .i64 ((h : Nat) : Int)], .int .i64 (0)] := by unfold rps; rw [if_neg (by rw [hf0]; simp), hR, if_neg (of_decide_eq_false hf1), if_pos (of_decide_eq_true hxl)]; try rfl
     exact w_ret2 _ _ (.agg #[.bool (bt s 0 == 45), .int .u64 0, .int .u64 0, .int .u64 0, .int .u64 0, .int .i64 ((h : Nat) : Int)]) (.int .i64 (0)) rfl ⟨k1, e2, (run_row Q1 33 0 6 _ rfl Tryd.underlying33 rfl sz26)⟩ rfl ⟨by rw [hfin], M⟩
   ·obtain ⟨g, rfl, ne_g_k1, ne_g_k2, Qg, hgN⟩ := hg hx
    have hxl : decide (xs.length = 0) = false := decide_eq_false (fun e => hx (List.eq_nil_of_length_eq_zero e))
    have hrp2 : ∀ w, Calls Tryd.prog 51 #[.string (strOf xs)] w fun e w' => e = .returned (.tuple #[nv N, .int .i64 E]) ∧ Mo w w' := by have := hrp (by rw [hR]; exact hx); rw [hR] at this; exact this
    refine w_seq (w_seq ?_)
    cases hf1 : decide (18 < h) with
    | true =>
     have hf1p := of_decide_eq_true hf1
     refine w_reg ?_
     refine wl_mv (.tmp 6) (.int .i64 ((h : Nat) : Int)) (fun _ => rfl) e6 rfl ?_
     refine wl_b .gtr 3 (.tmp 53) (.const (.int .i64 (18))) (.int .i64 ((h : Nat) : Int)) (.int .i64 (18)) (.bool true) (gtN hf1 _ _ _) ?_
     refine w_nil (xn_then (w_condT rfl (w_seq (w_reg ?_))))
     refine wl_build 33 [] [] (.agg #[.bool false, .int .u64 0, .int .u64 0, .int .u64 0, .int .u64 0, .int .i64 0]) rfl rfl (by kernel_rfl) rfl ?_
     refine wl_st 33 (.tmp 2) (.tmp 55) k1 0 #[.bool false, .int .u64 0, .int .u64 0, .int .u64 0, .int .u64 0, .int .i64 0] _ [.bool false, .int .u64 0, .int .u64 0, .int .u64 0, .int .u64 0, .int .i64 0] Q1 rfl rfl e2 rfl rfl sz26 rfl rfl rfl ?_
     intro w41 hS Qn
     replace Q1 := Qn
     clear Qn
     replace Q2 := hS.other _ _ ne_k1_k2.symm Q2
     replace Qg := hS.other _ _ ne_g_k1 Qg
     replace M := hS.mo _ N_k1 M
     clear hS
     refine wl_m (.const (.int .i64 (31))) (.int .i64 (31)) ?_
     refine w_nil (xn_then (w_ret (xr_then ?_)))
     have hfin : rps s N E = .tuple #[.agg #[.bool false, .int .u64 0, .int .u64 0, .int .u64 0, .int .u64 0, .int .i64 0], .int .i64 (31)] := by unfold rps; rw [if_neg (by rw [hf0]; simp), hR, if_pos (of_decide_eq_true hf1)]; try rfl
     exact w_ret2 _ _ (.agg #[.bool false, .int .u64 0, .int .u64 0, .int .u64 0, .int .u64 0, .int .i64 0]) (.int .i64 (31)) rfl ⟨k1, e2, (run_row Q1 33 0 6 _ rfl Tryd.underlying33 rfl sz26)⟩ rfl ⟨by rw [hfin], M⟩
    | false =>
     have hf1p := of_decide_eq_false hf1
     refine w_reg ?_
     refine wl_mv (.tmp 6) (.int .i64 ((h : Nat) : Int)) (fun _ => rfl) e6 rfl ?_
     refine wl_b .gtr 3 (.tmp 53) (.const (.int .i64 (18))) (.int .i64 ((h : Nat) : Int)) (.int .i64 (18)) (.bool false) (gtN hf1 _ _ _) ?_
     refine w_nil (xn_then (w_condF rfl (w_skip (xn_then (w_seq (w_reg ?_))))))
     refine wl_mv (.tmp 6) (.int .i64 ((h : Nat) : Int)) (fun _ => rfl) e6 rfl ?_
     refine wl_un (fun v => Instr.fieldAt 33 v 2) (.tmp 4) (pt k2 0) (pt k2 5) (fun _ => rfl) e4 (by kernel_rfl) rfl ?_
     refine wl_st1 3 (.tmp 57) (.tmp 56) k2 5 (.int .i64 ((h : Nat) : Int)) _ [.bool (bt s 0 == 45), .int .u64 0, .int .u64 0, .int .u64 0, .int .u64 0, .int .i64 ((h : Nat) : Int)] Q2 rfl rfl rfl rfl rfl sz3 rfl rfl rfl rfl ?_
     intro w41 hS Qn
     replace Q2 := Qn
     clear Qn
     replace Q1 := hS.other _ _ ne_k1_k2 Q1
     replace Qg := hS.other _ _ ne_g_k2 Qg
     replace M := hS.mo _ N_k2 M
     clear hS
     refine w_nil (xn_then (w_seq (w_seq (w_reg ?_))))
     refine wl_mv (.tmp 5) (.slice (some ⟨g, 0, none⟩) xs.length cv) (fun _ => rfl) e5 rfl ?_
     refine wl_val (.int .i64 ((xs.length : Nat) : Int)) (lens_r2 _ _ _ _ cv (by exact rfl) _ _ _ _ _ _) rfl ?_
     refine wl_b .eql 3 (.tmp 59) (.const (.int .i64 (0))) (.int .i64 ((xs.length : Nat) : Int)) (.int .i64 (0)) (.bool false) (eqN hxl _ _ _) ?_
     refine w_nil (xn_then (w_condF rfl (w_skip (xn_then (w_seq (w_reg ?_))))))
     refine wl_mv (.tmp 5) (.slice (some ⟨g, 0, none⟩) xs.length cv) (fun _ => rfl) e5 rfl ?_
     refine wl_un (fun v => convert 62 9 v) (.tmp 63) (.slice (some ⟨g, 0, none⟩) xs.length cv) (.string (strOf xs)) (fun _ => rfl) rfl (str_run _ g cv xs Qg _ rfl) rfl ?_
     refine wl_call 51 [(.tmp 64)] _ [.string (strOf xs)] (.tuple #[.agg #[.int .u64 (l0 N), .int .u64 (l1 N), .int .u64 (l2 N), .int .u64 (l3 N)], .int .i64 (E)]) rfl rfl (fun _ _ => by kernel_rfl) (hrp2 _) rfl ?_
     intro w42 hq
     replace Q1 := Q1.mo hq
     replace Q2 := Q2.mo hq
     replace Qg := Qg.mo hq
     replace M := M.trans hq
     clear hq
     refine wl_m (.tmp 65) (.tuple #[.agg #[.int .u64 (l0 N), .int .u64 (l1 N), .int .u64 (l2 N), .int .u64 (l3 N)], .int .i64 (E)]) ?_
     refine wl_un (fun v => Instr.extract v 0) (.tmp 62) (.tuple #[.agg #[.int .u64 (l0 N), .int .u64 (l1 N), .int .u64 (l2 N), .int .u64 (l3 N)], .int .i64 (E)]) (.agg #[.int .u64 (l0 N), .int .u64 (l1 N), .int .u64 (l2 N), .int .u64 (l3 N)]) (fun _ => rfl) rfl (by kernel_rfl) rfl ?_
     refine wl_un (fun v => Instr.extract v 1) (.tmp 62) (.tuple #[.agg #[.int .u64 (l0 N), .int .u64 (l1 N), .int .u64 (l2 N), .int .u64 (l3 N)], .int .i64 (E)]) (.int .i64 (E)) (fun _ => rfl) rfl (by kernel_rfl) rfl ?_
     refine wl_alloc 31 #[.int .u64 0, .int .u64 0, .int .u64 0, .int .u64 0] rfl (fun _ => by kernel_rfl) rfl ?_
     intro k3 w43 hk hz hq Q3
     have ne_k1_k3 : k1 ≠ k3 := by have := Q1.lt; omega
     have ne_k2_k3 : k2 ≠ k3 := by have := Q2.lt; omega
     have ne_g_k3 : g ≠ k3 := by have := Qg.lt; omega
     have N_k3 : w.heap.size ≤ k3 := by have := M.size; omega
     replace Q1 := Q1.mo hq
     replace Q2 := Q2.mo hq
     replace Qg := Qg.mo hq
     replace M := M.trans hq
     clear hk hz hq
     refine wl_st 31 (.tmp 9) (.tmp 66) k3 0 #[.int .u64 (l0 N), .int .u64 (l1 N), .int .u64 (l2 N), .int .u64 (l3 N)] _ [.int .u64 (l0 N), .int .u64 (l1 N), .int .u64 (l2 N), .int .u64 (l3 N)] Q3 rfl rfl rfl rfl rfl sz24 rfl rfl rfl ?_
     intro w44 hS Qn
     replace Q3 := Qn
     clear Qn
     replace Q1 := hS.other _ _ ne_k1_k3 Q1
     replace Q2 := hS.other _ _ ne_k2_k3 Q2
     replace Qg := hS.other _ _ ne_g_k3 Qg
     replace M := hS.mo _ N_k3 M
     clear hS
     refine wl_m (.tmp 67) (.int .i64 (E)) ?_
     refine w_nil (xn_then (w_seq (w_seq ?_)))
     cases hf2 : (E == 0) with
     | true =>
      refine w_reg ?_
      refine wl_m (.tmp 10) (.int .i64 (E)) ?_
      refine wl_b .neq 23 (.tmp 68) (.const (.int .i64 (0))) (.int .i64 (E)) (.int .i64 (0)) (.bool false) (ne30 hf2 _ _ _) ?_
      refine w_nil (xn_then (w_condF rfl (w_skip (xn_then (w_seq (w_reg ?_))))))
      refine wl_l 31 (.tmp 9) (pt k3 0) (.agg #[.int .u64 (l0 N), .int .u64 (l1 N), .int .u64 (l2 N), .int .u64 (l3 N)]) (run_row Q3 31 0 4 _ rfl Tryd.underlying31 rfl sz24) ?_
      refine wl_un (fun v => Instr.fieldAt 33 v 1) (.tmp 4) (pt k2 0) (pt k2 1) (fun _ => rfl) e4 (by kernel_rfl) rfl ?_
      refine wl_st 31 (.tmp 73) (.tmp 72) k2 1 #[.int .u64 (l0 N), .int .u64 (l1 N), .int .u64 (l2 N), .int .u64 (l3 N)] _ [.bool (bt s 0 == 45), .int .u64 (l0 N), .int .u64 (l1 N), .int .u64 (l2 N), .int .u64 (l3 N), .int .i64 ((h : Nat) : Int)] Q2 rfl rfl rfl rfl rfl sz24 rfl rfl rfl ?_
      intro w45 hS Qn
      replace Q2 := Qn
      clear Qn
      replace Q1 := hS.other _ _ ne_k1_k2 Q1
      replace Qg := hS.other _ _ ne_g_k2 Qg
      replace Q3 := hS.other _ _ ne_k2_k3.symm Q3
      replace M := hS.mo _ N_k2 M
      clear hS
      refine w_nil (xn_then (w_seq (w_reg ?_)))
      refine wl_load 33 (.tmp 4) (pt k2 0) (.agg #[.bool (bt s 0 == 45), .int .u64 (l0 N), .int .u64 (l1 N), .int .u64 (l2 N), .int .u64 (l3 N), .int .i64 ((h : Nat) : Int)]) rfl e4 (run_row Q2 33 0 6 _ rfl Tryd.underlying33 rfl sz26) rfl ?_
      refine wl_st 33 (.tmp 2) (.tmp 74) k1 0 #[.bool (bt s 0 == 45), .int .u64 (l0 N), .int .u64 (l1 N), .int .u64 (l2 N), .int .u64 (l3 N), .int .i64 ((h : Nat) : Int)] _ [.bool (bt s 0 == 45), .int .u64 (l0 N), .int .u64 (l1 N), .int .u64 (l2 N), .int .u64 (l3 N), .int .i64 ((h : Nat) : Int)] Q1 rfl rfl e2 rfl rfl sz26 rfl rfl rfl ?_
      intro w46 hS Qn
      replace Q1 := Qn
      clear Qn
      replace Q2 := hS.other _ _ ne_k1_k2.symm Q2
      replace Qg := hS.other _ _ ne_g_k1 Qg
      replace Q3 := hS.other _ _ ne_k1_k3.symm Q3
      replace M := hS.mo _ N_k1 M
      clear hS
      refine wl_m (.const (.int .i64 (0))) (.int .i64 (0)) ?_
      refine w_nil (xn_then (w_ret ?_))
      have hfin : rps s N E = .tuple #[.agg #[.bool (bt s 0 == 45), .int .u64 (l0 N), .int .u64 (l1 N), .int .u64 (l2 N), .int .u64 (l3 N), .int .i64 ((h : Nat) : Int)], .int .i64 (0)] := by unfold rps; rw [if_neg (by rw [hf0]; simp), hR, if_neg (of_decide_eq_false hf1), if_neg (of_decide_eq_false hxl), if_neg (by rw [hf2]; simp)]; try rfl
      exact w_ret2 _ _ (.agg #[.bool (bt s 0 == 45), .int .u64 (l0 N), .int .u64 (l1 N), .int .u64 (l2 N), .int .u64 (l3 N), .int .i64 ((h : Nat) : Int)]) (.int .i64 (0)) rfl ⟨k1, e2, (run_row Q1 33 0 6 _ rfl Tryd.underlying33 rfl sz26)⟩ rfl ⟨by rw [hfin], M⟩
     | false =>
      refine w_reg ?_
      refine wl_m (.tmp 10) (.int .i64 (E)) ?_
      refine wl_b .neq 23 (.tmp 68) (.const (.int .i64 (0))) (.int .i64 (E)) (.int .i64 (0)) (.bool true) (ne30 hf2 _ _ _) ?_
      refine w_nil (xn_then (w_condT rfl (w_seq (w_reg ?_))))
      refine wl_build 33 [] [] (.agg #[.bool false, .int .u64 0, .int .u64 0, .int .u64 0, .int .u64 0, .int .i64 0]) rfl rfl (by kernel_rfl) rfl ?_
      refine wl_m (.tmp 10) (.int .i64 (E)) ?_
      refine wl_st 33 (.tmp 2) (.tmp 70) k1 0 #[.bool false, .int .u64 0, .int .u64 0, .int .u64 0, .int .u64 0, .int .i64 0] _ [.bool false, .int .u64 0, .int .u64 0, .int .u64 0, .int .u64 0, .int .i64 0] Q1 rfl rfl e2 rfl rfl sz26 rfl rfl rfl ?_
      intro w45 hS Qn
      replace Q1 := Qn
      clear Qn
      replace Q2 := hS.other _ _ ne_k1_k2.symm Q2
      replace Qg := hS.other _ _ ne_g_k1 Qg
      replace Q3 := hS.other _ _ ne_k1_k3.symm Q3
      replace M := hS.mo _ N_k1 M
      clear hS
      refine wl_m (.tmp 71) (.int .i64 (E)) ?_
      refine w_nil (xn_then (w_ret (xr_then ?_)))
      have hfin : rps s N E = .tuple #[.agg #[.bool false, .int .u64 0, .int .u64 0, .int .u64 0, .int .u64 0, .int .i64 0], .int .i64 (E)] := by unfold rps; rw [if_neg (by rw [hf0]; simp), hR, if_neg (of_decide_eq_false hf1), if_neg (of_decide_eq_false hxl), if_pos hf2]; try rfl
      exact w_ret2 _ _ (.agg #[.bool false, .int .u64 0, .int .u64 0, .int .u64 0, .int .u64 0, .int .i64 0]) (.int .i64 (E)) rfl ⟨k1, e2, (run_row Q1 33 0 6 _ rfl Tryd.underlying33 rfl sz26)⟩ rfl ⟨by rw [hfin], M⟩
  ·skip
   refine w_seq (w_reg ?_)
   refine wl_m (.const (.int .i64 (0))) (.int .i64 (0)) ?_
   refine w_nil (xn_then (w_block ?_))
   refine w_loop (fun m l w1 => ∃ (i h : Nat) (q : Bool) (xs : List Int) (v : Value), m = s.size - i ∧ look l 0 = .string s ∧ look l 2 = pt k1 0 ∧ look l 4 = pt k2 0 ∧ look l 5 = v ∧ look l 6 = .int .i64 (h : Int) ∧ look l 7 = .bool q ∧ look l 8 = .int .i64 (i : Int) ∧ i ≤ s.size ∧ xs.length ≤ i ∧ h ≤ i ∧ At w1 k1 z40l ∧ At w1 k2 [.bool (bt s 0 == 45), .int .u64 0, .int .u64 0, .int .u64 0, .int .u64 0, .int .i64 (0)] ∧ w1.ownsRow w.heap.size 5 1 v xs.length (xs.map (Value.int .u8)) ∧ v.ownBlock ≠ some k1 ∧ v.ownBlock ≠ some k2 ∧ pr s i xs h q = prs s ∧ Mo w w1) _ ⟨0, 0, false, [], .slice none 0 0, rfl, rfl, rfl, rfl, rfl, rfl, rfl, rfl, by omega, by simp, by omega, Q1, Q2, World.ownsRow_nil _ _ _ _, by simp [Value.ownBlock], by simp [Value.ownBlock], rfl, M⟩ ?_
   clear M Q1 Q2
   rintro m l wl ⟨i, h, q, xs, v, rfl, e0, e2, e4, e5, e6, e7, e8, his, hxi, hhi, Q1, Q2, hown, on_k1, on_k2, hR, M⟩
   obtain ⟨pv, cv, hv⟩ := own_form hown
   have hsz := M.size
   refine w_seq (w_seq ?_)
   cases hf1 : decide (i < s.size) with
   | true =>
    have hf1p := of_decide_eq_true hf1
    refine w_reg ?_
    refine wl_mv (.tmp 8) (.int .i64 ((i : Nat) : Int)) (fun _ => rfl) e8 rfl ?_
    refine wl_mv (.tmp 0) (.string s) (fun _ => rfl) e0 rfl ?_
    refine wl_val (.int .i64 ((s.size : Nat) : Int)) (len_s _ _ s (by exact rfl) _ _ _ _ _ _) rfl ?_
    refine wl_b .lss 3 (.tmp 19) (.tmp 21) (.int .i64 ((i : Nat) : Int)) (.int .i64 ((s.size : Nat) : Int)) (.bool true) (ltN hf1 _ _ _) ?_
    refine w_nil (xn_then (w_condT rfl (w_skip (xn_then (w_seq (w_block (w_block (w_seq ?_))))))))
    cases hf2 : (bt s (i) == 46) with
    | true =>
     refine w_reg ?_
     refine wl_mv (.tmp 0) (.string s) (fun _ => rfl) e0 rfl ?_
     refine wl_mv (.tmp 8) (.int .i64 ((i : Nat) : Int)) (fun _ => rfl) e8 rfl ?_
     refine wl_bin (fun x y => Instr.index 9 x y) (.tmp 26) (.tmp 27) (.string s) (.int .i64 ((i : Nat) : Int)) (.int .u8 (bt s (i))) (fun _ => rfl) rfl rfl (idx_b (by omega) _) rfl ?_
     refine wl_b .eql 5 (.tmp 28) (.const (.int .u8 (46))) (.int .u8 (bt s (i))) (.int .u8 (46)) (.bool true) (eq5r hf2 _ _ _) ?_
     refine wl_m (.tmp 29) (.bool true) ?_
     refine w_nil (xn_then (w_condT rfl (w_reg ?_)))
     refine wl_m (.const (.bool true)) (.bool true) ?_
     refine w_nil (xn_blk (xn_blk (xn_then (w_reg ?_))))
     refine wl_mv (.tmp 8) (.int .i64 ((i : Nat) : Int)) (fun _ => rfl) e8 rfl ?_
     refine wl_b .add 3 (.tmp 23) (.const (.int .i64 (1))) (.int .i64 ((i : Nat) : Int)) (.int .i64 (1)) (.int .i64 ((i + 1 : Nat) : Int)) (add1r (k := i) (by omega) _ _ _) ?_
     refine wl_m (.tmp 24) (.int .i64 ((i + 1 : Nat) : Int)) ?_
     refine w_nil ?_
     exact xn_loop (s.size - (i + 1)) (by omega) ⟨i + 1, h, true, xs, v, rfl, e0, e2, e4, e5, e6, rfl, rfl, by omega, by first | omega | (simp; omega), by omega, Q1, Q2, hown, on_k1, on_k2, by rw [← hR, pr_in (of_decide_eq_true hf1)]; simp [hf2], M⟩
    | false =>
     refine w_reg ?_
     refine wl_mv (.tmp 0) (.string s) (fun _ => rfl) e0 rfl ?_
     refine wl_mv (.tmp 8) (.int .i64 ((i : Nat) : Int)) (fun _ => rfl) e8 rfl ?_
     refine wl_bin (fun x y => Instr.index 9 x y) (.tmp 26) (.tmp 27) (.string s) (.int .i64 ((i : Nat) : Int)) (.int .u8 (bt s (i))) (fun _ => rfl) rfl rfl (idx_b (by omega) _) rfl ?_
     refine wl_b .eql 5 (.tmp 28) (.const (.int .u8 (46))) (.int .u8 (bt s (i))) (.int .u8 (46)) (.bool false) (eq5r hf2 _ _ _) ?_
     refine wl_m (.tmp 29) (.bool false) ?_
     refine w_nil (xn_then (w_condF rfl (w_seq ?_)))
     cases hf3 : dgt (bt s (i)) with
     | true =>
      refine w_reg ?_
      refine wl_mv (.tmp 0) (.string s) (fun _ => rfl) e0 rfl ?_
      refine wl_mv (.tmp 8) (.int .i64 ((i : Nat) : Int)) (fun _ => rfl) e8 rfl ?_
      refine wl_bin (fun x y => Instr.index 9 x y) (.tmp 31) (.tmp 32) (.string s) (.int .i64 ((i : Nat) : Int)) (.int .u8 (bt s (i))) (fun _ => rfl) rfl rfl (idx_b (by omega) _) rfl ?_
      refine wl_call 49 [(.tmp 33)] _ [.int .u8 (bt s (i))] (.bool true) rfl rfl (fun _ _ => by kernel_rfl) (digit_c hf3 _) rfl ?_
      intro w21 hq
      replace hown := own_mo hown hq
      replace Q1 := Q1.mo hq
      replace Q2 := Q2.mo hq
      replace M := M.trans hq
      clear hq
      refine wl_m (.tmp 34) (.bool true) ?_
      refine w_nil (xn_then (w_condT rfl (w_seq (w_seq (w_reg ?_)))))
      refine wl_mv (.tmp 7) (.bool q) (fun _ => rfl) e7 rfl ?_
      refine w_nil (xn_then ?_)
      cases q with
      | true =>
       refine w_condT rfl (w_reg ?_)
       refine wl_mv (.tmp 6) (.int .i64 ((h : Nat) : Int)) (fun _ => rfl) e6 rfl ?_
       refine wl_b .add 3 (.tmp 36) (.const (.int .i64 (1))) (.int .i64 ((h : Nat) : Int)) (.int .i64 (1)) (.int .i64 ((h + 1 : Nat) : Int)) (add1r (k := h) (by omega) _ _ _) ?_
       refine wl_m (.tmp 37) (.int .i64 ((h + 1 : Nat) : Int)) ?_
       refine w_nil (xn_then (w_seq ?_))
       cases hf4 : decide (0 < xs.length) with
       | true =>
        have hf4p := of_decide_eq_true hf4
        refine w_reg ?_
        refine wl_mv (.tmp 5) (v) (fun _ => rfl) e5 rfl ?_
        refine wl_val (.int .i64 ((xs.length : Nat) : Int)) (lens_r2 _ _ pv _ cv (Eq.trans (b := v) (by exact rfl) hv) _ _ _ _ _ _) rfl ?_
        refine wl_b .gtr 3 (.tmp 39) (.const (.int .i64 (0))) (.int .i64 ((xs.length : Nat) : Int)) (.int .i64 (0)) (.bool true) (gtN hf4 _ _ _) ?_
        refine wl_m (.tmp 40) (.bool true) ?_
        refine wl_skip rfl (wl_skip rfl (wl_skip rfl (wl_skip rfl ?_)))
        refine wl_pick (.tmp 41) (.const (.bool true)) (.tmp 45) true (.bool true) (fun _ => rfl) rfl rfl rfl ?_
        refine w_nil (xn_then (w_condT rfl (w_reg ?_)))
        refine wl_mv (.tmp 5) (v) (fun _ => rfl) e5 rfl ?_
        refine wl_mv (.tmp 0) (.string s) (fun _ => rfl) e0 rfl ?_
        refine wl_mv (.tmp 8) (.int .i64 ((i : Nat) : Int)) (fun _ => rfl) e8 rfl ?_
        refine wl_bin (fun x y => Instr.index 9 x y) (.tmp 48) (.tmp 49) (.string s) (.int .i64 ((i : Nat) : Int)) (.int .u8 (bt s (i))) (fun _ => rfl) rfl rfl (idx_b (by omega) _) rfl ?_
        refine wl_bsl (.tmp 50) (bt s (i)) rfl rfl rfl ?_
        intro k21 w22 hk hz2 hq Q21
        have ne_k1_k21 : k1 ≠ k21 := by have := Q1.lt; omega
        have ne_k2_k21 : k2 ≠ k21 := by have := Q2.lt; omega
        have on_k21 : v.ownBlock ≠ some k21 := fun e => by have := (hown.lt _ e).2; omega
        have N_k21 : w.heap.size ≤ k21 := by have := M.size; omega
        replace hown := own_mo hown hq
        replace Q1 := Q1.mo hq
        replace Q2 := Q2.mo hq
        replace M := M.trans hq
        clear hk hz2 hq
        refine wl_app2 (.tmp 47) (.tmp 51) w.heap.size v xs.length (xs.map (Value.int .u8)) k21 (bt s (i)) rfl rfl rfl hown Q21 (by omega) (by have := M.size; omega) rfl ?_
        intro v' w23 hown2 hW hat
        have hne_k1 : v'.ownBlock ≠ some k1 := by rcases hat with h | h <;> rw [h]; exact on_k1; intro e; cases e; have := Q1.lt; omega
        have hne_k2 : v'.ownBlock ≠ some k2 := by rcases hat with h | h <;> rw [h]; exact on_k2; intro e; cases e; have := Q2.lt; omega
        replace M := hW.mo M (fun j e => (hown.lt _ e).1)
        replace Q1 := hW.at Q1 on_k1
        replace Q2 := hW.at Q2 on_k2
        replace Q21 := hW.at Q21 on_k21
        clear hown hW hat
        have hown := hown2
        clear hown2
        replace on_k1 := hne_k1
        replace on_k2 := hne_k2
        refine wl_m (.tmp 52) (v') ?_
        refine w_nil (xn_blk (xn_blk (xn_then (w_reg ?_))))
        refine wl_mv (.tmp 8) (.int .i64 ((i : Nat) : Int)) (fun _ => rfl) e8 rfl ?_
        refine wl_b .add 3 (.tmp 23) (.const (.int .i64 (1))) (.int .i64 ((i : Nat) : Int)) (.int .i64 (1)) (.int .i64 ((i + 1 : Nat) : Int)) (add1r (k := i) (by omega) _ _ _) ?_
        refine wl_m (.tmp 24) (.int .i64 ((i + 1 : Nat) : Int)) ?_
        refine w_nil ?_
        exact xn_loop (s.size - (i + 1)) (by omega) ⟨i + 1, h + 1, true, (xs ++ [bt s i]), v', rfl, e0, e2, e4, rfl, rfl, e7, rfl, by omega, by first | omega | (simp; omega), by omega, Q1, Q2, by rw [List.length_append, List.map_append]; exact hown, on_k1, on_k2, by rw [← hR, pr_in (of_decide_eq_true hf1)]; simp [hf2, hf3, hf4p], M⟩
       | false =>
        have hf4p := of_decide_eq_false hf4
        cases hf5 : (bt s (i) == 48) with
        | true =>
         refine w_reg ?_
         refine wl_mv (.tmp 5) (v) (fun _ => rfl) e5 rfl ?_
         refine wl_val (.int .i64 ((xs.length : Nat) : Int)) (lens_r2 _ _ pv _ cv (Eq.trans (b := v) (by exact rfl) hv) _ _ _ _ _ _) rfl ?_
         refine wl_b .gtr 3 (.tmp 39) (.const (.int .i64 (0))) (.int .i64 ((xs.length : Nat) : Int)) (.int .i64 (0)) (.bool false) (gtN hf4 _ _ _) ?_
         refine wl_m (.tmp 40) (.bool false) ?_
         refine wl_mv (.tmp 0) (.string s) (fun _ => rfl) e0 rfl ?_
         refine wl_mv (.tmp 8) (.int .i64 ((i : Nat) : Int)) (fun _ => rfl) e8 rfl ?_
         refine wl_bin (fun x y => Instr.index 9 x y) (.tmp 42) (.tmp 43) (.string s) (.int .i64 ((i : Nat) : Int)) (.int .u8 (bt s (i))) (fun _ => rfl) rfl rfl (idx_b (by omega) _) rfl ?_
         refine wl_b .neq 5 (.tmp 44) (.const (.int .u8 (48))) (.int .u8 (bt s (i))) (.int .u8 (48)) (.bool false) (ne5r hf5 _ _ _) ?_
         refine wl_pick (.tmp 41) (.const (.bool true)) (.tmp 45) false (.bool false) (fun _ => rfl) rfl rfl rfl ?_
         refine w_nil (xn_then (w_condF rfl (w_skip (xn_blk (xn_blk (xn_then (w_reg ?_)))))))
         refine wl_mv (.tmp 8) (.int .i64 ((i : Nat) : Int)) (fun _ => rfl) e8 rfl ?_
         refine wl_b .add 3 (.tmp 23) (.const (.int .i64 (1))) (.int .i64 ((i : Nat) : Int)) (.int .i64 (1)) (.int .i64 ((i + 1 : Nat) : Int)) (add1r (k := i) (by omega) _ _ _) ?_
         refine wl_m (.tmp 24) (.int .i64 ((i + 1 : Nat) : Int)) ?_
         refine w_nil ?_
         exact xn_loop (s.size - (i + 1)) (by omega) ⟨i + 1, h + 1, true, xs, v, rfl, e0, e2, e4, e5, rfl, e7, rfl, by omega, by first | omega | (simp; omega), by omega, Q1, Q2, hown, on_k1, on_k2, by rw [← hR, pr_in (of_decide_eq_true hf1)]; simp [hf2, hf3, hf4p, hf5], M⟩
        | false =>
         refine w_reg ?_
         refine wl_mv (.tmp 5) (v) (fun _ => rfl) e5 rfl ?_
         refine wl_val (.int .i64 ((xs.length : Nat) : Int)) (lens_r2 _ _ pv _ cv (Eq.trans (b := v) (by exact rfl) hv) _ _ _ _ _ _) rfl ?_
         refine wl_b .gtr 3 (.tmp 39) (.const (.int .i64 (0))) (.int .i64 ((xs.length : Nat) : Int)) (.int .i64 (0)) (.bool false) (gtN hf4 _ _ _) ?_
         refine wl_m (.tmp 40) (.bool false) ?_
         refine wl_mv (.tmp 0) (.string s) (fun _ => rfl) e0 rfl ?_
         refine wl_mv (.tmp 8) (.int .i64 ((i : Nat) : Int)) (fun _ => rfl) e8 rfl ?_
         refine wl_bin (fun x y => Instr.index 9 x y) (.tmp 42) (.tmp 43) (.string s) (.int .i64 ((i : Nat) : Int)) (.int .u8 (bt s (i))) (fun _ => rfl) rfl rfl (idx_b (by omega) _) rfl ?_
         refine wl_b .neq 5 (.tmp 44) (.const (.int .u8 (48))) (.int .u8 (bt s (i))) (.int .u8 (48)) (.bool true) (ne5r hf5 _ _ _) ?_
         refine wl_pick (.tmp 41) (.const (.bool true)) (.tmp 45) false (.bool true) (fun _ => rfl) rfl rfl rfl ?_
         refine w_nil (xn_then (w_condT rfl (w_reg ?_)))
         refine wl_mv (.tmp 5) (v) (fun _ => rfl) e5 rfl ?_
         refine wl_mv (.tmp 0) (.string s) (fun _ => rfl) e0 rfl ?_
         refine wl_mv (.tmp 8) (.int .i64 ((i : Nat) : Int)) (fun _ => rfl) e8 rfl ?_
         refine wl_bin (fun x y => Instr.index 9 x y) (.tmp 48) (.tmp 49) (.string s) (.int .i64 ((i : Nat) : Int)) (.int .u8 (bt s (i))) (fun _ => rfl) rfl rfl (idx_b (by omega) _) rfl ?_
         refine wl_bsl (.tmp 50) (bt s (i)) rfl rfl rfl ?_
         intro k21 w22 hk hz2 hq Q21
         have ne_k1_k21 : k1 ≠ k21 := by have := Q1.lt; omega
         have ne_k2_k21 : k2 ≠ k21 := by have := Q2.lt; omega
         have on_k21 : v.ownBlock ≠ some k21 := fun e => by have := (hown.lt _ e).2; omega
         have N_k21 : w.heap.size ≤ k21 := by have := M.size; omega
         replace hown := own_mo hown hq
         replace Q1 := Q1.mo hq
         replace Q2 := Q2.mo hq
         replace M := M.trans hq
         clear hk hz2 hq
         refine wl_app2 (.tmp 47) (.tmp 51) w.heap.size v xs.length (xs.map (Value.int .u8)) k21 (bt s (i)) rfl rfl rfl hown Q21 (by omega) (by have := M.size; omega) rfl ?_
         intro v' w23 hown2 hW hat
         have hne_k1 : v'.ownBlock ≠ some k1 := by rcases hat with h | h <;> rw [h]; exact on_k1; intro e; cases e; have := Q1.lt; omega
         have hne_k2 : v'.ownBlock ≠ some k2 := by rcases hat with h | h <;> rw [h]; exact on_k2; intro e; cases e; have := Q2.lt; omega
         replace M := hW.mo M (fun j e => (hown.lt _ e).1)
         replace Q1 := hW.at Q1 on_k1
         replace Q2 := hW.at Q2 on_k2
         replace Q21 := hW.at Q21 on_k21
         clear hown hW hat
         have hown := hown2
         clear hown2
         replace on_k1 := hne_k1
         replace on_k2 := hne_k2
         refine wl_m (.tmp 52) (v') ?_
         refine w_nil (xn_blk (xn_blk (xn_then (w_reg ?_))))
         refine wl_mv (.tmp 8) (.int .i64 ((i : Nat) : Int)) (fun _ => rfl) e8 rfl ?_
         refine wl_b .add 3 (.tmp 23) (.const (.int .i64 (1))) (.int .i64 ((i : Nat) : Int)) (.int .i64 (1)) (.int .i64 ((i + 1 : Nat) : Int)) (add1r (k := i) (by omega) _ _ _) ?_
         refine wl_m (.tmp 24) (.int .i64 ((i + 1 : Nat) : Int)) ?_
         refine w_nil ?_
         exact xn_loop (s.size - (i + 1)) (by omega) ⟨i + 1, h + 1, true, (xs ++ [bt s i]), v', rfl, e0, e2, e4, rfl, rfl, e7, rfl, by omega, by first | omega | (simp; omega), by omega, Q1, Q2, by rw [List.length_append, List.map_append]; exact hown, on_k1, on_k2, by rw [← hR, pr_in (of_decide_eq_true hf1)]; simp [hf2, hf3, hf4p, hf5], M⟩
      | false =>
       refine w_condF rfl (w_skip (xn_then (w_seq ?_)))
       cases hf4 : decide (0 < xs.length) with
       | true =>
        have hf4p := of_decide_eq_true hf4
        refine w_reg ?_
        refine wl_mv (.tmp 5) (v) (fun _ => rfl) e5 rfl ?_
        refine wl_val (.int .i64 ((xs.length : Nat) : Int)) (lens_r2 _ _ pv _ cv (Eq.trans (b := v) (by exact rfl) hv) _ _ _ _ _ _) rfl ?_
        refine wl_b .gtr 3 (.tmp 39) (.const (.int .i64 (0))) (.int .i64 ((xs.length : Nat) : Int)) (.int .i64 (0)) (.bool true) (gtN hf4 _ _ _) ?_
        refine wl_m (.tmp 40) (.bool true) ?_
        refine wl_skip rfl (wl_skip rfl (wl_skip rfl (wl_skip rfl ?_)))
        refine wl_pick (.tmp 41) (.const (.bool true)) (.tmp 45) true (.bool true) (fun _ => rfl) rfl rfl rfl ?_
        refine w_nil (xn_then (w_condT rfl (w_reg ?_)))
        refine wl_mv (.tmp 5) (v) (fun _ => rfl) e5 rfl ?_
        refine wl_mv (.tmp 0) (.string s) (fun _ => rfl) e0 rfl ?_
        refine wl_mv (.tmp 8) (.int .i64 ((i : Nat) : Int)) (fun _ => rfl) e8 rfl ?_
        refine wl_bin (fun x y => Instr.index 9 x y) (.tmp 48) (.tmp 49) (.string s) (.int .i64 ((i : Nat) : Int)) (.int .u8 (bt s (i))) (fun _ => rfl) rfl rfl (idx_b (by omega) _) rfl ?_
        refine wl_bsl (.tmp 50) (bt s (i)) rfl rfl rfl ?_
        intro k21 w22 hk hz2 hq Q21
        have ne_k1_k21 : k1 ≠ k21 := by have := Q1.lt; omega
        have ne_k2_k21 : k2 ≠ k21 := by have := Q2.lt; omega
        have on_k21 : v.ownBlock ≠ some k21 := fun e => by have := (hown.lt _ e).2; omega
        have N_k21 : w.heap.size ≤ k21 := by have := M.size; omega
        replace hown := own_mo hown hq
        replace Q1 := Q1.mo hq
        replace Q2 := Q2.mo hq
        replace M := M.trans hq
        clear hk hz2 hq
        refine wl_app2 (.tmp 47) (.tmp 51) w.heap.size v xs.length (xs.map (Value.int .u8)) k21 (bt s (i)) rfl rfl rfl hown Q21 (by omega) (by have := M.size; omega) rfl ?_
        intro v' w23 hown2 hW hat
        have hne_k1 : v'.ownBlock ≠ some k1 := by rcases hat with h | h <;> rw [h]; exact on_k1; intro e; cases e; have := Q1.lt; omega
        have hne_k2 : v'.ownBlock ≠ some k2 := by rcases hat with h | h <;> rw [h]; exact on_k2; intro e; cases e; have := Q2.lt; omega
        replace M := hW.mo M (fun j e => (hown.lt _ e).1)
        replace Q1 := hW.at Q1 on_k1
        replace Q2 := hW.at Q2 on_k2
        replace Q21 := hW.at Q21 on_k21
        clear hown hW hat
        have hown := hown2
        clear hown2
        replace on_k1 := hne_k1
        replace on_k2 := hne_k2
        refine wl_m (.tmp 52) (v') ?_
        refine w_nil (xn_blk (xn_blk (xn_then (w_reg ?_))))
        refine wl_mv (.tmp 8) (.int .i64 ((i : Nat) : Int)) (fun _ => rfl) e8 rfl ?_
        refine wl_b .add 3 (.tmp 23) (.const (.int .i64 (1))) (.int .i64 ((i : Nat) : Int)) (.int .i64 (1)) (.int .i64 ((i + 1 : Nat) : Int)) (add1r (k := i) (by omega) _ _ _) ?_
        refine wl_m (.tmp 24) (.int .i64 ((i + 1 : Nat) : Int)) ?_
        refine w_nil ?_
        exact xn_loop (s.size - (i + 1)) (by omega) ⟨i + 1, h, false, (xs ++ [bt s i]), v', rfl, e0, e2, e4, rfl, e6, e7, rfl, by omega, by first | omega | (simp; omega), by omega, Q1, Q2, by rw [List.length_append, List.map_append]; exact hown, on_k1, on_k2, by rw [← hR, pr_in (of_decide_eq_true hf1)]; simp [hf2, hf3, hf4p], M⟩
       | false =>
        have hf4p := of_decide_eq_false hf4
        cases hf5 : (bt s (i) == 48) with
        | true =>
         refine w_reg ?_
         refine wl_mv (.tmp 5) (v) (fun _ => rfl) e5 rfl ?_
         refine wl_val (.int .i64 ((xs.length : Nat) : Int)) (lens_r2 _ _ pv _ cv (Eq.trans (b := v) (by exact rfl) hv) _ _ _ _ _ _) rfl ?_
         refine wl_b .gtr 3 (.tmp 39) (.const (.int .i64 (0))) (.int .i64 ((xs.length : Nat) : Int)) (.int .i64 (0)) (.bool false) (gtN hf4 _ _ _) ?_
         refine wl_m (.tmp 40) (.bool false) ?_
         refine wl_mv (.tmp 0) (.string s) (fun _ => rfl) e0 rfl ?_
         refine wl_mv (.tmp 8) (.int .i64 ((i : Nat) : Int)) (fun _ => rfl) e8 rfl ?_
         refine wl_bin (fun x y => Instr.index 9 x y) (.tmp 42) (.tmp 43) (.string s) (.int .i64 ((i : Nat) : Int)) (.int .u8 (bt s (i))) (fun _ => rfl) rfl rfl (idx_b (by omega) _) rfl ?_
         refine wl_b .neq 5 (.tmp 44) (.const (.int .u8 (48))) (.int .u8 (bt s (i))) (.int .u8 (48)) (.bool false) (ne5r hf5 _ _ _) ?_
         refine wl_pick (.tmp 41) (.const (.bool true)) (.tmp 45) false (.bool false) (fun _ => rfl) rfl rfl rfl ?_
         refine w_nil (xn_then (w_condF rfl (w_skip (xn_blk (xn_blk (xn_then (w_reg ?_)))))))
         refine wl_mv (.tmp 8) (.int .i64 ((i : Nat) : Int)) (fun _ => rfl) e8 rfl ?_
         refine wl_b .add 3 (.tmp 23) (.const (.int .i64 (1))) (.int .i64 ((i : Nat) : Int)) (.int .i64 (1)) (.int .i64 ((i + 1 : Nat) : Int)) (add1r (k := i) (by omega) _ _ _) ?_
         refine wl_m (.tmp 24) (.int .i64 ((i + 1 : Nat) : Int)) ?_
         refine w_nil ?_
         exact xn_loop (s.size - (i + 1)) (by omega) ⟨i + 1, h, false, xs, v, rfl, e0, e2, e4, e5, e6, e7, rfl, by omega, by first | omega | (simp; omega), by omega, Q1, Q2, hown, on_k1, on_k2, by rw [← hR, pr_in (of_decide_eq_true hf1)]; simp [hf2, hf3, hf4p, hf5], M⟩
        | false =>
         refine w_reg ?_
         refine wl_mv (.tmp 5) (v) (fun _ => rfl) e5 rfl ?_
         refine wl_val (.int .i64 ((xs.length : Nat) : Int)) (lens_r2 _ _ pv _ cv (Eq.trans (b := v) (by exact rfl) hv) _ _ _ _ _ _) rfl ?_
         refine wl_b .gtr 3 (.tmp 39) (.const (.int .i64 (0))) (.int .i64 ((xs.length : Nat) : Int)) (.int .i64 (0)) (.bool false) (gtN hf4 _ _ _) ?_
         refine wl_m (.tmp 40) (.bool false) ?_
         refine wl_mv (.tmp 0) (.string s) (fun _ => rfl) e0 rfl ?_
         refine wl_mv (.tmp 8) (.int .i64 ((i : Nat) : Int)) (fun _ => rfl) e8 rfl ?_
         refine wl_bin (fun x y => Instr.index 9 x y) (.tmp 42) (.tmp 43) (.string s) (.int .i64 ((i : Nat) : Int)) (.int .u8 (bt s (i))) (fun _ => rfl) rfl rfl (idx_b (by omega) _) rfl ?_
         refine wl_b .neq 5 (.tmp 44) (.const (.int .u8 (48))) (.int .u8 (bt s (i))) (.int .u8 (48)) (.bool true) (ne5r hf5 _ _ _) ?_
         refine wl_pick (.tmp 41) (.const (.bool true)) (.tmp 45) false (.bool true) (fun _ => rfl) rfl rfl rfl ?_
         refine w_nil (xn_then (w_condT rfl (w_reg ?_)))
         refine wl_mv (.tmp 5) (v) (fun _ => rfl) e5 rfl ?_
         refine wl_mv (.tmp 0) (.string s) (fun _ => rfl) e0 rfl ?_
         refine wl_mv (.tmp 8) (.int .i64 ((i : Nat) : Int)) (fun _ => rfl) e8 rfl ?_
         refine wl_bin (fun x y => Instr.index 9 x y) (.tmp 48) (.tmp 49) (.string s) (.int .i64 ((i : Nat) : Int)) (.int .u8 (bt s (i))) (fun _ => rfl) rfl rfl (idx_b (by omega) _) rfl ?_
         refine wl_bsl (.tmp 50) (bt s (i)) rfl rfl rfl ?_
         intro k21 w22 hk hz2 hq Q21
         have ne_k1_k21 : k1 ≠ k21 := by have := Q1.lt; omega
         have ne_k2_k21 : k2 ≠ k21 := by have := Q2.lt; omega
         have on_k21 : v.ownBlock ≠ some k21 := fun e => by have := (hown.lt _ e).2; omega
         have N_k21 : w.heap.size ≤ k21 := by have := M.size; omega
         replace hown := own_mo hown hq
         replace Q1 := Q1.mo hq
         replace Q2 := Q2.mo hq
         replace M := M.trans hq
         clear hk hz2 hq
         refine wl_app2 (.tmp 47) (.tmp 51) w.heap.size v xs.length (xs.map (Value.int .u8)) k21 (bt s (i)) rfl rfl rfl hown Q21 (by omega) (by have := M.size; omega) rfl ?_
         intro v' w23 hown2 hW hat
         have hne_k1 : v'.ownBlock ≠ some k1 := by rcases hat with h | h <;> rw [h]; exact on_k1; intro e; cases e; have := Q1.lt; omega
         have hne_k2 : v'.ownBlock ≠ some k2 := by rcases hat with h | h <;> rw [h]; exact on_k2; intro e; cases e; have := Q2.lt; omega
         replace M := hW.mo M (fun j e => (hown.lt _ e).1)
         replace Q1 := hW.at Q1 on_k1
         replace Q2 := hW.at Q2 on_k2
         replace Q21 := hW.at Q21 on_k21
         clear hown hW hat
         have hown := hown2
         clear hown2
         replace on_k1 := hne_k1
         replace on_k2 := hne_k2
         refine wl_m (.tmp 52) (v') ?_
         refine w_nil (xn_blk (xn_blk (xn_then (w_reg ?_))))
         refine wl_mv (.tmp 8) (.int .i64 ((i : Nat) : Int)) (fun _ => rfl) e8 rfl ?_
         refine wl_b .add 3 (.tmp 23) (.const (.int .i64 (1))) (.int .i64 ((i : Nat) : Int)) (.int .i64 (1)) (.int .i64 ((i + 1 : Nat) : Int)) (add1r (k := i) (by omega) _ _ _) ?_
         refine wl_m (.tmp 24) (.int .i64 ((i + 1 : Nat) : Int)) ?_
         refine w_nil ?_
         exact xn_loop (s.size - (i + 1)) (by omega) ⟨i + 1, h, false, (xs ++ [bt s i]), v', rfl, e0, e2, e4, rfl, e6, e7, rfl, by omega, by first | omega | (simp; omega), by omega, Q1, Q2, by rw [List.length_append, List.map_append]; exact hown, on_k1, on_k2, by rw [← hR, pr_in (of_decide_eq_true hf1)]; simp [hf2, hf3, hf4p, hf5], M⟩
     | false =>
      refine w_reg ?_
      refine wl_mv (.tmp 0) (.string s) (fun _ => rfl) e0 rfl ?_
      refine wl_mv (.tmp 8) (.int .i64 ((i : Nat) : Int)) (fun _ => rfl) e8 rfl ?_
      refine wl_bin (fun x y => Instr.index 9 x y) (.tmp 31) (.tmp 32) (.string s) (.int .i64 ((i : Nat) : Int)) (.int .u8 (bt s (i))) (fun _ => rfl) rfl rfl (idx_b (by omega) _) rfl ?_
      refine wl_call 49 [(.tmp 33)] _ [.int .u8 (bt s (i))] (.bool false) rfl rfl (fun _ _ => by kernel_rfl) (digit_c hf3 _) rfl ?_
      intro w21 hq
      replace hown := own_mo hown hq
      replace Q1 := Q1.mo hq
      replace Q2 := Q2.mo hq
      replace M := M.trans hq
      clear hq
      refine wl_m (.tmp 34) (.bool false) ?_
      refine w_nil (xn_then (w_condF rfl (w_skip (xn_blk (xn_blk (xn_then (w_reg ?_)))))))
      refine wl_mv (.tmp 8) (.int .i64 ((i : Nat) : Int)) (fun _ => rfl) e8 rfl ?_
      refine wl_b .add 3 (.tmp 23) (.const (.int .i64 (1))) (.int .i64 ((i : Nat) : Int)) (.int .i64 (1)) (.int .i64 ((i + 1 : Nat) : Int)) (add1r (k := i) (by omega) _ _ _) ?_
      refine wl_m (.tmp 24) (.int .i64 ((i + 1 : Nat) : Int)) ?_
      refine w_nil ?_
      exact xn_loop (s.size - (i + 1)) (by omega) ⟨i + 1, h, q, xs, v, rfl, e0, e2, e4, e5, e6, e7, rfl, by omega, by first | omega | (simp; omega), by omega, Q1, Q2, hown, on_k1, on_k2, by rw [← hR, pr_in (of_decide_eq_true hf1)]; simp [hf2, hf3], M⟩
   | false =>
    have hf1p := of_decide_eq_false hf1
    refine w_reg ?_
    refine wl_mv (.tmp 8) (.int .i64 ((i : Nat) : Int)) (fun _ => rfl) e8 rfl ?_
    refine wl_mv (.tmp 0) (.string s) (fun _ => rfl) e0 rfl ?_
    refine wl_val (.int .i64 ((s.size : Nat) : Int)) (len_s _ _ s (by exact rfl) _ _ _ _ _ _) rfl ?_
    refine wl_b .lss 3 (.tmp 19) (.tmp 21) (.int .i64 ((i : Nat) : Int)) (.int .i64 ((s.size : Nat) : Int)) (.bool false) (ltN hf1 _ _ _) ?_
    refine w_nil (xn_then (w_condF rfl (w_exit (xx_then (xx_then (xx_blk ?_))))))
    refine xn_cut ⟨pv, cv, h, xs, e2, e4, e5.trans hv, e6, fun hx => ?_, Q1, Q2, by rw [← hR, pr_out (of_decide_eq_false hf1)], M⟩
    obtain ⟨g, cap, rfl, hgN, hglt⟩ := hown.form (List.length_pos_iff.2 hx)
    cases hv
    exact ⟨g, rfl, fun e => on_k1 (by rw [e]; rfl), fun e => on_k2 (by rw [e]; rfl), own_at hown, hgN⟩
 | false =>
  refine w_reg ?_
  refine wl_m (.tmp 0) (.string s) ?_
  refine wl_call 50 [(.tmp 11)] _ [.string s] (.bool false) rfl rfl (fun _ _ => by kernel_rfl) (whole_c hs hf0 _) rfl ?_
  intro w2 hq
  replace Q1 := Q1.mo hq
  replace M := M.trans hq
  clear hq
  refine wl_un (fun v => Op.unary .not v) (.tmp 12) (.bool false) (.bool true) (fun _ => rfl) rfl (by kernel_rfl) rfl ?_
  refine w_nil (xn_then (w_condT rfl (w_seq (w_reg ?_))))
  refine wl_build 33 [] [] (.agg #[.bool false, .int .u64 0, .int .u64 0, .int .u64 0, .int .u64 0, .int .i64 0]) rfl rfl (by kernel_rfl) rfl ?_
  refine wl_st 33 (.tmp 2) (.tmp 14) k1 0 #[.bool false, .int .u64 0, .int .u64 0, .int .u64 0, .int .u64 0, .int .i64 0] _ [.bool false, .int .u64 0, .int .u64 0, .int .u64 0, .int .u64 0, .int .i64 0] Q1 rfl rfl rfl rfl rfl sz26 rfl rfl rfl ?_
  intro w3 hS Qn
  replace Q1 := Qn
  clear Qn
  replace M := hS.mo _ N_k1 M
  clear hS
  refine wl_m (.const (.int .i64 (30))) (.int .i64 (30)) ?_
  refine w_nil (xn_then (w_ret (xr_then ?_)))
  have hfin : rps s N E = .tuple #[.agg #[.bool false, .int .u64 0, .int .u64 0, .int .u64 0, .int .u64 0, .int .i64 0], .int .i64 (30)] := by unfold rps; rw [if_pos hf0]; try rfl
  exact w_ret2 _ _ (.agg #[.bool false, .int .u64 0, .int .u64 0, .int .u64 0, .int .u64 0, .int .i64 0]) (.int .i64 (30)) rfl ⟨k1, rfl, (run_row Q1 33 0 6 _ rfl Tryd.underlying33 rfl sz26)⟩ rfl ⟨by rw [hfin], M⟩
theorem rpa_no (s : ByteArray) (w : World) (hs : s.size ≤ maxLen) (hw : whl s = false) : Calls Tryd.prog 33 #[.string s] w fun e w' => e = .returned (er 30) ∧ Mo w w' := by
 refine w_enter 75 Tryd.func33 Tryd.ntmps33 rfl rfl ?_
 have M : Mo w w := Mo.refl _
 refine w_seq (w_reg ?_)
 refine wl_alloc 33 #[.bool false, .int .u64 0, .int .u64 0, .int .u64 0, .int .u64 0, .int .i64 0] rfl (fun _ => by kernel_rfl) rfl ?_
 intro k1 w1 hk hz hq Q1
 have N_k1 : w.heap.size ≤ k1 := by have := M.size; omega
 replace M := M.trans hq
 clear hk hz hq
 refine wl_m (.const (.int .i64 (0))) (.int .i64 (0)) ?_
 refine w_nil (xn_then (w_seq (w_seq (w_reg ?_))))
 refine wl_m (.tmp 0) (.string s) ?_
 refine wl_call 50 [(.tmp 11)] _ [.string s] (.bool false) rfl rfl (fun _ _ => by kernel_rfl) (whole_c hs hw _) rfl ?_
 intro w2 hq
 replace Q1 := Q1.mo hq
 replace M := M.trans hq
 clear hq
 refine wl_un (fun v => Op.unary .not v) (.tmp 12) (.bool false) (.bool true) (fun _ => rfl) rfl (by kernel_rfl) rfl ?_
 refine w_nil (xn_then (w_condT rfl (w_seq (w_reg ?_))))
 refine wl_build 33 [] [] (.agg #[.bool false, .int .u64 0, .int .u64 0, .int .u64 0, .int .u64 0, .int .i64 0]) rfl rfl (by kernel_rfl) rfl ?_
 refine wl_st 33 (.tmp 2) (.tmp 14) k1 0 #[.bool false, .int .u64 0, .int .u64 0, .int .u64 0, .int .u64 0, .int .i64 0] _ [.bool false, .int .u64 0, .int .u64 0, .int .u64 0, .int .u64 0, .int .i64 0] Q1 rfl rfl rfl rfl rfl sz26 rfl rfl rfl ?_
 intro w3 hS Qn
 replace Q1 := Qn
 clear Qn
 replace M := hS.mo _ N_k1 M
 clear hS
 refine wl_m (.const (.int .i64 (30))) (.int .i64 (30)) ?_
 refine w_nil (xn_then (w_ret (xr_then ?_)))
 exact w_ret2 _ _ (.agg #[.bool false, .int .u64 0, .int .u64 0, .int .u64 0, .int .u64 0, .int .i64 0]) (.int .i64 (30)) rfl ⟨k1, rfl, (run_row Q1 33 0 6 _ rfl Tryd.underlying33 rfl sz26)⟩ rfl ⟨rfl, M⟩
end Go.Proofs.YthgknegocfhdbaaDoor

/-
 What the document's reading makes of a decimal text's parts.
-/
namespace Go.Proofs.YthgknegocfhdbaaDoor
open Go.RowKit
/-! The document's digits. -/
def prl : List UInt8 → List Int → Nat → Bool → List Int × Nat
 | [], a, h, _ => (a, h)
 | x :: r, a, h, q => if (x.toNat : Int) == 46 then prl r a h true
  else if isD x then prl r (if decide (0 < a.length) || !((x.toNat : Int) == 48) then a ++ [(x.toNat : Int)] else a) (if q then h + 1 else h) q
  else prl r a h q
theorem prl_cons (x : UInt8) (r : List UInt8) (a : List Int) (h : Nat) (q : Bool) : prl (x :: r) a h q = if (x.toNat : Int) == 46 then prl r a h true
  else if isD x then prl r (if decide (0 < a.length) || !((x.toNat : Int) == 48) then a ++ [(x.toNat : Int)] else a) (if q then h + 1 else h) q
  else prl r a h q := by rw [prl]
theorem pr_prl (s : ByteArray) (i : Nat) (a : List Int) (h : Nat) (q : Bool) : pr s i a h q = prl ((by8 s).drop i) a h q := by
 by_cases hi : i < s.size
 ·have hl : i < (by8 s).length := by rw [by8_len]; exact hi
  rw [pr_in hi, List.drop_eq_getElem_cons hl]
  have e : bt s i = (((by8 s)[i]).toNat : Int) := by rw [bt_tn, List.getElem?_eq_getElem hl]; rfl
  rw [e]
  unfold prl
  have ed : dgt (((by8 s)[i]).toNat : Int) = isD (by8 s)[i] := rfl
  rw [ed, pr_prl s (i + 1), pr_prl s (i + 1), pr_prl s (i + 1)]
 ·rw [pr_out hi, List.drop_eq_nil_of_le (by rw [by8_len]; omega)]
  rfl
termination_by s.size - i
def apz (a : List UInt8) (D : List UInt8) : List UInt8 := if a = [] then dw0 D else a ++ D
theorem prl_run : ∀ (D r : List UInt8) (a : List UInt8) (h : Nat) (q : Bool), (∀ x ∈ D, isD x = true) → prl (D ++ r) (nl a) h q = prl r (nl (apz a D)) (if q then h + D.length else h) q
 | [], r, a, h, q, _ => by
  have : apz a [] = a := by unfold apz; split <;> simp_all
  rw [this]
  cases q <;> simp
 | x :: D, r, a, h, q, hd => by
  have hx := hd x (by simp)
  have h46 : ((x.toNat : Int) == 46) = false := beq_eq_false_iff_ne.2 (by have := isD_b hx; omega)
  have e48 : ((x.toNat : Int) == 48) = (x == 48) := by
   rw [Bool.eq_iff_iff, beq_iff_eq, beq_iff_eq, ← UInt8.toNat_inj]
   have : (48 : UInt8).toNat = 48 := rfl
   omega
  rw [List.cons_append, prl_cons, h46, if_neg (by simp), hx, if_pos rfl, e48]
  have ha : (if (decide (0 < (nl a).length) || !(x == 48)) = true then nl a ++ [(x.toNat : Int)] else nl a) = nl (if decide (a = []) && (x == 48) then a else a ++ [x]) := by
   cases a <;> cases (x == 48) <;> simp
  rw [ha, prl_run D r _ _ q (fun y hy => hd y (by simp [hy]))]
  have e2 : apz (if decide (a = []) && (x == 48) then a else a ++ [x]) D = apz a (x :: D) := by
   unfold apz
   cases a with
   | nil =>
    cases hz : (x == 48) with
    | true => simp [dw0, hz]
    | false => simp [dw0, hz]
   | cons y t => simp
  rw [e2]
  have e3 : (if q = true then (if q = true then h + 1 else h) + D.length else (if q = true then h + 1 else h)) = if q = true then h + (x :: D).length else h := by
   cases q with
   | false => rfl
   | true => simp; omega
  rw [e3]
theorem apz_apz (A B : List UInt8) : apz (apz [] A) B = dw0 (A ++ B) := by
 show (if A.dropWhile (· == 48) = [] then B.dropWhile (· == 48) else A.dropWhile (· == 48) ++ B) = (A ++ B).dropWhile (· == 48)
 rw [List.dropWhile_append]
 cases h : A.dropWhile (· == 48) <;> simp
theorem prs_df {s : ByteArray} {b : Bool} {A B : List UInt8} (h : Df (by8 s) b A B) : prs s = (nl (dw0 (A ++ B)), B.length) := by
 unfold prs
 rw [pr_prl, List.drop_zero, h.eq]
 have h0 : ∀ t, prl (sg8 b ++ t) [] 0 false = prl t (nl []) 0 false := fun t => by
  cases b with
  | false => rfl
  | true => rfl
 rw [h0, prl_run A _ [] 0 false h.ad]
 by_cases hB : B = []
 ·rw [if_pos hB, hB]
  unfold prl
  rw [List.append_nil]
  rfl
 ·rw [if_neg hB]
  unfold prl
  rw [if_pos (by rfl)]
  have := prl_run B [] (apz [] A) 0 true h.bd
  rw [List.append_nil] at this
  simp only [Bool.false_eq_true, if_false]
  rw [this, apz_apz]
  unfold prl
  simp
theorem sgn_df {s : ByteArray} {b : Bool} {A B : List UInt8} (h : Df (by8 s) b A B) : (bt s 0 == 45) = b := by
 rw [bt_tn, h.eq]
 cases b with
 | true => rfl
 | false =>
  cases hA : A with
  | nil => exact absurd hA h.ne
  | cons a r =>
   have h1 := isD_b (h.ad a (by rw [hA]; simp))
   refine beq_eq_false_iff_ne.2 fun e => ?_
   have e2 : (a.toNat : Int) = 45 := e
   omega
end Go.Proofs.YthgknegocfhdbaaDoor

/-
 Parse: the program's and the document's say the same.
-/
namespace Go.Proofs.YthgknegocfhdbaaDoor
open Go.RowKit
theorem rlp_n {z : List UInt8} (hc : Cn z) (hl : z.length ≤ maxLen) (w : World) : Calls Tryd.prog 51 #[tx z] w fun e w' => e = .returned (.tuple #[nv (if pv z < MM then pv z else 0), .int .i64 (if pv z < MM then 0 else 7)]) ∧ Mo w w' := by
 haveI := Classical.propDecidable (isT ⟨z.toArray⟩)
 refine (rparse_n ⟨z.toArray⟩ w (by rw [tx_size]; exact hl)).mono fun e w' ⟨he, hm⟩ => ⟨?_, hm⟩
 rw [he, if_pos (cn_isT hc)]
 unfold resP
 rw [pvk_z8]
 by_cases h : pv z < MM
 ·rw [if_pos h, if_pos h, if_pos h]
 ·rw [if_neg h, if_neg h, if_neg h]; rfl
theorem dw0_woz {L : List UInt8} (h : dw0 L ≠ []) : woz L = dw0 L := by unfold woz; rw [if_neg h]
theorem parse14_df {s : ByteArray} {b : Bool} {A B : List UInt8} (h : Df (by8 s) b A B) (hsz : s.size ≤ 140737488355328) (w : World) : Calls Tryd.prog 33 #[.string s] w fun e w' => e = .returned (pva b A B) ∧ Mo w w' := by
 have hs : s.size ≤ maxLen := by unfold maxLen; omega
 have hpr := prs_df h
 have hlen := h.len
 rw [by8_len] at hlen
 have hwl := woz_len2 (L := A ++ B) (by simp [h.ne])
 simp only [List.length_append] at hwl
 have hw : whl s = true := by rw [whl_dec]; exact dec_df h
 refine (rpa_n s (if nof A B < MM then nof A B else 0) (if nof A B < MM then 0 else 7) w hs hsz (fun hne w => ?_)).mono fun e w' ⟨he, hm⟩ => ⟨?_, hm⟩
 ·rw [hpr] at hne ⊢
  have hne' : dw0 (A ++ B) ≠ [] := fun e => hne (by simp only [e]; rfl)
  rw [show (nl (dw0 (A ++ B)), B.length).1 = nl (dw0 (A ++ B)) from rfl, nl_str, ← dw0_woz hne']
  exact rlp_n (cn_woz h.dg) (by unfold maxLen; omega) w
 ·rw [he]
  congr 1
  unfold rps pva pe
  rw [if_neg (by rw [hw]; simp), hpr, sgn_df h]
  by_cases h18 : 18 < B.length
  ·rw [if_pos h18, if_pos h18, if_neg (by decide)]
  ·rw [if_neg h18, if_neg h18]
   by_cases hz : dw0 (A ++ B) = []
   ·have hn : nof A B = 0 := by
     unfold nof woz
     rw [if_pos hz]; rfl
    rw [if_pos (by rw [hz]; rfl), hn, if_pos (by decide)] <;> rfl
   ·rw [if_neg (by simp only [List.length_map]; exact fun e => hz (List.eq_nil_of_length_eq_zero e))]
    by_cases hM : nof A B < MM
    ·simp only [if_pos hM]
     rfl
    ·simp only [if_neg hM]
     rfl
theorem parse14_no {s : ByteArray} (h : isDec s = false) (hs : s.size ≤ maxLen) (w : World) : Calls Tryd.prog 33 #[.string s] w fun e w' => e = .returned (er 30) ∧ Mo w w' :=
 rpa_no s w hs (by rw [whl_dec]; exact h)
theorem parse_both (s : ByteArray) (hsz : s.size ≤ 140737488355328) : ∃ (b : Bool) (N E : Int) (k : Nat), 0 ≤ N ∧ N < MM ∧ k ≤ 18 ∧ (E = 0 → ck b N (k : Int) = 0) ∧ (E == 30) = !isDec s ∧
  (∀ w, Calls Tryd.prog 48 #[.string s] w fun e w' => e = .returned (.tuple #[dc b N (k : Int), .int .i64 E]) ∧ Mo w w') ∧ (∀ w, Calls Tryd.prog 33 #[.string s] w fun e w' => e = .returned (.tuple #[dc b N (k : Int), .int .i64 E]) ∧ Mo w w') := by
 have hs : s.size ≤ maxLen := by unfold maxLen; omega
 cases hd : isDec s with
 | false => exact ⟨false, 0, 30, 0, by omega, by decide, by omega, fun e => (by cases e), rfl, fun w => parse13_no hd hs w, fun w => parse14_no hd hs w⟩
 | true =>
  obtain ⟨b, A, B, h⟩ := df_dec hd
  have h3 := fun w => parse13_df h hs w
  have h4 := fun w => parse14_df h hsz w
  unfold pva at h3 h4
  by_cases hE : pe A B = 0
  ·simp only [if_pos hE] at h3 h4
   unfold pe at hE
   by_cases h18 : 18 < B.length
   ·rw [if_pos h18] at hE; cases hE
   ·rw [if_neg h18] at hE
    by_cases hM : nof A B < MM
    ·exact ⟨b, nof A B, 0, B.length, h.n0, hM, by omega, fun _ => h.ck (by omega), rfl, h3, h4⟩
    ·rw [if_neg hM] at hE; cases hE
  ·simp only [if_neg hE] at h3 h4
   have h30 : (pe A B == 30) = false := by
    unfold pe
    split
    ·rfl
    ·split <;> rfl
   exact ⟨false, 0, pe A B, 0, by omega, by decide, by omega, fun e => absurd e hE, h30, h3, h4⟩
end Go.Proofs.YthgknegocfhdbaaDoor

/-
 lex.meaning, kind by kind; Blank where there is no such place.
-/
namespace Go.Proofs.YthgknegocfhdbaaDoor.V
open Go.RowKit
theorem sz33 : (Tryd.prog.info? 33).map (·.size) = some 6 := by kernel_rfl
theorem sz35 : (Tryd.prog.info? 35).map (·.size) = some 10 := by kernel_rfl
theorem sz37 : (Tryd.prog.info? 37).map (·.size) = some 13 := by kernel_rfl
theorem eq23 {a b : Int} {r : Bool} (h : (a == b) = r) (x y : Operand) (w : World) : (do eqGuard .eql 23 x y (.int .i64 a) (.int .i64 b); binOp .eql 23 (.int .i64 a) (.int .i64 b)).run Tryd.prog w = .ok (.bool r) w := by
 subst h; kernel_rfl
theorem len_z (ρ : Operand → Value) (x : Operand) (s : ByteArray) (hx : ρ x = .string s) (dst : Option Tmp) (type : TypeId) (pos : String) (after : Array Edge) (guard : Option (Nat × Bool)) (w : World) : (execOp ρ { dst, op := .call { callee := .builtin .len, args := #[x], argTypes := #[9] }, type, pos, after, guard }).run Tryd.prog w = .ok (.value (.int .i64 (s.size : Int))) w := by
 simp [go_sem, hx]
theorem unq_c {s : ByteArray} {r : Bool} (h : (unq s).2 = r) (w : World) (hs : s.size ≤ 140737488355328) : Calls Tryd.prog 20 #[.string s] w fun e w' => e = .returned (.tuple #[.string (unq s).1, .bool r]) ∧ Mw w w' := h ▸ unquote_n s w hs
theorem meaning_1 (s : ByteArray) (w : World) (hs : s.size ≤ maxLen) : Calls Tryd.prog 28 #[.int .i64 (1), .string s] w fun e w' => e = .returned (.tuple #[.agg #[.int .i64 0, .bool false, .int .u64 0, .int .u64 0, .int .u64 0, .int .u64 0, .int .i64 0, .bool false, .string ⟨#[]⟩, .int .i64 0], .bool (nam s)]) ∧ Mw w w' := by
 refine w_enter 45 Tryd.func28 Tryd.ntmps28 rfl rfl ?_
 have M : Mw w w := Mw.refl _
 refine w_seq (w_reg ?_)
 refine wl_alloc 35 #[.int .i64 0, .bool false, .int .u64 0, .int .u64 0, .int .u64 0, .int .u64 0, .int .i64 0, .bool false, .string ⟨#[]⟩, .int .i64 0] rfl (fun _ => by kernel_rfl) rfl ?_
 intro k1 w1 hk hz hq Q1
 have N_k1 : w.heap.size ≤ k1 := by have := M.size; omega
 replace M := M.trans hq
 clear hk hz hq
 refine wl_m (.const (.bool false)) (.bool false) ?_
 refine w_nil (xn_then (w_seq (w_seq (w_reg ?_))))
 refine wl_m (.tmp 0) (.int .i64 (1)) ?_
 refine w_nil (xn_then (w_block (w_seq (w_reg ?_))))
 refine wl_b .eql 3 (.tmp 10) (.const (.int .i64 (1))) (.int .i64 (1)) (.int .i64 (1)) (.bool true) (by kernel_rfl) ?_
 refine wl_m (.tmp 12) (.bool true) ?_
 refine w_nil (xn_then (w_condT rfl (w_seq (w_reg ?_))))
 refine wl_build 35 [] [] (.agg #[.int .i64 0, .bool false, .int .u64 0, .int .u64 0, .int .u64 0, .int .u64 0, .int .i64 0, .bool false, .string ⟨#[]⟩, .int .i64 0]) rfl rfl (by kernel_rfl) rfl ?_
 refine wl_m (.tmp 1) (.string s) ?_
 refine wl_call 16 [(.tmp 14)] _ [.string s] (.bool (nam s)) rfl rfl (fun _ _ => by kernel_rfl) (wk (name_n s _ hs)) rfl ?_
 intro w2 hq
 replace Q1 := Q1.mo hq
 replace M := M.trans hq
 clear hq
 refine wl_st 35 (.tmp 4) (.tmp 13) k1 0 #[.int .i64 0, .bool false, .int .u64 0, .int .u64 0, .int .u64 0, .int .u64 0, .int .i64 0, .bool false, .string ⟨#[]⟩, .int .i64 0] _ [.int .i64 0, .bool false, .int .u64 0, .int .u64 0, .int .u64 0, .int .u64 0, .int .i64 0, .bool false, .string ⟨#[]⟩, .int .i64 0] Q1 rfl rfl rfl rfl rfl sz35 rfl rfl rfl ?_
 intro w3 hS Qn
 replace Q1 := Qn
 clear Qn
 replace M := hS.mo _ N_k1 M
 clear hS
 refine wl_m (.tmp 15) (.bool (nam s)) ?_
 refine w_nil (xn_then (w_ret (xr_blk (xr_then ?_))))
 exact w_ret2 _ _ (.agg #[.int .i64 0, .bool false, .int .u64 0, .int .u64 0, .int .u64 0, .int .u64 0, .int .i64 0, .bool false, .string ⟨#[]⟩, .int .i64 0]) (.bool (nam s)) rfl ⟨k1, rfl, (run_row Q1 35 0 10 _ rfl Tryd.underlying35 rfl sz35)⟩ rfl ⟨rfl, M⟩
theorem meaning_2 (s : ByteArray) (w : World) (b : Bool) (N E : Int) (k : Nat) (hP : ∀ w, Calls Tryd.prog 48 #[.string s] w fun e w' => e = .returned (.tuple #[dc b N (k : Int), .int .i64 E]) ∧ Mo w w') : Calls Tryd.prog 28 #[.int .i64 (2), .string s] w fun e w' => e = .returned (.tuple #[.agg #[.int .i64 1, .bool b, .int .u64 (l0 (N)), .int .u64 (l1 (N)), .int .u64 (l2 (N)), .int .u64 (l3 (N)), .int .i64 ((k : Int)), .bool false, .string ⟨#[]⟩, .int .i64 0], .bool (E == 0)]) ∧ Mw w w' := by
 refine w_enter 45 Tryd.func28 Tryd.ntmps28 rfl rfl ?_
 have M : Mw w w := Mw.refl _
 refine w_seq (w_reg ?_)
 refine wl_alloc 35 #[.int .i64 0, .bool false, .int .u64 0, .int .u64 0, .int .u64 0, .int .u64 0, .int .i64 0, .bool false, .string ⟨#[]⟩, .int .i64 0] rfl (fun _ => by kernel_rfl) rfl ?_
 intro k1 w1 hk hz hq Q1
 have N_k1 : w.heap.size ≤ k1 := by have := M.size; omega
 replace M := M.trans hq
 clear hk hz hq
 refine wl_m (.const (.bool false)) (.bool false) ?_
 refine w_nil (xn_then (w_seq (w_seq (w_reg ?_))))
 refine wl_m (.tmp 0) (.int .i64 (2)) ?_
 refine w_nil (xn_then (w_block (w_seq (w_reg ?_))))
 refine wl_b .eql 3 (.tmp 10) (.const (.int .i64 (1))) (.int .i64 (2)) (.int .i64 (1)) (.bool false) (by kernel_rfl) ?_
 refine wl_m (.tmp 12) (.bool false) ?_
 refine w_nil (xn_then (w_condF rfl (w_seq (w_reg ?_))))
 refine wl_b .eql 3 (.tmp 10) (.const (.int .i64 (2))) (.int .i64 (2)) (.int .i64 (2)) (.bool true) (by kernel_rfl) ?_
 refine wl_m (.tmp 17) (.bool true) ?_
 refine w_nil (xn_then (w_condT rfl (w_seq (w_reg ?_))))
 refine wl_m (.tmp 1) (.string s) ?_
 refine wl_call 48 [(.tmp 19)] _ [.string s] (.tuple #[.agg #[.bool b, .int .u64 (l0 (N)), .int .u64 (l1 (N)), .int .u64 (l2 (N)), .int .u64 (l3 (N)), .int .i64 ((k : Int))], .int .i64 (E)]) rfl rfl (fun _ _ => by kernel_rfl) (wk (hP _)) rfl ?_
 intro w2 hq
 replace Q1 := Q1.mo hq
 replace M := M.trans hq
 clear hq
 refine wl_m (.tmp 20) (.tuple #[.agg #[.bool b, .int .u64 (l0 (N)), .int .u64 (l1 (N)), .int .u64 (l2 (N)), .int .u64 (l3 (N)), .int .i64 ((k : Int))], .int .i64 (E)]) ?_
 refine wl_un (fun v => Instr.extract v 0) (.tmp 18) (.tuple #[.agg #[.bool b, .int .u64 (l0 (N)), .int .u64 (l1 (N)), .int .u64 (l2 (N)), .int .u64 (l3 (N)), .int .i64 ((k : Int))], .int .i64 (E)]) (.agg #[.bool b, .int .u64 (l0 (N)), .int .u64 (l1 (N)), .int .u64 (l2 (N)), .int .u64 (l3 (N)), .int .i64 ((k : Int))]) (fun _ => rfl) rfl (by kernel_rfl) rfl ?_
 refine wl_un (fun v => Instr.extract v 1) (.tmp 18) (.tuple #[.agg #[.bool b, .int .u64 (l0 (N)), .int .u64 (l1 (N)), .int .u64 (l2 (N)), .int .u64 (l3 (N)), .int .i64 ((k : Int))], .int .i64 (E)]) (.int .i64 (E)) (fun _ => rfl) rfl (by kernel_rfl) rfl ?_
 refine wl_alloc 33 #[.bool false, .int .u64 0, .int .u64 0, .int .u64 0, .int .u64 0, .int .i64 0] rfl (fun _ => by kernel_rfl) rfl ?_
 intro k2 w3 hk hz hq Q2
 have ne_k1_k2 : k1 ≠ k2 := by have := Q1.lt; omega
 have N_k2 : w.heap.size ≤ k2 := by have := M.size; omega
 replace Q1 := Q1.mo hq
 replace M := M.trans hq
 clear hk hz hq
 refine wl_st 33 (.tmp 6) (.tmp 21) k2 0 #[.bool b, .int .u64 (l0 (N)), .int .u64 (l1 (N)), .int .u64 (l2 (N)), .int .u64 (l3 (N)), .int .i64 ((k : Int))] _ [.bool b, .int .u64 (l0 (N)), .int .u64 (l1 (N)), .int .u64 (l2 (N)), .int .u64 (l3 (N)), .int .i64 ((k : Int))] Q2 rfl rfl rfl rfl rfl sz33 rfl rfl rfl ?_
 intro w4 hS Qn
 replace Q2 := Qn
 clear Qn
 replace Q1 := hS.other _ _ ne_k1_k2 Q1
 replace M := hS.mo _ N_k2 M
 clear hS
 refine wl_m (.tmp 22) (.int .i64 (E)) ?_
 refine w_nil (xn_then (w_seq ?_))
 cases hf0 : (E == 0) with
 | true =>
  refine w_reg ?_
  refine wl_l 33 (.tmp 6) (pt k2 0) (.agg #[.bool b, .int .u64 (l0 (N)), .int .u64 (l1 (N)), .int .u64 (l2 (N)), .int .u64 (l3 (N)), .int .i64 ((k : Int))]) (run_row Q2 33 0 6 _ rfl Tryd.underlying33 rfl sz33) ?_
  refine wl_build 35 [(0, (.const (.int .i64 (1)))), (1, (.tmp 23))] [(0, .int .i64 (1)), (1, .agg #[.bool b, .int .u64 (l0 (N)), .int .u64 (l1 (N)), .int .u64 (l2 (N)), .int .u64 (l3 (N)), .int .i64 ((k : Int))])] (.agg #[.int .i64 (1), .bool b, .int .u64 (l0 (N)), .int .u64 (l1 (N)), .int .u64 (l2 (N)), .int .u64 (l3 (N)), .int .i64 ((k : Int)), .bool false, .string ⟨#[]⟩, .int .i64 0]) rfl rfl (by kernel_rfl) rfl ?_
  refine wl_m (.tmp 7) (.int .i64 (E)) ?_
  refine wl_b .eql 23 (.tmp 25) (.const (.int .i64 (0))) (.int .i64 (E)) (.int .i64 (0)) (.bool true) (eq23 hf0 _ _ _) ?_
  refine wl_st 35 (.tmp 4) (.tmp 24) k1 0 #[.int .i64 (1), .bool b, .int .u64 (l0 (N)), .int .u64 (l1 (N)), .int .u64 (l2 (N)), .int .u64 (l3 (N)), .int .i64 ((k : Int)), .bool false, .string ⟨#[]⟩, .int .i64 0] _ [.int .i64 (1), .bool b, .int .u64 (l0 (N)), .int .u64 (l1 (N)), .int .u64 (l2 (N)), .int .u64 (l3 (N)), .int .i64 ((k : Int)), .bool false, .string ⟨#[]⟩, .int .i64 0] Q1 rfl rfl rfl rfl rfl sz35 rfl rfl rfl ?_
  intro w5 hS Qn
  replace Q1 := Qn
  clear Qn
  replace Q2 := hS.other _ _ ne_k1_k2.symm Q2
  replace M := hS.mo _ N_k1 M
  clear hS
  refine wl_m (.tmp 26) (.bool true) ?_
  refine w_nil (xn_then (w_ret (xr_blk (xr_then ?_))))
  exact w_ret2 _ _ (.agg #[.int .i64 (1), .bool b, .int .u64 (l0 (N)), .int .u64 (l1 (N)), .int .u64 (l2 (N)), .int .u64 (l3 (N)), .int .i64 ((k : Int)), .bool false, .string ⟨#[]⟩, .int .i64 0]) (.bool true) rfl ⟨k1, rfl, (run_row Q1 35 0 10 _ rfl Tryd.underlying35 rfl sz35)⟩ rfl ⟨rfl, M⟩
 | false =>
  refine w_reg ?_
  refine wl_l 33 (.tmp 6) (pt k2 0) (.agg #[.bool b, .int .u64 (l0 (N)), .int .u64 (l1 (N)), .int .u64 (l2 (N)), .int .u64 (l3 (N)), .int .i64 ((k : Int))]) (run_row Q2 33 0 6 _ rfl Tryd.underlying33 rfl sz33) ?_
  refine wl_build 35 [(0, (.const (.int .i64 (1)))), (1, (.tmp 23))] [(0, .int .i64 (1)), (1, .agg #[.bool b, .int .u64 (l0 (N)), .int .u64 (l1 (N)), .int .u64 (l2 (N)), .int .u64 (l3 (N)), .int .i64 ((k : Int))])] (.agg #[.int .i64 (1), .bool b, .int .u64 (l0 (N)), .int .u64 (l1 (N)), .int .u64 (l2 (N)), .int .u64 (l3 (N)), .int .i64 ((k : Int)), .bool false, .string ⟨#[]⟩, .int .i64 0]) rfl rfl (by kernel_rfl) rfl ?_
  refine wl_m (.tmp 7) (.int .i64 (E)) ?_
  refine wl_b .eql 23 (.tmp 25) (.const (.int .i64 (0))) (.int .i64 (E)) (.int .i64 (0)) (.bool false) (eq23 hf0 _ _ _) ?_
  refine wl_st 35 (.tmp 4) (.tmp 24) k1 0 #[.int .i64 (1), .bool b, .int .u64 (l0 (N)), .int .u64 (l1 (N)), .int .u64 (l2 (N)), .int .u64 (l3 (N)), .int .i64 ((k : Int)), .bool false, .string ⟨#[]⟩, .int .i64 0] _ [.int .i64 (1), .bool b, .int .u64 (l0 (N)), .int .u64 (l1 (N)), .int .u64 (l2 (N)), .int .u64 (l3 (N)), .int .i64 ((k : Int)), .bool false, .string ⟨#[]⟩, .int .i64 0] Q1 rfl rfl rfl rfl rfl sz35 rfl rfl rfl ?_
  intro w5 hS Qn
  replace Q1 := Qn
  clear Qn
  replace Q2 := hS.other _ _ ne_k1_k2.symm Q2
  replace M := hS.mo _ N_k1 M
  clear hS
  refine wl_m (.tmp 26) (.bool false) ?_
  refine w_nil (xn_then (w_ret (xr_blk (xr_then ?_))))
  exact w_ret2 _ _ (.agg #[.int .i64 (1), .bool b, .int .u64 (l0 (N)), .int .u64 (l1 (N)), .int .u64 (l2 (N)), .int .u64 (l3 (N)), .int .i64 ((k : Int)), .bool false, .string ⟨#[]⟩, .int .i64 0]) (.bool false) rfl ⟨k1, rfl, (run_row Q1 35 0 10 _ rfl Tryd.underlying35 rfl sz35)⟩ rfl ⟨rfl, M⟩
theorem meaning_3 (s : ByteArray) (w : World) (hs : s.size ≤ 140737488355328) : Calls Tryd.prog 28 #[.int .i64 (3), .string s] w fun e w' => e = .returned (.tuple #[.agg #[.int .i64 3, .bool false, .int .u64 0, .int .u64 0, .int .u64 0, .int .u64 0, .int .i64 0, .bool false, .string (unq s).1, .int .i64 0], .bool ((unq s).2 && decide ((unq s).1.size ≤ 64))]) ∧ Mw w w' := by
 refine w_enter 45 Tryd.func28 Tryd.ntmps28 rfl rfl ?_
 have M : Mw w w := Mw.refl _
 refine w_seq (w_reg ?_)
 refine wl_alloc 35 #[.int .i64 0, .bool false, .int .u64 0, .int .u64 0, .int .u64 0, .int .u64 0, .int .i64 0, .bool false, .string ⟨#[]⟩, .int .i64 0] rfl (fun _ => by kernel_rfl) rfl ?_
 intro k1 w1 hk hz hq Q1
 have N_k1 : w.heap.size ≤ k1 := by have := M.size; omega
 replace M := M.trans hq
 clear hk hz hq
 refine wl_m (.const (.bool false)) (.bool false) ?_
 refine w_nil (xn_then (w_seq (w_seq (w_reg ?_))))
 refine wl_m (.tmp 0) (.int .i64 (3)) ?_
 refine w_nil (xn_then (w_block (w_seq (w_reg ?_))))
 refine wl_b .eql 3 (.tmp 10) (.const (.int .i64 (1))) (.int .i64 (3)) (.int .i64 (1)) (.bool false) (by kernel_rfl) ?_
 refine wl_m (.tmp 12) (.bool false) ?_
 refine w_nil (xn_then (w_condF rfl (w_seq (w_reg ?_))))
 refine wl_b .eql 3 (.tmp 10) (.const (.int .i64 (2))) (.int .i64 (3)) (.int .i64 (2)) (.bool false) (by kernel_rfl) ?_
 refine wl_m (.tmp 17) (.bool false) ?_
 refine w_nil (xn_then (w_condF rfl (w_seq (w_reg ?_))))
 refine wl_b .eql 3 (.tmp 10) (.const (.int .i64 (3))) (.int .i64 (3)) (.int .i64 (3)) (.bool true) (by kernel_rfl) ?_
 refine wl_m (.tmp 28) (.bool true) ?_
 refine w_nil (xn_then (w_condT rfl (w_seq ?_)))
 cases hf0 : (unq s).2 with
 | true =>
  refine w_reg ?_
  refine wl_m (.tmp 1) (.string s) ?_
  refine wl_call 20 [(.tmp 30)] _ [.string s] (.tuple #[.string (unq s).1, .bool true]) rfl rfl (fun _ _ => by kernel_rfl) (unq_c hf0 _ hs) rfl ?_
  intro w2 hq
  replace Q1 := Q1.mo hq
  replace M := M.trans hq
  clear hq
  refine wl_m (.tmp 31) (.tuple #[.string (unq s).1, .bool true]) ?_
  refine wl_un (fun v => Instr.extract v 0) (.tmp 29) (.tuple #[.string (unq s).1, .bool true]) (.string (unq s).1) (fun _ => rfl) rfl (by kernel_rfl) rfl ?_
  refine wl_un (fun v => Instr.extract v 1) (.tmp 29) (.tuple #[.string (unq s).1, .bool true]) (.bool true) (fun _ => rfl) rfl (by kernel_rfl) rfl ?_
  refine wl_m (.tmp 32) (.string (unq s).1) ?_
  refine wl_m (.tmp 33) (.bool true) ?_
  refine w_nil (xn_then (w_seq ?_))
  cases hf1 : decide ((unq s).1.size ≤ 64) with
  | true =>
   have hf1p := of_decide_eq_true hf1
   refine w_reg ?_
   refine wl_m (.tmp 8) (.string (unq s).1) ?_
   refine wl_build 35 [(0, (.const (.int .i64 (3)))), (3, (.tmp 34))] [(0, .int .i64 (3)), (3, .string (unq s).1)] (.agg #[.int .i64 (3), .bool false, .int .u64 0, .int .u64 0, .int .u64 0, .int .u64 0, .int .i64 0, .bool false, .string (unq s).1, .int .i64 0]) rfl rfl (by kernel_rfl) rfl ?_
   refine wl_m (.tmp 9) (.bool true) ?_
   refine wl_m (.tmp 36) (.bool true) ?_
   refine wl_m (.tmp 8) (.string (unq s).1) ?_
   refine wl_val (.int .i64 (((unq s).1.size : Nat) : Int)) (len_z _ _ (unq s).1 (by exact rfl) _ _ _ _ _ _) rfl ?_
   refine wl_b .leq 3 (.tmp 39) (.const (.int .i64 (64))) (.int .i64 (((unq s).1.size : Nat) : Int)) (.int .i64 (64)) (.bool true) (leN hf1 _ _ _) ?_
   refine wl_pick (.tmp 37) (.tmp 40) (.const (.bool false)) true (.bool true) (fun _ => rfl) rfl rfl rfl ?_
   refine wl_st 35 (.tmp 4) (.tmp 35) k1 0 #[.int .i64 (3), .bool false, .int .u64 0, .int .u64 0, .int .u64 0, .int .u64 0, .int .i64 0, .bool false, .string (unq s).1, .int .i64 0] _ [.int .i64 (3), .bool false, .int .u64 0, .int .u64 0, .int .u64 0, .int .u64 0, .int .i64 0, .bool false, .string (unq s).1, .int .i64 0] Q1 rfl rfl rfl rfl rfl sz35 rfl rfl rfl ?_
   intro w3 hS Qn
   replace Q1 := Qn
   clear Qn
   replace M := hS.mo _ N_k1 M
   clear hS
   refine wl_m (.tmp 41) (.bool true) ?_
   refine w_nil (xn_then (w_ret (xr_blk (xr_then ?_))))
   exact w_ret2 _ _ (.agg #[.int .i64 (3), .bool false, .int .u64 0, .int .u64 0, .int .u64 0, .int .u64 0, .int .i64 0, .bool false, .string (unq s).1, .int .i64 0]) (.bool true) rfl ⟨k1, rfl, (run_row Q1 35 0 10 _ rfl Tryd.underlying35 rfl sz35)⟩ rfl ⟨rfl, M⟩
  | false =>
   have hf1p := of_decide_eq_false hf1
   refine w_reg ?_
   refine wl_m (.tmp 8) (.string (unq s).1) ?_
   refine wl_build 35 [(0, (.const (.int .i64 (3)))), (3, (.tmp 34))] [(0, .int .i64 (3)), (3, .string (unq s).1)] (.agg #[.int .i64 (3), .bool false, .int .u64 0, .int .u64 0, .int .u64 0, .int .u64 0, .int .i64 0, .bool false, .string (unq s).1, .int .i64 0]) rfl rfl (by kernel_rfl) rfl ?_
   refine wl_m (.tmp 9) (.bool true) ?_
   refine wl_m (.tmp 36) (.bool true) ?_
   refine wl_m (.tmp 8) (.string (unq s).1) ?_
   refine wl_val (.int .i64 (((unq s).1.size : Nat) : Int)) (len_z _ _ (unq s).1 (by exact rfl) _ _ _ _ _ _) rfl ?_
   refine wl_b .leq 3 (.tmp 39) (.const (.int .i64 (64))) (.int .i64 (((unq s).1.size : Nat) : Int)) (.int .i64 (64)) (.bool false) (leN hf1 _ _ _) ?_
   refine wl_pick (.tmp 37) (.tmp 40) (.const (.bool false)) true (.bool false) (fun _ => rfl) rfl rfl rfl ?_
   refine wl_st 35 (.tmp 4) (.tmp 35) k1 0 #[.int .i64 (3), .bool false, .int .u64 0, .int .u64 0, .int .u64 0, .int .u64 0, .int .i64 0, .bool false, .string (unq s).1, .int .i64 0] _ [.int .i64 (3), .bool false, .int .u64 0, .int .u64 0, .int .u64 0, .int .u64 0, .int .i64 0, .bool false, .string (unq s).1, .int .i64 0] Q1 rfl rfl rfl rfl rfl sz35 rfl rfl rfl ?_
   intro w3 hS Qn
   replace Q1 := Qn
   clear Qn
   replace M := hS.mo _ N_k1 M
   clear hS
   refine wl_m (.tmp 41) (.bool false) ?_
   refine w_nil (xn_then (w_ret (xr_blk (xr_then ?_))))
   exact w_ret2 _ _ (.agg #[.int .i64 (3), .bool false, .int .u64 0, .int .u64 0, .int .u64 0, .int .u64 0, .int .i64 0, .bool false, .string (unq s).1, .int .i64 0]) (.bool false) rfl ⟨k1, rfl, (run_row Q1 35 0 10 _ rfl Tryd.underlying35 rfl sz35)⟩ rfl ⟨rfl, M⟩
 | false =>
  refine w_reg ?_
  refine wl_m (.tmp 1) (.string s) ?_
  refine wl_call 20 [(.tmp 30)] _ [.string s] (.tuple #[.string (unq s).1, .bool false]) rfl rfl (fun _ _ => by kernel_rfl) (unq_c hf0 _ hs) rfl ?_
  intro w2 hq
  replace Q1 := Q1.mo hq
  replace M := M.trans hq
  clear hq
  refine wl_m (.tmp 31) (.tuple #[.string (unq s).1, .bool false]) ?_
  refine wl_un (fun v => Instr.extract v 0) (.tmp 29) (.tuple #[.string (unq s).1, .bool false]) (.string (unq s).1) (fun _ => rfl) rfl (by kernel_rfl) rfl ?_
  refine wl_un (fun v => Instr.extract v 1) (.tmp 29) (.tuple #[.string (unq s).1, .bool false]) (.bool false) (fun _ => rfl) rfl (by kernel_rfl) rfl ?_
  refine wl_m (.tmp 32) (.string (unq s).1) ?_
  refine wl_m (.tmp 33) (.bool false) ?_
  refine w_nil (xn_then (w_seq (w_reg ?_)))
  refine wl_m (.tmp 8) (.string (unq s).1) ?_
  refine wl_build 35 [(0, (.const (.int .i64 (3)))), (3, (.tmp 34))] [(0, .int .i64 (3)), (3, .string (unq s).1)] (.agg #[.int .i64 (3), .bool false, .int .u64 0, .int .u64 0, .int .u64 0, .int .u64 0, .int .i64 0, .bool false, .string (unq s).1, .int .i64 0]) rfl rfl (by kernel_rfl) rfl ?_
  refine wl_m (.tmp 9) (.bool false) ?_
  refine wl_m (.tmp 36) (.bool false) ?_
  refine wl_skip rfl (wl_skip rfl (wl_skip rfl ?_))
  refine wl_pick (.tmp 37) (.tmp 40) (.const (.bool false)) false (.bool false) (fun _ => rfl) rfl rfl rfl ?_
  refine wl_st 35 (.tmp 4) (.tmp 35) k1 0 #[.int .i64 (3), .bool false, .int .u64 0, .int .u64 0, .int .u64 0, .int .u64 0, .int .i64 0, .bool false, .string (unq s).1, .int .i64 0] _ [.int .i64 (3), .bool false, .int .u64 0, .int .u64 0, .int .u64 0, .int .u64 0, .int .i64 0, .bool false, .string (unq s).1, .int .i64 0] Q1 rfl rfl rfl rfl rfl sz35 rfl rfl rfl ?_
  intro w3 hS Qn
  replace Q1 := Qn
  clear Qn
  replace M := hS.mo _ N_k1 M
  clear hS
  refine wl_m (.tmp 41) (.bool false) ?_
  refine w_nil (xn_then (w_ret (xr_blk (xr_then ?_))))
  exact w_ret2 _ _ (.agg #[.int .i64 (3), .bool false, .int .u64 0, .int .u64 0, .int .u64 0, .int .u64 0, .int .i64 0, .bool false, .string (unq s).1, .int .i64 0]) (.bool false) rfl ⟨k1, rfl, (run_row Q1 35 0 10 _ rfl Tryd.underlying35 rfl sz35)⟩ rfl ⟨rfl, M⟩
theorem meaning_4 (s : ByteArray) (w : World)  : Calls Tryd.prog 28 #[.int .i64 (4), .string s] w fun e w' => e = .returned (.tuple #[.agg #[.int .i64 0, .bool false, .int .u64 0, .int .u64 0, .int .u64 0, .int .u64 0, .int .i64 0, .bool false, .string ⟨#[]⟩, .int .i64 0], .bool (symb s)]) ∧ Mw w w' := by
 refine w_enter 45 Tryd.func28 Tryd.ntmps28 rfl rfl ?_
 have M : Mw w w := Mw.refl _
 refine w_seq (w_reg ?_)
 refine wl_alloc 35 #[.int .i64 0, .bool false, .int .u64 0, .int .u64 0, .int .u64 0, .int .u64 0, .int .i64 0, .bool false, .string ⟨#[]⟩, .int .i64 0] rfl (fun _ => by kernel_rfl) rfl ?_
 intro k1 w1 hk hz hq Q1
 have N_k1 : w.heap.size ≤ k1 := by have := M.size; omega
 replace M := M.trans hq
 clear hk hz hq
 refine wl_m (.const (.bool false)) (.bool false) ?_
 refine w_nil (xn_then (w_seq (w_seq (w_reg ?_))))
 refine wl_m (.tmp 0) (.int .i64 (4)) ?_
 refine w_nil (xn_then (w_block (w_seq (w_reg ?_))))
 refine wl_b .eql 3 (.tmp 10) (.const (.int .i64 (1))) (.int .i64 (4)) (.int .i64 (1)) (.bool false) (by kernel_rfl) ?_
 refine wl_m (.tmp 12) (.bool false) ?_
 refine w_nil (xn_then (w_condF rfl (w_seq (w_reg ?_))))
 refine wl_b .eql 3 (.tmp 10) (.const (.int .i64 (2))) (.int .i64 (4)) (.int .i64 (2)) (.bool false) (by kernel_rfl) ?_
 refine wl_m (.tmp 17) (.bool false) ?_
 refine w_nil (xn_then (w_condF rfl (w_seq (w_reg ?_))))
 refine wl_b .eql 3 (.tmp 10) (.const (.int .i64 (3))) (.int .i64 (4)) (.int .i64 (3)) (.bool false) (by kernel_rfl) ?_
 refine wl_m (.tmp 28) (.bool false) ?_
 refine w_nil (xn_then (w_condF rfl (w_skip (xn_blk (xn_then (w_seq (w_reg ?_)))))))
 refine wl_build 35 [] [] (.agg #[.int .i64 0, .bool false, .int .u64 0, .int .u64 0, .int .u64 0, .int .u64 0, .int .i64 0, .bool false, .string ⟨#[]⟩, .int .i64 0]) rfl rfl (by kernel_rfl) rfl ?_
 refine wl_m (.tmp 1) (.string s) ?_
 refine wl_call 18 [(.tmp 43)] _ [.string s] (.bool (symb s)) rfl rfl (fun _ _ => by kernel_rfl) (wk (sym_n s _)) rfl ?_
 intro w2 hq
 replace Q1 := Q1.mo hq
 replace M := M.trans hq
 clear hq
 refine wl_st 35 (.tmp 4) (.tmp 42) k1 0 #[.int .i64 0, .bool false, .int .u64 0, .int .u64 0, .int .u64 0, .int .u64 0, .int .i64 0, .bool false, .string ⟨#[]⟩, .int .i64 0] _ [.int .i64 0, .bool false, .int .u64 0, .int .u64 0, .int .u64 0, .int .u64 0, .int .i64 0, .bool false, .string ⟨#[]⟩, .int .i64 0] Q1 rfl rfl rfl rfl rfl sz35 rfl rfl rfl ?_
 intro w3 hS Qn
 replace Q1 := Qn
 clear Qn
 replace M := hS.mo _ N_k1 M
 clear hS
 refine wl_m (.tmp 44) (.bool (symb s)) ?_
 refine w_nil (xn_then (w_ret ?_))
 exact w_ret2 _ _ (.agg #[.int .i64 0, .bool false, .int .u64 0, .int .u64 0, .int .u64 0, .int .u64 0, .int .i64 0, .bool false, .string ⟨#[]⟩, .int .i64 0]) (.bool (symb s)) rfl ⟨k1, rfl, (run_row Q1 35 0 10 _ rfl Tryd.underlying35 rfl sz35)⟩ rfl ⟨rfl, M⟩
end Go.Proofs.YthgknegocfhdbaaDoor.V
