/-
  A part of the proof.
-/
import Derived.Test.YthfemlhmnjfjiaaC11
/-
  begun: three rows put in, one set anew.
-/
namespace Go.Proofs.Ythfemlhmnjfjiaa
open Go.RowKit
namespace G
theorem svv_one {w : World} {k : Nat} {x : V10} (h : At w k x.cells) : SVv w (some ⟨k, 0, none⟩) [x] := fun i y e => by
  match i, e with
  | 0, e => cases e; exact ⟨k, 0, rfl, h.2.2, fun j v hv => by have := h.1 j v hv; rw [show 0 + 0 * 10 + j = 0 + j by omega]; exact this⟩
  | i + 1, e => simp at e
theorem sn_one {w : World} {k : Nat} {x : Int} (h : At w k [.int .i64 x]) : SN w (some ⟨k, 0, none⟩) [x] := fun i y e => by
  match i, e with
  | 0, e => cases e; exact ⟨k, 0, rfl, h.2.2, fun j v hv => by have := h.1 j v hv; rw [show 0 + 0 * 1 + j = 0 + j by omega]; exact this⟩
  | i + 1, e => simp at e
section
variable {o : Oper} {n : Nat} {l : List (Nat × Value)} {w : World} {ops : Array Oper} {rest : List Oper} {Q : Exit → Act → World → Prop}
theorem bs22 (a : Int) (w : World) : (Instr.buildSlice 22 1 #[(0, .int .i64 a)]).run Try.prog w = .ok (.slice (some ⟨w.heap.size, 0, none⟩) 1 1) (w.alloc (.cells #[.int .i64 a] 3)) := by kernel_rfl
theorem bs29 (x : V10) (w : World) : (Instr.buildSlice 29 1 #[(0, x.v)]).run Try.prog w = .ok (.slice (some ⟨w.heap.size, 0, none⟩) 1 1) (w.alloc (.cells x.cells.toArray 55)) := by kernel_rfl
theorem wl_bs22_1 (x : Operand) (a : Int) (ho : o.op = .buildSlice 22 1 #[(0, x)]) (hx : evl n l x = .int .i64 a) (hg : wnt n l ops o = true)
    (hk : ∀ k w', w.heap.size = k → w'.heap.size = k + 1 → Mo w w' → At w' k [.int .i64 a] → WL Try.prog ops Q rest n (ext l o.dst (.slice (some ⟨k, 0, none⟩) 1 1)) w') : WL Try.prog ops Q (o :: rest) n l w :=
  ⟨l_step hg (o_val (.slice (some ⟨w.heap.size, 0, none⟩) 1 1) (w' := w.alloc (.cells #[.int .i64 a] 3)) (by
    have h := bs22 a w
    simp only [execOp, ho, List.map_toArray, List.map_cons, List.map_nil, hx, Sem.run_bind, h, Result.andThen_ok]
    simp) (hk _ _ rfl (by simp) ((Mo.refl _).alloc _ _) (At.new w _ 3)).out)⟩
theorem wl_bs29_1 (x : Operand) (a : V10) (ho : o.op = .buildSlice 29 1 #[(0, x)]) (hx : evl n l x = a.v) (hg : wnt n l ops o = true)
    (hk : ∀ k w', w.heap.size = k → w'.heap.size = k + 1 → Mo w w' → At w' k a.cells → WL Try.prog ops Q rest n (ext l o.dst (.slice (some ⟨k, 0, none⟩) 1 1)) w') : WL Try.prog ops Q (o :: rest) n l w :=
  ⟨l_step hg (o_val (.slice (some ⟨w.heap.size, 0, none⟩) 1 1) (w' := w.alloc (.cells a.cells.toArray 55)) (by
    have h := bs29 a w
    simp only [execOp, ho, List.map_toArray, List.map_cons, List.map_nil, hx, Sem.run_bind, h, Result.andThen_ok]
    simp) (hk _ _ rfl (by simp) ((Mo.refl _).alloc _ _) (At.new w _ 55)).out)⟩
end
theorem eqU {a b : Int} {r : Bool} (h : decide (a = b) = r) (x y : Operand) (w : World) : (do eqGuard .eql 34 x y (.int .u64 a) (.int .u64 b); binOp .eql 34 (.int .u64 a) (.int .u64 b)).run Try.prog w = .ok (.bool r) w := by
  have e : (do eqGuard .eql 34 x y (.int .u64 a) (.int .u64 b); binOp .eql 34 (.int .u64 a) (.int .u64 b)).run Try.prog w = .ok (.bool (a == b)) w := by kernel_rfl
  rw [e, ← h]; rfl
theorem Ins.td {tr tr' : T} {at0 : Int} {y : Py} {kn : Nat} (h : Ins tr at0 y kn tr') : tr'.ids = tr.ids.take at0.toNat ++ y :: tr.ids.drop at0.toNat := by
  obtain ⟨A, B, h1, h2, h3⟩ := h.ids
  rw [h1, h3, show at0.toNat = A.length by omega, List.take_left, List.drop_left]
theorem insE_of {tr : T} {nc nv : Nat} {at0 id : Int} (h0 : nv = nc) (h1 : id ∉ tr.is) (h2 : 1 ≤ id) (h3 : id ≤ 9007199254740992) (h4 : tr.sz < 1024) (h5 : 0 ≤ at0) (h6 : at0 ≤ tr.sz) : insE nc tr at0 id nv = 0 := by
  unfold insE
  rw [if_neg (fun h => h h0), if_neg (by omega), if_neg h1, if_neg (by omega), if_neg (by omega)]
def x250 : V10 := ⟨1, ⟨false, 250, 2⟩, false, ⟨#[]⟩, 0⟩
def x100 : V10 := ⟨1, ⟨true, 100, 2⟩, false, ⟨#[]⟩, 0⟩
def x400 : V10 := ⟨1, ⟨false, 400, 2⟩, false, ⟨#[]⟩, 0⟩
section
variable {w : World}
theorem x250_ok : x250.n.ok := ⟨by decide, by unfold x250 MM; decide⟩
theorem x100_ok : x100.n.ok := ⟨by decide, by unfold x100 MM; decide⟩
theorem x400_ok : x400.n.ok := ⟨by decide, by unfold x400 MM; decide⟩
theorem v0_ok : v0.n.ok := d0_ok
theorem begun_n (w : World) : Calls Try.prog 8 #[] w fun e w' => e = .returned (.bool true) ∧ Mo w w' := by
  have e0 : T.e.ids = [] := rfl
  refine w_enter 84 Try.func8 Try.ntmps8 rfl rfl ?_
  have M : Mo w w := Mo.refl _
  refine w_seq ?_
  refine w_reg ?_
  refine wl_mv (.const (.bool false)) (.bool false) (fun _ => rfl) rfl rfl ?_
  refine w_nil ?_
  refine xn_then ?_
  refine w_seq ?_
  refine w_reg ?_
  refine wl_bs22_1 (.const (.int .i64 (2))) (2) rfl rfl rfl ?_
  intro k1 w1 hk hz hq Q1
  have N_k1 : w.heap.size ≤ k1 := by have := M.size; omega
  replace M := M.trans hq
  clear hk hz hq
  refine wl_callx 7 [(.tmp 8)] _ [.slice (some ⟨k1, 0, none⟩) 1 1] rfl rfl (fun _ _ => by kernel_rfl) (new_g (n0 := w.heap.size) (ks := [k1]) (sc := [2]) (sn_one Q1) (by decide) M.size (fun j e => by rw [List.mem_singleton.1 e]; exact Q1.2.2)) rfl ?_
  rintro _ w2 ⟨t, mb, rfl, hG, hsc, ht9, hq⟩
  refine ⟨_, rfl, ?_⟩
  replace M := M.trans hq
  replace Q1 := Q1.mo hq
  clear hq
  refine wl_mv (.tmp 9) (.tuple #[pt t 0, .int .i64 (0)]) (fun _ => rfl) rfl rfl ?_
  refine wl_un (fun v => Instr.extract v 0) (.tmp 7) (.tuple #[pt t 0, .int .i64 (0)]) (pt t 0) (fun _ => rfl) rfl (by kernel_rfl) rfl ?_
  refine wl_un (fun v => Instr.extract v 1) (.tmp 7) (.tuple #[pt t 0, .int .i64 (0)]) (.int .i64 (0)) (fun _ => rfl) rfl (by kernel_rfl) rfl ?_
  refine wl_mv (.tmp 10) (pt t 0) (fun _ => rfl) rfl rfl ?_
  refine wl_mv (.tmp 11) (.int .i64 (0)) (fun _ => rfl) rfl rfl ?_
  refine w_nil ?_
  refine xn_then ?_
  refine w_seq ?_
  refine w_seq ?_
  refine w_reg ?_
  refine wl_mv (.tmp 1) (pt t 0) (fun _ => rfl) rfl rfl ?_
  refine wl_bin (fun x y => do eqGuard .eql 24 (.tmp 12) (.const (.pointer none)) x y; binOp .eql 24 x y) (.tmp 12) (.const (.pointer none)) (pt t 0) (pp none) (.bool false) (fun _ => rfl) rfl rfl (eqT _ _ _ _) rfl ?_
  refine wl_mv (.tmp 13) (.bool false) (fun _ => rfl) rfl rfl ?_
  refine wl_mv (.tmp 2) (.int .i64 (0)) (fun _ => rfl) rfl rfl ?_
  refine wl_bin (fun x y => do eqGuard .neq 25 (.tmp 15) (.const (.int .i64 (0))) x y; binOp .neq 25 x y) (.tmp 15) (.const (.int .i64 (0))) (.int .i64 (0)) (.int .i64 (0)) (.bool false) (fun _ => rfl) rfl rfl (by kernel_rfl) rfl ?_
  refine wl_pick (.tmp 14) (.const (.bool true)) (.tmp 16) false (.bool false) (fun _ => rfl) rfl rfl rfl ?_
  refine wl_mv (.tmp 17) (.bool false) (fun _ => rfl) rfl rfl ?_
  refine wl_mv (.tmp 1) (pt t 0) (fun _ => rfl) rfl rfl ?_
  refine wl_call 28 [(.const (.int .i64 (250))), (.const (.int .i64 (2)))] _ [.int .i64 (250), .int .i64 (2)] (.agg #[.int .i64 (x250.K), .bool x250.n.b, .int .u64 (l0 x250.n.n), .int .u64 (l1 x250.n.n), .int .u64 (l2 x250.n.n), .int .u64 (l3 x250.n.n), .int .i64 (x250.n.s), .bool x250.fl, .string x250.tx, .int .i64 (x250.er)]) rfl rfl (fun _ _ => by kernel_rfl) (num_p (n := 250) (s := 2) (by decide) rfl rfl rfl) rfl ?_
  intro w3 hq
  replace Q1 := Q1.mo hq
  replace hG := hG.mo hq
  replace M := M.trans hq
  clear hq
  refine wl_bs29_1 (.tmp 20) x250 rfl rfl rfl ?_
  intro k2 w4 hk hz hq Q2
  have ne_k1_k2 : k1 ≠ k2 := by have := Q1.lt; omega
  have N_k2 : w.heap.size ≤ k2 := by have := M.size; omega
  replace hG := hG.push (Nat.le_of_eq hk) (by omega) hq
  replace Q1 := Q1.mo hq
  replace M := M.trans hq
  clear hk hz hq
  refine wl_callx 9 [(.tmp 19), (.const (.int .i64 (0))), (.const (.int .i64 (1))), (.tmp 21)] _ [pt t 0, .int .i64 (0), .int .i64 (1), .slice (some ⟨k2, 0, none⟩) 1 1] rfl rfl (fun _ _ => by kernel_rfl) (insert_g (vs := [x250]) hG (insE_of (by rw [hsc]; rfl) (by unfold T.is; rw [e0]; show (1 : Int) ∉ ([] : List Int); decide) (by decide) (by decide) (by rw [T.sz_ids, e0]; show ((0 : Nat) : Int) < 1024; decide) (by decide) (by rw [T.sz_ids, e0]; show (0 : Int) ≤ ((0 : Nat) : Int); decide)) (by omega) (fun w9 m9 => svv_one (Wr.at m9 Q2 (by simp))) (fun z hz => by rw [List.mem_singleton.1 hz]; exact x250_ok)) rfl ?_
  rintro _ w5 ⟨y1, kn1, tr1, lk1, rfl, hI1, hG, hl1, hu1, hM2⟩
  refine ⟨_, rfl, ?_⟩
  have e1 : tr1.ids = [⟨1, y1, [x250]⟩] := by have := hI1.td; rw [e0] at this; exact this
  replace hu1 : lk1 ≤ 0 + 10 * 1024 + 8 := by have := T.ht_le .e; have := T.sz_ids .e; rw [e0] at this; simp only [List.length_nil] at this; omega
  clear hI1
  replace M := Wr.mo hM2 M (Nat.le_refl _)
  replace Q1 := Wr.at hM2 Q1 (by simp)
  replace Q2 := Wr.at hM2 Q2 (by simp)
  clear hM2
  refine wl_bin (fun x y => do eqGuard .neq 25 (.tmp 22) (.const (.int .i64 (0))) x y; binOp .neq 25 x y) (.tmp 22) (.const (.int .i64 (0))) (.int .i64 (0)) (.int .i64 (0)) (.bool false) (fun _ => rfl) rfl rfl (by kernel_rfl) rfl ?_
  refine wl_pick (.tmp 18) (.const (.bool true)) (.tmp 23) false (.bool false) (fun _ => rfl) rfl rfl rfl ?_
  refine wl_mv (.tmp 24) (.bool false) (fun _ => rfl) rfl rfl ?_
  refine wl_mv (.tmp 1) (pt t 0) (fun _ => rfl) rfl rfl ?_
  refine wl_build 55 [] [] (.agg #[.int .i64 0, .bool false, .int .u64 0, .int .u64 0, .int .u64 0, .int .u64 0, .int .i64 0, .bool false, .string ⟨#[]⟩, .int .i64 0]) rfl rfl (by kernel_rfl) rfl ?_
  refine wl_bs29_1 (.tmp 27) v0 rfl rfl rfl ?_
  intro k3 w6 hk hz hq Q3
  have ne_k1_k3 : k1 ≠ k3 := by have := Q1.lt; omega
  have ne_k2_k3 : k2 ≠ k3 := by have := Q2.lt; omega
  have N_k3 : w.heap.size ≤ k3 := by have := M.size; omega
  replace hG := hG.push (Nat.le_of_eq hk) (by omega) hq
  replace Q1 := Q1.mo hq
  replace Q2 := Q2.mo hq
  replace M := M.trans hq
  clear hk hz hq
  refine wl_callx 9 [(.tmp 26), (.const (.int .i64 (1))), (.const (.int .i64 (2))), (.tmp 28)] _ [pt t 0, .int .i64 (1), .int .i64 (2), .slice (some ⟨k3, 0, none⟩) 1 1] rfl rfl (fun _ _ => by kernel_rfl) (insert_g (vs := [v0]) hG (insE_of (by rw [hsc]; rfl) (by unfold T.is; rw [e1]; show (2 : Int) ∉ ([1] : List Int); decide) (by decide) (by decide) (by rw [T.sz_ids, e1]; show ((1 : Nat) : Int) < 1024; decide) (by decide) (by rw [T.sz_ids, e1]; show (1 : Int) ≤ ((1 : Nat) : Int); decide)) (by omega) (fun w9 m9 => svv_one (Wr.at m9 Q3 (by simp))) (fun z hz => by rw [List.mem_singleton.1 hz]; exact v0_ok)) rfl ?_
  rintro _ w7 ⟨y2, kn2, tr2, lk2, rfl, hI2, hG, hl2, hu2, hM2⟩
  refine ⟨_, rfl, ?_⟩
  have e2 : tr2.ids = [⟨1, y1, [x250]⟩, ⟨2, y2, [v0]⟩] := by have := hI2.td; rw [e1] at this; exact this
  replace hu2 : lk2 ≤ lk1 + 10 * 1024 + 8 := by have := T.ht_le tr1; have := T.sz_ids tr1; rw [e1] at this; simp only [List.length_cons, List.length_nil] at this; omega
  clear hI2
  replace M := Wr.mo hM2 M (Nat.le_refl _)
  replace Q1 := Wr.at hM2 Q1 (by simp)
  replace Q2 := Wr.at hM2 Q2 (by simp)
  replace Q3 := Wr.at hM2 Q3 (by simp)
  clear hM2
  refine wl_bin (fun x y => do eqGuard .neq 25 (.tmp 29) (.const (.int .i64 (0))) x y; binOp .neq 25 x y) (.tmp 29) (.const (.int .i64 (0))) (.int .i64 (0)) (.int .i64 (0)) (.bool false) (fun _ => rfl) rfl rfl (by kernel_rfl) rfl ?_
  refine wl_pick (.tmp 25) (.const (.bool true)) (.tmp 30) false (.bool false) (fun _ => rfl) rfl rfl rfl ?_
  refine wl_mv (.tmp 31) (.bool false) (fun _ => rfl) rfl rfl ?_
  refine wl_mv (.tmp 1) (pt t 0) (fun _ => rfl) rfl rfl ?_
  refine wl_call 28 [(.const (.int .i64 (-100))), (.const (.int .i64 (2)))] _ [.int .i64 (-100), .int .i64 (2)] (.agg #[.int .i64 (x100.K), .bool x100.n.b, .int .u64 (l0 x100.n.n), .int .u64 (l1 x100.n.n), .int .u64 (l2 x100.n.n), .int .u64 (l3 x100.n.n), .int .i64 (x100.n.s), .bool x100.fl, .string x100.tx, .int .i64 (x100.er)]) rfl rfl (fun _ _ => by kernel_rfl) (num_m (n := -100) (s := 2) (by decide) rfl rfl rfl) rfl ?_
  intro w8 hq
  replace Q1 := Q1.mo hq
  replace Q2 := Q2.mo hq
  replace Q3 := Q3.mo hq
  replace hG := hG.mo hq
  replace M := M.trans hq
  clear hq
  refine wl_bs29_1 (.tmp 34) x100 rfl rfl rfl ?_
  intro k4 w9 hk hz hq Q4
  have ne_k1_k4 : k1 ≠ k4 := by have := Q1.lt; omega
  have ne_k2_k4 : k2 ≠ k4 := by have := Q2.lt; omega
  have ne_k3_k4 : k3 ≠ k4 := by have := Q3.lt; omega
  have N_k4 : w.heap.size ≤ k4 := by have := M.size; omega
  replace hG := hG.push (Nat.le_of_eq hk) (by omega) hq
  replace Q1 := Q1.mo hq
  replace Q2 := Q2.mo hq
  replace Q3 := Q3.mo hq
  replace M := M.trans hq
  clear hk hz hq
  refine wl_callx 9 [(.tmp 33), (.const (.int .i64 (1))), (.const (.int .i64 (3))), (.tmp 35)] _ [pt t 0, .int .i64 (1), .int .i64 (3), .slice (some ⟨k4, 0, none⟩) 1 1] rfl rfl (fun _ _ => by kernel_rfl) (insert_g (vs := [x100]) hG (insE_of (by rw [hsc]; rfl) (by unfold T.is; rw [e2]; show (3 : Int) ∉ ([1, 2] : List Int); decide) (by decide) (by decide) (by rw [T.sz_ids, e2]; show ((2 : Nat) : Int) < 1024; decide) (by decide) (by rw [T.sz_ids, e2]; show (1 : Int) ≤ ((2 : Nat) : Int); decide)) (by omega) (fun w9 m9 => svv_one (Wr.at m9 Q4 (by simp))) (fun z hz => by rw [List.mem_singleton.1 hz]; exact x100_ok)) rfl ?_
  rintro _ w10 ⟨y3, kn3, tr3, lk3, rfl, hI3, hG, hl3, hu3, hM2⟩
  refine ⟨_, rfl, ?_⟩
  have e3 : tr3.ids = [⟨1, y1, [x250]⟩, ⟨3, y3, [x100]⟩, ⟨2, y2, [v0]⟩] := by have := hI3.td; rw [e2] at this; exact this
  replace hu3 : lk3 ≤ lk2 + 10 * 1024 + 8 := by have := T.ht_le tr2; have := T.sz_ids tr2; rw [e2] at this; simp only [List.length_cons, List.length_nil] at this; omega
  clear hI3
  replace M := Wr.mo hM2 M (Nat.le_refl _)
  replace Q1 := Wr.at hM2 Q1 (by simp)
  replace Q2 := Wr.at hM2 Q2 (by simp)
  replace Q3 := Wr.at hM2 Q3 (by simp)
  replace Q4 := Wr.at hM2 Q4 (by simp)
  clear hM2
  refine wl_bin (fun x y => do eqGuard .neq 25 (.tmp 36) (.const (.int .i64 (0))) x y; binOp .neq 25 x y) (.tmp 36) (.const (.int .i64 (0))) (.int .i64 (0)) (.int .i64 (0)) (.bool false) (fun _ => rfl) rfl rfl (by kernel_rfl) rfl ?_
  refine wl_pick (.tmp 32) (.const (.bool true)) (.tmp 37) false (.bool false) (fun _ => rfl) rfl rfl rfl ?_
  refine w_nil ?_
  refine xn_then ?_
  refine w_condF rfl ?_
  refine w_skip ?_
  refine xn_then ?_
  refine w_seq ?_
  refine w_reg ?_
  refine wl_mv (.tmp 1) (pt t 0) (fun _ => rfl) rfl rfl ?_
  refine wl_callx 12 [(.tmp 40), (.const (.int .i64 (0)))] _ [pt t 0, .int .i64 (0)] rfl rfl (fun _ _ => by kernel_rfl) (sum_any hG (by omega)) rfl ?_
  rintro _ w11 ⟨Sa, cd1, lk40, rfl, hG, hc9, hv1, hw1, hM2⟩
  refine ⟨_, rfl, ?_⟩
  obtain ⟨_, rfl, hSa⟩ : _ ∧ _ ∧ _ := hc9.resolve_right (fun h => h.1 (by rw [hsc]; decide))
  replace hSa : Sa = col 0 2 [⟨1, y1, [x250]⟩, ⟨3, y3, [x100]⟩, ⟨2, y2, [v0]⟩] := by rw [hSa, hsc, e3]; rfl
  have qf : decide (Sa.f = 2) = true := by rw [hSa]; rfl
  have qk : decide (Sa.k = 1) = true := by rw [hSa]; rfl
  have qt : decide (l0 (Sa).tt = 150) = true := by rw [hSa]; rfl
  clear hc9
  replace M := Wr.mo hM2 M (Nat.le_refl _)
  replace Q1 := Wr.at hM2 Q1 (by simp)
  replace Q2 := Wr.at hM2 Q2 (by simp)
  replace Q3 := Wr.at hM2 Q3 (by simp)
  replace Q4 := Wr.at hM2 Q4 (by simp)
  clear hM2
  refine wl_mv (.tmp 41) (.tuple #[.agg #[.int .i64 (Sa).r, .int .i64 (Sa).f, .int .i64 (Sa).k, .int .i64 (Sa).d, .int .i64 (Sa).e, .int .u64 (l0 (Sa).tt), .int .u64 (l1 (Sa).tt), .int .u64 (l2 (Sa).tt), .int .u64 (l3 (Sa).tt), .int .u64 (l4 (Sa).tt), .bool (Sa).so, .bool (Sa).mn.b, .int .u64 (l0 (Sa).mn.n), .int .u64 (l1 (Sa).mn.n), .int .u64 (l2 (Sa).mn.n), .int .u64 (l3 (Sa).mn.n), .int .i64 (Sa).mn.s, .bool (Sa).mx.b, .int .u64 (l0 (Sa).mx.n), .int .u64 (l1 (Sa).mx.n), .int .u64 (l2 (Sa).mx.n), .int .u64 (l3 (Sa).mx.n), .int .i64 (Sa).mx.s], .int .i64 (0)]) (fun _ => rfl) rfl rfl ?_
  refine wl_un (fun v => Instr.extract v 0) (.tmp 39) (.tuple #[.agg #[.int .i64 (Sa).r, .int .i64 (Sa).f, .int .i64 (Sa).k, .int .i64 (Sa).d, .int .i64 (Sa).e, .int .u64 (l0 (Sa).tt), .int .u64 (l1 (Sa).tt), .int .u64 (l2 (Sa).tt), .int .u64 (l3 (Sa).tt), .int .u64 (l4 (Sa).tt), .bool (Sa).so, .bool (Sa).mn.b, .int .u64 (l0 (Sa).mn.n), .int .u64 (l1 (Sa).mn.n), .int .u64 (l2 (Sa).mn.n), .int .u64 (l3 (Sa).mn.n), .int .i64 (Sa).mn.s, .bool (Sa).mx.b, .int .u64 (l0 (Sa).mx.n), .int .u64 (l1 (Sa).mx.n), .int .u64 (l2 (Sa).mx.n), .int .u64 (l3 (Sa).mx.n), .int .i64 (Sa).mx.s], .int .i64 (0)]) (.agg #[.int .i64 (Sa).r, .int .i64 (Sa).f, .int .i64 (Sa).k, .int .i64 (Sa).d, .int .i64 (Sa).e, .int .u64 (l0 (Sa).tt), .int .u64 (l1 (Sa).tt), .int .u64 (l2 (Sa).tt), .int .u64 (l3 (Sa).tt), .int .u64 (l4 (Sa).tt), .bool (Sa).so, .bool (Sa).mn.b, .int .u64 (l0 (Sa).mn.n), .int .u64 (l1 (Sa).mn.n), .int .u64 (l2 (Sa).mn.n), .int .u64 (l3 (Sa).mn.n), .int .i64 (Sa).mn.s, .bool (Sa).mx.b, .int .u64 (l0 (Sa).mx.n), .int .u64 (l1 (Sa).mx.n), .int .u64 (l2 (Sa).mx.n), .int .u64 (l3 (Sa).mx.n), .int .i64 (Sa).mx.s]) (fun _ => rfl) rfl (by kernel_rfl) rfl ?_
  refine wl_un (fun v => Instr.extract v 1) (.tmp 39) (.tuple #[.agg #[.int .i64 (Sa).r, .int .i64 (Sa).f, .int .i64 (Sa).k, .int .i64 (Sa).d, .int .i64 (Sa).e, .int .u64 (l0 (Sa).tt), .int .u64 (l1 (Sa).tt), .int .u64 (l2 (Sa).tt), .int .u64 (l3 (Sa).tt), .int .u64 (l4 (Sa).tt), .bool (Sa).so, .bool (Sa).mn.b, .int .u64 (l0 (Sa).mn.n), .int .u64 (l1 (Sa).mn.n), .int .u64 (l2 (Sa).mn.n), .int .u64 (l3 (Sa).mn.n), .int .i64 (Sa).mn.s, .bool (Sa).mx.b, .int .u64 (l0 (Sa).mx.n), .int .u64 (l1 (Sa).mx.n), .int .u64 (l2 (Sa).mx.n), .int .u64 (l3 (Sa).mx.n), .int .i64 (Sa).mx.s], .int .i64 (0)]) (.int .i64 (0)) (fun _ => rfl) rfl (by kernel_rfl) rfl ?_
  refine wl_alloc 42 #[.int .i64 0, .int .i64 0, .int .i64 0, .int .i64 0, .int .i64 0, .int .u64 0, .int .u64 0, .int .u64 0, .int .u64 0, .int .u64 0, .bool false, .bool false, .int .u64 0, .int .u64 0, .int .u64 0, .int .u64 0, .int .i64 0, .bool false, .int .u64 0, .int .u64 0, .int .u64 0, .int .u64 0, .int .i64 0] rfl (fun _ => by kernel_rfl) rfl ?_
  intro k5 w12 hk hz hq Q5
  have ne_k1_k5 : k1 ≠ k5 := by have := Q1.lt; omega
  have ne_k2_k5 : k2 ≠ k5 := by have := Q2.lt; omega
  have ne_k3_k5 : k3 ≠ k5 := by have := Q3.lt; omega
  have ne_k4_k5 : k4 ≠ k5 := by have := Q4.lt; omega
  have N_k5 : w.heap.size ≤ k5 := by have := M.size; omega
  replace hG := hG.push (Nat.le_of_eq hk) (by omega) hq
  replace Q1 := Q1.mo hq
  replace Q2 := Q2.mo hq
  replace Q3 := Q3.mo hq
  replace Q4 := Q4.mo hq
  replace M := M.trans hq
  clear hk hz hq
  refine wl_stx2 42 (.tmp 3) (.tmp 42) k5 0 #[.int .i64 (Sa).r, .int .i64 (Sa).f, .int .i64 (Sa).k, .int .i64 (Sa).d, .int .i64 (Sa).e, .int .u64 (l0 (Sa).tt), .int .u64 (l1 (Sa).tt), .int .u64 (l2 (Sa).tt), .int .u64 (l3 (Sa).tt), .int .u64 (l4 (Sa).tt), .bool (Sa).so, .bool (Sa).mn.b, .int .u64 (l0 (Sa).mn.n), .int .u64 (l1 (Sa).mn.n), .int .u64 (l2 (Sa).mn.n), .int .u64 (l3 (Sa).mn.n), .int .i64 (Sa).mn.s, .bool (Sa).mx.b, .int .u64 (l0 (Sa).mx.n), .int .u64 (l1 (Sa).mx.n), .int .u64 (l2 (Sa).mx.n), .int .u64 (l3 (Sa).mx.n), .int .i64 (Sa).mx.s] [.int .i64 0, .int .i64 0, .int .i64 0, .int .i64 0, .int .i64 0, .int .u64 0, .int .u64 0, .int .u64 0, .int .u64 0, .int .u64 0, .bool false, .bool false, .int .u64 0, .int .u64 0, .int .u64 0, .int .u64 0, .int .i64 0, .bool false, .int .u64 0, .int .u64 0, .int .u64 0, .int .u64 0, .int .i64 0] [.int .i64 (Sa).r, .int .i64 (Sa).f, .int .i64 (Sa).k, .int .i64 (Sa).d, .int .i64 (Sa).e, .int .u64 (l0 (Sa).tt), .int .u64 (l1 (Sa).tt), .int .u64 (l2 (Sa).tt), .int .u64 (l3 (Sa).tt), .int .u64 (l4 (Sa).tt), .bool (Sa).so, .bool (Sa).mn.b, .int .u64 (l0 (Sa).mn.n), .int .u64 (l1 (Sa).mn.n), .int .u64 (l2 (Sa).mn.n), .int .u64 (l3 (Sa).mn.n), .int .i64 (Sa).mn.s, .bool (Sa).mx.b, .int .u64 (l0 (Sa).mx.n), .int .u64 (l1 (Sa).mx.n), .int .u64 (l2 (Sa).mx.n), .int .u64 (l3 (Sa).mx.n), .int .i64 (Sa).mx.s] Q5 rfl rfl rfl rfl rfl zs42 rfl rfl rfl ?_
  intro w13 hT Qn
  replace Q5 := Qn
  clear Qn
  replace Q1 := hT.other _ _ ne_k1_k5 Q1
  replace Q2 := hT.other _ _ ne_k2_k5 Q2
  replace Q3 := hT.other _ _ ne_k3_k5 Q3
  replace Q4 := hT.other _ _ ne_k4_k5 Q4
  replace hG := hG.st hT (by simp)
  replace M := (Mk.refl (fun j => j = k5) _ |>.st hT rfl).mo M (fun _ e => e ▸ N_k5)
  clear hT
  refine wl_mv (.tmp 43) (.int .i64 (0)) (fun _ => rfl) rfl rfl ?_
  refine w_nil ?_
  refine xn_then ?_
  refine w_seq ?_
  refine w_reg ?_
  refine wl_mv (.tmp 1) (pt t 0) (fun _ => rfl) rfl rfl ?_
  refine wl_call 28 [(.const (.int .i64 (400))), (.const (.int .i64 (2)))] _ [.int .i64 (400), .int .i64 (2)] (.agg #[.int .i64 (x400.K), .bool x400.n.b, .int .u64 (l0 x400.n.n), .int .u64 (l1 x400.n.n), .int .u64 (l2 x400.n.n), .int .u64 (l3 x400.n.n), .int .i64 (x400.n.s), .bool x400.fl, .string x400.tx, .int .i64 (x400.er)]) rfl rfl (fun _ _ => by kernel_rfl) (num_p (n := 400) (s := 2) (by decide) rfl rfl rfl) rfl ?_
  intro w14 hq
  replace Q1 := Q1.mo hq
  replace Q2 := Q2.mo hq
  replace Q3 := Q3.mo hq
  replace Q4 := Q4.mo hq
  replace Q5 := Q5.mo hq
  replace hG := hG.mo hq
  replace M := M.trans hq
  clear hq
  refine wl_callx 17 [(.tmp 44), (.const (.int .i64 (3))), (.const (.int .i64 (0))), (.tmp 45)] _ [pt t 0, .int .i64 (3), .int .i64 (0), .agg #[.int .i64 (x400.K), .bool x400.n.b, .int .u64 (l0 x400.n.n), .int .u64 (l1 x400.n.n), .int .u64 (l2 x400.n.n), .int .u64 (l3 x400.n.n), .int .i64 (x400.n.s), .bool x400.fl, .string x400.tx, .int .i64 (x400.er)]] rfl rfl (fun _ _ => by kernel_rfl) (set_any (x := x400) hG ⟨by decide, by decide⟩ x400_ok (by omega)) rfl ?_
  rintro _ w15 ⟨cc9, tr4, lk4, rfl, hG, hc9, hl7, hu7, hM2⟩
  refine ⟨_, rfl, ?_⟩
  rcases hc9 with ⟨rfl, _, _, ⟨A9, B9, y9, hA9, hy9, hB9, _⟩, _⟩ | ⟨hno, _, _⟩
  rotate_left
  · exfalso
    rcases hno with ⟨_, h⟩ | ⟨_, _, _, h⟩
    · rw [hsc] at h; simp at h
    · exact h (by unfold T.is; rw [e3]; show (3 : Int) ∈ ([1, 3, 2] : List Int); decide)
  have e4 : tr4.ids = [⟨1, y1, [x250]⟩, ⟨3, y3, [x400]⟩, ⟨2, y2, [v0]⟩] := by
    rw [e3] at hA9
    rw [hB9]
    match A9, hA9 with
    | [], h => cases h; cases hy9
    | [a], h => cases h; rfl
    | [a, b], h => cases h; cases hy9
    | a :: b :: c :: L, h => simp at h
  clear hA9 hB9 hy9
  replace hu7 : lk4 ≤ lk40 + 3 * 1024 := by have := T.ht_le tr3; have := T.sz_ids tr3; rw [e3] at this; simp only [List.length_cons, List.length_nil] at this; omega
  replace M := Wr.mo hM2 M (Nat.le_refl _)
  replace Q1 := Wr.at hM2 Q1 (by simp)
  replace Q2 := Wr.at hM2 Q2 (by simp)
  replace Q3 := Wr.at hM2 Q3 (by simp)
  replace Q4 := Wr.at hM2 Q4 (by simp)
  replace Q5 := Wr.at hM2 Q5 (by simp)
  clear hM2
  refine wl_mv (.tmp 46) (.int .i64 (0)) (fun _ => rfl) rfl rfl ?_
  refine w_nil ?_
  refine xn_then ?_
  refine w_seq ?_
  refine w_reg ?_
  refine wl_mv (.tmp 1) (pt t 0) (fun _ => rfl) rfl rfl ?_
  refine wl_callx 12 [(.tmp 48), (.const (.int .i64 (0)))] _ [pt t 0, .int .i64 (0)] rfl rfl (fun _ _ => by kernel_rfl) (sum_any hG (by omega)) rfl ?_
  rintro _ w16 ⟨Sb, cd2, lk50, rfl, hG, hc9, hv2, hw2, hM2⟩
  refine ⟨_, rfl, ?_⟩
  obtain ⟨_, rfl, hSb⟩ : _ ∧ _ ∧ _ := hc9.resolve_right (fun h => h.1 (by rw [hsc]; decide))
  replace hSb : Sb = col 0 2 [⟨1, y1, [x250]⟩, ⟨3, y3, [x400]⟩, ⟨2, y2, [v0]⟩] := by rw [hSb, hsc, e4]; rfl
  have qu : decide (l0 (Sb).tt = 650) = true := by rw [hSb]; rfl
  clear hc9
  replace M := Wr.mo hM2 M (Nat.le_refl _)
  replace Q1 := Wr.at hM2 Q1 (by simp)
  replace Q2 := Wr.at hM2 Q2 (by simp)
  replace Q3 := Wr.at hM2 Q3 (by simp)
  replace Q4 := Wr.at hM2 Q4 (by simp)
  replace Q5 := Wr.at hM2 Q5 (by simp)
  clear hM2
  refine wl_mv (.tmp 49) (.tuple #[.agg #[.int .i64 (Sb).r, .int .i64 (Sb).f, .int .i64 (Sb).k, .int .i64 (Sb).d, .int .i64 (Sb).e, .int .u64 (l0 (Sb).tt), .int .u64 (l1 (Sb).tt), .int .u64 (l2 (Sb).tt), .int .u64 (l3 (Sb).tt), .int .u64 (l4 (Sb).tt), .bool (Sb).so, .bool (Sb).mn.b, .int .u64 (l0 (Sb).mn.n), .int .u64 (l1 (Sb).mn.n), .int .u64 (l2 (Sb).mn.n), .int .u64 (l3 (Sb).mn.n), .int .i64 (Sb).mn.s, .bool (Sb).mx.b, .int .u64 (l0 (Sb).mx.n), .int .u64 (l1 (Sb).mx.n), .int .u64 (l2 (Sb).mx.n), .int .u64 (l3 (Sb).mx.n), .int .i64 (Sb).mx.s], .int .i64 (0)]) (fun _ => rfl) rfl rfl ?_
  refine wl_un (fun v => Instr.extract v 0) (.tmp 47) (.tuple #[.agg #[.int .i64 (Sb).r, .int .i64 (Sb).f, .int .i64 (Sb).k, .int .i64 (Sb).d, .int .i64 (Sb).e, .int .u64 (l0 (Sb).tt), .int .u64 (l1 (Sb).tt), .int .u64 (l2 (Sb).tt), .int .u64 (l3 (Sb).tt), .int .u64 (l4 (Sb).tt), .bool (Sb).so, .bool (Sb).mn.b, .int .u64 (l0 (Sb).mn.n), .int .u64 (l1 (Sb).mn.n), .int .u64 (l2 (Sb).mn.n), .int .u64 (l3 (Sb).mn.n), .int .i64 (Sb).mn.s, .bool (Sb).mx.b, .int .u64 (l0 (Sb).mx.n), .int .u64 (l1 (Sb).mx.n), .int .u64 (l2 (Sb).mx.n), .int .u64 (l3 (Sb).mx.n), .int .i64 (Sb).mx.s], .int .i64 (0)]) (.agg #[.int .i64 (Sb).r, .int .i64 (Sb).f, .int .i64 (Sb).k, .int .i64 (Sb).d, .int .i64 (Sb).e, .int .u64 (l0 (Sb).tt), .int .u64 (l1 (Sb).tt), .int .u64 (l2 (Sb).tt), .int .u64 (l3 (Sb).tt), .int .u64 (l4 (Sb).tt), .bool (Sb).so, .bool (Sb).mn.b, .int .u64 (l0 (Sb).mn.n), .int .u64 (l1 (Sb).mn.n), .int .u64 (l2 (Sb).mn.n), .int .u64 (l3 (Sb).mn.n), .int .i64 (Sb).mn.s, .bool (Sb).mx.b, .int .u64 (l0 (Sb).mx.n), .int .u64 (l1 (Sb).mx.n), .int .u64 (l2 (Sb).mx.n), .int .u64 (l3 (Sb).mx.n), .int .i64 (Sb).mx.s]) (fun _ => rfl) rfl (by kernel_rfl) rfl ?_
  refine wl_un (fun v => Instr.extract v 1) (.tmp 47) (.tuple #[.agg #[.int .i64 (Sb).r, .int .i64 (Sb).f, .int .i64 (Sb).k, .int .i64 (Sb).d, .int .i64 (Sb).e, .int .u64 (l0 (Sb).tt), .int .u64 (l1 (Sb).tt), .int .u64 (l2 (Sb).tt), .int .u64 (l3 (Sb).tt), .int .u64 (l4 (Sb).tt), .bool (Sb).so, .bool (Sb).mn.b, .int .u64 (l0 (Sb).mn.n), .int .u64 (l1 (Sb).mn.n), .int .u64 (l2 (Sb).mn.n), .int .u64 (l3 (Sb).mn.n), .int .i64 (Sb).mn.s, .bool (Sb).mx.b, .int .u64 (l0 (Sb).mx.n), .int .u64 (l1 (Sb).mx.n), .int .u64 (l2 (Sb).mx.n), .int .u64 (l3 (Sb).mx.n), .int .i64 (Sb).mx.s], .int .i64 (0)]) (.int .i64 (0)) (fun _ => rfl) rfl (by kernel_rfl) rfl ?_
  refine wl_alloc 42 #[.int .i64 0, .int .i64 0, .int .i64 0, .int .i64 0, .int .i64 0, .int .u64 0, .int .u64 0, .int .u64 0, .int .u64 0, .int .u64 0, .bool false, .bool false, .int .u64 0, .int .u64 0, .int .u64 0, .int .u64 0, .int .i64 0, .bool false, .int .u64 0, .int .u64 0, .int .u64 0, .int .u64 0, .int .i64 0] rfl (fun _ => by kernel_rfl) rfl ?_
  intro k6 w17 hk hz hq Q6
  have ne_k1_k6 : k1 ≠ k6 := by have := Q1.lt; omega
  have ne_k2_k6 : k2 ≠ k6 := by have := Q2.lt; omega
  have ne_k3_k6 : k3 ≠ k6 := by have := Q3.lt; omega
  have ne_k4_k6 : k4 ≠ k6 := by have := Q4.lt; omega
  have ne_k5_k6 : k5 ≠ k6 := by have := Q5.lt; omega
  have N_k6 : w.heap.size ≤ k6 := by have := M.size; omega
  replace hG := hG.push (Nat.le_of_eq hk) (by omega) hq
  replace Q1 := Q1.mo hq
  replace Q2 := Q2.mo hq
  replace Q3 := Q3.mo hq
  replace Q4 := Q4.mo hq
  replace Q5 := Q5.mo hq
  replace M := M.trans hq
  clear hk hz hq
  refine wl_stx2 42 (.tmp 5) (.tmp 50) k6 0 #[.int .i64 (Sb).r, .int .i64 (Sb).f, .int .i64 (Sb).k, .int .i64 (Sb).d, .int .i64 (Sb).e, .int .u64 (l0 (Sb).tt), .int .u64 (l1 (Sb).tt), .int .u64 (l2 (Sb).tt), .int .u64 (l3 (Sb).tt), .int .u64 (l4 (Sb).tt), .bool (Sb).so, .bool (Sb).mn.b, .int .u64 (l0 (Sb).mn.n), .int .u64 (l1 (Sb).mn.n), .int .u64 (l2 (Sb).mn.n), .int .u64 (l3 (Sb).mn.n), .int .i64 (Sb).mn.s, .bool (Sb).mx.b, .int .u64 (l0 (Sb).mx.n), .int .u64 (l1 (Sb).mx.n), .int .u64 (l2 (Sb).mx.n), .int .u64 (l3 (Sb).mx.n), .int .i64 (Sb).mx.s] [.int .i64 0, .int .i64 0, .int .i64 0, .int .i64 0, .int .i64 0, .int .u64 0, .int .u64 0, .int .u64 0, .int .u64 0, .int .u64 0, .bool false, .bool false, .int .u64 0, .int .u64 0, .int .u64 0, .int .u64 0, .int .i64 0, .bool false, .int .u64 0, .int .u64 0, .int .u64 0, .int .u64 0, .int .i64 0] [.int .i64 (Sb).r, .int .i64 (Sb).f, .int .i64 (Sb).k, .int .i64 (Sb).d, .int .i64 (Sb).e, .int .u64 (l0 (Sb).tt), .int .u64 (l1 (Sb).tt), .int .u64 (l2 (Sb).tt), .int .u64 (l3 (Sb).tt), .int .u64 (l4 (Sb).tt), .bool (Sb).so, .bool (Sb).mn.b, .int .u64 (l0 (Sb).mn.n), .int .u64 (l1 (Sb).mn.n), .int .u64 (l2 (Sb).mn.n), .int .u64 (l3 (Sb).mn.n), .int .i64 (Sb).mn.s, .bool (Sb).mx.b, .int .u64 (l0 (Sb).mx.n), .int .u64 (l1 (Sb).mx.n), .int .u64 (l2 (Sb).mx.n), .int .u64 (l3 (Sb).mx.n), .int .i64 (Sb).mx.s] Q6 rfl rfl rfl rfl rfl zs42 rfl rfl rfl ?_
  intro w18 hT Qn
  replace Q6 := Qn
  clear Qn
  replace Q1 := hT.other _ _ ne_k1_k6 Q1
  replace Q2 := hT.other _ _ ne_k2_k6 Q2
  replace Q3 := hT.other _ _ ne_k3_k6 Q3
  replace Q4 := hT.other _ _ ne_k4_k6 Q4
  replace Q5 := hT.other _ _ ne_k5_k6 Q5
  replace hG := hG.st hT (by simp)
  replace M := (Mk.refl (fun j => j = k6) _ |>.st hT rfl).mo M (fun _ e => e ▸ N_k6)
  clear hT
  refine wl_mv (.tmp 51) (.int .i64 (0)) (fun _ => rfl) rfl rfl ?_
  refine w_nil ?_
  refine xn_then ?_
  refine w_seq ?_
  refine w_reg ?_
  refine wl_mv (.tmp 2) (.int .i64 (0)) (fun _ => rfl) rfl rfl ?_
  refine wl_bin (fun x y => do eqGuard .eql 25 (.tmp 52) (.const (.int .i64 (0))) x y; binOp .eql 25 x y) (.tmp 52) (.const (.int .i64 (0))) (.int .i64 (0)) (.int .i64 (0)) (.bool true) (fun _ => rfl) rfl rfl (by kernel_rfl) rfl ?_
  refine wl_mv (.tmp 53) (.bool true) (fun _ => rfl) rfl rfl ?_
  refine wl_mv (.tmp 4) (.int .i64 (0)) (fun _ => rfl) rfl rfl ?_
  refine wl_bin (fun x y => do eqGuard .eql 25 (.tmp 55) (.const (.int .i64 (0))) x y; binOp .eql 25 x y) (.tmp 55) (.const (.int .i64 (0))) (.int .i64 (0)) (.int .i64 (0)) (.bool true) (fun _ => rfl) rfl rfl (by kernel_rfl) rfl ?_
  refine wl_pick (.tmp 54) (.tmp 56) (.const (.bool false)) true (.bool true) (fun _ => rfl) rfl rfl rfl ?_
  refine wl_mv (.tmp 57) (.bool true) (fun _ => rfl) rfl rfl ?_
  refine wl_mv (.tmp 6) (.int .i64 (0)) (fun _ => rfl) rfl rfl ?_
  refine wl_bin (fun x y => do eqGuard .eql 25 (.tmp 59) (.const (.int .i64 (0))) x y; binOp .eql 25 x y) (.tmp 59) (.const (.int .i64 (0))) (.int .i64 (0)) (.int .i64 (0)) (.bool true) (fun _ => rfl) rfl rfl (by kernel_rfl) rfl ?_
  refine wl_pick (.tmp 58) (.tmp 60) (.const (.bool false)) true (.bool true) (fun _ => rfl) rfl rfl rfl ?_
  refine wl_mv (.tmp 61) (.bool true) (fun _ => rfl) rfl rfl ?_
  refine wl_un (fun v => Instr.fieldAt 42 v 1) (.tmp 3) (pt k5 0) (pt k5 1) (fun _ => rfl) rfl (by kernel_rfl) rfl ?_
  refine wl_load 3 (.tmp 63) (pt k5 1) (.int .i64 (Sa).f) rfl rfl (run_one Q5 3 1 rfl Try.underlying3 rfl) rfl ?_
  refine wl_bin (fun x y => do eqGuard .eql 3 (.tmp 64) (.const (.int .i64 (2))) x y; binOp .eql 3 x y) (.tmp 64) (.const (.int .i64 (2))) (.int .i64 (Sa).f) (.int .i64 (2)) (.bool true) (fun _ => rfl) rfl rfl (eqI qf _ _ _) rfl ?_
  refine wl_pick (.tmp 62) (.tmp 65) (.const (.bool false)) true (.bool true) (fun _ => rfl) rfl rfl rfl ?_
  refine wl_mv (.tmp 66) (.bool true) (fun _ => rfl) rfl rfl ?_
  refine wl_un (fun v => Instr.fieldAt 42 v 2) (.tmp 3) (pt k5 0) (pt k5 2) (fun _ => rfl) rfl (by kernel_rfl) rfl ?_
  refine wl_load 3 (.tmp 68) (pt k5 2) (.int .i64 (Sa).k) rfl rfl (run_one Q5 3 2 rfl Try.underlying3 rfl) rfl ?_
  refine wl_bin (fun x y => do eqGuard .eql 3 (.tmp 69) (.const (.int .i64 (1))) x y; binOp .eql 3 x y) (.tmp 69) (.const (.int .i64 (1))) (.int .i64 (Sa).k) (.int .i64 (1)) (.bool true) (fun _ => rfl) rfl rfl (eqI qk _ _ _) rfl ?_
  refine wl_pick (.tmp 67) (.tmp 70) (.const (.bool false)) true (.bool true) (fun _ => rfl) rfl rfl rfl ?_
  refine wl_mv (.tmp 71) (.bool true) (fun _ => rfl) rfl rfl ?_
  refine wl_un (fun v => Instr.fieldAt 42 v 5) (.tmp 3) (pt k5 0) (pt k5 5) (fun _ => rfl) rfl (by kernel_rfl) rfl ?_
  refine wl_bin (fun x y => Instr.indexAt 36 x y) (.tmp 73) (.const (.int .i64 (0))) (pt k5 5) (.int .i64 (0)) (pt k5 5) (fun _ => rfl) rfl rfl (by kernel_rfl) rfl ?_
  refine wl_load 34 (.tmp 74) (pt k5 5) (.int .u64 (l0 (Sa).tt)) rfl rfl (run_one Q5 34 5 rfl Try.underlying34 rfl) rfl ?_
  refine wl_bin (fun x y => do eqGuard .eql 34 (.tmp 75) (.const (.int .u64 (150))) x y; binOp .eql 34 x y) (.tmp 75) (.const (.int .u64 (150))) (.int .u64 (l0 (Sa).tt)) (.int .u64 (150)) (.bool true) (fun _ => rfl) rfl rfl (eqU qt _ _ _) rfl ?_
  refine wl_pick (.tmp 72) (.tmp 76) (.const (.bool false)) true (.bool true) (fun _ => rfl) rfl rfl rfl ?_
  refine wl_mv (.tmp 77) (.bool true) (fun _ => rfl) rfl rfl ?_
  refine wl_un (fun v => Instr.fieldAt 42 v 5) (.tmp 5) (pt k6 0) (pt k6 5) (fun _ => rfl) rfl (by kernel_rfl) rfl ?_
  refine wl_bin (fun x y => Instr.indexAt 36 x y) (.tmp 79) (.const (.int .i64 (0))) (pt k6 5) (.int .i64 (0)) (pt k6 5) (fun _ => rfl) rfl rfl (by kernel_rfl) rfl ?_
  refine wl_load 34 (.tmp 80) (pt k6 5) (.int .u64 (l0 (Sb).tt)) rfl rfl (run_one Q6 34 5 rfl Try.underlying34 rfl) rfl ?_
  refine wl_bin (fun x y => do eqGuard .eql 34 (.tmp 81) (.const (.int .u64 (650))) x y; binOp .eql 34 x y) (.tmp 81) (.const (.int .u64 (650))) (.int .u64 (l0 (Sb).tt)) (.int .u64 (650)) (.bool true) (fun _ => rfl) rfl rfl (eqU qu _ _ _) rfl ?_
  refine wl_pick (.tmp 78) (.tmp 82) (.const (.bool false)) true (.bool true) (fun _ => rfl) rfl rfl rfl ?_
  refine wl_mv (.tmp 83) (.bool true) (fun _ => rfl) rfl rfl ?_
  refine w_nil ?_
  refine xn_then ?_
  refine w_ret ?_
  exact w_ret1 _ (.bool true) rfl rfl ⟨rfl, M⟩
end
end G
end Go.Proofs.Ythfemlhmnjfjiaa
/-
  AggtreeBalanced: the law's walk.
-/
namespace Go.Proofs.Ythfemlhmnjfjiaa
open Go.RowKit
namespace G
section
variable {w : World}
theorem balanced_x (scs : List Int) (ps : Option Addr) (caps : Nat) (sc : List Op6) (p : Option Addr) (cap : Nat) (hgt64 : 64 < scs.length) : Calls Try.prog 4 #[.slice ps scs.length caps, .slice p sc.length cap] w fun e w' => e = .returned (.bool true) ∧ Mo w w' := by
  refine w_enter 138 Try.func4 Try.ntmps4 rfl rfl ?_
  have M : Mo w w := Mo.refl _
  refine w_seq ?_
  refine w_reg ?_
  refine wl_mv (.const (.bool false)) (.bool false) (fun _ => rfl) rfl rfl ?_
  refine w_nil ?_
  refine xn_then ?_
  refine w_seq ?_
  refine w_reg ?_
  refine wl_mv (.tmp 0) (.slice ps scs.length caps) (fun _ => rfl) rfl rfl ?_
  refine wl_call 7 [(.tmp 15)] _ [.slice ps scs.length caps] (.tuple #[pp none, .int .i64 (3)]) rfl rfl (fun _ _ => by kernel_rfl) (new_x hgt64) rfl ?_
  intro w1 hq
  replace M := M.trans hq
  clear hq
  refine wl_mv (.tmp 16) (.tuple #[pp none, .int .i64 (3)]) (fun _ => rfl) rfl rfl ?_
  refine wl_un (fun v => Instr.extract v 0) (.tmp 14) (.tuple #[pp none, .int .i64 (3)]) (pp none) (fun _ => rfl) rfl (by kernel_rfl) rfl ?_
  refine wl_un (fun v => Instr.extract v 1) (.tmp 14) (.tuple #[pp none, .int .i64 (3)]) (.int .i64 (3)) (fun _ => rfl) rfl (by kernel_rfl) rfl ?_
  refine wl_mv (.tmp 17) (pp none) (fun _ => rfl) rfl rfl ?_
  refine wl_mv (.tmp 18) (.int .i64 (3)) (fun _ => rfl) rfl rfl ?_
  refine w_nil ?_
  refine xn_then ?_
  refine w_seq ?_
  refine w_seq ?_
  refine w_reg ?_
  refine wl_call 8 [] _ [] (.bool true) rfl rfl (fun _ _ => by kernel_rfl) (begun_n _) rfl ?_
  intro w2 hq
  replace M := M.trans hq
  clear hq
  refine wl_un (fun v => Op.unary .not v) (.tmp 19) (.bool true) (.bool false) (fun _ => rfl) rfl (by kernel_rfl) rfl ?_
  refine wl_mv (.tmp 20) (.bool false) (fun _ => rfl) rfl rfl ?_
  refine wl_mv (.tmp 5) (pp none) (fun _ => rfl) rfl rfl ?_
  refine wl_bin (fun x y => do eqGuard .eql 24 (.tmp 22) (.const (.pointer none)) x y; binOp .eql 24 x y) (.tmp 22) (.const (.pointer none)) (pp none) (pp none) (.bool true) (fun _ => rfl) rfl rfl (eqT0 _ _ _) rfl ?_
  refine wl_mv (.tmp 6) (.int .i64 (3)) (fun _ => rfl) rfl rfl ?_
  refine wl_bin (fun x y => do eqGuard .neq 25 (.tmp 24) (.const (.int .i64 (0))) x y; binOp .neq 25 x y) (.tmp 24) (.const (.int .i64 (0))) (.int .i64 (3)) (.int .i64 (0)) (.bool true) (fun _ => rfl) rfl rfl (by kernel_rfl) rfl ?_
  refine wl_bin (fun x y => do eqGuard .neq 4 (.tmp 23) (.tmp 25) x y; binOp .neq 4 x y) (.tmp 23) (.tmp 25) (.bool true) (.bool true) (.bool false) (fun _ => rfl) rfl rfl (by kernel_rfl) rfl ?_
  refine wl_pick (.tmp 21) (.const (.bool true)) (.tmp 26) false (.bool false) (fun _ => rfl) rfl rfl rfl ?_
  refine w_nil ?_
  refine xn_then ?_
  refine w_condF rfl ?_
  refine w_skip ?_
  refine xn_then ?_
  refine w_seq ?_
  refine w_seq ?_
  refine w_reg ?_
  refine wl_mv (.tmp 5) (pp none) (fun _ => rfl) rfl rfl ?_
  refine wl_bin (fun x y => do eqGuard .eql 24 (.tmp 28) (.const (.pointer none)) x y; binOp .eql 24 x y) (.tmp 28) (.const (.pointer none)) (pp none) (pp none) (.bool true) (fun _ => rfl) rfl rfl (eqT0 _ _ _) rfl ?_
  refine w_nil ?_
  refine xn_then ?_
  refine w_condT rfl ?_
  refine w_seq ?_
  refine w_reg ?_
  refine wl_mv (.const (.bool true)) (.bool true) (fun _ => rfl) rfl rfl ?_
  refine w_nil ?_
  refine xn_then ?_
  refine w_ret ?_
  refine xr_then ?_
  exact w_ret1 _ (.bool true) rfl rfl ⟨rfl, M⟩
set_option maxHeartbeats 4000000 in
theorem balanced_k (scs : List Int) (ps : Option Addr) (caps : Nat) (sc : List Op6) (p : Option Addr) (cap : Nat) (hsc : ∀ o ∈ sc, o.ok) (hSN : SN w ps scs) (hSA : SA w p sc) (hn : sc.length ≤ 2000000000000) (hle64 : scs.length ≤ 64) : Calls Try.prog 4 #[.slice ps scs.length caps, .slice p sc.length cap] w fun e w' => e = .returned (.bool true) ∧ Mo w w' := by
  refine w_enter 138 Try.func4 Try.ntmps4 rfl rfl ?_
  have M : Mo w w := Mo.refl _
  refine w_seq ?_
  refine w_reg ?_
  refine wl_mv (.const (.bool false)) (.bool false) (fun _ => rfl) rfl rfl ?_
  refine w_nil ?_
  refine xn_then ?_
  refine w_seq ?_
  refine w_reg ?_
  refine wl_mv (.tmp 0) (.slice ps scs.length caps) (fun _ => rfl) rfl rfl ?_
  refine wl_callx 7 [(.tmp 15)] _ [.slice ps scs.length caps] rfl rfl (fun _ _ => by kernel_rfl) (new_g (n0 := w.heap.size) (ks := []) (sc := scs) (hSN.mo M) hle64 M.size (fun _ e => by cases e)) rfl ?_
  rintro _ w1 ⟨t, mb, rfl, hG, hscs, ht9, hq⟩
  refine ⟨_, rfl, ?_⟩
  replace M := M.trans hq
  clear hq
  refine wl_mv (.tmp 16) (.tuple #[pt t 0, .int .i64 (0)]) (fun _ => rfl) rfl rfl ?_
  refine wl_un (fun v => Instr.extract v 0) (.tmp 14) (.tuple #[pt t 0, .int .i64 (0)]) (pt t 0) (fun _ => rfl) rfl (by kernel_rfl) rfl ?_
  refine wl_un (fun v => Instr.extract v 1) (.tmp 14) (.tuple #[pt t 0, .int .i64 (0)]) (.int .i64 (0)) (fun _ => rfl) rfl (by kernel_rfl) rfl ?_
  refine wl_mv (.tmp 17) (pt t 0) (fun _ => rfl) rfl rfl ?_
  refine wl_mv (.tmp 18) (.int .i64 (0)) (fun _ => rfl) rfl rfl ?_
  refine w_nil ?_
  refine xn_then ?_
  refine w_seq ?_
  refine w_seq ?_
  refine w_reg ?_
  refine wl_call 8 [] _ [] (.bool true) rfl rfl (fun _ _ => by kernel_rfl) (begun_n _) rfl ?_
  intro w2 hq
  replace hG := hG.mo hq
  replace M := M.trans hq
  clear hq
  refine wl_un (fun v => Op.unary .not v) (.tmp 19) (.bool true) (.bool false) (fun _ => rfl) rfl (by kernel_rfl) rfl ?_
  refine wl_mv (.tmp 20) (.bool false) (fun _ => rfl) rfl rfl ?_
  refine wl_mv (.tmp 5) (pt t 0) (fun _ => rfl) rfl rfl ?_
  refine wl_bin (fun x y => do eqGuard .eql 24 (.tmp 22) (.const (.pointer none)) x y; binOp .eql 24 x y) (.tmp 22) (.const (.pointer none)) (pt t 0) (pp none) (.bool false) (fun _ => rfl) rfl rfl (eqT _ _ _ _) rfl ?_
  refine wl_mv (.tmp 6) (.int .i64 (0)) (fun _ => rfl) rfl rfl ?_
  refine wl_bin (fun x y => do eqGuard .neq 25 (.tmp 24) (.const (.int .i64 (0))) x y; binOp .neq 25 x y) (.tmp 24) (.const (.int .i64 (0))) (.int .i64 (0)) (.int .i64 (0)) (.bool false) (fun _ => rfl) rfl rfl (by kernel_rfl) rfl ?_
  refine wl_bin (fun x y => do eqGuard .neq 4 (.tmp 23) (.tmp 25) x y; binOp .neq 4 x y) (.tmp 23) (.tmp 25) (.bool false) (.bool false) (.bool false) (fun _ => rfl) rfl rfl (by kernel_rfl) rfl ?_
  refine wl_pick (.tmp 21) (.const (.bool true)) (.tmp 26) false (.bool false) (fun _ => rfl) rfl rfl rfl ?_
  refine w_nil ?_
  refine xn_then ?_
  refine w_condF rfl ?_
  refine w_skip ?_
  refine xn_then ?_
  refine w_seq ?_
  refine w_seq ?_
  refine w_reg ?_
  refine wl_mv (.tmp 5) (pt t 0) (fun _ => rfl) rfl rfl ?_
  refine wl_bin (fun x y => do eqGuard .eql 24 (.tmp 28) (.const (.pointer none)) x y; binOp .eql 24 x y) (.tmp 28) (.const (.pointer none)) (pt t 0) (pp none) (.bool false) (fun _ => rfl) rfl rfl (eqT _ _ _ _) rfl ?_
  refine w_nil ?_
  refine xn_then ?_
  refine w_condF rfl ?_
  refine w_skip ?_
  refine xn_then ?_
  refine w_seq ?_
  refine w_seq ?_
  refine w_reg ?_
  refine wl_mv (.tmp 1) (.slice p sc.length cap) (fun _ => rfl) rfl rfl ?_
  refine wl_val (.int .i64 ((sc.length : Int))) (len23 _ _ _ _ _ (by exact rfl) _ _ _ _ _ _) rfl ?_
  refine wl_mv (.const (.int .i64 (0))) (.int .i64 (0)) (fun _ => rfl) rfl rfl ?_
  refine w_nil ?_
  refine xn_then ?_
  refine w_block ?_
  refine w_loop (fun r l w1 => ∃ (i : Nat) (tr : T) (lk : Int), r + i = sc.length ∧ look l 30 = .slice p sc.length cap ∧ look l 31 = .int .i64 (sc.length : Int) ∧ look l 32 = .int .i64 (i : Int) ∧ look l 5 = pt t 0 ∧ GT w.heap.size [] w1 t mb tr lk ∧ tr.bw ∧ lk ≤ 200000 * i ∧ Mo w w1) sc.length ⟨0, .e, 0, by omega, rfl, rfl, rfl, rfl, hG, trivial, by decide, M⟩ ?_
  clear M hG
  rintro r l wl ⟨i, tr, lk, hr, e30, e31, e32, e5, hG, hb, hlk, M⟩
  have hle := hG.le
  have hkl := tr.kv_len
  have hl0 := hG.l0
  refine w_seq ?_
  cases hf0 : decide ((i : Int) < (sc.length : Int)) with
  | true =>
    have hf0p := of_decide_eq_true hf0
    refine w_reg ?_
    refine wl_bin (fun x y => do eqGuard .lss 3 (.tmp 32) (.tmp 31) x y; binOp .lss 3 x y) (.tmp 32) (.tmp 31) (.int .i64 (i : Int)) (.int .i64 (sc.length : Int)) (.bool true) (fun _ => rfl) e32 e31 (ltI hf0 _ _ _) rfl ?_
    refine w_nil ?_
    refine xn_then ?_
    refine w_seq ?_
    refine w_condT rfl ?_
    refine w_skip ?_
    refine xn_then ?_
    refine w_seq ?_
    refine w_block ?_
    refine w_seq ?_
    refine w_reg ?_
    obtain ⟨o, ho⟩ : ∃ o, sc[i]? = some o := ⟨sc[i]'(by omega), List.getElem?_eq_getElem _⟩
    have hok := hsc o (List.mem_of_getElem? ho)
    have hSVo := (hSA _ o ho).2
    obtain ⟨b, off, hpb, hbl, hrg⟩ := ((hSA.mo M) _ o ho).1
    refine wl_bin (fun x y => Instr.indexAt 23 x y) (.tmp 30) (.tmp 32) (.slice p sc.length cap) (.int .i64 (i : Int)) (pt b (off + i * 7)) (fun _ => rfl) e30 e32 (by rw [hpb]; exact ix23 b off i _ _ (by omega) _) rfl ?_
    refine wl_load 31 (.tmp 34) (pt b (off + i * 7)) (.agg #[.int .i64 (o.d), .int .i64 (o.a), .int .i64 (o.i), .slice o.p o.vs.length o.cap, .int .i64 (o.c), .int .i64 (o.f), .int .i64 (o.e)]) rfl rfl (SA.load hrg) rfl ?_
    refine wl_alloc 31 #[.int .i64 0, .int .i64 0, .int .i64 0, .slice none 0 0, .int .i64 0, .int .i64 0, .int .i64 0] rfl (fun _ => by kernel_rfl) rfl ?_
    intro k1 w11 hk hz hq Q1
    have N_k1 : w.heap.size ≤ k1 := by have := M.size; omega
    replace hG := hG.push (Nat.le_of_eq hk) (by omega) hq
    replace M := M.trans hq
    clear hk hz hq
    refine wl_stx2 31 (.tmp 8) (.tmp 35) k1 0 #[.int .i64 (o.d), .int .i64 (o.a), .int .i64 (o.i), .slice o.p o.vs.length o.cap, .int .i64 (o.c), .int .i64 (o.f), .int .i64 (o.e)] [.int .i64 0, .int .i64 0, .int .i64 0, .slice none 0 0, .int .i64 0, .int .i64 0, .int .i64 0] [.int .i64 (o.d), .int .i64 (o.a), .int .i64 (o.i), .slice o.p o.vs.length o.cap, .int .i64 (o.c), .int .i64 (o.f), .int .i64 (o.e)] Q1 rfl rfl rfl rfl rfl zs31 rfl rfl rfl ?_
    intro w12 hT Qn
    replace Q1 := Qn
    clear Qn
    replace hG := hG.st hT (by simp)
    replace M := (Mk.refl (fun j => j = k1) _ |>.st hT rfl).mo M (fun _ e => e ▸ N_k1)
    clear hT
    refine w_nil ?_
    refine xn_then ?_
    refine w_seq ?_
    refine w_reg ?_
    refine wl_mv (.tmp 5) (pt t 0) (fun _ => rfl) e5 rfl ?_
    refine wl_call 10 [(.tmp 36)] _ [pt t 0] (.int .i64 ((tr.kv.length : Int))) rfl rfl (fun _ _ => by kernel_rfl) (len_g hG) rfl ?_
    intro w13 hq
    replace Q1 := Q1.mo hq
    replace hG := hG.mo hq
    replace M := M.trans hq
    clear hq
    refine wl_mv (.tmp 5) (pt t 0) (fun _ => rfl) e5 rfl ?_
    refine wl_call 14 [(.tmp 38)] _ [pt t 0] (.int .i64 (lk)) rfl rfl (fun _ _ => by kernel_rfl) (looked_g hG) rfl ?_
    intro w14 hq
    replace Q1 := Q1.mo hq
    replace hG := hG.mo hq
    replace M := M.trans hq
    clear hq
    refine wl_mv (.tmp 37) (.int .i64 ((tr.kv.length : Int))) (fun _ => rfl) rfl rfl ?_
    refine wl_mv (.tmp 39) (.int .i64 (lk)) (fun _ => rfl) rfl rfl ?_
    refine w_nil ?_
    refine xn_then ?_
    refine w_seq ?_
    refine w_reg ?_
    refine wl_mv (.const (.int .i64 (24))) (.int .i64 (24)) (fun _ => rfl) rfl rfl ?_
    refine wl_mv (.const (.int .i64 (0))) (.int .i64 (0)) (fun _ => rfl) rfl rfl ?_
    refine w_nil ?_
    refine xn_then ?_
    refine w_seq ?_
    refine w_seq ?_
    refine w_reg ?_
    refine wl_un (fun v => Instr.fieldAt 31 v 0) (.tmp 8) (pt k1 0) (pt k1 0) (fun _ => rfl) rfl (by kernel_rfl) rfl ?_
    refine wl_load 3 (.tmp 40) (pt k1 0) (.int .i64 (o.d)) rfl rfl (run_one Q1 3 0 rfl Try.underlying3 rfl) rfl ?_
    refine w_nil ?_
    refine xn_then ?_
    refine w_block ?_
    refine w_seq ?_
    cases hf1 : decide (o.d = 0) with
    | true =>
      have hf1p := of_decide_eq_true hf1
      refine w_reg ?_
      refine wl_bin (fun x y => do eqGuard .eql 3 (.tmp 41) (.const (.int .i64 (0))) x y; binOp .eql 3 x y) (.tmp 41) (.const (.int .i64 (0))) (.int .i64 (o.d)) (.int .i64 (0)) (.bool true) (fun _ => rfl) rfl rfl (eqI hf1 _ _ _) rfl ?_
      refine wl_mv (.tmp 52) (.bool true) (fun _ => rfl) rfl rfl ?_
      refine w_nil ?_
      refine xn_then ?_
      refine w_condT rfl ?_
      refine w_seq ?_
      cases hf2 : decide (insE mb.sc.length tr (o.a) (o.i) o.vs.length = 0) with
      | true =>
        have hf2p := of_decide_eq_true hf2
        refine w_reg ?_
        refine wl_mv (.tmp 5) (pt t 0) (fun _ => rfl) e5 rfl ?_
        refine wl_un (fun v => Instr.fieldAt 31 v 1) (.tmp 8) (pt k1 0) (pt k1 1) (fun _ => rfl) rfl (by kernel_rfl) rfl ?_
        refine wl_load 3 (.tmp 54) (pt k1 1) (.int .i64 (o.a)) rfl rfl (run_one Q1 3 1 rfl Try.underlying3 rfl) rfl ?_
        refine wl_un (fun v => Instr.fieldAt 31 v 2) (.tmp 8) (pt k1 0) (pt k1 2) (fun _ => rfl) rfl (by kernel_rfl) rfl ?_
        refine wl_load 2 (.tmp 56) (pt k1 2) (.int .i64 (o.i)) rfl rfl (run_one Q1 2 2 rfl Try.underlying2 rfl) rfl ?_
        refine wl_un (fun v => Instr.fieldAt 31 v 3) (.tmp 8) (pt k1 0) (pt k1 3) (fun _ => rfl) rfl (by kernel_rfl) rfl ?_
        refine wl_load 29 (.tmp 58) (pt k1 3) (.slice o.p o.vs.length o.cap) rfl rfl (run_one Q1 29 3 rfl Try.underlying29 rfl) rfl ?_
        refine wl_callx 9 [(.tmp 53), (.tmp 55), (.tmp 57), (.tmp 59)] _ [pt t 0, .int .i64 (o.a), .int .i64 (o.i), .slice o.p o.vs.length o.cap] rfl rfl (fun _ _ => by kernel_rfl) (ins_b hG hb hok.i (by omega) (fun w9 m9 => hSVo.mo (Wr.mo m9 M (Nat.le_refl _))) hok.v) rfl ?_
        rintro _ w15 ⟨tr2, lk2, rfl, hG, hb2, hk1, hk2, hk3, hM2⟩
        refine ⟨_, rfl, ?_⟩
        have hle2 := hG.le
        have hkl2 := tr2.kv_len
        have hz1 := bm_hi hle hle2
        have hz2 := bm_hi hle2 hle2
        replace M := Wr.mo hM2 M (Nat.le_refl _)
        replace Q1 := Wr.at hM2 Q1 (by simp)
        clear hM2
        refine wl_bin (fun x y => do eqGuard .eql 25 (.tmp 60) (.const (.int .i64 (0))) x y; binOp .eql 25 x y) (.tmp 60) (.const (.int .i64 (0))) (.int .i64 (insE mb.sc.length tr (o.a) (o.i) o.vs.length)) (.int .i64 (0)) (.bool true) (fun _ => rfl) rfl rfl (eqE hf2 _ _ _) rfl ?_
        refine w_nil ?_
        refine xn_then ?_
        refine w_condT rfl ?_
        refine w_reg ?_
        refine wl_mv (.const (.int .i64 (1))) (.int .i64 (1)) (fun _ => rfl) rfl rfl ?_
        refine w_nil ?_
        refine xn_blk ?_
        refine xn_then ?_
        refine w_seq ?_
        refine w_reg ?_
        refine wl_mv (.tmp 5) (pt t 0) (fun _ => rfl) e5 rfl ?_
        refine wl_call 14 [(.tmp 78)] _ [pt t 0] (.int .i64 (lk2)) rfl rfl (fun _ _ => by kernel_rfl) (looked_g hG) rfl ?_
        intro w16 hq
        replace Q1 := Q1.mo hq
        replace hG := hG.mo hq
        replace M := M.trans hq
        clear hq
        refine wl_mv (.tmp 10) (.int .i64 (lk)) (fun _ => rfl) rfl rfl ?_
        refine wl_bin (fun x y => do eqGuard .sub 2 (.tmp 79) (.tmp 80) x y; binOp .sub 2 x y) (.tmp 79) (.tmp 80) (.int .i64 (lk2)) (.int .i64 (lk)) (.int .i64 (lk2 - lk)) (fun _ => rfl) rfl rfl (subL (by omega) (by omega) _ _ _) rfl ?_
        refine wl_mv (.tmp 81) (.int .i64 (lk2 - lk)) (fun _ => rfl) rfl rfl ?_
        refine w_nil ?_
        refine xn_then ?_
        refine w_seq ?_
        refine w_seq ?_
        refine w_reg ?_
        refine wl_mv (.tmp 5) (pt t 0) (fun _ => rfl) e5 rfl ?_
        refine wl_call 19 [(.tmp 82)] _ [pt t 0] (.int .i64 ((tr2.ht : Int))) rfl rfl (fun _ _ => by kernel_rfl) (depth_g hG) rfl ?_
        intro w17 hq
        replace Q1 := Q1.mo hq
        replace hG := hG.mo hq
        replace M := M.trans hq
        clear hq
        refine wl_mv (.tmp 5) (pt t 0) (fun _ => rfl) e5 rfl ?_
        refine wl_call 10 [(.tmp 84)] _ [pt t 0] (.int .i64 ((tr2.kv.length : Int))) rfl rfl (fun _ _ => by kernel_rfl) (len_g hG) rfl ?_
        intro w18 hq
        replace Q1 := Q1.mo hq
        replace hG := hG.mo hq
        replace M := M.trans hq
        clear hq
        have hbl1 := bitc_le (tr2.kv.length)
        refine wl_call 20 [(.tmp 85)] _ [.int .i64 ((tr2.kv.length : Int))] (.int .i64 ((bitc (tr2.kv.length) : Int))) rfl rfl (fun _ _ => by kernel_rfl) (bits_n (tr2.kv.length) _ (by omega) (by omega)) rfl ?_
        intro w19 hq
        replace Q1 := Q1.mo hq
        replace hG := hG.mo hq
        replace M := M.trans hq
        clear hq
        refine wl_bin (fun x y => do eqGuard .mul 3 (.const (.int .i64 (3))) (.tmp 86) x y; binOp .mul 3 x y) (.const (.int .i64 (3))) (.tmp 86) (.int .i64 (3)) (.int .i64 ((bitc (tr2.kv.length) : Int))) (.int .i64 (3 * ((bitc (tr2.kv.length) : Int)))) (fun _ => rfl) rfl rfl (mulI (by omega) (by omega) _ _ _) rfl ?_
        have hbt := (ht_bits hb2 hle2).1
        rw [show tr2.sz.toNat = tr2.kv.length by omega] at hbt
        refine wl_bin (fun x y => do eqGuard .gtr 3 (.tmp 83) (.tmp 87) x y; binOp .gtr 3 x y) (.tmp 83) (.tmp 87) (.int .i64 ((tr2.ht : Int))) (.int .i64 (3 * ((bitc (tr2.kv.length) : Int)))) (.bool false) (fun _ => rfl) rfl rfl (gtI (decide_eq_false (by omega)) _ _ _) rfl ?_
        refine wl_mv (.tmp 88) (.bool false) (fun _ => rfl) rfl rfl ?_
        refine wl_mv (.tmp 13) (.int .i64 (lk2 - lk)) (fun _ => rfl) rfl rfl ?_
        refine wl_mv (.tmp 12) (.int .i64 (1)) (fun _ => rfl) rfl rfl ?_
        refine wl_bin (fun x y => do eqGuard .lss 2 (.tmp 90) (.tmp 91) x y; binOp .lss 2 x y) (.tmp 90) (.tmp 91) (.int .i64 (lk2 - lk)) (.int .i64 (1)) (.bool false) (fun _ => rfl) rfl rfl (ltL (decide_eq_false (by have := hk3 (of_decide_eq_true hf2); omega)) _ _ _) rfl ?_
        refine wl_pick (.tmp 89) (.const (.bool true)) (.tmp 92) false (.bool false) (fun _ => rfl) rfl rfl rfl ?_
        refine wl_mv (.tmp 93) (.bool false) (fun _ => rfl) rfl rfl ?_
        refine wl_mv (.tmp 13) (.int .i64 (lk2 - lk)) (fun _ => rfl) rfl rfl ?_
        refine wl_mv (.tmp 11) (.int .i64 (24)) (fun _ => rfl) rfl rfl ?_
        refine wl_mv (.tmp 9) (.int .i64 ((tr.kv.length : Int))) (fun _ => rfl) rfl rfl ?_
        refine wl_mv (.tmp 5) (pt t 0) (fun _ => rfl) e5 rfl ?_
        refine wl_call 10 [(.tmp 98)] _ [pt t 0] (.int .i64 ((tr2.kv.length : Int))) rfl rfl (fun _ _ => by kernel_rfl) (len_g hG) rfl ?_
        intro w20 hq
        replace Q1 := Q1.mo hq
        replace hG := hG.mo hq
        replace M := M.trans hq
        clear hq
        refine wl_val (.int .i64 (((max tr.kv.length tr2.kv.length : Nat) : Int))) (maxN tr.kv.length tr2.kv.length _ _ _ (by exact rfl) (by exact rfl) _ _ _ _ _ _) rfl ?_
        have hbl2 := bitc_le (max tr.kv.length tr2.kv.length)
        refine wl_call 20 [(.tmp 100)] _ [.int .i64 (((max tr.kv.length tr2.kv.length : Nat) : Int))] (.int .i64 ((bitc (max tr.kv.length tr2.kv.length) : Int))) rfl rfl (fun _ _ => by kernel_rfl) (bits_n (max tr.kv.length tr2.kv.length) _ (by omega) (by omega)) rfl ?_
        intro w21 hq
        replace Q1 := Q1.mo hq
        replace hG := hG.mo hq
        replace M := M.trans hq
        clear hq
        refine wl_bin (fun x y => do eqGuard .add 3 (.const (.int .i64 (1))) (.tmp 101) x y; binOp .add 3 x y) (.const (.int .i64 (1))) (.tmp 101) (.int .i64 (1)) (.int .i64 ((bitc (max tr.kv.length tr2.kv.length) : Int))) (.int .i64 (1 + ((bitc (max tr.kv.length tr2.kv.length) : Int)))) (fun _ => rfl) rfl rfl (addI (by omega) (by omega) _ _ _) rfl ?_
        refine wl_bin (fun x y => do eqGuard .mul 2 (.tmp 96) (.tmp 102) x y; binOp .mul 2 x y) (.tmp 96) (.tmp 102) (.int .i64 (24)) (.int .i64 (1 + ((bitc (max tr.kv.length tr2.kv.length) : Int)))) (.int .i64 (24 * (1 + ((bitc (max tr.kv.length tr2.kv.length) : Int))))) (fun _ => rfl) rfl rfl (mulL (by omega) (by omega) _ _ _) rfl ?_
        have hk2b := hk2
        unfold Bm at hk2b
        refine wl_bin (fun x y => do eqGuard .gtr 2 (.tmp 95) (.tmp 103) x y; binOp .gtr 2 x y) (.tmp 95) (.tmp 103) (.int .i64 (lk2 - lk)) (.int .i64 (24 * (1 + ((bitc (max tr.kv.length tr2.kv.length) : Int))))) (.bool false) (fun _ => rfl) rfl rfl (gtL (decide_eq_false (by omega)) _ _ _) rfl ?_
        refine wl_pick (.tmp 94) (.const (.bool true)) (.tmp 104) false (.bool false) (fun _ => rfl) rfl rfl rfl ?_
        refine w_nil ?_
        refine xn_then ?_
        refine w_condF rfl ?_
        refine w_skip ?_
        refine xn_then ?_
        refine w_seq ?_
        refine w_reg ?_
        refine wl_mv (.tmp 5) (pt t 0) (fun _ => rfl) e5 rfl ?_
        refine wl_call 14 [(.tmp 106)] _ [pt t 0] (.int .i64 (lk2)) rfl rfl (fun _ _ => by kernel_rfl) (looked_g hG) rfl ?_
        intro w22 hq
        replace Q1 := Q1.mo hq
        replace hG := hG.mo hq
        replace M := M.trans hq
        clear hq
        refine wl_mv (.tmp 107) (.int .i64 (lk2)) (fun _ => rfl) rfl rfl ?_
        refine w_nil ?_
        refine xn_then ?_
        refine w_seq ?_
        refine w_reg ?_
        refine wl_mv (.tmp 5) (pt t 0) (fun _ => rfl) e5 rfl ?_
        refine wl_un (fun v => Instr.fieldAt 31 v 4) (.tmp 8) (pt k1 0) (pt k1 4) (fun _ => rfl) rfl (by kernel_rfl) rfl ?_
        refine wl_load 3 (.tmp 109) (pt k1 4) (.int .i64 (o.c)) rfl rfl (run_one Q1 3 4 rfl Try.underlying3 rfl) rfl ?_
        refine wl_un (fun v => Instr.fieldAt 31 v 5) (.tmp 8) (pt k1 0) (pt k1 5) (fun _ => rfl) rfl (by kernel_rfl) rfl ?_
        refine wl_load 3 (.tmp 111) (pt k1 5) (.int .i64 (o.f)) rfl rfl (run_one Q1 3 5 rfl Try.underlying3 rfl) rfl ?_
        refine wl_un (fun v => Instr.fieldAt 31 v 6) (.tmp 8) (pt k1 0) (pt k1 6) (fun _ => rfl) rfl (by kernel_rfl) rfl ?_
        refine wl_load 3 (.tmp 113) (pt k1 6) (.int .i64 (o.e)) rfl rfl (run_one Q1 3 6 rfl Try.underlying3 rfl) rfl ?_
        refine wl_callx 11 [(.tmp 108), (.tmp 110), (.tmp 112), (.tmp 114)] _ [pt t 0, .int .i64 (o.c), .int .i64 (o.f), .int .i64 (o.e)] rfl rfl (fun _ _ => by kernel_rfl) (qry_b hG hb2 (by omega)) rfl ?_
        rintro _ w23 ⟨S9, cd9, lk3, rfl, hG, hk4, hk5, hM2⟩
        refine ⟨_, rfl, ?_⟩
        replace M := Wr.mo hM2 M (Nat.le_refl _)
        replace Q1 := Wr.at hM2 Q1 (by simp)
        clear hM2
        refine w_nil ?_
        refine xn_then ?_
        refine w_seq ?_
        refine w_seq ?_
        refine w_reg ?_
        refine wl_mv (.tmp 5) (pt t 0) (fun _ => rfl) e5 rfl ?_
        refine wl_call 14 [(.tmp 116)] _ [pt t 0] (.int .i64 (lk3)) rfl rfl (fun _ _ => by kernel_rfl) (looked_g hG) rfl ?_
        intro w24 hq
        replace Q1 := Q1.mo hq
        replace hG := hG.mo hq
        replace M := M.trans hq
        clear hq
        refine wl_mv (.tmp 10) (.int .i64 (lk2)) (fun _ => rfl) rfl rfl ?_
        refine wl_bin (fun x y => do eqGuard .sub 2 (.tmp 117) (.tmp 118) x y; binOp .sub 2 x y) (.tmp 117) (.tmp 118) (.int .i64 (lk3)) (.int .i64 (lk2)) (.int .i64 (lk3 - lk2)) (fun _ => rfl) rfl rfl (subL (by omega) (by omega) _ _ _) rfl ?_
        refine wl_mv (.tmp 5) (pt t 0) (fun _ => rfl) e5 rfl ?_
        refine wl_call 10 [(.tmp 120)] _ [pt t 0] (.int .i64 ((tr2.kv.length : Int))) rfl rfl (fun _ _ => by kernel_rfl) (len_g hG) rfl ?_
        intro w25 hq
        replace Q1 := Q1.mo hq
        replace hG := hG.mo hq
        replace M := M.trans hq
        clear hq
        have hbl3 := bitc_le (tr2.kv.length)
        refine wl_call 20 [(.tmp 121)] _ [.int .i64 ((tr2.kv.length : Int))] (.int .i64 ((bitc (tr2.kv.length) : Int))) rfl rfl (fun _ _ => by kernel_rfl) (bits_n (tr2.kv.length) _ (by omega) (by omega)) rfl ?_
        intro w26 hq
        replace Q1 := Q1.mo hq
        replace hG := hG.mo hq
        replace M := M.trans hq
        clear hq
        refine wl_bin (fun x y => do eqGuard .add 3 (.const (.int .i64 (1))) (.tmp 122) x y; binOp .add 3 x y) (.const (.int .i64 (1))) (.tmp 122) (.int .i64 (1)) (.int .i64 ((bitc (tr2.kv.length) : Int))) (.int .i64 (1 + ((bitc (tr2.kv.length) : Int)))) (fun _ => rfl) rfl rfl (addI (by omega) (by omega) _ _ _) rfl ?_
        refine wl_bin (fun x y => do eqGuard .mul 2 (.const (.int .i64 (24))) (.tmp 123) x y; binOp .mul 2 x y) (.const (.int .i64 (24))) (.tmp 123) (.int .i64 (24)) (.int .i64 (1 + ((bitc (tr2.kv.length) : Int)))) (.int .i64 (24 * (1 + ((bitc (tr2.kv.length) : Int))))) (fun _ => rfl) rfl rfl (mulL (by omega) (by omega) _ _ _) rfl ?_
        have hk5b := hk5
        unfold Bm at hk5b
        rw [Nat.max_self] at hk5b
        refine wl_bin (fun x y => do eqGuard .gtr 2 (.tmp 119) (.tmp 124) x y; binOp .gtr 2 x y) (.tmp 119) (.tmp 124) (.int .i64 (lk3 - lk2)) (.int .i64 (24 * (1 + ((bitc (tr2.kv.length) : Int))))) (.bool false) (fun _ => rfl) rfl rfl (gtL (decide_eq_false (by omega)) _ _ _) rfl ?_
        refine w_nil ?_
        refine xn_then ?_
        refine w_condF rfl ?_
        refine w_skip ?_
        refine xn_then ?_
        refine w_seq ?_
        refine w_reg ?_
        refine wl_mv (.tmp 5) (pt t 0) (fun _ => rfl) e5 rfl ?_
        refine wl_call 14 [(.tmp 126)] _ [pt t 0] (.int .i64 (lk3)) rfl rfl (fun _ _ => by kernel_rfl) (looked_g hG) rfl ?_
        intro w27 hq
        replace Q1 := Q1.mo hq
        replace hG := hG.mo hq
        replace M := M.trans hq
        clear hq
        refine wl_mv (.tmp 127) (.int .i64 (lk3)) (fun _ => rfl) rfl rfl ?_
        refine w_nil ?_
        refine xn_then ?_
        refine w_seq ?_
        refine w_reg ?_
        refine wl_mv (.tmp 5) (pt t 0) (fun _ => rfl) e5 rfl ?_
        refine wl_un (fun v => Instr.fieldAt 31 v 4) (.tmp 8) (pt k1 0) (pt k1 4) (fun _ => rfl) rfl (by kernel_rfl) rfl ?_
        refine wl_load 3 (.tmp 129) (pt k1 4) (.int .i64 (o.c)) rfl rfl (run_one Q1 3 4 rfl Try.underlying3 rfl) rfl ?_
        refine wl_callx 12 [(.tmp 128), (.tmp 130)] _ [pt t 0, .int .i64 (o.c)] rfl rfl (fun _ _ => by kernel_rfl) (sum_any hG (by omega)) rfl ?_
        rintro _ w28 ⟨S8, cd8, lk4, rfl, hG, _, hk6, hk7, hM2⟩
        refine ⟨_, rfl, ?_⟩
        replace M := Wr.mo hM2 M (Nat.le_refl _)
        replace Q1 := Wr.at hM2 Q1 (by simp)
        clear hM2
        refine w_nil ?_
        refine xn_then ?_
        refine w_seq ?_
        refine w_reg ?_
        refine wl_mv (.tmp 5) (pt t 0) (fun _ => rfl) e5 rfl ?_
        refine wl_call 14 [(.tmp 132)] _ [pt t 0] (.int .i64 (lk4)) rfl rfl (fun _ _ => by kernel_rfl) (looked_g hG) rfl ?_
        intro w29 hq
        replace Q1 := Q1.mo hq
        replace hG := hG.mo hq
        replace M := M.trans hq
        clear hq
        refine wl_mv (.tmp 10) (.int .i64 (lk3)) (fun _ => rfl) rfl rfl ?_
        refine wl_bin (fun x y => do eqGuard .sub 2 (.tmp 133) (.tmp 134) x y; binOp .sub 2 x y) (.tmp 133) (.tmp 134) (.int .i64 (lk4)) (.int .i64 (lk3)) (.int .i64 (lk4 - lk3)) (fun _ => rfl) rfl rfl (subL (by omega) (by omega) _ _ _) rfl ?_
        refine wl_bin (fun x y => do eqGuard .gtr 2 (.tmp 135) (.const (.int .i64 (1))) x y; binOp .gtr 2 x y) (.tmp 135) (.const (.int .i64 (1))) (.int .i64 (lk4 - lk3)) (.int .i64 (1)) (.bool false) (fun _ => rfl) rfl rfl (gtL (decide_eq_false (by omega)) _ _ _) rfl ?_
        refine w_nil ?_
        refine xn_then ?_
        refine w_condF rfl ?_
        refine w_skip ?_
        refine xn_blk ?_
        refine xn_then ?_
        refine w_reg ?_
        refine wl_bin (fun x y => do eqGuard .add 3 (.tmp 32) (.const (.int .i64 (1))) x y; binOp .add 3 x y) (.tmp 32) (.const (.int .i64 (1))) (.int .i64 (i : Int)) (.int .i64 (1)) (.int .i64 ((i : Int) + 1)) (fun _ => rfl) e32 rfl (addI (by omega) (by omega) _ _ _) rfl ?_
        refine wl_mv (.tmp 137) (.int .i64 ((i : Int) + 1)) (fun _ => rfl) rfl rfl ?_
        refine w_nil ?_
        exact xn_loop (r - 1) (by omega) ⟨i + 1, tr2, lk4, by omega, e30, e31, rfl, e5, hG.pop (fun _ e => by cases e), hb2, by omega, M⟩
      | false =>
        have hf2p := of_decide_eq_false hf2
        refine w_reg ?_
        refine wl_mv (.tmp 5) (pt t 0) (fun _ => rfl) e5 rfl ?_
        refine wl_un (fun v => Instr.fieldAt 31 v 1) (.tmp 8) (pt k1 0) (pt k1 1) (fun _ => rfl) rfl (by kernel_rfl) rfl ?_
        refine wl_load 3 (.tmp 54) (pt k1 1) (.int .i64 (o.a)) rfl rfl (run_one Q1 3 1 rfl Try.underlying3 rfl) rfl ?_
        refine wl_un (fun v => Instr.fieldAt 31 v 2) (.tmp 8) (pt k1 0) (pt k1 2) (fun _ => rfl) rfl (by kernel_rfl) rfl ?_
        refine wl_load 2 (.tmp 56) (pt k1 2) (.int .i64 (o.i)) rfl rfl (run_one Q1 2 2 rfl Try.underlying2 rfl) rfl ?_
        refine wl_un (fun v => Instr.fieldAt 31 v 3) (.tmp 8) (pt k1 0) (pt k1 3) (fun _ => rfl) rfl (by kernel_rfl) rfl ?_
        refine wl_load 29 (.tmp 58) (pt k1 3) (.slice o.p o.vs.length o.cap) rfl rfl (run_one Q1 29 3 rfl Try.underlying29 rfl) rfl ?_
        refine wl_callx 9 [(.tmp 53), (.tmp 55), (.tmp 57), (.tmp 59)] _ [pt t 0, .int .i64 (o.a), .int .i64 (o.i), .slice o.p o.vs.length o.cap] rfl rfl (fun _ _ => by kernel_rfl) (ins_b hG hb hok.i (by omega) (fun w9 m9 => hSVo.mo (Wr.mo m9 M (Nat.le_refl _))) hok.v) rfl ?_
        rintro _ w15 ⟨tr2, lk2, rfl, hG, hb2, hk1, hk2, hk3, hM2⟩
        refine ⟨_, rfl, ?_⟩
        have hle2 := hG.le
        have hkl2 := tr2.kv_len
        have hz1 := bm_hi hle hle2
        have hz2 := bm_hi hle2 hle2
        replace M := Wr.mo hM2 M (Nat.le_refl _)
        replace Q1 := Wr.at hM2 Q1 (by simp)
        clear hM2
        refine wl_bin (fun x y => do eqGuard .eql 25 (.tmp 60) (.const (.int .i64 (0))) x y; binOp .eql 25 x y) (.tmp 60) (.const (.int .i64 (0))) (.int .i64 (insE mb.sc.length tr (o.a) (o.i) o.vs.length)) (.int .i64 (0)) (.bool false) (fun _ => rfl) rfl rfl (eqE hf2 _ _ _) rfl ?_
        refine w_nil ?_
        refine xn_then ?_
        refine w_condF rfl ?_
        refine w_skip ?_
        refine xn_blk ?_
        refine xn_then ?_
        refine w_seq ?_
        refine w_reg ?_
        refine wl_mv (.tmp 5) (pt t 0) (fun _ => rfl) e5 rfl ?_
        refine wl_call 14 [(.tmp 78)] _ [pt t 0] (.int .i64 (lk2)) rfl rfl (fun _ _ => by kernel_rfl) (looked_g hG) rfl ?_
        intro w16 hq
        replace Q1 := Q1.mo hq
        replace hG := hG.mo hq
        replace M := M.trans hq
        clear hq
        refine wl_mv (.tmp 10) (.int .i64 (lk)) (fun _ => rfl) rfl rfl ?_
        refine wl_bin (fun x y => do eqGuard .sub 2 (.tmp 79) (.tmp 80) x y; binOp .sub 2 x y) (.tmp 79) (.tmp 80) (.int .i64 (lk2)) (.int .i64 (lk)) (.int .i64 (lk2 - lk)) (fun _ => rfl) rfl rfl (subL (by omega) (by omega) _ _ _) rfl ?_
        refine wl_mv (.tmp 81) (.int .i64 (lk2 - lk)) (fun _ => rfl) rfl rfl ?_
        refine w_nil ?_
        refine xn_then ?_
        refine w_seq ?_
        refine w_seq ?_
        refine w_reg ?_
        refine wl_mv (.tmp 5) (pt t 0) (fun _ => rfl) e5 rfl ?_
        refine wl_call 19 [(.tmp 82)] _ [pt t 0] (.int .i64 ((tr2.ht : Int))) rfl rfl (fun _ _ => by kernel_rfl) (depth_g hG) rfl ?_
        intro w17 hq
        replace Q1 := Q1.mo hq
        replace hG := hG.mo hq
        replace M := M.trans hq
        clear hq
        refine wl_mv (.tmp 5) (pt t 0) (fun _ => rfl) e5 rfl ?_
        refine wl_call 10 [(.tmp 84)] _ [pt t 0] (.int .i64 ((tr2.kv.length : Int))) rfl rfl (fun _ _ => by kernel_rfl) (len_g hG) rfl ?_
        intro w18 hq
        replace Q1 := Q1.mo hq
        replace hG := hG.mo hq
        replace M := M.trans hq
        clear hq
        have hbl1 := bitc_le (tr2.kv.length)
        refine wl_call 20 [(.tmp 85)] _ [.int .i64 ((tr2.kv.length : Int))] (.int .i64 ((bitc (tr2.kv.length) : Int))) rfl rfl (fun _ _ => by kernel_rfl) (bits_n (tr2.kv.length) _ (by omega) (by omega)) rfl ?_
        intro w19 hq
        replace Q1 := Q1.mo hq
        replace hG := hG.mo hq
        replace M := M.trans hq
        clear hq
        refine wl_bin (fun x y => do eqGuard .mul 3 (.const (.int .i64 (3))) (.tmp 86) x y; binOp .mul 3 x y) (.const (.int .i64 (3))) (.tmp 86) (.int .i64 (3)) (.int .i64 ((bitc (tr2.kv.length) : Int))) (.int .i64 (3 * ((bitc (tr2.kv.length) : Int)))) (fun _ => rfl) rfl rfl (mulI (by omega) (by omega) _ _ _) rfl ?_
        have hbt := (ht_bits hb2 hle2).1
        rw [show tr2.sz.toNat = tr2.kv.length by omega] at hbt
        refine wl_bin (fun x y => do eqGuard .gtr 3 (.tmp 83) (.tmp 87) x y; binOp .gtr 3 x y) (.tmp 83) (.tmp 87) (.int .i64 ((tr2.ht : Int))) (.int .i64 (3 * ((bitc (tr2.kv.length) : Int)))) (.bool false) (fun _ => rfl) rfl rfl (gtI (decide_eq_false (by omega)) _ _ _) rfl ?_
        refine wl_mv (.tmp 88) (.bool false) (fun _ => rfl) rfl rfl ?_
        refine wl_mv (.tmp 13) (.int .i64 (lk2 - lk)) (fun _ => rfl) rfl rfl ?_
        refine wl_mv (.tmp 12) (.int .i64 (0)) (fun _ => rfl) rfl rfl ?_
        refine wl_bin (fun x y => do eqGuard .lss 2 (.tmp 90) (.tmp 91) x y; binOp .lss 2 x y) (.tmp 90) (.tmp 91) (.int .i64 (lk2 - lk)) (.int .i64 (0)) (.bool false) (fun _ => rfl) rfl rfl (ltL (decide_eq_false (by omega)) _ _ _) rfl ?_
        refine wl_pick (.tmp 89) (.const (.bool true)) (.tmp 92) false (.bool false) (fun _ => rfl) rfl rfl rfl ?_
        refine wl_mv (.tmp 93) (.bool false) (fun _ => rfl) rfl rfl ?_
        refine wl_mv (.tmp 13) (.int .i64 (lk2 - lk)) (fun _ => rfl) rfl rfl ?_
        refine wl_mv (.tmp 11) (.int .i64 (24)) (fun _ => rfl) rfl rfl ?_
        refine wl_mv (.tmp 9) (.int .i64 ((tr.kv.length : Int))) (fun _ => rfl) rfl rfl ?_
        refine wl_mv (.tmp 5) (pt t 0) (fun _ => rfl) e5 rfl ?_
        refine wl_call 10 [(.tmp 98)] _ [pt t 0] (.int .i64 ((tr2.kv.length : Int))) rfl rfl (fun _ _ => by kernel_rfl) (len_g hG) rfl ?_
        intro w20 hq
        replace Q1 := Q1.mo hq
        replace hG := hG.mo hq
        replace M := M.trans hq
        clear hq
        refine wl_val (.int .i64 (((max tr.kv.length tr2.kv.length : Nat) : Int))) (maxN tr.kv.length tr2.kv.length _ _ _ (by exact rfl) (by exact rfl) _ _ _ _ _ _) rfl ?_
        have hbl2 := bitc_le (max tr.kv.length tr2.kv.length)
        refine wl_call 20 [(.tmp 100)] _ [.int .i64 (((max tr.kv.length tr2.kv.length : Nat) : Int))] (.int .i64 ((bitc (max tr.kv.length tr2.kv.length) : Int))) rfl rfl (fun _ _ => by kernel_rfl) (bits_n (max tr.kv.length tr2.kv.length) _ (by omega) (by omega)) rfl ?_
        intro w21 hq
        replace Q1 := Q1.mo hq
        replace hG := hG.mo hq
        replace M := M.trans hq
        clear hq
        refine wl_bin (fun x y => do eqGuard .add 3 (.const (.int .i64 (1))) (.tmp 101) x y; binOp .add 3 x y) (.const (.int .i64 (1))) (.tmp 101) (.int .i64 (1)) (.int .i64 ((bitc (max tr.kv.length tr2.kv.length) : Int))) (.int .i64 (1 + ((bitc (max tr.kv.length tr2.kv.length) : Int)))) (fun _ => rfl) rfl rfl (addI (by omega) (by omega) _ _ _) rfl ?_
        refine wl_bin (fun x y => do eqGuard .mul 2 (.tmp 96) (.tmp 102) x y; binOp .mul 2 x y) (.tmp 96) (.tmp 102) (.int .i64 (24)) (.int .i64 (1 + ((bitc (max tr.kv.length tr2.kv.length) : Int)))) (.int .i64 (24 * (1 + ((bitc (max tr.kv.length tr2.kv.length) : Int))))) (fun _ => rfl) rfl rfl (mulL (by omega) (by omega) _ _ _) rfl ?_
        have hk2b := hk2
        unfold Bm at hk2b
        refine wl_bin (fun x y => do eqGuard .gtr 2 (.tmp 95) (.tmp 103) x y; binOp .gtr 2 x y) (.tmp 95) (.tmp 103) (.int .i64 (lk2 - lk)) (.int .i64 (24 * (1 + ((bitc (max tr.kv.length tr2.kv.length) : Int))))) (.bool false) (fun _ => rfl) rfl rfl (gtL (decide_eq_false (by omega)) _ _ _) rfl ?_
        refine wl_pick (.tmp 94) (.const (.bool true)) (.tmp 104) false (.bool false) (fun _ => rfl) rfl rfl rfl ?_
        refine w_nil ?_
        refine xn_then ?_
        refine w_condF rfl ?_
        refine w_skip ?_
        refine xn_then ?_
        refine w_seq ?_
        refine w_reg ?_
        refine wl_mv (.tmp 5) (pt t 0) (fun _ => rfl) e5 rfl ?_
        refine wl_call 14 [(.tmp 106)] _ [pt t 0] (.int .i64 (lk2)) rfl rfl (fun _ _ => by kernel_rfl) (looked_g hG) rfl ?_
        intro w22 hq
        replace Q1 := Q1.mo hq
        replace hG := hG.mo hq
        replace M := M.trans hq
        clear hq
        refine wl_mv (.tmp 107) (.int .i64 (lk2)) (fun _ => rfl) rfl rfl ?_
        refine w_nil ?_
        refine xn_then ?_
        refine w_seq ?_
        refine w_reg ?_
        refine wl_mv (.tmp 5) (pt t 0) (fun _ => rfl) e5 rfl ?_
        refine wl_un (fun v => Instr.fieldAt 31 v 4) (.tmp 8) (pt k1 0) (pt k1 4) (fun _ => rfl) rfl (by kernel_rfl) rfl ?_
        refine wl_load 3 (.tmp 109) (pt k1 4) (.int .i64 (o.c)) rfl rfl (run_one Q1 3 4 rfl Try.underlying3 rfl) rfl ?_
        refine wl_un (fun v => Instr.fieldAt 31 v 5) (.tmp 8) (pt k1 0) (pt k1 5) (fun _ => rfl) rfl (by kernel_rfl) rfl ?_
        refine wl_load 3 (.tmp 111) (pt k1 5) (.int .i64 (o.f)) rfl rfl (run_one Q1 3 5 rfl Try.underlying3 rfl) rfl ?_
        refine wl_un (fun v => Instr.fieldAt 31 v 6) (.tmp 8) (pt k1 0) (pt k1 6) (fun _ => rfl) rfl (by kernel_rfl) rfl ?_
        refine wl_load 3 (.tmp 113) (pt k1 6) (.int .i64 (o.e)) rfl rfl (run_one Q1 3 6 rfl Try.underlying3 rfl) rfl ?_
        refine wl_callx 11 [(.tmp 108), (.tmp 110), (.tmp 112), (.tmp 114)] _ [pt t 0, .int .i64 (o.c), .int .i64 (o.f), .int .i64 (o.e)] rfl rfl (fun _ _ => by kernel_rfl) (qry_b hG hb2 (by omega)) rfl ?_
        rintro _ w23 ⟨S9, cd9, lk3, rfl, hG, hk4, hk5, hM2⟩
        refine ⟨_, rfl, ?_⟩
        replace M := Wr.mo hM2 M (Nat.le_refl _)
        replace Q1 := Wr.at hM2 Q1 (by simp)
        clear hM2
        refine w_nil ?_
        refine xn_then ?_
        refine w_seq ?_
        refine w_seq ?_
        refine w_reg ?_
        refine wl_mv (.tmp 5) (pt t 0) (fun _ => rfl) e5 rfl ?_
        refine wl_call 14 [(.tmp 116)] _ [pt t 0] (.int .i64 (lk3)) rfl rfl (fun _ _ => by kernel_rfl) (looked_g hG) rfl ?_
        intro w24 hq
        replace Q1 := Q1.mo hq
        replace hG := hG.mo hq
        replace M := M.trans hq
        clear hq
        refine wl_mv (.tmp 10) (.int .i64 (lk2)) (fun _ => rfl) rfl rfl ?_
        refine wl_bin (fun x y => do eqGuard .sub 2 (.tmp 117) (.tmp 118) x y; binOp .sub 2 x y) (.tmp 117) (.tmp 118) (.int .i64 (lk3)) (.int .i64 (lk2)) (.int .i64 (lk3 - lk2)) (fun _ => rfl) rfl rfl (subL (by omega) (by omega) _ _ _) rfl ?_
        refine wl_mv (.tmp 5) (pt t 0) (fun _ => rfl) e5 rfl ?_
        refine wl_call 10 [(.tmp 120)] _ [pt t 0] (.int .i64 ((tr2.kv.length : Int))) rfl rfl (fun _ _ => by kernel_rfl) (len_g hG) rfl ?_
        intro w25 hq
        replace Q1 := Q1.mo hq
        replace hG := hG.mo hq
        replace M := M.trans hq
        clear hq
        have hbl3 := bitc_le (tr2.kv.length)
        refine wl_call 20 [(.tmp 121)] _ [.int .i64 ((tr2.kv.length : Int))] (.int .i64 ((bitc (tr2.kv.length) : Int))) rfl rfl (fun _ _ => by kernel_rfl) (bits_n (tr2.kv.length) _ (by omega) (by omega)) rfl ?_
        intro w26 hq
        replace Q1 := Q1.mo hq
        replace hG := hG.mo hq
        replace M := M.trans hq
        clear hq
        refine wl_bin (fun x y => do eqGuard .add 3 (.const (.int .i64 (1))) (.tmp 122) x y; binOp .add 3 x y) (.const (.int .i64 (1))) (.tmp 122) (.int .i64 (1)) (.int .i64 ((bitc (tr2.kv.length) : Int))) (.int .i64 (1 + ((bitc (tr2.kv.length) : Int)))) (fun _ => rfl) rfl rfl (addI (by omega) (by omega) _ _ _) rfl ?_
        refine wl_bin (fun x y => do eqGuard .mul 2 (.const (.int .i64 (24))) (.tmp 123) x y; binOp .mul 2 x y) (.const (.int .i64 (24))) (.tmp 123) (.int .i64 (24)) (.int .i64 (1 + ((bitc (tr2.kv.length) : Int)))) (.int .i64 (24 * (1 + ((bitc (tr2.kv.length) : Int))))) (fun _ => rfl) rfl rfl (mulL (by omega) (by omega) _ _ _) rfl ?_
        have hk5b := hk5
        unfold Bm at hk5b
        rw [Nat.max_self] at hk5b
        refine wl_bin (fun x y => do eqGuard .gtr 2 (.tmp 119) (.tmp 124) x y; binOp .gtr 2 x y) (.tmp 119) (.tmp 124) (.int .i64 (lk3 - lk2)) (.int .i64 (24 * (1 + ((bitc (tr2.kv.length) : Int))))) (.bool false) (fun _ => rfl) rfl rfl (gtL (decide_eq_false (by omega)) _ _ _) rfl ?_
        refine w_nil ?_
        refine xn_then ?_
        refine w_condF rfl ?_
        refine w_skip ?_
        refine xn_then ?_
        refine w_seq ?_
        refine w_reg ?_
        refine wl_mv (.tmp 5) (pt t 0) (fun _ => rfl) e5 rfl ?_
        refine wl_call 14 [(.tmp 126)] _ [pt t 0] (.int .i64 (lk3)) rfl rfl (fun _ _ => by kernel_rfl) (looked_g hG) rfl ?_
        intro w27 hq
        replace Q1 := Q1.mo hq
        replace hG := hG.mo hq
        replace M := M.trans hq
        clear hq
        refine wl_mv (.tmp 127) (.int .i64 (lk3)) (fun _ => rfl) rfl rfl ?_
        refine w_nil ?_
        refine xn_then ?_
        refine w_seq ?_
        refine w_reg ?_
        refine wl_mv (.tmp 5) (pt t 0) (fun _ => rfl) e5 rfl ?_
        refine wl_un (fun v => Instr.fieldAt 31 v 4) (.tmp 8) (pt k1 0) (pt k1 4) (fun _ => rfl) rfl (by kernel_rfl) rfl ?_
        refine wl_load 3 (.tmp 129) (pt k1 4) (.int .i64 (o.c)) rfl rfl (run_one Q1 3 4 rfl Try.underlying3 rfl) rfl ?_
        refine wl_callx 12 [(.tmp 128), (.tmp 130)] _ [pt t 0, .int .i64 (o.c)] rfl rfl (fun _ _ => by kernel_rfl) (sum_any hG (by omega)) rfl ?_
        rintro _ w28 ⟨S8, cd8, lk4, rfl, hG, _, hk6, hk7, hM2⟩
        refine ⟨_, rfl, ?_⟩
        replace M := Wr.mo hM2 M (Nat.le_refl _)
        replace Q1 := Wr.at hM2 Q1 (by simp)
        clear hM2
        refine w_nil ?_
        refine xn_then ?_
        refine w_seq ?_
        refine w_reg ?_
        refine wl_mv (.tmp 5) (pt t 0) (fun _ => rfl) e5 rfl ?_
        refine wl_call 14 [(.tmp 132)] _ [pt t 0] (.int .i64 (lk4)) rfl rfl (fun _ _ => by kernel_rfl) (looked_g hG) rfl ?_
        intro w29 hq
        replace Q1 := Q1.mo hq
        replace hG := hG.mo hq
        replace M := M.trans hq
        clear hq
        refine wl_mv (.tmp 10) (.int .i64 (lk3)) (fun _ => rfl) rfl rfl ?_
        refine wl_bin (fun x y => do eqGuard .sub 2 (.tmp 133) (.tmp 134) x y; binOp .sub 2 x y) (.tmp 133) (.tmp 134) (.int .i64 (lk4)) (.int .i64 (lk3)) (.int .i64 (lk4 - lk3)) (fun _ => rfl) rfl rfl (subL (by omega) (by omega) _ _ _) rfl ?_
        refine wl_bin (fun x y => do eqGuard .gtr 2 (.tmp 135) (.const (.int .i64 (1))) x y; binOp .gtr 2 x y) (.tmp 135) (.const (.int .i64 (1))) (.int .i64 (lk4 - lk3)) (.int .i64 (1)) (.bool false) (fun _ => rfl) rfl rfl (gtL (decide_eq_false (by omega)) _ _ _) rfl ?_
        refine w_nil ?_
        refine xn_then ?_
        refine w_condF rfl ?_
        refine w_skip ?_
        refine xn_blk ?_
        refine xn_then ?_
        refine w_reg ?_
        refine wl_bin (fun x y => do eqGuard .add 3 (.tmp 32) (.const (.int .i64 (1))) x y; binOp .add 3 x y) (.tmp 32) (.const (.int .i64 (1))) (.int .i64 (i : Int)) (.int .i64 (1)) (.int .i64 ((i : Int) + 1)) (fun _ => rfl) e32 rfl (addI (by omega) (by omega) _ _ _) rfl ?_
        refine wl_mv (.tmp 137) (.int .i64 ((i : Int) + 1)) (fun _ => rfl) rfl rfl ?_
        refine w_nil ?_
        exact xn_loop (r - 1) (by omega) ⟨i + 1, tr2, lk4, by omega, e30, e31, rfl, e5, hG.pop (fun _ e => by cases e), hb2, by omega, M⟩
    | false =>
      have hf1p := of_decide_eq_false hf1
      refine w_reg ?_
      refine wl_bin (fun x y => do eqGuard .eql 3 (.tmp 41) (.const (.int .i64 (0))) x y; binOp .eql 3 x y) (.tmp 41) (.const (.int .i64 (0))) (.int .i64 (o.d)) (.int .i64 (0)) (.bool false) (fun _ => rfl) rfl rfl (eqI hf1 _ _ _) rfl ?_
      refine wl_mv (.tmp 52) (.bool false) (fun _ => rfl) rfl rfl ?_
      refine w_nil ?_
      refine xn_then ?_
      refine w_condF rfl ?_
      refine w_seq ?_
      cases hf2 : decide (o.d = 1) with
      | true =>
        have hf2p := of_decide_eq_true hf2
        refine w_reg ?_
        refine wl_bin (fun x y => do eqGuard .eql 3 (.tmp 41) (.const (.int .i64 (1))) x y; binOp .eql 3 x y) (.tmp 41) (.const (.int .i64 (1))) (.int .i64 (o.d)) (.int .i64 (1)) (.bool true) (fun _ => rfl) rfl rfl (eqI hf2 _ _ _) rfl ?_
        refine wl_mv (.tmp 63) (.bool true) (fun _ => rfl) rfl rfl ?_
        refine w_nil ?_
        refine xn_then ?_
        refine w_condT rfl ?_
        refine w_reg ?_
        refine wl_mv (.tmp 5) (pt t 0) (fun _ => rfl) e5 rfl ?_
        refine wl_un (fun v => Instr.fieldAt 31 v 2) (.tmp 8) (pt k1 0) (pt k1 2) (fun _ => rfl) rfl (by kernel_rfl) rfl ?_
        refine wl_load 2 (.tmp 65) (pt k1 2) (.int .i64 (o.i)) rfl rfl (run_one Q1 2 2 rfl Try.underlying2 rfl) rfl ?_
        refine wl_callx 15 [(.tmp 64), (.tmp 66)] _ [pt t 0, .int .i64 (o.i)] rfl rfl (fun _ _ => by kernel_rfl) (del_b hG hb hok.i (by omega)) rfl ?_
        rintro _ w15 ⟨p9, c9, tr2, lk2, rfl, hG, hb2, hk1, hk2, hM2⟩
        refine ⟨_, rfl, ?_⟩
        have hle2 := hG.le
        have hkl2 := tr2.kv_len
        have hz1 := bm_hi hle hle2
        have hz2 := bm_hi hle2 hle2
        replace M := Wr.mo hM2 M (Nat.le_refl _)
        replace Q1 := Wr.at hM2 Q1 (by simp)
        clear hM2
        refine w_nil ?_
        refine xn_blk ?_
        refine xn_then ?_
        refine w_seq ?_
        refine w_reg ?_
        refine wl_mv (.tmp 5) (pt t 0) (fun _ => rfl) e5 rfl ?_
        refine wl_call 14 [(.tmp 78)] _ [pt t 0] (.int .i64 (lk2)) rfl rfl (fun _ _ => by kernel_rfl) (looked_g hG) rfl ?_
        intro w16 hq
        replace Q1 := Q1.mo hq
        replace hG := hG.mo hq
        replace M := M.trans hq
        clear hq
        refine wl_mv (.tmp 10) (.int .i64 (lk)) (fun _ => rfl) rfl rfl ?_
        refine wl_bin (fun x y => do eqGuard .sub 2 (.tmp 79) (.tmp 80) x y; binOp .sub 2 x y) (.tmp 79) (.tmp 80) (.int .i64 (lk2)) (.int .i64 (lk)) (.int .i64 (lk2 - lk)) (fun _ => rfl) rfl rfl (subL (by omega) (by omega) _ _ _) rfl ?_
        refine wl_mv (.tmp 81) (.int .i64 (lk2 - lk)) (fun _ => rfl) rfl rfl ?_
        refine w_nil ?_
        refine xn_then ?_
        refine w_seq ?_
        refine w_seq ?_
        refine w_reg ?_
        refine wl_mv (.tmp 5) (pt t 0) (fun _ => rfl) e5 rfl ?_
        refine wl_call 19 [(.tmp 82)] _ [pt t 0] (.int .i64 ((tr2.ht : Int))) rfl rfl (fun _ _ => by kernel_rfl) (depth_g hG) rfl ?_
        intro w17 hq
        replace Q1 := Q1.mo hq
        replace hG := hG.mo hq
        replace M := M.trans hq
        clear hq
        refine wl_mv (.tmp 5) (pt t 0) (fun _ => rfl) e5 rfl ?_
        refine wl_call 10 [(.tmp 84)] _ [pt t 0] (.int .i64 ((tr2.kv.length : Int))) rfl rfl (fun _ _ => by kernel_rfl) (len_g hG) rfl ?_
        intro w18 hq
        replace Q1 := Q1.mo hq
        replace hG := hG.mo hq
        replace M := M.trans hq
        clear hq
        have hbl1 := bitc_le (tr2.kv.length)
        refine wl_call 20 [(.tmp 85)] _ [.int .i64 ((tr2.kv.length : Int))] (.int .i64 ((bitc (tr2.kv.length) : Int))) rfl rfl (fun _ _ => by kernel_rfl) (bits_n (tr2.kv.length) _ (by omega) (by omega)) rfl ?_
        intro w19 hq
        replace Q1 := Q1.mo hq
        replace hG := hG.mo hq
        replace M := M.trans hq
        clear hq
        refine wl_bin (fun x y => do eqGuard .mul 3 (.const (.int .i64 (3))) (.tmp 86) x y; binOp .mul 3 x y) (.const (.int .i64 (3))) (.tmp 86) (.int .i64 (3)) (.int .i64 ((bitc (tr2.kv.length) : Int))) (.int .i64 (3 * ((bitc (tr2.kv.length) : Int)))) (fun _ => rfl) rfl rfl (mulI (by omega) (by omega) _ _ _) rfl ?_
        have hbt := (ht_bits hb2 hle2).1
        rw [show tr2.sz.toNat = tr2.kv.length by omega] at hbt
        refine wl_bin (fun x y => do eqGuard .gtr 3 (.tmp 83) (.tmp 87) x y; binOp .gtr 3 x y) (.tmp 83) (.tmp 87) (.int .i64 ((tr2.ht : Int))) (.int .i64 (3 * ((bitc (tr2.kv.length) : Int)))) (.bool false) (fun _ => rfl) rfl rfl (gtI (decide_eq_false (by omega)) _ _ _) rfl ?_
        refine wl_mv (.tmp 88) (.bool false) (fun _ => rfl) rfl rfl ?_
        refine wl_mv (.tmp 13) (.int .i64 (lk2 - lk)) (fun _ => rfl) rfl rfl ?_
        refine wl_mv (.tmp 12) (.int .i64 (0)) (fun _ => rfl) rfl rfl ?_
        refine wl_bin (fun x y => do eqGuard .lss 2 (.tmp 90) (.tmp 91) x y; binOp .lss 2 x y) (.tmp 90) (.tmp 91) (.int .i64 (lk2 - lk)) (.int .i64 (0)) (.bool false) (fun _ => rfl) rfl rfl (ltL (decide_eq_false (by omega)) _ _ _) rfl ?_
        refine wl_pick (.tmp 89) (.const (.bool true)) (.tmp 92) false (.bool false) (fun _ => rfl) rfl rfl rfl ?_
        refine wl_mv (.tmp 93) (.bool false) (fun _ => rfl) rfl rfl ?_
        refine wl_mv (.tmp 13) (.int .i64 (lk2 - lk)) (fun _ => rfl) rfl rfl ?_
        refine wl_mv (.tmp 11) (.int .i64 (24)) (fun _ => rfl) rfl rfl ?_
        refine wl_mv (.tmp 9) (.int .i64 ((tr.kv.length : Int))) (fun _ => rfl) rfl rfl ?_
        refine wl_mv (.tmp 5) (pt t 0) (fun _ => rfl) e5 rfl ?_
        refine wl_call 10 [(.tmp 98)] _ [pt t 0] (.int .i64 ((tr2.kv.length : Int))) rfl rfl (fun _ _ => by kernel_rfl) (len_g hG) rfl ?_
        intro w20 hq
        replace Q1 := Q1.mo hq
        replace hG := hG.mo hq
        replace M := M.trans hq
        clear hq
        refine wl_val (.int .i64 (((max tr.kv.length tr2.kv.length : Nat) : Int))) (maxN tr.kv.length tr2.kv.length _ _ _ (by exact rfl) (by exact rfl) _ _ _ _ _ _) rfl ?_
        have hbl2 := bitc_le (max tr.kv.length tr2.kv.length)
        refine wl_call 20 [(.tmp 100)] _ [.int .i64 (((max tr.kv.length tr2.kv.length : Nat) : Int))] (.int .i64 ((bitc (max tr.kv.length tr2.kv.length) : Int))) rfl rfl (fun _ _ => by kernel_rfl) (bits_n (max tr.kv.length tr2.kv.length) _ (by omega) (by omega)) rfl ?_
        intro w21 hq
        replace Q1 := Q1.mo hq
        replace hG := hG.mo hq
        replace M := M.trans hq
        clear hq
        refine wl_bin (fun x y => do eqGuard .add 3 (.const (.int .i64 (1))) (.tmp 101) x y; binOp .add 3 x y) (.const (.int .i64 (1))) (.tmp 101) (.int .i64 (1)) (.int .i64 ((bitc (max tr.kv.length tr2.kv.length) : Int))) (.int .i64 (1 + ((bitc (max tr.kv.length tr2.kv.length) : Int)))) (fun _ => rfl) rfl rfl (addI (by omega) (by omega) _ _ _) rfl ?_
        refine wl_bin (fun x y => do eqGuard .mul 2 (.tmp 96) (.tmp 102) x y; binOp .mul 2 x y) (.tmp 96) (.tmp 102) (.int .i64 (24)) (.int .i64 (1 + ((bitc (max tr.kv.length tr2.kv.length) : Int)))) (.int .i64 (24 * (1 + ((bitc (max tr.kv.length tr2.kv.length) : Int))))) (fun _ => rfl) rfl rfl (mulL (by omega) (by omega) _ _ _) rfl ?_
        have hk2b := hk2
        unfold Bm at hk2b
        refine wl_bin (fun x y => do eqGuard .gtr 2 (.tmp 95) (.tmp 103) x y; binOp .gtr 2 x y) (.tmp 95) (.tmp 103) (.int .i64 (lk2 - lk)) (.int .i64 (24 * (1 + ((bitc (max tr.kv.length tr2.kv.length) : Int))))) (.bool false) (fun _ => rfl) rfl rfl (gtL (decide_eq_false (by omega)) _ _ _) rfl ?_
        refine wl_pick (.tmp 94) (.const (.bool true)) (.tmp 104) false (.bool false) (fun _ => rfl) rfl rfl rfl ?_
        refine w_nil ?_
        refine xn_then ?_
        refine w_condF rfl ?_
        refine w_skip ?_
        refine xn_then ?_
        refine w_seq ?_
        refine w_reg ?_
        refine wl_mv (.tmp 5) (pt t 0) (fun _ => rfl) e5 rfl ?_
        refine wl_call 14 [(.tmp 106)] _ [pt t 0] (.int .i64 (lk2)) rfl rfl (fun _ _ => by kernel_rfl) (looked_g hG) rfl ?_
        intro w22 hq
        replace Q1 := Q1.mo hq
        replace hG := hG.mo hq
        replace M := M.trans hq
        clear hq
        refine wl_mv (.tmp 107) (.int .i64 (lk2)) (fun _ => rfl) rfl rfl ?_
        refine w_nil ?_
        refine xn_then ?_
        refine w_seq ?_
        refine w_reg ?_
        refine wl_mv (.tmp 5) (pt t 0) (fun _ => rfl) e5 rfl ?_
        refine wl_un (fun v => Instr.fieldAt 31 v 4) (.tmp 8) (pt k1 0) (pt k1 4) (fun _ => rfl) rfl (by kernel_rfl) rfl ?_
        refine wl_load 3 (.tmp 109) (pt k1 4) (.int .i64 (o.c)) rfl rfl (run_one Q1 3 4 rfl Try.underlying3 rfl) rfl ?_
        refine wl_un (fun v => Instr.fieldAt 31 v 5) (.tmp 8) (pt k1 0) (pt k1 5) (fun _ => rfl) rfl (by kernel_rfl) rfl ?_
        refine wl_load 3 (.tmp 111) (pt k1 5) (.int .i64 (o.f)) rfl rfl (run_one Q1 3 5 rfl Try.underlying3 rfl) rfl ?_
        refine wl_un (fun v => Instr.fieldAt 31 v 6) (.tmp 8) (pt k1 0) (pt k1 6) (fun _ => rfl) rfl (by kernel_rfl) rfl ?_
        refine wl_load 3 (.tmp 113) (pt k1 6) (.int .i64 (o.e)) rfl rfl (run_one Q1 3 6 rfl Try.underlying3 rfl) rfl ?_
        refine wl_callx 11 [(.tmp 108), (.tmp 110), (.tmp 112), (.tmp 114)] _ [pt t 0, .int .i64 (o.c), .int .i64 (o.f), .int .i64 (o.e)] rfl rfl (fun _ _ => by kernel_rfl) (qry_b hG hb2 (by omega)) rfl ?_
        rintro _ w23 ⟨S9, cd9, lk3, rfl, hG, hk4, hk5, hM2⟩
        refine ⟨_, rfl, ?_⟩
        replace M := Wr.mo hM2 M (Nat.le_refl _)
        replace Q1 := Wr.at hM2 Q1 (by simp)
        clear hM2
        refine w_nil ?_
        refine xn_then ?_
        refine w_seq ?_
        refine w_seq ?_
        refine w_reg ?_
        refine wl_mv (.tmp 5) (pt t 0) (fun _ => rfl) e5 rfl ?_
        refine wl_call 14 [(.tmp 116)] _ [pt t 0] (.int .i64 (lk3)) rfl rfl (fun _ _ => by kernel_rfl) (looked_g hG) rfl ?_
        intro w24 hq
        replace Q1 := Q1.mo hq
        replace hG := hG.mo hq
        replace M := M.trans hq
        clear hq
        refine wl_mv (.tmp 10) (.int .i64 (lk2)) (fun _ => rfl) rfl rfl ?_
        refine wl_bin (fun x y => do eqGuard .sub 2 (.tmp 117) (.tmp 118) x y; binOp .sub 2 x y) (.tmp 117) (.tmp 118) (.int .i64 (lk3)) (.int .i64 (lk2)) (.int .i64 (lk3 - lk2)) (fun _ => rfl) rfl rfl (subL (by omega) (by omega) _ _ _) rfl ?_
        refine wl_mv (.tmp 5) (pt t 0) (fun _ => rfl) e5 rfl ?_
        refine wl_call 10 [(.tmp 120)] _ [pt t 0] (.int .i64 ((tr2.kv.length : Int))) rfl rfl (fun _ _ => by kernel_rfl) (len_g hG) rfl ?_
        intro w25 hq
        replace Q1 := Q1.mo hq
        replace hG := hG.mo hq
        replace M := M.trans hq
        clear hq
        have hbl3 := bitc_le (tr2.kv.length)
        refine wl_call 20 [(.tmp 121)] _ [.int .i64 ((tr2.kv.length : Int))] (.int .i64 ((bitc (tr2.kv.length) : Int))) rfl rfl (fun _ _ => by kernel_rfl) (bits_n (tr2.kv.length) _ (by omega) (by omega)) rfl ?_
        intro w26 hq
        replace Q1 := Q1.mo hq
        replace hG := hG.mo hq
        replace M := M.trans hq
        clear hq
        refine wl_bin (fun x y => do eqGuard .add 3 (.const (.int .i64 (1))) (.tmp 122) x y; binOp .add 3 x y) (.const (.int .i64 (1))) (.tmp 122) (.int .i64 (1)) (.int .i64 ((bitc (tr2.kv.length) : Int))) (.int .i64 (1 + ((bitc (tr2.kv.length) : Int)))) (fun _ => rfl) rfl rfl (addI (by omega) (by omega) _ _ _) rfl ?_
        refine wl_bin (fun x y => do eqGuard .mul 2 (.const (.int .i64 (24))) (.tmp 123) x y; binOp .mul 2 x y) (.const (.int .i64 (24))) (.tmp 123) (.int .i64 (24)) (.int .i64 (1 + ((bitc (tr2.kv.length) : Int)))) (.int .i64 (24 * (1 + ((bitc (tr2.kv.length) : Int))))) (fun _ => rfl) rfl rfl (mulL (by omega) (by omega) _ _ _) rfl ?_
        have hk5b := hk5
        unfold Bm at hk5b
        rw [Nat.max_self] at hk5b
        refine wl_bin (fun x y => do eqGuard .gtr 2 (.tmp 119) (.tmp 124) x y; binOp .gtr 2 x y) (.tmp 119) (.tmp 124) (.int .i64 (lk3 - lk2)) (.int .i64 (24 * (1 + ((bitc (tr2.kv.length) : Int))))) (.bool false) (fun _ => rfl) rfl rfl (gtL (decide_eq_false (by omega)) _ _ _) rfl ?_
        refine w_nil ?_
        refine xn_then ?_
        refine w_condF rfl ?_
        refine w_skip ?_
        refine xn_then ?_
        refine w_seq ?_
        refine w_reg ?_
        refine wl_mv (.tmp 5) (pt t 0) (fun _ => rfl) e5 rfl ?_
        refine wl_call 14 [(.tmp 126)] _ [pt t 0] (.int .i64 (lk3)) rfl rfl (fun _ _ => by kernel_rfl) (looked_g hG) rfl ?_
        intro w27 hq
        replace Q1 := Q1.mo hq
        replace hG := hG.mo hq
        replace M := M.trans hq
        clear hq
        refine wl_mv (.tmp 127) (.int .i64 (lk3)) (fun _ => rfl) rfl rfl ?_
        refine w_nil ?_
        refine xn_then ?_
        refine w_seq ?_
        refine w_reg ?_
        refine wl_mv (.tmp 5) (pt t 0) (fun _ => rfl) e5 rfl ?_
        refine wl_un (fun v => Instr.fieldAt 31 v 4) (.tmp 8) (pt k1 0) (pt k1 4) (fun _ => rfl) rfl (by kernel_rfl) rfl ?_
        refine wl_load 3 (.tmp 129) (pt k1 4) (.int .i64 (o.c)) rfl rfl (run_one Q1 3 4 rfl Try.underlying3 rfl) rfl ?_
        refine wl_callx 12 [(.tmp 128), (.tmp 130)] _ [pt t 0, .int .i64 (o.c)] rfl rfl (fun _ _ => by kernel_rfl) (sum_any hG (by omega)) rfl ?_
        rintro _ w28 ⟨S8, cd8, lk4, rfl, hG, _, hk6, hk7, hM2⟩
        refine ⟨_, rfl, ?_⟩
        replace M := Wr.mo hM2 M (Nat.le_refl _)
        replace Q1 := Wr.at hM2 Q1 (by simp)
        clear hM2
        refine w_nil ?_
        refine xn_then ?_
        refine w_seq ?_
        refine w_reg ?_
        refine wl_mv (.tmp 5) (pt t 0) (fun _ => rfl) e5 rfl ?_
        refine wl_call 14 [(.tmp 132)] _ [pt t 0] (.int .i64 (lk4)) rfl rfl (fun _ _ => by kernel_rfl) (looked_g hG) rfl ?_
        intro w29 hq
        replace Q1 := Q1.mo hq
        replace hG := hG.mo hq
        replace M := M.trans hq
        clear hq
        refine wl_mv (.tmp 10) (.int .i64 (lk3)) (fun _ => rfl) rfl rfl ?_
        refine wl_bin (fun x y => do eqGuard .sub 2 (.tmp 133) (.tmp 134) x y; binOp .sub 2 x y) (.tmp 133) (.tmp 134) (.int .i64 (lk4)) (.int .i64 (lk3)) (.int .i64 (lk4 - lk3)) (fun _ => rfl) rfl rfl (subL (by omega) (by omega) _ _ _) rfl ?_
        refine wl_bin (fun x y => do eqGuard .gtr 2 (.tmp 135) (.const (.int .i64 (1))) x y; binOp .gtr 2 x y) (.tmp 135) (.const (.int .i64 (1))) (.int .i64 (lk4 - lk3)) (.int .i64 (1)) (.bool false) (fun _ => rfl) rfl rfl (gtL (decide_eq_false (by omega)) _ _ _) rfl ?_
        refine w_nil ?_
        refine xn_then ?_
        refine w_condF rfl ?_
        refine w_skip ?_
        refine xn_blk ?_
        refine xn_then ?_
        refine w_reg ?_
        refine wl_bin (fun x y => do eqGuard .add 3 (.tmp 32) (.const (.int .i64 (1))) x y; binOp .add 3 x y) (.tmp 32) (.const (.int .i64 (1))) (.int .i64 (i : Int)) (.int .i64 (1)) (.int .i64 ((i : Int) + 1)) (fun _ => rfl) e32 rfl (addI (by omega) (by omega) _ _ _) rfl ?_
        refine wl_mv (.tmp 137) (.int .i64 ((i : Int) + 1)) (fun _ => rfl) rfl rfl ?_
        refine w_nil ?_
        exact xn_loop (r - 1) (by omega) ⟨i + 1, tr2, lk4, by omega, e30, e31, rfl, e5, hG.pop (fun _ e => by cases e), hb2, by omega, M⟩
      | false =>
        have hf2p := of_decide_eq_false hf2
        refine w_reg ?_
        refine wl_bin (fun x y => do eqGuard .eql 3 (.tmp 41) (.const (.int .i64 (1))) x y; binOp .eql 3 x y) (.tmp 41) (.const (.int .i64 (1))) (.int .i64 (o.d)) (.int .i64 (1)) (.bool false) (fun _ => rfl) rfl rfl (eqI hf2 _ _ _) rfl ?_
        refine wl_mv (.tmp 63) (.bool false) (fun _ => rfl) rfl rfl ?_
        refine w_nil ?_
        refine xn_then ?_
        refine w_condF rfl ?_
        refine w_seq ?_
        cases hf3 : decide (o.d = 2) with
        | true =>
          have hf3p := of_decide_eq_true hf3
          refine w_reg ?_
          refine wl_bin (fun x y => do eqGuard .eql 3 (.tmp 41) (.const (.int .i64 (2))) x y; binOp .eql 3 x y) (.tmp 41) (.const (.int .i64 (2))) (.int .i64 (o.d)) (.int .i64 (2)) (.bool true) (fun _ => rfl) rfl rfl (eqI hf3 _ _ _) rfl ?_
          refine wl_mv (.tmp 69) (.bool true) (fun _ => rfl) rfl rfl ?_
          refine w_nil ?_
          refine xn_then ?_
          refine w_condT rfl ?_
          refine w_seq ?_
          refine w_reg ?_
          refine wl_mv (.tmp 5) (pt t 0) (fun _ => rfl) e5 rfl ?_
          refine wl_un (fun v => Instr.fieldAt 31 v 2) (.tmp 8) (pt k1 0) (pt k1 2) (fun _ => rfl) rfl (by kernel_rfl) rfl ?_
          refine wl_load 2 (.tmp 71) (pt k1 2) (.int .i64 (o.i)) rfl rfl (run_one Q1 2 2 rfl Try.underlying2 rfl) rfl ?_
          refine wl_un (fun v => Instr.fieldAt 31 v 1) (.tmp 8) (pt k1 0) (pt k1 1) (fun _ => rfl) rfl (by kernel_rfl) rfl ?_
          refine wl_load 3 (.tmp 73) (pt k1 1) (.int .i64 (o.a)) rfl rfl (run_one Q1 3 1 rfl Try.underlying3 rfl) rfl ?_
          refine wl_callx 16 [(.tmp 70), (.tmp 72), (.tmp 74)] _ [pt t 0, .int .i64 (o.i), .int .i64 (o.a)] rfl rfl (fun _ _ => by kernel_rfl) (mov_b hG hb hok.i (by omega)) rfl ?_
          rintro _ w15 ⟨p9, c9, tr2, lk2, rfl, hG, hb2, hk1, hk2, hM2⟩
          refine ⟨_, rfl, ?_⟩
          have hle2 := hG.le
          have hkl2 := tr2.kv_len
          have hz1 := bm_hi hle hle2
          have hz2 := bm_hi hle2 hle2
          replace M := Wr.mo hM2 M (Nat.le_refl _)
          replace Q1 := Wr.at hM2 Q1 (by simp)
          clear hM2
          refine w_nil ?_
          refine xn_then ?_
          refine w_reg ?_
          refine wl_mv (.tmp 11) (.int .i64 (24)) (fun _ => rfl) rfl rfl ?_
          refine wl_bin (fun x y => do eqGuard .mul 2 (.tmp 76) (.const (.int .i64 (2))) x y; binOp .mul 2 x y) (.tmp 76) (.const (.int .i64 (2))) (.int .i64 (24)) (.int .i64 (2)) (.int .i64 (48)) (fun _ => rfl) rfl rfl (by kernel_rfl) rfl ?_
          refine wl_mv (.tmp 77) (.int .i64 (48)) (fun _ => rfl) rfl rfl ?_
          refine w_nil ?_
          refine xn_blk ?_
          refine xn_then ?_
          refine w_seq ?_
          refine w_reg ?_
          refine wl_mv (.tmp 5) (pt t 0) (fun _ => rfl) e5 rfl ?_
          refine wl_call 14 [(.tmp 78)] _ [pt t 0] (.int .i64 (lk2)) rfl rfl (fun _ _ => by kernel_rfl) (looked_g hG) rfl ?_
          intro w16 hq
          replace Q1 := Q1.mo hq
          replace hG := hG.mo hq
          replace M := M.trans hq
          clear hq
          refine wl_mv (.tmp 10) (.int .i64 (lk)) (fun _ => rfl) rfl rfl ?_
          refine wl_bin (fun x y => do eqGuard .sub 2 (.tmp 79) (.tmp 80) x y; binOp .sub 2 x y) (.tmp 79) (.tmp 80) (.int .i64 (lk2)) (.int .i64 (lk)) (.int .i64 (lk2 - lk)) (fun _ => rfl) rfl rfl (subL (by omega) (by omega) _ _ _) rfl ?_
          refine wl_mv (.tmp 81) (.int .i64 (lk2 - lk)) (fun _ => rfl) rfl rfl ?_
          refine w_nil ?_
          refine xn_then ?_
          refine w_seq ?_
          refine w_seq ?_
          refine w_reg ?_
          refine wl_mv (.tmp 5) (pt t 0) (fun _ => rfl) e5 rfl ?_
          refine wl_call 19 [(.tmp 82)] _ [pt t 0] (.int .i64 ((tr2.ht : Int))) rfl rfl (fun _ _ => by kernel_rfl) (depth_g hG) rfl ?_
          intro w17 hq
          replace Q1 := Q1.mo hq
          replace hG := hG.mo hq
          replace M := M.trans hq
          clear hq
          refine wl_mv (.tmp 5) (pt t 0) (fun _ => rfl) e5 rfl ?_
          refine wl_call 10 [(.tmp 84)] _ [pt t 0] (.int .i64 ((tr2.kv.length : Int))) rfl rfl (fun _ _ => by kernel_rfl) (len_g hG) rfl ?_
          intro w18 hq
          replace Q1 := Q1.mo hq
          replace hG := hG.mo hq
          replace M := M.trans hq
          clear hq
          have hbl1 := bitc_le (tr2.kv.length)
          refine wl_call 20 [(.tmp 85)] _ [.int .i64 ((tr2.kv.length : Int))] (.int .i64 ((bitc (tr2.kv.length) : Int))) rfl rfl (fun _ _ => by kernel_rfl) (bits_n (tr2.kv.length) _ (by omega) (by omega)) rfl ?_
          intro w19 hq
          replace Q1 := Q1.mo hq
          replace hG := hG.mo hq
          replace M := M.trans hq
          clear hq
          refine wl_bin (fun x y => do eqGuard .mul 3 (.const (.int .i64 (3))) (.tmp 86) x y; binOp .mul 3 x y) (.const (.int .i64 (3))) (.tmp 86) (.int .i64 (3)) (.int .i64 ((bitc (tr2.kv.length) : Int))) (.int .i64 (3 * ((bitc (tr2.kv.length) : Int)))) (fun _ => rfl) rfl rfl (mulI (by omega) (by omega) _ _ _) rfl ?_
          have hbt := (ht_bits hb2 hle2).1
          rw [show tr2.sz.toNat = tr2.kv.length by omega] at hbt
          refine wl_bin (fun x y => do eqGuard .gtr 3 (.tmp 83) (.tmp 87) x y; binOp .gtr 3 x y) (.tmp 83) (.tmp 87) (.int .i64 ((tr2.ht : Int))) (.int .i64 (3 * ((bitc (tr2.kv.length) : Int)))) (.bool false) (fun _ => rfl) rfl rfl (gtI (decide_eq_false (by omega)) _ _ _) rfl ?_
          refine wl_mv (.tmp 88) (.bool false) (fun _ => rfl) rfl rfl ?_
          refine wl_mv (.tmp 13) (.int .i64 (lk2 - lk)) (fun _ => rfl) rfl rfl ?_
          refine wl_mv (.tmp 12) (.int .i64 (0)) (fun _ => rfl) rfl rfl ?_
          refine wl_bin (fun x y => do eqGuard .lss 2 (.tmp 90) (.tmp 91) x y; binOp .lss 2 x y) (.tmp 90) (.tmp 91) (.int .i64 (lk2 - lk)) (.int .i64 (0)) (.bool false) (fun _ => rfl) rfl rfl (ltL (decide_eq_false (by omega)) _ _ _) rfl ?_
          refine wl_pick (.tmp 89) (.const (.bool true)) (.tmp 92) false (.bool false) (fun _ => rfl) rfl rfl rfl ?_
          refine wl_mv (.tmp 93) (.bool false) (fun _ => rfl) rfl rfl ?_
          refine wl_mv (.tmp 13) (.int .i64 (lk2 - lk)) (fun _ => rfl) rfl rfl ?_
          refine wl_mv (.tmp 11) (.int .i64 (48)) (fun _ => rfl) rfl rfl ?_
          refine wl_mv (.tmp 9) (.int .i64 ((tr.kv.length : Int))) (fun _ => rfl) rfl rfl ?_
          refine wl_mv (.tmp 5) (pt t 0) (fun _ => rfl) e5 rfl ?_
          refine wl_call 10 [(.tmp 98)] _ [pt t 0] (.int .i64 ((tr2.kv.length : Int))) rfl rfl (fun _ _ => by kernel_rfl) (len_g hG) rfl ?_
          intro w20 hq
          replace Q1 := Q1.mo hq
          replace hG := hG.mo hq
          replace M := M.trans hq
          clear hq
          refine wl_val (.int .i64 (((max tr.kv.length tr2.kv.length : Nat) : Int))) (maxN tr.kv.length tr2.kv.length _ _ _ (by exact rfl) (by exact rfl) _ _ _ _ _ _) rfl ?_
          have hbl2 := bitc_le (max tr.kv.length tr2.kv.length)
          refine wl_call 20 [(.tmp 100)] _ [.int .i64 (((max tr.kv.length tr2.kv.length : Nat) : Int))] (.int .i64 ((bitc (max tr.kv.length tr2.kv.length) : Int))) rfl rfl (fun _ _ => by kernel_rfl) (bits_n (max tr.kv.length tr2.kv.length) _ (by omega) (by omega)) rfl ?_
          intro w21 hq
          replace Q1 := Q1.mo hq
          replace hG := hG.mo hq
          replace M := M.trans hq
          clear hq
          refine wl_bin (fun x y => do eqGuard .add 3 (.const (.int .i64 (1))) (.tmp 101) x y; binOp .add 3 x y) (.const (.int .i64 (1))) (.tmp 101) (.int .i64 (1)) (.int .i64 ((bitc (max tr.kv.length tr2.kv.length) : Int))) (.int .i64 (1 + ((bitc (max tr.kv.length tr2.kv.length) : Int)))) (fun _ => rfl) rfl rfl (addI (by omega) (by omega) _ _ _) rfl ?_
          refine wl_bin (fun x y => do eqGuard .mul 2 (.tmp 96) (.tmp 102) x y; binOp .mul 2 x y) (.tmp 96) (.tmp 102) (.int .i64 (48)) (.int .i64 (1 + ((bitc (max tr.kv.length tr2.kv.length) : Int)))) (.int .i64 (48 * (1 + ((bitc (max tr.kv.length tr2.kv.length) : Int))))) (fun _ => rfl) rfl rfl (mulL (by omega) (by omega) _ _ _) rfl ?_
          have hk2b := hk2
          unfold Bm at hk2b
          refine wl_bin (fun x y => do eqGuard .gtr 2 (.tmp 95) (.tmp 103) x y; binOp .gtr 2 x y) (.tmp 95) (.tmp 103) (.int .i64 (lk2 - lk)) (.int .i64 (48 * (1 + ((bitc (max tr.kv.length tr2.kv.length) : Int))))) (.bool false) (fun _ => rfl) rfl rfl (gtL (decide_eq_false (by omega)) _ _ _) rfl ?_
          refine wl_pick (.tmp 94) (.const (.bool true)) (.tmp 104) false (.bool false) (fun _ => rfl) rfl rfl rfl ?_
          refine w_nil ?_
          refine xn_then ?_
          refine w_condF rfl ?_
          refine w_skip ?_
          refine xn_then ?_
          refine w_seq ?_
          refine w_reg ?_
          refine wl_mv (.tmp 5) (pt t 0) (fun _ => rfl) e5 rfl ?_
          refine wl_call 14 [(.tmp 106)] _ [pt t 0] (.int .i64 (lk2)) rfl rfl (fun _ _ => by kernel_rfl) (looked_g hG) rfl ?_
          intro w22 hq
          replace Q1 := Q1.mo hq
          replace hG := hG.mo hq
          replace M := M.trans hq
          clear hq
          refine wl_mv (.tmp 107) (.int .i64 (lk2)) (fun _ => rfl) rfl rfl ?_
          refine w_nil ?_
          refine xn_then ?_
          refine w_seq ?_
          refine w_reg ?_
          refine wl_mv (.tmp 5) (pt t 0) (fun _ => rfl) e5 rfl ?_
          refine wl_un (fun v => Instr.fieldAt 31 v 4) (.tmp 8) (pt k1 0) (pt k1 4) (fun _ => rfl) rfl (by kernel_rfl) rfl ?_
          refine wl_load 3 (.tmp 109) (pt k1 4) (.int .i64 (o.c)) rfl rfl (run_one Q1 3 4 rfl Try.underlying3 rfl) rfl ?_
          refine wl_un (fun v => Instr.fieldAt 31 v 5) (.tmp 8) (pt k1 0) (pt k1 5) (fun _ => rfl) rfl (by kernel_rfl) rfl ?_
          refine wl_load 3 (.tmp 111) (pt k1 5) (.int .i64 (o.f)) rfl rfl (run_one Q1 3 5 rfl Try.underlying3 rfl) rfl ?_
          refine wl_un (fun v => Instr.fieldAt 31 v 6) (.tmp 8) (pt k1 0) (pt k1 6) (fun _ => rfl) rfl (by kernel_rfl) rfl ?_
          refine wl_load 3 (.tmp 113) (pt k1 6) (.int .i64 (o.e)) rfl rfl (run_one Q1 3 6 rfl Try.underlying3 rfl) rfl ?_
          refine wl_callx 11 [(.tmp 108), (.tmp 110), (.tmp 112), (.tmp 114)] _ [pt t 0, .int .i64 (o.c), .int .i64 (o.f), .int .i64 (o.e)] rfl rfl (fun _ _ => by kernel_rfl) (qry_b hG hb2 (by omega)) rfl ?_
          rintro _ w23 ⟨S9, cd9, lk3, rfl, hG, hk4, hk5, hM2⟩
          refine ⟨_, rfl, ?_⟩
          replace M := Wr.mo hM2 M (Nat.le_refl _)
          replace Q1 := Wr.at hM2 Q1 (by simp)
          clear hM2
          refine w_nil ?_
          refine xn_then ?_
          refine w_seq ?_
          refine w_seq ?_
          refine w_reg ?_
          refine wl_mv (.tmp 5) (pt t 0) (fun _ => rfl) e5 rfl ?_
          refine wl_call 14 [(.tmp 116)] _ [pt t 0] (.int .i64 (lk3)) rfl rfl (fun _ _ => by kernel_rfl) (looked_g hG) rfl ?_
          intro w24 hq
          replace Q1 := Q1.mo hq
          replace hG := hG.mo hq
          replace M := M.trans hq
          clear hq
          refine wl_mv (.tmp 10) (.int .i64 (lk2)) (fun _ => rfl) rfl rfl ?_
          refine wl_bin (fun x y => do eqGuard .sub 2 (.tmp 117) (.tmp 118) x y; binOp .sub 2 x y) (.tmp 117) (.tmp 118) (.int .i64 (lk3)) (.int .i64 (lk2)) (.int .i64 (lk3 - lk2)) (fun _ => rfl) rfl rfl (subL (by omega) (by omega) _ _ _) rfl ?_
          refine wl_mv (.tmp 5) (pt t 0) (fun _ => rfl) e5 rfl ?_
          refine wl_call 10 [(.tmp 120)] _ [pt t 0] (.int .i64 ((tr2.kv.length : Int))) rfl rfl (fun _ _ => by kernel_rfl) (len_g hG) rfl ?_
          intro w25 hq
          replace Q1 := Q1.mo hq
          replace hG := hG.mo hq
          replace M := M.trans hq
          clear hq
          have hbl3 := bitc_le (tr2.kv.length)
          refine wl_call 20 [(.tmp 121)] _ [.int .i64 ((tr2.kv.length : Int))] (.int .i64 ((bitc (tr2.kv.length) : Int))) rfl rfl (fun _ _ => by kernel_rfl) (bits_n (tr2.kv.length) _ (by omega) (by omega)) rfl ?_
          intro w26 hq
          replace Q1 := Q1.mo hq
          replace hG := hG.mo hq
          replace M := M.trans hq
          clear hq
          refine wl_bin (fun x y => do eqGuard .add 3 (.const (.int .i64 (1))) (.tmp 122) x y; binOp .add 3 x y) (.const (.int .i64 (1))) (.tmp 122) (.int .i64 (1)) (.int .i64 ((bitc (tr2.kv.length) : Int))) (.int .i64 (1 + ((bitc (tr2.kv.length) : Int)))) (fun _ => rfl) rfl rfl (addI (by omega) (by omega) _ _ _) rfl ?_
          refine wl_bin (fun x y => do eqGuard .mul 2 (.const (.int .i64 (24))) (.tmp 123) x y; binOp .mul 2 x y) (.const (.int .i64 (24))) (.tmp 123) (.int .i64 (24)) (.int .i64 (1 + ((bitc (tr2.kv.length) : Int)))) (.int .i64 (24 * (1 + ((bitc (tr2.kv.length) : Int))))) (fun _ => rfl) rfl rfl (mulL (by omega) (by omega) _ _ _) rfl ?_
          have hk5b := hk5
          unfold Bm at hk5b
          rw [Nat.max_self] at hk5b
          refine wl_bin (fun x y => do eqGuard .gtr 2 (.tmp 119) (.tmp 124) x y; binOp .gtr 2 x y) (.tmp 119) (.tmp 124) (.int .i64 (lk3 - lk2)) (.int .i64 (24 * (1 + ((bitc (tr2.kv.length) : Int))))) (.bool false) (fun _ => rfl) rfl rfl (gtL (decide_eq_false (by omega)) _ _ _) rfl ?_
          refine w_nil ?_
          refine xn_then ?_
          refine w_condF rfl ?_
          refine w_skip ?_
          refine xn_then ?_
          refine w_seq ?_
          refine w_reg ?_
          refine wl_mv (.tmp 5) (pt t 0) (fun _ => rfl) e5 rfl ?_
          refine wl_call 14 [(.tmp 126)] _ [pt t 0] (.int .i64 (lk3)) rfl rfl (fun _ _ => by kernel_rfl) (looked_g hG) rfl ?_
          intro w27 hq
          replace Q1 := Q1.mo hq
          replace hG := hG.mo hq
          replace M := M.trans hq
          clear hq
          refine wl_mv (.tmp 127) (.int .i64 (lk3)) (fun _ => rfl) rfl rfl ?_
          refine w_nil ?_
          refine xn_then ?_
          refine w_seq ?_
          refine w_reg ?_
          refine wl_mv (.tmp 5) (pt t 0) (fun _ => rfl) e5 rfl ?_
          refine wl_un (fun v => Instr.fieldAt 31 v 4) (.tmp 8) (pt k1 0) (pt k1 4) (fun _ => rfl) rfl (by kernel_rfl) rfl ?_
          refine wl_load 3 (.tmp 129) (pt k1 4) (.int .i64 (o.c)) rfl rfl (run_one Q1 3 4 rfl Try.underlying3 rfl) rfl ?_
          refine wl_callx 12 [(.tmp 128), (.tmp 130)] _ [pt t 0, .int .i64 (o.c)] rfl rfl (fun _ _ => by kernel_rfl) (sum_any hG (by omega)) rfl ?_
          rintro _ w28 ⟨S8, cd8, lk4, rfl, hG, _, hk6, hk7, hM2⟩
          refine ⟨_, rfl, ?_⟩
          replace M := Wr.mo hM2 M (Nat.le_refl _)
          replace Q1 := Wr.at hM2 Q1 (by simp)
          clear hM2
          refine w_nil ?_
          refine xn_then ?_
          refine w_seq ?_
          refine w_reg ?_
          refine wl_mv (.tmp 5) (pt t 0) (fun _ => rfl) e5 rfl ?_
          refine wl_call 14 [(.tmp 132)] _ [pt t 0] (.int .i64 (lk4)) rfl rfl (fun _ _ => by kernel_rfl) (looked_g hG) rfl ?_
          intro w29 hq
          replace Q1 := Q1.mo hq
          replace hG := hG.mo hq
          replace M := M.trans hq
          clear hq
          refine wl_mv (.tmp 10) (.int .i64 (lk3)) (fun _ => rfl) rfl rfl ?_
          refine wl_bin (fun x y => do eqGuard .sub 2 (.tmp 133) (.tmp 134) x y; binOp .sub 2 x y) (.tmp 133) (.tmp 134) (.int .i64 (lk4)) (.int .i64 (lk3)) (.int .i64 (lk4 - lk3)) (fun _ => rfl) rfl rfl (subL (by omega) (by omega) _ _ _) rfl ?_
          refine wl_bin (fun x y => do eqGuard .gtr 2 (.tmp 135) (.const (.int .i64 (1))) x y; binOp .gtr 2 x y) (.tmp 135) (.const (.int .i64 (1))) (.int .i64 (lk4 - lk3)) (.int .i64 (1)) (.bool false) (fun _ => rfl) rfl rfl (gtL (decide_eq_false (by omega)) _ _ _) rfl ?_
          refine w_nil ?_
          refine xn_then ?_
          refine w_condF rfl ?_
          refine w_skip ?_
          refine xn_blk ?_
          refine xn_then ?_
          refine w_reg ?_
          refine wl_bin (fun x y => do eqGuard .add 3 (.tmp 32) (.const (.int .i64 (1))) x y; binOp .add 3 x y) (.tmp 32) (.const (.int .i64 (1))) (.int .i64 (i : Int)) (.int .i64 (1)) (.int .i64 ((i : Int) + 1)) (fun _ => rfl) e32 rfl (addI (by omega) (by omega) _ _ _) rfl ?_
          refine wl_mv (.tmp 137) (.int .i64 ((i : Int) + 1)) (fun _ => rfl) rfl rfl ?_
          refine w_nil ?_
          exact xn_loop (r - 1) (by omega) ⟨i + 1, tr2, lk4, by omega, e30, e31, rfl, e5, hG.pop (fun _ e => by cases e), hb2, by omega, M⟩
        | false =>
          have hf3p := of_decide_eq_false hf3
          refine w_reg ?_
          refine wl_bin (fun x y => do eqGuard .eql 3 (.tmp 41) (.const (.int .i64 (2))) x y; binOp .eql 3 x y) (.tmp 41) (.const (.int .i64 (2))) (.int .i64 (o.d)) (.int .i64 (2)) (.bool false) (fun _ => rfl) rfl rfl (eqI hf3 _ _ _) rfl ?_
          refine wl_mv (.tmp 69) (.bool false) (fun _ => rfl) rfl rfl ?_
          refine w_nil ?_
          refine xn_then ?_
          refine w_condF rfl ?_
          refine w_seq ?_
          cases hf4 : decide (setE mb.sc.length tr (o.i) (o.c) = 0) with
          | true =>
            have hf4p := of_decide_eq_true hf4
            refine w_any 7 [.inl (pt t 0), .inl (pt k1 2), .inl (.int .i64 (o.i)), .inl (pt k1 4), .inl (.int .i64 (o.c)), .inl (.agg #[.int .i64 (o.d), .int .i64 (o.a), .int .i64 (o.i), .slice o.p o.vs.length o.cap, .int .i64 (o.c), .int .i64 (o.f), .int .i64 (o.e)]), .inl (.agg #[.int .i64 (o.val.K), .bool o.val.n.b, .int .u64 (l0 o.val.n.n), .int .u64 (l1 o.val.n.n), .int .u64 (l2 o.val.n.n), .int .u64 (l3 o.val.n.n), .int .i64 (o.val.n.s), .bool o.val.fl, .string o.val.tx, .int .i64 (o.val.er)])] [] (by kernel_rfl) (by kernel_rfl) (by kernel_rfl) (by kernel_rfl) rfl (by kernel_rfl) (by kernel_rfl) late_nil ?_ ?_ ?_
            · exact Ds.none rfl
            · refine ea_cons ?_ (ea_cons ?_ (ea_cons ?_ (ea_cons ?_ (ea_cons ?_ (ea_cons ?_ (ea_cons ?_ (ea_nil)))))))
              · exact og_eq (pt t 0) rfl (fun f wf hq hd K hK => go_run rfl (wo_mv (.tmp 5) (pt t 0) (fun _ => rfl) e5 (hK _ (Mo.refl _))))
              · exact og_eq (pt k1 2) rfl (fun f wf hq hd K hK => go_run rfl (wo_un (fun v => Instr.fieldAt 31 v 2) (.tmp 8) (pt k1 0) (pt k1 2) (fun _ => rfl) rfl (by kernel_rfl) (hK _ (Mo.refl _))))
              · exact og_eq (.int .i64 (o.i)) rfl (fun f wf hq hd K hK => have Q1 := Q1.mo hq; go_run rfl (wo_load 2 (.tmp 43) (pt k1 2) (.int .i64 (o.i)) rfl (hd 1 rfl) (run_one Q1 2 2 rfl Try.underlying2 rfl) (hK _ (Mo.refl _))))
              · exact og_eq (pt k1 4) rfl (fun f wf hq hd K hK => go_run rfl (wo_un (fun v => Instr.fieldAt 31 v 4) (.tmp 8) (pt k1 0) (pt k1 4) (fun _ => rfl) rfl (by kernel_rfl) (hK _ (Mo.refl _))))
              · exact og_eq (.int .i64 (o.c)) rfl (fun f wf hq hd K hK => have Q1 := Q1.mo hq; go_run rfl (wo_load 3 (.tmp 45) (pt k1 4) (.int .i64 (o.c)) rfl (hd 3 rfl) (run_one Q1 3 4 rfl Try.underlying3 rfl) (hK _ (Mo.refl _))))
              · exact og_eq (.agg #[.int .i64 (o.d), .int .i64 (o.a), .int .i64 (o.i), .slice o.p o.vs.length o.cap, .int .i64 (o.c), .int .i64 (o.f), .int .i64 (o.e)]) rfl (fun f wf hq hd K hK => have Q1 := Q1.mo hq; go_run rfl (wo_load 31 (.tmp 8) (pt k1 0) (.agg #[.int .i64 (o.d), .int .i64 (o.a), .int .i64 (o.i), .slice o.p o.vs.length o.cap, .int .i64 (o.c), .int .i64 (o.f), .int .i64 (o.e)]) rfl rfl (run_row Q1 31 0 7 [.int .i64 (o.d), .int .i64 (o.a), .int .i64 (o.i), .slice o.p o.vs.length o.cap, .int .i64 (o.c), .int .i64 (o.f), .int .i64 (o.e)] rfl Try.underlying31 rfl zs31) (hK _ (Mo.refl _))))
              · exact og_eq (.agg #[.int .i64 (o.val.K), .bool o.val.n.b, .int .u64 (l0 o.val.n.n), .int .u64 (l1 o.val.n.n), .int .u64 (l2 o.val.n.n), .int .u64 (l3 o.val.n.n), .int .i64 (o.val.n.s), .bool o.val.fl, .string o.val.tx, .int .i64 (o.val.er)]) rfl (fun f wf hq hd K hK => go_run rfl (wo_call 18 [(.tmp 47)] _ [.agg #[.int .i64 (o.d), .int .i64 (o.a), .int .i64 (o.i), .slice o.p o.vs.length o.cap, .int .i64 (o.c), .int .i64 (o.f), .int .i64 (o.e)]] (.agg #[.int .i64 (o.val.K), .bool o.val.n.b, .int .u64 (l0 o.val.n.n), .int .u64 (l1 o.val.n.n), .int .u64 (l2 o.val.n.n), .int .u64 (l3 o.val.n.n), .int .i64 (o.val.n.s), .bool o.val.fl, .string o.val.tx, .int .i64 (o.val.er)]) rfl (li1 (hd 5 rfl)) (fun _ _ => by kernel_rfl) (value_n o (hSVo.mo (M.trans hq))) hK))
            intro kf15 w15 hq hR hne
            replace Q1 := Q1.mo hq
            replace hG := hG.mo hq
            replace M := M.trans hq
            clear hq hR hne
            refine wl_callx 17 [(.tmp 42), (.tmp 44), (.tmp 46), (.tmp 48)] _ [pt t 0, .int .i64 (o.i), .int .i64 (o.c), .agg #[.int .i64 (o.val.K), .bool o.val.n.b, .int .u64 (l0 o.val.n.n), .int .u64 (l1 o.val.n.n), .int .u64 (l2 o.val.n.n), .int .u64 (l3 o.val.n.n), .int .i64 (o.val.n.s), .bool o.val.fl, .string o.val.tx, .int .i64 (o.val.er)]] rfl rfl (fun _ _ => by kernel_rfl) (set_b hG hb hok.i (Op6.val_ok hok) (by omega)) rfl ?_
            rintro _ w16 ⟨tr2, lk2, rfl, hG, hb2, hk1, hk2, hk3, hM2⟩
            refine ⟨_, rfl, ?_⟩
            have hle2 := hG.le
            have hkl2 := tr2.kv_len
            have hz1 := bm_hi hle hle2
            have hz2 := bm_hi hle2 hle2
            replace M := Wr.mo hM2 M (Nat.le_refl _)
            replace Q1 := Wr.at hM2 Q1 (by simp)
            clear hM2
            refine wl_bin (fun x y => do eqGuard .eql 25 (.tmp 49) (.const (.int .i64 (0))) x y; binOp .eql 25 x y) (.tmp 49) (.const (.int .i64 (0))) (.int .i64 (setE mb.sc.length tr (o.i) (o.c))) (.int .i64 (0)) (.bool true) (fun _ => rfl) rfl rfl (eqE hf4 _ _ _) rfl ?_
            refine w_nil ?_
            refine xn_then ?_
            refine w_condT rfl ?_
            refine w_reg ?_
            refine wl_mv (.const (.int .i64 (1))) (.int .i64 (1)) (fun _ => rfl) rfl rfl ?_
            refine w_nil ?_
            refine xn_blk ?_
            refine xn_then ?_
            refine w_seq ?_
            refine w_reg ?_
            refine wl_mv (.tmp 5) (pt t 0) (fun _ => rfl) e5 rfl ?_
            refine wl_call 14 [(.tmp 78)] _ [pt t 0] (.int .i64 (lk2)) rfl rfl (fun _ _ => by kernel_rfl) (looked_g hG) rfl ?_
            intro w17 hq
            replace Q1 := Q1.mo hq
            replace hG := hG.mo hq
            replace M := M.trans hq
            clear hq
            refine wl_mv (.tmp 10) (.int .i64 (lk)) (fun _ => rfl) rfl rfl ?_
            refine wl_bin (fun x y => do eqGuard .sub 2 (.tmp 79) (.tmp 80) x y; binOp .sub 2 x y) (.tmp 79) (.tmp 80) (.int .i64 (lk2)) (.int .i64 (lk)) (.int .i64 (lk2 - lk)) (fun _ => rfl) rfl rfl (subL (by omega) (by omega) _ _ _) rfl ?_
            refine wl_mv (.tmp 81) (.int .i64 (lk2 - lk)) (fun _ => rfl) rfl rfl ?_
            refine w_nil ?_
            refine xn_then ?_
            refine w_seq ?_
            refine w_seq ?_
            refine w_reg ?_
            refine wl_mv (.tmp 5) (pt t 0) (fun _ => rfl) e5 rfl ?_
            refine wl_call 19 [(.tmp 82)] _ [pt t 0] (.int .i64 ((tr2.ht : Int))) rfl rfl (fun _ _ => by kernel_rfl) (depth_g hG) rfl ?_
            intro w18 hq
            replace Q1 := Q1.mo hq
            replace hG := hG.mo hq
            replace M := M.trans hq
            clear hq
            refine wl_mv (.tmp 5) (pt t 0) (fun _ => rfl) e5 rfl ?_
            refine wl_call 10 [(.tmp 84)] _ [pt t 0] (.int .i64 ((tr2.kv.length : Int))) rfl rfl (fun _ _ => by kernel_rfl) (len_g hG) rfl ?_
            intro w19 hq
            replace Q1 := Q1.mo hq
            replace hG := hG.mo hq
            replace M := M.trans hq
            clear hq
            have hbl1 := bitc_le (tr2.kv.length)
            refine wl_call 20 [(.tmp 85)] _ [.int .i64 ((tr2.kv.length : Int))] (.int .i64 ((bitc (tr2.kv.length) : Int))) rfl rfl (fun _ _ => by kernel_rfl) (bits_n (tr2.kv.length) _ (by omega) (by omega)) rfl ?_
            intro w20 hq
            replace Q1 := Q1.mo hq
            replace hG := hG.mo hq
            replace M := M.trans hq
            clear hq
            refine wl_bin (fun x y => do eqGuard .mul 3 (.const (.int .i64 (3))) (.tmp 86) x y; binOp .mul 3 x y) (.const (.int .i64 (3))) (.tmp 86) (.int .i64 (3)) (.int .i64 ((bitc (tr2.kv.length) : Int))) (.int .i64 (3 * ((bitc (tr2.kv.length) : Int)))) (fun _ => rfl) rfl rfl (mulI (by omega) (by omega) _ _ _) rfl ?_
            have hbt := (ht_bits hb2 hle2).1
            rw [show tr2.sz.toNat = tr2.kv.length by omega] at hbt
            refine wl_bin (fun x y => do eqGuard .gtr 3 (.tmp 83) (.tmp 87) x y; binOp .gtr 3 x y) (.tmp 83) (.tmp 87) (.int .i64 ((tr2.ht : Int))) (.int .i64 (3 * ((bitc (tr2.kv.length) : Int)))) (.bool false) (fun _ => rfl) rfl rfl (gtI (decide_eq_false (by omega)) _ _ _) rfl ?_
            refine wl_mv (.tmp 88) (.bool false) (fun _ => rfl) rfl rfl ?_
            refine wl_mv (.tmp 13) (.int .i64 (lk2 - lk)) (fun _ => rfl) rfl rfl ?_
            refine wl_mv (.tmp 12) (.int .i64 (1)) (fun _ => rfl) rfl rfl ?_
            refine wl_bin (fun x y => do eqGuard .lss 2 (.tmp 90) (.tmp 91) x y; binOp .lss 2 x y) (.tmp 90) (.tmp 91) (.int .i64 (lk2 - lk)) (.int .i64 (1)) (.bool false) (fun _ => rfl) rfl rfl (ltL (decide_eq_false (by have := hk3 (of_decide_eq_true hf4); omega)) _ _ _) rfl ?_
            refine wl_pick (.tmp 89) (.const (.bool true)) (.tmp 92) false (.bool false) (fun _ => rfl) rfl rfl rfl ?_
            refine wl_mv (.tmp 93) (.bool false) (fun _ => rfl) rfl rfl ?_
            refine wl_mv (.tmp 13) (.int .i64 (lk2 - lk)) (fun _ => rfl) rfl rfl ?_
            refine wl_mv (.tmp 11) (.int .i64 (24)) (fun _ => rfl) rfl rfl ?_
            refine wl_mv (.tmp 9) (.int .i64 ((tr.kv.length : Int))) (fun _ => rfl) rfl rfl ?_
            refine wl_mv (.tmp 5) (pt t 0) (fun _ => rfl) e5 rfl ?_
            refine wl_call 10 [(.tmp 98)] _ [pt t 0] (.int .i64 ((tr2.kv.length : Int))) rfl rfl (fun _ _ => by kernel_rfl) (len_g hG) rfl ?_
            intro w21 hq
            replace Q1 := Q1.mo hq
            replace hG := hG.mo hq
            replace M := M.trans hq
            clear hq
            refine wl_val (.int .i64 (((max tr.kv.length tr2.kv.length : Nat) : Int))) (maxN tr.kv.length tr2.kv.length _ _ _ (by exact rfl) (by exact rfl) _ _ _ _ _ _) rfl ?_
            have hbl2 := bitc_le (max tr.kv.length tr2.kv.length)
            refine wl_call 20 [(.tmp 100)] _ [.int .i64 (((max tr.kv.length tr2.kv.length : Nat) : Int))] (.int .i64 ((bitc (max tr.kv.length tr2.kv.length) : Int))) rfl rfl (fun _ _ => by kernel_rfl) (bits_n (max tr.kv.length tr2.kv.length) _ (by omega) (by omega)) rfl ?_
            intro w22 hq
            replace Q1 := Q1.mo hq
            replace hG := hG.mo hq
            replace M := M.trans hq
            clear hq
            refine wl_bin (fun x y => do eqGuard .add 3 (.const (.int .i64 (1))) (.tmp 101) x y; binOp .add 3 x y) (.const (.int .i64 (1))) (.tmp 101) (.int .i64 (1)) (.int .i64 ((bitc (max tr.kv.length tr2.kv.length) : Int))) (.int .i64 (1 + ((bitc (max tr.kv.length tr2.kv.length) : Int)))) (fun _ => rfl) rfl rfl (addI (by omega) (by omega) _ _ _) rfl ?_
            refine wl_bin (fun x y => do eqGuard .mul 2 (.tmp 96) (.tmp 102) x y; binOp .mul 2 x y) (.tmp 96) (.tmp 102) (.int .i64 (24)) (.int .i64 (1 + ((bitc (max tr.kv.length tr2.kv.length) : Int)))) (.int .i64 (24 * (1 + ((bitc (max tr.kv.length tr2.kv.length) : Int))))) (fun _ => rfl) rfl rfl (mulL (by omega) (by omega) _ _ _) rfl ?_
            have hk2b := hk2
            unfold Bm at hk2b
            refine wl_bin (fun x y => do eqGuard .gtr 2 (.tmp 95) (.tmp 103) x y; binOp .gtr 2 x y) (.tmp 95) (.tmp 103) (.int .i64 (lk2 - lk)) (.int .i64 (24 * (1 + ((bitc (max tr.kv.length tr2.kv.length) : Int))))) (.bool false) (fun _ => rfl) rfl rfl (gtL (decide_eq_false (by omega)) _ _ _) rfl ?_
            refine wl_pick (.tmp 94) (.const (.bool true)) (.tmp 104) false (.bool false) (fun _ => rfl) rfl rfl rfl ?_
            refine w_nil ?_
            refine xn_then ?_
            refine w_condF rfl ?_
            refine w_skip ?_
            refine xn_then ?_
            refine w_seq ?_
            refine w_reg ?_
            refine wl_mv (.tmp 5) (pt t 0) (fun _ => rfl) e5 rfl ?_
            refine wl_call 14 [(.tmp 106)] _ [pt t 0] (.int .i64 (lk2)) rfl rfl (fun _ _ => by kernel_rfl) (looked_g hG) rfl ?_
            intro w23 hq
            replace Q1 := Q1.mo hq
            replace hG := hG.mo hq
            replace M := M.trans hq
            clear hq
            refine wl_mv (.tmp 107) (.int .i64 (lk2)) (fun _ => rfl) rfl rfl ?_
            refine w_nil ?_
            refine xn_then ?_
            refine w_seq ?_
            refine w_reg ?_
            refine wl_mv (.tmp 5) (pt t 0) (fun _ => rfl) e5 rfl ?_
            refine wl_un (fun v => Instr.fieldAt 31 v 4) (.tmp 8) (pt k1 0) (pt k1 4) (fun _ => rfl) rfl (by kernel_rfl) rfl ?_
            refine wl_load 3 (.tmp 109) (pt k1 4) (.int .i64 (o.c)) rfl rfl (run_one Q1 3 4 rfl Try.underlying3 rfl) rfl ?_
            refine wl_un (fun v => Instr.fieldAt 31 v 5) (.tmp 8) (pt k1 0) (pt k1 5) (fun _ => rfl) rfl (by kernel_rfl) rfl ?_
            refine wl_load 3 (.tmp 111) (pt k1 5) (.int .i64 (o.f)) rfl rfl (run_one Q1 3 5 rfl Try.underlying3 rfl) rfl ?_
            refine wl_un (fun v => Instr.fieldAt 31 v 6) (.tmp 8) (pt k1 0) (pt k1 6) (fun _ => rfl) rfl (by kernel_rfl) rfl ?_
            refine wl_load 3 (.tmp 113) (pt k1 6) (.int .i64 (o.e)) rfl rfl (run_one Q1 3 6 rfl Try.underlying3 rfl) rfl ?_
            refine wl_callx 11 [(.tmp 108), (.tmp 110), (.tmp 112), (.tmp 114)] _ [pt t 0, .int .i64 (o.c), .int .i64 (o.f), .int .i64 (o.e)] rfl rfl (fun _ _ => by kernel_rfl) (qry_b hG hb2 (by omega)) rfl ?_
            rintro _ w24 ⟨S9, cd9, lk3, rfl, hG, hk4, hk5, hM2⟩
            refine ⟨_, rfl, ?_⟩
            replace M := Wr.mo hM2 M (Nat.le_refl _)
            replace Q1 := Wr.at hM2 Q1 (by simp)
            clear hM2
            refine w_nil ?_
            refine xn_then ?_
            refine w_seq ?_
            refine w_seq ?_
            refine w_reg ?_
            refine wl_mv (.tmp 5) (pt t 0) (fun _ => rfl) e5 rfl ?_
            refine wl_call 14 [(.tmp 116)] _ [pt t 0] (.int .i64 (lk3)) rfl rfl (fun _ _ => by kernel_rfl) (looked_g hG) rfl ?_
            intro w25 hq
            replace Q1 := Q1.mo hq
            replace hG := hG.mo hq
            replace M := M.trans hq
            clear hq
            refine wl_mv (.tmp 10) (.int .i64 (lk2)) (fun _ => rfl) rfl rfl ?_
            refine wl_bin (fun x y => do eqGuard .sub 2 (.tmp 117) (.tmp 118) x y; binOp .sub 2 x y) (.tmp 117) (.tmp 118) (.int .i64 (lk3)) (.int .i64 (lk2)) (.int .i64 (lk3 - lk2)) (fun _ => rfl) rfl rfl (subL (by omega) (by omega) _ _ _) rfl ?_
            refine wl_mv (.tmp 5) (pt t 0) (fun _ => rfl) e5 rfl ?_
            refine wl_call 10 [(.tmp 120)] _ [pt t 0] (.int .i64 ((tr2.kv.length : Int))) rfl rfl (fun _ _ => by kernel_rfl) (len_g hG) rfl ?_
            intro w26 hq
            replace Q1 := Q1.mo hq
            replace hG := hG.mo hq
            replace M := M.trans hq
            clear hq
            have hbl3 := bitc_le (tr2.kv.length)
            refine wl_call 20 [(.tmp 121)] _ [.int .i64 ((tr2.kv.length : Int))] (.int .i64 ((bitc (tr2.kv.length) : Int))) rfl rfl (fun _ _ => by kernel_rfl) (bits_n (tr2.kv.length) _ (by omega) (by omega)) rfl ?_
            intro w27 hq
            replace Q1 := Q1.mo hq
            replace hG := hG.mo hq
            replace M := M.trans hq
            clear hq
            refine wl_bin (fun x y => do eqGuard .add 3 (.const (.int .i64 (1))) (.tmp 122) x y; binOp .add 3 x y) (.const (.int .i64 (1))) (.tmp 122) (.int .i64 (1)) (.int .i64 ((bitc (tr2.kv.length) : Int))) (.int .i64 (1 + ((bitc (tr2.kv.length) : Int)))) (fun _ => rfl) rfl rfl (addI (by omega) (by omega) _ _ _) rfl ?_
            refine wl_bin (fun x y => do eqGuard .mul 2 (.const (.int .i64 (24))) (.tmp 123) x y; binOp .mul 2 x y) (.const (.int .i64 (24))) (.tmp 123) (.int .i64 (24)) (.int .i64 (1 + ((bitc (tr2.kv.length) : Int)))) (.int .i64 (24 * (1 + ((bitc (tr2.kv.length) : Int))))) (fun _ => rfl) rfl rfl (mulL (by omega) (by omega) _ _ _) rfl ?_
            have hk5b := hk5
            unfold Bm at hk5b
            rw [Nat.max_self] at hk5b
            refine wl_bin (fun x y => do eqGuard .gtr 2 (.tmp 119) (.tmp 124) x y; binOp .gtr 2 x y) (.tmp 119) (.tmp 124) (.int .i64 (lk3 - lk2)) (.int .i64 (24 * (1 + ((bitc (tr2.kv.length) : Int))))) (.bool false) (fun _ => rfl) rfl rfl (gtL (decide_eq_false (by omega)) _ _ _) rfl ?_
            refine w_nil ?_
            refine xn_then ?_
            refine w_condF rfl ?_
            refine w_skip ?_
            refine xn_then ?_
            refine w_seq ?_
            refine w_reg ?_
            refine wl_mv (.tmp 5) (pt t 0) (fun _ => rfl) e5 rfl ?_
            refine wl_call 14 [(.tmp 126)] _ [pt t 0] (.int .i64 (lk3)) rfl rfl (fun _ _ => by kernel_rfl) (looked_g hG) rfl ?_
            intro w28 hq
            replace Q1 := Q1.mo hq
            replace hG := hG.mo hq
            replace M := M.trans hq
            clear hq
            refine wl_mv (.tmp 127) (.int .i64 (lk3)) (fun _ => rfl) rfl rfl ?_
            refine w_nil ?_
            refine xn_then ?_
            refine w_seq ?_
            refine w_reg ?_
            refine wl_mv (.tmp 5) (pt t 0) (fun _ => rfl) e5 rfl ?_
            refine wl_un (fun v => Instr.fieldAt 31 v 4) (.tmp 8) (pt k1 0) (pt k1 4) (fun _ => rfl) rfl (by kernel_rfl) rfl ?_
            refine wl_load 3 (.tmp 129) (pt k1 4) (.int .i64 (o.c)) rfl rfl (run_one Q1 3 4 rfl Try.underlying3 rfl) rfl ?_
            refine wl_callx 12 [(.tmp 128), (.tmp 130)] _ [pt t 0, .int .i64 (o.c)] rfl rfl (fun _ _ => by kernel_rfl) (sum_any hG (by omega)) rfl ?_
            rintro _ w29 ⟨S8, cd8, lk4, rfl, hG, _, hk6, hk7, hM2⟩
            refine ⟨_, rfl, ?_⟩
            replace M := Wr.mo hM2 M (Nat.le_refl _)
            replace Q1 := Wr.at hM2 Q1 (by simp)
            clear hM2
            refine w_nil ?_
            refine xn_then ?_
            refine w_seq ?_
            refine w_reg ?_
            refine wl_mv (.tmp 5) (pt t 0) (fun _ => rfl) e5 rfl ?_
            refine wl_call 14 [(.tmp 132)] _ [pt t 0] (.int .i64 (lk4)) rfl rfl (fun _ _ => by kernel_rfl) (looked_g hG) rfl ?_
            intro w30 hq
            replace Q1 := Q1.mo hq
            replace hG := hG.mo hq
            replace M := M.trans hq
            clear hq
            refine wl_mv (.tmp 10) (.int .i64 (lk3)) (fun _ => rfl) rfl rfl ?_
            refine wl_bin (fun x y => do eqGuard .sub 2 (.tmp 133) (.tmp 134) x y; binOp .sub 2 x y) (.tmp 133) (.tmp 134) (.int .i64 (lk4)) (.int .i64 (lk3)) (.int .i64 (lk4 - lk3)) (fun _ => rfl) rfl rfl (subL (by omega) (by omega) _ _ _) rfl ?_
            refine wl_bin (fun x y => do eqGuard .gtr 2 (.tmp 135) (.const (.int .i64 (1))) x y; binOp .gtr 2 x y) (.tmp 135) (.const (.int .i64 (1))) (.int .i64 (lk4 - lk3)) (.int .i64 (1)) (.bool false) (fun _ => rfl) rfl rfl (gtL (decide_eq_false (by omega)) _ _ _) rfl ?_
            refine w_nil ?_
            refine xn_then ?_
            refine w_condF rfl ?_
            refine w_skip ?_
            refine xn_blk ?_
            refine xn_then ?_
            refine w_reg ?_
            refine wl_bin (fun x y => do eqGuard .add 3 (.tmp 32) (.const (.int .i64 (1))) x y; binOp .add 3 x y) (.tmp 32) (.const (.int .i64 (1))) (.int .i64 (i : Int)) (.int .i64 (1)) (.int .i64 ((i : Int) + 1)) (fun _ => rfl) e32 rfl (addI (by omega) (by omega) _ _ _) rfl ?_
            refine wl_mv (.tmp 137) (.int .i64 ((i : Int) + 1)) (fun _ => rfl) rfl rfl ?_
            refine w_nil ?_
            exact xn_loop (r - 1) (by omega) ⟨i + 1, tr2, lk4, by omega, e30, e31, rfl, e5, hG.pop (fun _ e => by cases e), hb2, by omega, M⟩
          | false =>
            have hf4p := of_decide_eq_false hf4
            refine w_any 7 [.inl (pt t 0), .inl (pt k1 2), .inl (.int .i64 (o.i)), .inl (pt k1 4), .inl (.int .i64 (o.c)), .inl (.agg #[.int .i64 (o.d), .int .i64 (o.a), .int .i64 (o.i), .slice o.p o.vs.length o.cap, .int .i64 (o.c), .int .i64 (o.f), .int .i64 (o.e)]), .inl (.agg #[.int .i64 (o.val.K), .bool o.val.n.b, .int .u64 (l0 o.val.n.n), .int .u64 (l1 o.val.n.n), .int .u64 (l2 o.val.n.n), .int .u64 (l3 o.val.n.n), .int .i64 (o.val.n.s), .bool o.val.fl, .string o.val.tx, .int .i64 (o.val.er)])] [] (by kernel_rfl) (by kernel_rfl) (by kernel_rfl) (by kernel_rfl) rfl (by kernel_rfl) (by kernel_rfl) late_nil ?_ ?_ ?_
            · exact Ds.none rfl
            · refine ea_cons ?_ (ea_cons ?_ (ea_cons ?_ (ea_cons ?_ (ea_cons ?_ (ea_cons ?_ (ea_cons ?_ (ea_nil)))))))
              · exact og_eq (pt t 0) rfl (fun f wf hq hd K hK => go_run rfl (wo_mv (.tmp 5) (pt t 0) (fun _ => rfl) e5 (hK _ (Mo.refl _))))
              · exact og_eq (pt k1 2) rfl (fun f wf hq hd K hK => go_run rfl (wo_un (fun v => Instr.fieldAt 31 v 2) (.tmp 8) (pt k1 0) (pt k1 2) (fun _ => rfl) rfl (by kernel_rfl) (hK _ (Mo.refl _))))
              · exact og_eq (.int .i64 (o.i)) rfl (fun f wf hq hd K hK => have Q1 := Q1.mo hq; go_run rfl (wo_load 2 (.tmp 43) (pt k1 2) (.int .i64 (o.i)) rfl (hd 1 rfl) (run_one Q1 2 2 rfl Try.underlying2 rfl) (hK _ (Mo.refl _))))
              · exact og_eq (pt k1 4) rfl (fun f wf hq hd K hK => go_run rfl (wo_un (fun v => Instr.fieldAt 31 v 4) (.tmp 8) (pt k1 0) (pt k1 4) (fun _ => rfl) rfl (by kernel_rfl) (hK _ (Mo.refl _))))
              · exact og_eq (.int .i64 (o.c)) rfl (fun f wf hq hd K hK => have Q1 := Q1.mo hq; go_run rfl (wo_load 3 (.tmp 45) (pt k1 4) (.int .i64 (o.c)) rfl (hd 3 rfl) (run_one Q1 3 4 rfl Try.underlying3 rfl) (hK _ (Mo.refl _))))
              · exact og_eq (.agg #[.int .i64 (o.d), .int .i64 (o.a), .int .i64 (o.i), .slice o.p o.vs.length o.cap, .int .i64 (o.c), .int .i64 (o.f), .int .i64 (o.e)]) rfl (fun f wf hq hd K hK => have Q1 := Q1.mo hq; go_run rfl (wo_load 31 (.tmp 8) (pt k1 0) (.agg #[.int .i64 (o.d), .int .i64 (o.a), .int .i64 (o.i), .slice o.p o.vs.length o.cap, .int .i64 (o.c), .int .i64 (o.f), .int .i64 (o.e)]) rfl rfl (run_row Q1 31 0 7 [.int .i64 (o.d), .int .i64 (o.a), .int .i64 (o.i), .slice o.p o.vs.length o.cap, .int .i64 (o.c), .int .i64 (o.f), .int .i64 (o.e)] rfl Try.underlying31 rfl zs31) (hK _ (Mo.refl _))))
              · exact og_eq (.agg #[.int .i64 (o.val.K), .bool o.val.n.b, .int .u64 (l0 o.val.n.n), .int .u64 (l1 o.val.n.n), .int .u64 (l2 o.val.n.n), .int .u64 (l3 o.val.n.n), .int .i64 (o.val.n.s), .bool o.val.fl, .string o.val.tx, .int .i64 (o.val.er)]) rfl (fun f wf hq hd K hK => go_run rfl (wo_call 18 [(.tmp 47)] _ [.agg #[.int .i64 (o.d), .int .i64 (o.a), .int .i64 (o.i), .slice o.p o.vs.length o.cap, .int .i64 (o.c), .int .i64 (o.f), .int .i64 (o.e)]] (.agg #[.int .i64 (o.val.K), .bool o.val.n.b, .int .u64 (l0 o.val.n.n), .int .u64 (l1 o.val.n.n), .int .u64 (l2 o.val.n.n), .int .u64 (l3 o.val.n.n), .int .i64 (o.val.n.s), .bool o.val.fl, .string o.val.tx, .int .i64 (o.val.er)]) rfl (li1 (hd 5 rfl)) (fun _ _ => by kernel_rfl) (value_n o (hSVo.mo (M.trans hq))) hK))
            intro kf15 w15 hq hR hne
            replace Q1 := Q1.mo hq
            replace hG := hG.mo hq
            replace M := M.trans hq
            clear hq hR hne
            refine wl_callx 17 [(.tmp 42), (.tmp 44), (.tmp 46), (.tmp 48)] _ [pt t 0, .int .i64 (o.i), .int .i64 (o.c), .agg #[.int .i64 (o.val.K), .bool o.val.n.b, .int .u64 (l0 o.val.n.n), .int .u64 (l1 o.val.n.n), .int .u64 (l2 o.val.n.n), .int .u64 (l3 o.val.n.n), .int .i64 (o.val.n.s), .bool o.val.fl, .string o.val.tx, .int .i64 (o.val.er)]] rfl rfl (fun _ _ => by kernel_rfl) (set_b hG hb hok.i (Op6.val_ok hok) (by omega)) rfl ?_
            rintro _ w16 ⟨tr2, lk2, rfl, hG, hb2, hk1, hk2, hk3, hM2⟩
            refine ⟨_, rfl, ?_⟩
            have hle2 := hG.le
            have hkl2 := tr2.kv_len
            have hz1 := bm_hi hle hle2
            have hz2 := bm_hi hle2 hle2
            replace M := Wr.mo hM2 M (Nat.le_refl _)
            replace Q1 := Wr.at hM2 Q1 (by simp)
            clear hM2
            refine wl_bin (fun x y => do eqGuard .eql 25 (.tmp 49) (.const (.int .i64 (0))) x y; binOp .eql 25 x y) (.tmp 49) (.const (.int .i64 (0))) (.int .i64 (setE mb.sc.length tr (o.i) (o.c))) (.int .i64 (0)) (.bool false) (fun _ => rfl) rfl rfl (eqE hf4 _ _ _) rfl ?_
            refine w_nil ?_
            refine xn_then ?_
            refine w_condF rfl ?_
            refine w_skip ?_
            refine xn_blk ?_
            refine xn_then ?_
            refine w_seq ?_
            refine w_reg ?_
            refine wl_mv (.tmp 5) (pt t 0) (fun _ => rfl) e5 rfl ?_
            refine wl_call 14 [(.tmp 78)] _ [pt t 0] (.int .i64 (lk2)) rfl rfl (fun _ _ => by kernel_rfl) (looked_g hG) rfl ?_
            intro w17 hq
            replace Q1 := Q1.mo hq
            replace hG := hG.mo hq
            replace M := M.trans hq
            clear hq
            refine wl_mv (.tmp 10) (.int .i64 (lk)) (fun _ => rfl) rfl rfl ?_
            refine wl_bin (fun x y => do eqGuard .sub 2 (.tmp 79) (.tmp 80) x y; binOp .sub 2 x y) (.tmp 79) (.tmp 80) (.int .i64 (lk2)) (.int .i64 (lk)) (.int .i64 (lk2 - lk)) (fun _ => rfl) rfl rfl (subL (by omega) (by omega) _ _ _) rfl ?_
            refine wl_mv (.tmp 81) (.int .i64 (lk2 - lk)) (fun _ => rfl) rfl rfl ?_
            refine w_nil ?_
            refine xn_then ?_
            refine w_seq ?_
            refine w_seq ?_
            refine w_reg ?_
            refine wl_mv (.tmp 5) (pt t 0) (fun _ => rfl) e5 rfl ?_
            refine wl_call 19 [(.tmp 82)] _ [pt t 0] (.int .i64 ((tr2.ht : Int))) rfl rfl (fun _ _ => by kernel_rfl) (depth_g hG) rfl ?_
            intro w18 hq
            replace Q1 := Q1.mo hq
            replace hG := hG.mo hq
            replace M := M.trans hq
            clear hq
            refine wl_mv (.tmp 5) (pt t 0) (fun _ => rfl) e5 rfl ?_
            refine wl_call 10 [(.tmp 84)] _ [pt t 0] (.int .i64 ((tr2.kv.length : Int))) rfl rfl (fun _ _ => by kernel_rfl) (len_g hG) rfl ?_
            intro w19 hq
            replace Q1 := Q1.mo hq
            replace hG := hG.mo hq
            replace M := M.trans hq
            clear hq
            have hbl1 := bitc_le (tr2.kv.length)
            refine wl_call 20 [(.tmp 85)] _ [.int .i64 ((tr2.kv.length : Int))] (.int .i64 ((bitc (tr2.kv.length) : Int))) rfl rfl (fun _ _ => by kernel_rfl) (bits_n (tr2.kv.length) _ (by omega) (by omega)) rfl ?_
            intro w20 hq
            replace Q1 := Q1.mo hq
            replace hG := hG.mo hq
            replace M := M.trans hq
            clear hq
            refine wl_bin (fun x y => do eqGuard .mul 3 (.const (.int .i64 (3))) (.tmp 86) x y; binOp .mul 3 x y) (.const (.int .i64 (3))) (.tmp 86) (.int .i64 (3)) (.int .i64 ((bitc (tr2.kv.length) : Int))) (.int .i64 (3 * ((bitc (tr2.kv.length) : Int)))) (fun _ => rfl) rfl rfl (mulI (by omega) (by omega) _ _ _) rfl ?_
            have hbt := (ht_bits hb2 hle2).1
            rw [show tr2.sz.toNat = tr2.kv.length by omega] at hbt
            refine wl_bin (fun x y => do eqGuard .gtr 3 (.tmp 83) (.tmp 87) x y; binOp .gtr 3 x y) (.tmp 83) (.tmp 87) (.int .i64 ((tr2.ht : Int))) (.int .i64 (3 * ((bitc (tr2.kv.length) : Int)))) (.bool false) (fun _ => rfl) rfl rfl (gtI (decide_eq_false (by omega)) _ _ _) rfl ?_
            refine wl_mv (.tmp 88) (.bool false) (fun _ => rfl) rfl rfl ?_
            refine wl_mv (.tmp 13) (.int .i64 (lk2 - lk)) (fun _ => rfl) rfl rfl ?_
            refine wl_mv (.tmp 12) (.int .i64 (0)) (fun _ => rfl) rfl rfl ?_
            refine wl_bin (fun x y => do eqGuard .lss 2 (.tmp 90) (.tmp 91) x y; binOp .lss 2 x y) (.tmp 90) (.tmp 91) (.int .i64 (lk2 - lk)) (.int .i64 (0)) (.bool false) (fun _ => rfl) rfl rfl (ltL (decide_eq_false (by omega)) _ _ _) rfl ?_
            refine wl_pick (.tmp 89) (.const (.bool true)) (.tmp 92) false (.bool false) (fun _ => rfl) rfl rfl rfl ?_
            refine wl_mv (.tmp 93) (.bool false) (fun _ => rfl) rfl rfl ?_
            refine wl_mv (.tmp 13) (.int .i64 (lk2 - lk)) (fun _ => rfl) rfl rfl ?_
            refine wl_mv (.tmp 11) (.int .i64 (24)) (fun _ => rfl) rfl rfl ?_
            refine wl_mv (.tmp 9) (.int .i64 ((tr.kv.length : Int))) (fun _ => rfl) rfl rfl ?_
            refine wl_mv (.tmp 5) (pt t 0) (fun _ => rfl) e5 rfl ?_
            refine wl_call 10 [(.tmp 98)] _ [pt t 0] (.int .i64 ((tr2.kv.length : Int))) rfl rfl (fun _ _ => by kernel_rfl) (len_g hG) rfl ?_
            intro w21 hq
            replace Q1 := Q1.mo hq
            replace hG := hG.mo hq
            replace M := M.trans hq
            clear hq
            refine wl_val (.int .i64 (((max tr.kv.length tr2.kv.length : Nat) : Int))) (maxN tr.kv.length tr2.kv.length _ _ _ (by exact rfl) (by exact rfl) _ _ _ _ _ _) rfl ?_
            have hbl2 := bitc_le (max tr.kv.length tr2.kv.length)
            refine wl_call 20 [(.tmp 100)] _ [.int .i64 (((max tr.kv.length tr2.kv.length : Nat) : Int))] (.int .i64 ((bitc (max tr.kv.length tr2.kv.length) : Int))) rfl rfl (fun _ _ => by kernel_rfl) (bits_n (max tr.kv.length tr2.kv.length) _ (by omega) (by omega)) rfl ?_
            intro w22 hq
            replace Q1 := Q1.mo hq
            replace hG := hG.mo hq
            replace M := M.trans hq
            clear hq
            refine wl_bin (fun x y => do eqGuard .add 3 (.const (.int .i64 (1))) (.tmp 101) x y; binOp .add 3 x y) (.const (.int .i64 (1))) (.tmp 101) (.int .i64 (1)) (.int .i64 ((bitc (max tr.kv.length tr2.kv.length) : Int))) (.int .i64 (1 + ((bitc (max tr.kv.length tr2.kv.length) : Int)))) (fun _ => rfl) rfl rfl (addI (by omega) (by omega) _ _ _) rfl ?_
            refine wl_bin (fun x y => do eqGuard .mul 2 (.tmp 96) (.tmp 102) x y; binOp .mul 2 x y) (.tmp 96) (.tmp 102) (.int .i64 (24)) (.int .i64 (1 + ((bitc (max tr.kv.length tr2.kv.length) : Int)))) (.int .i64 (24 * (1 + ((bitc (max tr.kv.length tr2.kv.length) : Int))))) (fun _ => rfl) rfl rfl (mulL (by omega) (by omega) _ _ _) rfl ?_
            have hk2b := hk2
            unfold Bm at hk2b
            refine wl_bin (fun x y => do eqGuard .gtr 2 (.tmp 95) (.tmp 103) x y; binOp .gtr 2 x y) (.tmp 95) (.tmp 103) (.int .i64 (lk2 - lk)) (.int .i64 (24 * (1 + ((bitc (max tr.kv.length tr2.kv.length) : Int))))) (.bool false) (fun _ => rfl) rfl rfl (gtL (decide_eq_false (by omega)) _ _ _) rfl ?_
            refine wl_pick (.tmp 94) (.const (.bool true)) (.tmp 104) false (.bool false) (fun _ => rfl) rfl rfl rfl ?_
            refine w_nil ?_
            refine xn_then ?_
            refine w_condF rfl ?_
            refine w_skip ?_
            refine xn_then ?_
            refine w_seq ?_
            refine w_reg ?_
            refine wl_mv (.tmp 5) (pt t 0) (fun _ => rfl) e5 rfl ?_
            refine wl_call 14 [(.tmp 106)] _ [pt t 0] (.int .i64 (lk2)) rfl rfl (fun _ _ => by kernel_rfl) (looked_g hG) rfl ?_
            intro w23 hq
            replace Q1 := Q1.mo hq
            replace hG := hG.mo hq
            replace M := M.trans hq
            clear hq
            refine wl_mv (.tmp 107) (.int .i64 (lk2)) (fun _ => rfl) rfl rfl ?_
            refine w_nil ?_
            refine xn_then ?_
            refine w_seq ?_
            refine w_reg ?_
            refine wl_mv (.tmp 5) (pt t 0) (fun _ => rfl) e5 rfl ?_
            refine wl_un (fun v => Instr.fieldAt 31 v 4) (.tmp 8) (pt k1 0) (pt k1 4) (fun _ => rfl) rfl (by kernel_rfl) rfl ?_
            refine wl_load 3 (.tmp 109) (pt k1 4) (.int .i64 (o.c)) rfl rfl (run_one Q1 3 4 rfl Try.underlying3 rfl) rfl ?_
            refine wl_un (fun v => Instr.fieldAt 31 v 5) (.tmp 8) (pt k1 0) (pt k1 5) (fun _ => rfl) rfl (by kernel_rfl) rfl ?_
            refine wl_load 3 (.tmp 111) (pt k1 5) (.int .i64 (o.f)) rfl rfl (run_one Q1 3 5 rfl Try.underlying3 rfl) rfl ?_
            refine wl_un (fun v => Instr.fieldAt 31 v 6) (.tmp 8) (pt k1 0) (pt k1 6) (fun _ => rfl) rfl (by kernel_rfl) rfl ?_
            refine wl_load 3 (.tmp 113) (pt k1 6) (.int .i64 (o.e)) rfl rfl (run_one Q1 3 6 rfl Try.underlying3 rfl) rfl ?_
            refine wl_callx 11 [(.tmp 108), (.tmp 110), (.tmp 112), (.tmp 114)] _ [pt t 0, .int .i64 (o.c), .int .i64 (o.f), .int .i64 (o.e)] rfl rfl (fun _ _ => by kernel_rfl) (qry_b hG hb2 (by omega)) rfl ?_
            rintro _ w24 ⟨S9, cd9, lk3, rfl, hG, hk4, hk5, hM2⟩
            refine ⟨_, rfl, ?_⟩
            replace M := Wr.mo hM2 M (Nat.le_refl _)
            replace Q1 := Wr.at hM2 Q1 (by simp)
            clear hM2
            refine w_nil ?_
            refine xn_then ?_
            refine w_seq ?_
            refine w_seq ?_
            refine w_reg ?_
            refine wl_mv (.tmp 5) (pt t 0) (fun _ => rfl) e5 rfl ?_
            refine wl_call 14 [(.tmp 116)] _ [pt t 0] (.int .i64 (lk3)) rfl rfl (fun _ _ => by kernel_rfl) (looked_g hG) rfl ?_
            intro w25 hq
            replace Q1 := Q1.mo hq
            replace hG := hG.mo hq
            replace M := M.trans hq
            clear hq
            refine wl_mv (.tmp 10) (.int .i64 (lk2)) (fun _ => rfl) rfl rfl ?_
            refine wl_bin (fun x y => do eqGuard .sub 2 (.tmp 117) (.tmp 118) x y; binOp .sub 2 x y) (.tmp 117) (.tmp 118) (.int .i64 (lk3)) (.int .i64 (lk2)) (.int .i64 (lk3 - lk2)) (fun _ => rfl) rfl rfl (subL (by omega) (by omega) _ _ _) rfl ?_
            refine wl_mv (.tmp 5) (pt t 0) (fun _ => rfl) e5 rfl ?_
            refine wl_call 10 [(.tmp 120)] _ [pt t 0] (.int .i64 ((tr2.kv.length : Int))) rfl rfl (fun _ _ => by kernel_rfl) (len_g hG) rfl ?_
            intro w26 hq
            replace Q1 := Q1.mo hq
            replace hG := hG.mo hq
            replace M := M.trans hq
            clear hq
            have hbl3 := bitc_le (tr2.kv.length)
            refine wl_call 20 [(.tmp 121)] _ [.int .i64 ((tr2.kv.length : Int))] (.int .i64 ((bitc (tr2.kv.length) : Int))) rfl rfl (fun _ _ => by kernel_rfl) (bits_n (tr2.kv.length) _ (by omega) (by omega)) rfl ?_
            intro w27 hq
            replace Q1 := Q1.mo hq
            replace hG := hG.mo hq
            replace M := M.trans hq
            clear hq
            refine wl_bin (fun x y => do eqGuard .add 3 (.const (.int .i64 (1))) (.tmp 122) x y; binOp .add 3 x y) (.const (.int .i64 (1))) (.tmp 122) (.int .i64 (1)) (.int .i64 ((bitc (tr2.kv.length) : Int))) (.int .i64 (1 + ((bitc (tr2.kv.length) : Int)))) (fun _ => rfl) rfl rfl (addI (by omega) (by omega) _ _ _) rfl ?_
            refine wl_bin (fun x y => do eqGuard .mul 2 (.const (.int .i64 (24))) (.tmp 123) x y; binOp .mul 2 x y) (.const (.int .i64 (24))) (.tmp 123) (.int .i64 (24)) (.int .i64 (1 + ((bitc (tr2.kv.length) : Int)))) (.int .i64 (24 * (1 + ((bitc (tr2.kv.length) : Int))))) (fun _ => rfl) rfl rfl (mulL (by omega) (by omega) _ _ _) rfl ?_
            have hk5b := hk5
            unfold Bm at hk5b
            rw [Nat.max_self] at hk5b
            refine wl_bin (fun x y => do eqGuard .gtr 2 (.tmp 119) (.tmp 124) x y; binOp .gtr 2 x y) (.tmp 119) (.tmp 124) (.int .i64 (lk3 - lk2)) (.int .i64 (24 * (1 + ((bitc (tr2.kv.length) : Int))))) (.bool false) (fun _ => rfl) rfl rfl (gtL (decide_eq_false (by omega)) _ _ _) rfl ?_
            refine w_nil ?_
            refine xn_then ?_
            refine w_condF rfl ?_
            refine w_skip ?_
            refine xn_then ?_
            refine w_seq ?_
            refine w_reg ?_
            refine wl_mv (.tmp 5) (pt t 0) (fun _ => rfl) e5 rfl ?_
            refine wl_call 14 [(.tmp 126)] _ [pt t 0] (.int .i64 (lk3)) rfl rfl (fun _ _ => by kernel_rfl) (looked_g hG) rfl ?_
            intro w28 hq
            replace Q1 := Q1.mo hq
            replace hG := hG.mo hq
            replace M := M.trans hq
            clear hq
            refine wl_mv (.tmp 127) (.int .i64 (lk3)) (fun _ => rfl) rfl rfl ?_
            refine w_nil ?_
            refine xn_then ?_
            refine w_seq ?_
            refine w_reg ?_
            refine wl_mv (.tmp 5) (pt t 0) (fun _ => rfl) e5 rfl ?_
            refine wl_un (fun v => Instr.fieldAt 31 v 4) (.tmp 8) (pt k1 0) (pt k1 4) (fun _ => rfl) rfl (by kernel_rfl) rfl ?_
            refine wl_load 3 (.tmp 129) (pt k1 4) (.int .i64 (o.c)) rfl rfl (run_one Q1 3 4 rfl Try.underlying3 rfl) rfl ?_
            refine wl_callx 12 [(.tmp 128), (.tmp 130)] _ [pt t 0, .int .i64 (o.c)] rfl rfl (fun _ _ => by kernel_rfl) (sum_any hG (by omega)) rfl ?_
            rintro _ w29 ⟨S8, cd8, lk4, rfl, hG, _, hk6, hk7, hM2⟩
            refine ⟨_, rfl, ?_⟩
            replace M := Wr.mo hM2 M (Nat.le_refl _)
            replace Q1 := Wr.at hM2 Q1 (by simp)
            clear hM2
            refine w_nil ?_
            refine xn_then ?_
            refine w_seq ?_
            refine w_reg ?_
            refine wl_mv (.tmp 5) (pt t 0) (fun _ => rfl) e5 rfl ?_
            refine wl_call 14 [(.tmp 132)] _ [pt t 0] (.int .i64 (lk4)) rfl rfl (fun _ _ => by kernel_rfl) (looked_g hG) rfl ?_
            intro w30 hq
            replace Q1 := Q1.mo hq
            replace hG := hG.mo hq
            replace M := M.trans hq
            clear hq
            refine wl_mv (.tmp 10) (.int .i64 (lk3)) (fun _ => rfl) rfl rfl ?_
            refine wl_bin (fun x y => do eqGuard .sub 2 (.tmp 133) (.tmp 134) x y; binOp .sub 2 x y) (.tmp 133) (.tmp 134) (.int .i64 (lk4)) (.int .i64 (lk3)) (.int .i64 (lk4 - lk3)) (fun _ => rfl) rfl rfl (subL (by omega) (by omega) _ _ _) rfl ?_
            refine wl_bin (fun x y => do eqGuard .gtr 2 (.tmp 135) (.const (.int .i64 (1))) x y; binOp .gtr 2 x y) (.tmp 135) (.const (.int .i64 (1))) (.int .i64 (lk4 - lk3)) (.int .i64 (1)) (.bool false) (fun _ => rfl) rfl rfl (gtL (decide_eq_false (by omega)) _ _ _) rfl ?_
            refine w_nil ?_
            refine xn_then ?_
            refine w_condF rfl ?_
            refine w_skip ?_
            refine xn_blk ?_
            refine xn_then ?_
            refine w_reg ?_
            refine wl_bin (fun x y => do eqGuard .add 3 (.tmp 32) (.const (.int .i64 (1))) x y; binOp .add 3 x y) (.tmp 32) (.const (.int .i64 (1))) (.int .i64 (i : Int)) (.int .i64 (1)) (.int .i64 ((i : Int) + 1)) (fun _ => rfl) e32 rfl (addI (by omega) (by omega) _ _ _) rfl ?_
            refine wl_mv (.tmp 137) (.int .i64 ((i : Int) + 1)) (fun _ => rfl) rfl rfl ?_
            refine w_nil ?_
            exact xn_loop (r - 1) (by omega) ⟨i + 1, tr2, lk4, by omega, e30, e31, rfl, e5, hG.pop (fun _ e => by cases e), hb2, by omega, M⟩
  | false =>
    have hf0p := of_decide_eq_false hf0
    refine w_reg ?_
    refine wl_bin (fun x y => do eqGuard .lss 3 (.tmp 32) (.tmp 31) x y; binOp .lss 3 x y) (.tmp 32) (.tmp 31) (.int .i64 (i : Int)) (.int .i64 (sc.length : Int)) (.bool false) (fun _ => rfl) e32 e31 (ltI hf0 _ _ _) rfl ?_
    refine w_nil ?_
    refine xn_then ?_
    refine w_seq ?_
    refine w_condF rfl ?_
    refine w_exit ?_
    refine xx_then ?_
    refine xx_then ?_
    refine xx_blk ?_
    refine xn_then ?_
    refine w_seq ?_
    refine w_reg ?_
    refine wl_mv (.const (.bool true)) (.bool true) (fun _ => rfl) rfl rfl ?_
    refine w_nil ?_
    refine xn_then ?_
    refine w_ret ?_
    exact w_ret1 _ (.bool true) rfl rfl ⟨rfl, M⟩
theorem balanced_n (scs : List Int) (ps : Option Addr) (caps : Nat) (hSN : SN w ps scs) (sc : List Op6) (p : Option Addr) (cap : Nat) (hsc : ∀ o ∈ sc, o.ok) (hSA : SA w p sc) (hn : sc.length ≤ 2000000000000) : Calls Try.prog 4 #[.slice ps scs.length caps, .slice p sc.length cap] w fun e w' => e = .returned (.bool true) ∧ Mo w w' := by
  by_cases h : scs.length ≤ 64
  · exact balanced_k scs ps caps sc p cap hsc hSN hSA hn h
  · exact balanced_x scs ps caps sc p cap (by omega)
end
end G
end Go.Proofs.Ythfemlhmnjfjiaa
