/-
  The document's side: Find, Kids, Kid, flat.
-/
import Derived.Test.YtbanldffohopiaaR2
namespace Go.Proofs.Ytbanldffohopiaa
open Go.RowKit D
theorem w_ret3 {P : Program} {n : Nat} {l : List (Nat × Value)} {w : World} {fn : Func} {R : Ending → World → Prop} (a b c : Tmp) (v u s : Value) (hf : fn.results = #[.tmp a, .tmp b, .tmp c]) (h : resv n l P w v (.tmp a)) (g : resv n l P w u (.tmp b)) (k : resv n l P w s (.tmp c)) (hR : R (.returned (.tuple #[v, u, s])) w) : WX (bodyPost P fn R) .ret n l w := by
  refine ⟨bodyPost_ret (v := .tuple #[v, u, s]) ?_ rfl hR⟩
  have h1 := resv_tmp h
  have g1 := resv_tmp g
  have k1 := resv_tmp k
  simp [results, hf, h1, g1, k1]
theorem find_n {w : World} {pa : Option Addr} {c : Nat} {L : List S5} (hS : SL w 5 S5.cells pa L) (h5 : ∀ x ∈ L, LS5 w x) (hw : Wf L) (s : Nat) (hs : s < L.length) (nm : ByteArray) : Calls Try.prog 13 #[.slice pa L.length c, .int .i64 ((s : Nat) : Int), .string nm] w fun e w' => ∃ a b : Int, e = .returned (.tuple #[.int .i64 a, .int .i64 b, .bool (rfd L s nm)]) ∧ Mo w w' := by
  refine w_enter 46 Try.func13 Try.ntmps13 rfl rfl ?_
  have M : Mo w w := Mo.refl _
  refine w_seq ?_
  refine w_reg ?_
  refine wl_mv (.const (.int .i64 (0))) (.int .i64 (0)) (fun _ => rfl) rfl rfl ?_
  refine wl_mv (.const (.int .i64 (0))) (.int .i64 (0)) (fun _ => rfl) rfl rfl ?_
  refine wl_mv (.const (.bool false)) (.bool false) (fun _ => rfl) rfl rfl ?_
  refine w_nil ?_
  refine xn_then ?_
  refine w_seq ?_
  refine w_seq ?_
  refine w_reg ?_
  refine wl_mv (.const (.int .i64 (0))) (.int .i64 (0)) (fun _ => rfl) rfl rfl ?_
  refine w_nil ?_
  refine xn_then ?_
  refine w_block ?_
  have hz := hS.1
  unfold maxLen at hz
  have hl0 := anc_len L s
  refine w_loop (fun m l w1 => ∃ (i : Nat) (a : Int) (R : List Nat), m = R.length ∧ look l 0 = .slice pa L.length c ∧ look l 1 = .int .i64 (a) ∧ look l 2 = .string nm ∧ look l 9 = .int .i64 ((i : Nat) : Int) ∧ Up L a R ∧ i + R.length ≤ L.length ∧ rfd L s nm = R.any (fun a => (itO L a).any (rdP nm)) ∧ Mo w w1) _ ⟨0, ((s : Nat) : Int), anc L s, rfl, rfl, rfl, rfl, rfl, Up.start hs, by omega, rfl, M⟩ ?_
  clear M
  rintro m l wl ⟨i, a, R, rfl, e0, e1, e2, e9, hU, hlen, hT, M⟩
  have hid : decide (((i : Nat) : Int) ≤ ((L.length : Nat) : Int)) = true := decide_eq_true (by omega)
  rcases hU with ⟨ha, rfl⟩ | ⟨k, rfl, hk, rfl⟩
  · skip
    have h0 : decide (0 ≤ a) = false := decide_eq_false (by omega)
    refine w_seq ?_
    refine w_seq ?_
    refine w_reg ?_
    refine wl_mv (.tmp 9) (.int .i64 ((i : Nat) : Int)) (fun _ => rfl) e9 rfl ?_
    refine wl_mv (.tmp 0) (.slice pa L.length c) (fun _ => rfl) e0 rfl ?_
    refine wl_val (.int .i64 ((L.length : Nat) : Int)) (len37 _ _ _ _ _ (by exact rfl) _ _ _ _ _ _) rfl ?_
    refine wl_bin (fun x y => do eqGuard .leq 3 (.tmp 12) (.tmp 14) x y; binOp .leq 3 x y) (.tmp 12) (.tmp 14) (.int .i64 ((i : Nat) : Int)) (.int .i64 ((L.length : Nat) : Int)) (.bool true) (fun _ => rfl) rfl rfl (le3 hid _ _ _) rfl ?_
    refine wl_mv (.tmp 15) (.bool true) (fun _ => rfl) rfl rfl ?_
    refine wl_mv (.tmp 1) (.int .i64 (a)) (fun _ => rfl) e1 rfl ?_
    refine wl_bin (fun x y => do eqGuard .geq 3 (.tmp 17) (.const (.int .i64 (0))) x y; binOp .geq 3 x y) (.tmp 17) (.const (.int .i64 (0))) (.int .i64 (a)) (.int .i64 (0)) (.bool false) (fun _ => rfl) rfl rfl (ge3 h0 _ _ _) rfl ?_
    refine wl_pick (.tmp 16) (.tmp 18) (.const (.bool false)) true (.bool false) (fun _ => rfl) rfl rfl rfl ?_
    refine wl_mv (.tmp 19) (.bool false) (fun _ => rfl) rfl rfl ?_
    refine wl_skip rfl ?_
    refine wl_skip rfl ?_
    refine wl_skip rfl ?_
    refine wl_skip rfl ?_
    refine wl_pick (.tmp 20) (.tmp 24) (.const (.bool false)) false (.bool false) (fun _ => rfl) rfl rfl rfl ?_
    refine w_nil ?_
    refine xn_then ?_
    refine w_condF rfl ?_
    refine w_exit ?_
    refine xx_then ?_
    refine xx_then ?_
    refine xx_blk ?_
    refine xn_then ?_
    refine w_seq ?_
    refine w_reg ?_
    refine wl_mv (.const (.int .i64 (0))) (.int .i64 (0)) (fun _ => rfl) rfl rfl ?_
    refine wl_mv (.const (.int .i64 (0))) (.int .i64 (0)) (fun _ => rfl) rfl rfl ?_
    refine wl_mv (.const (.bool false)) (.bool false) (fun _ => rfl) rfl rfl ?_
    refine w_nil ?_
    refine xn_then ?_
    refine w_ret ?_
    exact w_ret3 _ _ _ (.int .i64 (0)) (.int .i64 (0)) (.bool false) rfl rfl rfl rfl ⟨_, _, by rw [hT]; rfl, M⟩
  · skip
    have h0 : decide (0 ≤ ((k : Nat) : Int)) = true := decide_eq_true (by omega)
    have hkd : decide (k < L.length) = true := decide_eq_true hk
    obtain ⟨x, hx⟩ := get_of_lt hk
    obtain ⟨R, hR, hU⟩ := anc_step hw hx
    rw [hR] at hT hlen ⊢
    simp only [List.length_cons] at hlen
    obtain ⟨bp, op, hpp, hRp⟩ := D.SL.rw hS hx
    refine w_seq ?_
    refine w_seq ?_
    refine w_reg ?_
    refine wl_mv (.tmp 9) (.int .i64 ((i : Nat) : Int)) (fun _ => rfl) e9 rfl ?_
    refine wl_mv (.tmp 0) (.slice pa L.length c) (fun _ => rfl) e0 rfl ?_
    refine wl_val (.int .i64 ((L.length : Nat) : Int)) (len37 _ _ _ _ _ (by exact rfl) _ _ _ _ _ _) rfl ?_
    refine wl_bin (fun x y => do eqGuard .leq 3 (.tmp 12) (.tmp 14) x y; binOp .leq 3 x y) (.tmp 12) (.tmp 14) (.int .i64 ((i : Nat) : Int)) (.int .i64 ((L.length : Nat) : Int)) (.bool true) (fun _ => rfl) rfl rfl (le3 hid _ _ _) rfl ?_
    refine wl_mv (.tmp 15) (.bool true) (fun _ => rfl) rfl rfl ?_
    refine wl_mv (.tmp 1) (.int .i64 ((k : Nat) : Int)) (fun _ => rfl) e1 rfl ?_
    refine wl_bin (fun x y => do eqGuard .geq 3 (.tmp 17) (.const (.int .i64 (0))) x y; binOp .geq 3 x y) (.tmp 17) (.const (.int .i64 (0))) (.int .i64 ((k : Nat) : Int)) (.int .i64 (0)) (.bool true) (fun _ => rfl) rfl rfl (ge3 h0 _ _ _) rfl ?_
    refine wl_pick (.tmp 16) (.tmp 18) (.const (.bool false)) true (.bool true) (fun _ => rfl) rfl rfl rfl ?_
    refine wl_mv (.tmp 19) (.bool true) (fun _ => rfl) rfl rfl ?_
    refine wl_mv (.tmp 1) (.int .i64 ((k : Nat) : Int)) (fun _ => rfl) e1 rfl ?_
    refine wl_mv (.tmp 0) (.slice pa L.length c) (fun _ => rfl) e0 rfl ?_
    refine wl_val (.int .i64 ((L.length : Nat) : Int)) (len37 _ _ _ _ _ (by exact rfl) _ _ _ _ _ _) rfl ?_
    refine wl_bin (fun x y => do eqGuard .lss 3 (.tmp 21) (.tmp 23) x y; binOp .lss 3 x y) (.tmp 21) (.tmp 23) (.int .i64 ((k : Nat) : Int)) (.int .i64 ((L.length : Nat) : Int)) (.bool true) (fun _ => rfl) rfl rfl (ltN hkd _ _ _) rfl ?_
    refine wl_pick (.tmp 20) (.tmp 24) (.const (.bool false)) true (.bool true) (fun _ => rfl) rfl rfl rfl ?_
    refine w_nil ?_
    refine xn_then ?_
    refine w_condT rfl ?_
    refine w_skip ?_
    refine xn_then ?_
    refine w_seq ?_
    refine w_block ?_
    refine w_seq ?_
    refine w_seq ?_
    refine w_reg ?_
    refine wl_mv (.tmp 0) (.slice pa L.length c) (fun _ => rfl) e0 rfl ?_
    refine wl_mv (.tmp 1) (.int .i64 ((k : Nat) : Int)) (fun _ => rfl) e1 rfl ?_
    refine wl_bin (fun x y => Instr.indexAt 37 x y) (.tmp 29) (.tmp 30) (.slice pa L.length c) (.int .i64 ((k : Nat) : Int)) (pt bp (op + k * 5)) (fun _ => rfl) rfl rfl (ix37 (i := k) hpp hk _) rfl ?_
    refine wl_un (fun v => Instr.fieldAt 52 v 4) (.tmp 31) (pt bp (op + k * 5)) (pt bp (op + k * 5 + 4)) (fun _ => rfl) rfl (by kernel_rfl) rfl ?_
    refine wl_load 22 (.tmp 32) (pt bp (op + k * 5 + 4)) (.slice x.pi x.items.length x.ci) rfl rfl (D.run_oneR (hRp.mo M).at' 22 4 rfl Try.underlying22 rfl) rfl ?_
    refine wl_mv (.tmp 2) (.string nm) (fun _ => rfl) e2 rfl ?_
    cases hf20 : (ffi (rdP nm) x.items).isSome with
    | true =>
      refine wl_call 42 [(.tmp 33), (.tmp 34)] _ [.slice x.pi x.items.length x.ci, .string nm] (.tuple #[.int .i64 (((ffi (rdP nm) x.items).getD 0 : Nat) : Int), .bool true]) rfl rfl (fun _ _ => by kernel_rfl) (by have h := rread_n (c := x.ci) ((h5 x (List.mem_of_getElem? hx)).it.kp M.kp) nm; rw [hf20] at h; exact h) rfl ?_
      intro u21 hq
      replace M := M.trans hq
      clear hq
      refine wl_mv (.tmp 35) (.tuple #[.int .i64 (((ffi (rdP nm) x.items).getD 0 : Nat) : Int), .bool true]) (fun _ => rfl) rfl rfl ?_
      refine wl_un (fun v => Instr.extract v 0) (.tmp 28) (.tuple #[.int .i64 (((ffi (rdP nm) x.items).getD 0 : Nat) : Int), .bool true]) (.int .i64 (((ffi (rdP nm) x.items).getD 0 : Nat) : Int)) (fun _ => rfl) rfl (by kernel_rfl) rfl ?_
      refine wl_un (fun v => Instr.extract v 1) (.tmp 28) (.tuple #[.int .i64 (((ffi (rdP nm) x.items).getD 0 : Nat) : Int), .bool true]) (.bool true) (fun _ => rfl) rfl (by kernel_rfl) rfl ?_
      refine wl_mv (.tmp 36) (.int .i64 (((ffi (rdP nm) x.items).getD 0 : Nat) : Int)) (fun _ => rfl) rfl rfl ?_
      refine wl_mv (.tmp 37) (.bool true) (fun _ => rfl) rfl rfl ?_
      refine w_nil ?_
      refine xn_then ?_
      refine w_seq ?_
      refine w_reg ?_
      refine wl_mv (.tmp 11) (.bool true) (fun _ => rfl) rfl rfl ?_
      refine w_nil ?_
      refine xn_then ?_
      refine w_condT rfl ?_
      refine w_seq ?_
      refine w_reg ?_
      refine wl_mv (.tmp 1) (.int .i64 ((k : Nat) : Int)) (fun _ => rfl) e1 rfl ?_
      refine wl_mv (.tmp 10) (.int .i64 (((ffi (rdP nm) x.items).getD 0 : Nat) : Int)) (fun _ => rfl) rfl rfl ?_
      refine wl_mv (.tmp 39) (.int .i64 ((k : Nat) : Int)) (fun _ => rfl) rfl rfl ?_
      refine wl_mv (.tmp 40) (.int .i64 (((ffi (rdP nm) x.items).getD 0 : Nat) : Int)) (fun _ => rfl) rfl rfl ?_
      refine wl_mv (.const (.bool true)) (.bool true) (fun _ => rfl) rfl rfl ?_
      refine w_nil ?_
      refine xn_then ?_
      refine w_ret ?_
      refine xr_then ?_
      refine xr_blk ?_
      refine xr_then ?_
      refine xr_then ?_
      refine xr_blk ?_
      refine xr_then ?_
      exact w_ret3 _ _ _ (.int .i64 ((k : Nat) : Int)) (.int .i64 (((ffi (rdP nm) x.items).getD 0 : Nat) : Int)) (.bool true) rfl rfl rfl rfl ⟨_, _, by rw [hT, List.any_cons, itO_of hx, ← ffi_isSome, hf20]; rfl, M⟩
    | false =>
      refine wl_call 42 [(.tmp 33), (.tmp 34)] _ [.slice x.pi x.items.length x.ci, .string nm] (.tuple #[.int .i64 (((ffi (rdP nm) x.items).getD 0 : Nat) : Int), .bool false]) rfl rfl (fun _ _ => by kernel_rfl) (by have h := rread_n (c := x.ci) ((h5 x (List.mem_of_getElem? hx)).it.kp M.kp) nm; rw [hf20] at h; exact h) rfl ?_
      intro u21 hq
      replace M := M.trans hq
      clear hq
      refine wl_mv (.tmp 35) (.tuple #[.int .i64 (((ffi (rdP nm) x.items).getD 0 : Nat) : Int), .bool false]) (fun _ => rfl) rfl rfl ?_
      refine wl_un (fun v => Instr.extract v 0) (.tmp 28) (.tuple #[.int .i64 (((ffi (rdP nm) x.items).getD 0 : Nat) : Int), .bool false]) (.int .i64 (((ffi (rdP nm) x.items).getD 0 : Nat) : Int)) (fun _ => rfl) rfl (by kernel_rfl) rfl ?_
      refine wl_un (fun v => Instr.extract v 1) (.tmp 28) (.tuple #[.int .i64 (((ffi (rdP nm) x.items).getD 0 : Nat) : Int), .bool false]) (.bool false) (fun _ => rfl) rfl (by kernel_rfl) rfl ?_
      refine wl_mv (.tmp 36) (.int .i64 (((ffi (rdP nm) x.items).getD 0 : Nat) : Int)) (fun _ => rfl) rfl rfl ?_
      refine wl_mv (.tmp 37) (.bool false) (fun _ => rfl) rfl rfl ?_
      refine w_nil ?_
      refine xn_then ?_
      refine w_seq ?_
      refine w_reg ?_
      refine wl_mv (.tmp 11) (.bool false) (fun _ => rfl) rfl rfl ?_
      refine w_nil ?_
      refine xn_then ?_
      refine w_condF rfl ?_
      refine w_skip ?_
      refine xn_then ?_
      refine w_reg ?_
      refine wl_mv (.tmp 0) (.slice pa L.length c) (fun _ => rfl) e0 rfl ?_
      refine wl_mv (.tmp 1) (.int .i64 ((k : Nat) : Int)) (fun _ => rfl) e1 rfl ?_
      refine wl_bin (fun x y => Instr.indexAt 37 x y) (.tmp 41) (.tmp 42) (.slice pa L.length c) (.int .i64 ((k : Nat) : Int)) (pt bp (op + k * 5)) (fun _ => rfl) rfl rfl (ix37 (i := k) hpp hk _) rfl ?_
      refine wl_un (fun v => Instr.fieldAt 52 v 0) (.tmp 43) (pt bp (op + k * 5)) (pt bp (op + k * 5)) (fun _ => rfl) rfl (by kernel_rfl) rfl ?_
      refine wl_load 3 (.tmp 44) (pt bp (op + k * 5)) (.int .i64 (x.pr)) rfl rfl (D.run_oneR (hRp.mo M).at' 3 0 rfl Try.underlying3 rfl) rfl ?_
      refine wl_mv (.tmp 45) (.int .i64 (x.pr)) (fun _ => rfl) rfl rfl ?_
      refine w_nil ?_
      refine xn_blk ?_
      refine xn_then ?_
      refine w_reg ?_
      refine wl_mv (.tmp 9) (.int .i64 ((i : Nat) : Int)) (fun _ => rfl) e9 rfl ?_
      refine wl_bin (fun x y => do eqGuard .add 3 (.tmp 26) (.const (.int .i64 (1))) x y; binOp .add 3 x y) (.tmp 26) (.const (.int .i64 (1))) (.int .i64 ((i : Nat) : Int)) (.int .i64 (1)) (.int .i64 ((i + 1 : Nat) : Int)) (fun _ => rfl) rfl rfl (add1r (k := i) (by omega) _ _ _) rfl ?_
      refine wl_mv (.tmp 27) (.int .i64 ((i + 1 : Nat) : Int)) (fun _ => rfl) rfl rfl ?_
      refine w_nil ?_
      exact xn_loop R.length (by simp) ⟨i + 1, _, R, rfl, e0, rfl, e2, rfl, hU, by omega, by rw [hT, List.any_cons, itO_of hx, ← ffi_isSome, hf20]; rfl, M⟩
abbrev nic (n : Nat) : List Value := [.int .i64 ((n : Nat) : Int)]
def kidL (L : List S5) (s i : Nat) : List Nat := (List.range i).filter (fun j => decide (prn L j = s))
theorem kidL_s {L : List S5} {s i : Nat} {x : S5} (h : L[i]? = some x) : kidL L s (i + 1) = if x.pr = s then kidL L s i ++ [i] else kidL L s i := by
  unfold kidL
  rw [List.range_succ, List.filter_append]
  by_cases e : x.pr = s
  · rw [if_pos e]; simp [prn_of h, e]
  · rw [if_neg e]; simp [prn_of h, e]
theorem kidL_len (L : List S5) (s i : Nat) : (kidL L s i).length ≤ i := by
  unfold kidL
  exact Nat.le_trans (List.length_filter_le _ _) (by simp)
theorem kids_n {w : World} {pa : Option Addr} {c : Nat} {L : List S5} (hS : SL w 5 S5.cells pa L) (hz : L.length ≤ 64) (s : Nat) : Calls Try.prog 43 #[.slice pa L.length c, .int .i64 ((s : Nat) : Int)] w fun e w' => ∃ pa1 cap1, e = .returned (.slice pa1 (kidL L s L.length).length cap1) ∧ w'.ownsRow w.heap.size 3 1 (.slice pa1 (kidL L s L.length).length cap1) (kidL L s L.length).length ((kidL L s L.length).flatMap nic) ∧ Mo w w' := by
  refine w_enter 29 Try.func43 Try.ntmps43 rfl rfl ?_
  have M : Mo w w := Mo.refl _
  refine w_seq ?_
  refine w_reg ?_
  refine wl_mv (.const (.slice none 0 0)) (.slice none 0 0) (fun _ => rfl) rfl rfl ?_
  refine w_nil ?_
  refine xn_then ?_
  refine w_seq ?_
  refine w_reg ?_
  refine wl_mv (.const (.slice none 0 0)) (.slice none 0 0) (fun _ => rfl) rfl rfl ?_
  refine w_nil ?_
  refine xn_then ?_
  refine w_seq ?_
  refine w_seq ?_
  refine w_reg ?_
  refine wl_mv (.const (.int .i64 (0))) (.int .i64 (0)) (fun _ => rfl) rfl rfl ?_
  refine w_nil ?_
  refine xn_then ?_
  refine w_block ?_
  have h0 : decide (0 ≤ ((s : Nat) : Int)) = true := decide_eq_true (by omega)
  refine w_loop (fun m l w1 => ∃ i : Nat, m = L.length - i ∧ i ≤ L.length ∧ look l 0 = .slice pa L.length c ∧ look l 1 = .int .i64 ((s : Nat) : Int) ∧ look l 6 = .int .i64 ((i : Nat) : Int) ∧ ∃ (pa1 : Option Addr) (cap1 : Nat), look l 5 = .slice pa1 (kidL L s i).length cap1 ∧ w1.ownsRow w.heap.size 3 1 (.slice pa1 (kidL L s i).length cap1) (kidL L s i).length ((kidL L s i).flatMap nic) ∧ Mo w w1) _ ⟨0, rfl, Nat.zero_le _, rfl, rfl, rfl, ⟨none, 0, rfl, ⟨rfl, Or.inl ⟨rfl, rfl⟩⟩, M⟩⟩ ?_
  clear M
  rintro m l40 wl40 ⟨i, rfl, hi, e40_0, e40_1, e40_i, hE⟩
  by_cases hil : i < L.length
  · skip
    have hid : decide (i < L.length) = true := decide_eq_true hil
    obtain ⟨pa1, cap1, e5, hown, M⟩ := hE
    have hkl := kidL_len L s i
    obtain ⟨x, hx⟩ := get_of_lt hil
    obtain ⟨bp, op, hpp, hRp⟩ := D.SL.rw hS hx
    refine w_seq ?_
    refine w_seq ?_
    refine w_reg ?_
    refine wl_mv (.tmp 6) (.int .i64 ((i : Nat) : Int)) (fun _ => rfl) e40_i rfl ?_
    refine wl_mv (.tmp 0) (.slice pa L.length c) (fun _ => rfl) e40_0 rfl ?_
    refine wl_val (.int .i64 ((L.length : Nat) : Int)) (len37 _ _ _ _ _ (by exact rfl) _ _ _ _ _ _) rfl ?_
    refine wl_bin (fun x y => do eqGuard .lss 3 (.tmp 7) (.tmp 9) x y; binOp .lss 3 x y) (.tmp 7) (.tmp 9) (.int .i64 ((i : Nat) : Int)) (.int .i64 ((L.length : Nat) : Int)) (.bool true) (fun _ => rfl) rfl rfl (ltN hid _ _ _) rfl ?_
    refine wl_mv (.tmp 10) (.bool true) (fun _ => rfl) rfl rfl ?_
    refine wl_mv (.tmp 1) (.int .i64 ((s : Nat) : Int)) (fun _ => rfl) e40_1 rfl ?_
    refine wl_bin (fun x y => do eqGuard .geq 3 (.tmp 12) (.const (.int .i64 (0))) x y; binOp .geq 3 x y) (.tmp 12) (.const (.int .i64 (0))) (.int .i64 ((s : Nat) : Int)) (.int .i64 (0)) (.bool true) (fun _ => rfl) rfl rfl (ge3 h0 _ _ _) rfl ?_
    refine wl_pick (.tmp 11) (.tmp 13) (.const (.bool false)) true (.bool true) (fun _ => rfl) rfl rfl rfl ?_
    refine w_nil ?_
    refine xn_then ?_
    refine w_condT rfl ?_
    refine w_skip ?_
    refine xn_then ?_
    refine w_seq ?_
    refine w_block ?_
    refine w_seq ?_
    refine w_reg ?_
    refine wl_mv (.tmp 0) (.slice pa L.length c) (fun _ => rfl) e40_0 rfl ?_
    refine wl_mv (.tmp 6) (.int .i64 ((i : Nat) : Int)) (fun _ => rfl) e40_i rfl ?_
    refine wl_bin (fun x y => Instr.indexAt 37 x y) (.tmp 17) (.tmp 18) (.slice pa L.length c) (.int .i64 ((i : Nat) : Int)) (pt bp (op + i * 5)) (fun _ => rfl) rfl rfl (ix37 (i := i) hpp hil _) rfl ?_
    refine wl_un (fun v => Instr.fieldAt 52 v 0) (.tmp 19) (pt bp (op + i * 5)) (pt bp (op + i * 5)) (fun _ => rfl) rfl (by kernel_rfl) rfl ?_
    refine wl_load 3 (.tmp 20) (pt bp (op + i * 5)) (.int .i64 (x.pr)) rfl rfl (D.run_oneR (hRp.mo M).at' 3 0 rfl Try.underlying3 rfl) rfl ?_
    refine wl_mv (.tmp 1) (.int .i64 ((s : Nat) : Int)) (fun _ => rfl) e40_1 rfl ?_
    cases hf30 : decide (x.pr = ((s : Nat) : Int)) with
    | true =>
      have hf30p := of_decide_eq_true hf30
      refine wl_bin (fun x y => do eqGuard .eql 3 (.tmp 21) (.tmp 22) x y; binOp .eql 3 x y) (.tmp 21) (.tmp 22) (.int .i64 (x.pr)) (.int .i64 ((s : Nat) : Int)) (.bool true) (fun _ => rfl) rfl rfl (eq3 hf30 _ _ _) rfl ?_
      refine w_nil ?_
      refine xn_then ?_
      refine w_condT rfl ?_
      refine w_reg ?_
      refine wl_mv (.tmp 5) (.slice pa1 (kidL L s i).length cap1) (fun _ => rfl) e5 rfl ?_
      refine wl_mv (.tmp 6) (.int .i64 ((i : Nat) : Int)) (fun _ => rfl) e40_i rfl ?_
      refine wl_bs 81 1 [(0, (.tmp 25))] [(0, .int .i64 ((i : Nat) : Int))] #[.int .i64 ((i : Nat) : Int)] 3 rfl rfl (fun _ => by kernel_rfl) rfl ?_
      intro k1 u41 hk hz hq Q1
      have N_k1 : w.heap.size ≤ k1 := by have := M.size; omega
      have on_k1 : (Value.slice pa1 (kidL L s i).length cap1).ownBlock ≠ some k1 := fun e => by have := (own_lt hown e).1; omega
      replace hown := own_mo hown hq
      replace M := M.trans hq
      clear hk hz hq
      refine wl_app Try.underlying81 inf3 rfl (by decide) (.tmp 24) (.tmp 26) w.heap.size (.slice pa1 (kidL L s i).length cap1) (kidL L s i).length ((kidL L s i).flatMap nic) k1 1 1 (nic i) rfl rfl rfl hown rfl Q1 (fun u hu => by rw [List.mem_singleton.1 hu]; rfl) (by decide) (by unfold maxLen; omega) (by omega) M.size rfl ?_
      intro v9 u42 hOw hm9 hbk
      replace M := hm9.mo M (fun k e => (own_lt hown e).2)
      obtain ⟨pa2, cap2, rfl, _⟩ := own_form hOw
      have hkk : kidL L s (i + 1) = kidL L s i ++ [i] := by rw [kidL_s hx, if_pos hf30p]
      have e2 : (kidL L s i).length + 1 = (kidL L s (i + 1)).length := by rw [hkk]; simp
      rw [e2] at hOw ⊢
      replace hOw : u42.ownsRow w.heap.size 3 1 (.slice pa2 (kidL L s (i + 1)).length cap2) (kidL L s (i + 1)).length ((kidL L s (i + 1)).flatMap nic) := by rw [hkk] at hOw ⊢; rw [List.flatMap_append]; exact hOw
      clear hown hbk hm9
      refine wl_mv (.tmp 27) (.slice pa2 (kidL L s (i + 1)).length cap2) (fun _ => rfl) rfl rfl ?_
      refine w_nil ?_
      refine xn_blk ?_
      refine xn_then ?_
      refine w_reg ?_
      refine wl_mv (.tmp 6) (.int .i64 ((i : Nat) : Int)) (fun _ => rfl) e40_i rfl ?_
      refine wl_bin (fun x y => do eqGuard .add 3 (.tmp 15) (.const (.int .i64 (1))) x y; binOp .add 3 x y) (.tmp 15) (.const (.int .i64 (1))) (.int .i64 ((i : Nat) : Int)) (.int .i64 (1)) (.int .i64 ((i + 1 : Nat) : Int)) (fun _ => rfl) rfl rfl (add1r (k := i) (by omega) _ _ _) rfl ?_
      refine wl_mv (.tmp 16) (.int .i64 ((i + 1 : Nat) : Int)) (fun _ => rfl) rfl rfl ?_
      refine w_nil ?_
      exact xn_loop (L.length - (i + 1)) (by omega) ⟨i + 1, rfl, by omega, e40_0, e40_1, rfl, ⟨pa2, cap2, rfl, hOw, M⟩⟩
    | false =>
      have hf30p := of_decide_eq_false hf30
      refine wl_bin (fun x y => do eqGuard .eql 3 (.tmp 21) (.tmp 22) x y; binOp .eql 3 x y) (.tmp 21) (.tmp 22) (.int .i64 (x.pr)) (.int .i64 ((s : Nat) : Int)) (.bool false) (fun _ => rfl) rfl rfl (eq3 hf30 _ _ _) rfl ?_
      refine w_nil ?_
      refine xn_then ?_
      refine w_condF rfl ?_
      refine w_skip ?_
      refine xn_blk ?_
      refine xn_then ?_
      refine w_reg ?_
      refine wl_mv (.tmp 6) (.int .i64 ((i : Nat) : Int)) (fun _ => rfl) e40_i rfl ?_
      refine wl_bin (fun x y => do eqGuard .add 3 (.tmp 15) (.const (.int .i64 (1))) x y; binOp .add 3 x y) (.tmp 15) (.const (.int .i64 (1))) (.int .i64 ((i : Nat) : Int)) (.int .i64 (1)) (.int .i64 ((i + 1 : Nat) : Int)) (fun _ => rfl) rfl rfl (add1r (k := i) (by omega) _ _ _) rfl ?_
      refine wl_mv (.tmp 16) (.int .i64 ((i + 1 : Nat) : Int)) (fun _ => rfl) rfl rfl ?_
      refine w_nil ?_
      have hkk : kidL L s (i + 1) = kidL L s i := by rw [kidL_s hx, if_neg hf30p]
      exact xn_loop (L.length - (i + 1)) (by omega) ⟨i + 1, rfl, by omega, e40_0, e40_1, rfl, ⟨pa1, cap1, by rw [hkk]; exact e5, by rw [hkk]; exact hown, M⟩⟩
  · skip
    have hid : decide (i < L.length) = false := decide_eq_false hil
    have hie : i = L.length := by omega
    obtain ⟨pa1, cap1, e5, hown, M⟩ := hE
    refine w_seq ?_
    refine w_seq ?_
    refine w_reg ?_
    refine wl_mv (.tmp 6) (.int .i64 ((i : Nat) : Int)) (fun _ => rfl) e40_i rfl ?_
    refine wl_mv (.tmp 0) (.slice pa L.length c) (fun _ => rfl) e40_0 rfl ?_
    refine wl_val (.int .i64 ((L.length : Nat) : Int)) (len37 _ _ _ _ _ (by exact rfl) _ _ _ _ _ _) rfl ?_
    refine wl_bin (fun x y => do eqGuard .lss 3 (.tmp 7) (.tmp 9) x y; binOp .lss 3 x y) (.tmp 7) (.tmp 9) (.int .i64 ((i : Nat) : Int)) (.int .i64 ((L.length : Nat) : Int)) (.bool false) (fun _ => rfl) rfl rfl (ltN hid _ _ _) rfl ?_
    refine wl_mv (.tmp 10) (.bool false) (fun _ => rfl) rfl rfl ?_
    refine wl_skip rfl ?_
    refine wl_skip rfl ?_
    refine wl_pick (.tmp 11) (.tmp 13) (.const (.bool false)) false (.bool false) (fun _ => rfl) rfl rfl rfl ?_
    refine w_nil ?_
    refine xn_then ?_
    refine w_condF rfl ?_
    refine w_exit ?_
    refine xx_then ?_
    refine xx_then ?_
    refine xx_blk ?_
    refine xn_then ?_
    refine w_seq ?_
    refine w_reg ?_
    refine wl_mv (.tmp 5) (.slice pa1 (kidL L s i).length cap1) (fun _ => rfl) e5 rfl ?_
    refine wl_mv (.tmp 28) (.slice pa1 (kidL L s i).length cap1) (fun _ => rfl) rfl rfl ?_
    refine w_nil ?_
    refine xn_then ?_
    refine w_ret ?_
    exact w_ret1 _ (.slice pa1 (kidL L s i).length cap1) rfl rfl ⟨pa1, cap1, by rw [hie], by rw [hie] at hown; exact hown, M⟩
theorem kidL_take {L : List S5} {s : Nat} : ∀ {N i m : Nat}, (kidL L s N)[i]? = some m → (kidL L s N).take i = kidL L s m ∧ prn L m = s ∧ m < N
  | 0, i, m, h => by simp [kidL] at h
  | N + 1, i, m, h => by
    have e : kidL L s (N + 1) = kidL L s N ++ (if prn L N = s then [N] else []) := by
      unfold kidL
      rw [List.range_succ, List.filter_append]
      by_cases q : prn L N = s <;> simp [q]
    rw [e] at h ⊢
    rcases Nat.lt_or_ge i (kidL L s N).length with q | q
    · rw [List.getElem?_append_left q] at h
      have := kidL_take h
      rw [List.take_append_of_le_length (Nat.le_of_lt q)]
      exact ⟨this.1, this.2.1, by omega⟩
    · rw [List.getElem?_append_right q] at h
      by_cases hp : prn L N = s
      · simp only [hp, if_true] at h ⊢
        have hi : i - (kidL L s N).length = 0 := by
          have := lt_of_get h
          simp at this
          omega
        rw [hi] at h
        simp at h
        subst h
        have : i = (kidL L s N).length := by omega
        rw [this, List.take_left]
        exact ⟨rfl, hp, Nat.lt_succ_self _⟩
      · simp [hp] at h
theorem kidL_mem {L : List S5} {s m j : Nat} : j ∈ kidL L s m ↔ j < m ∧ prn L j = s := by unfold kidL; simp
theorem kd_hit {L : List S5} {s i m : Nat} {nm : ByteArray} {x : S5} (h : (kidL L s L.length)[i]? = some m) (hx : L[m]? = some x) (hn : x.nm = nm) (hT : ((kidL L s L.length).take i).any (fun j => decide (nmO L j = nm)) = false) : ffi (kdP s nm) L = some m := by
  obtain ⟨h1, h2, h3⟩ := kidL_take h
  refine fs_hit (fun j hj => ?_) (fiG_1 hx (by unfold kdP; rw [prn_of hx] at h2; simp [h2, hn])) h3
  obtain ⟨y, hy⟩ := get_of_lt (show j < L.length by omega)
  refine fiG_0 hy ?_
  unfold kdP
  by_cases e : y.pr = s
  · have hm : j ∈ kidL L s m := kidL_mem.2 ⟨hj, by rw [prn_of hy]; exact e⟩
    rw [h1, List.any_eq_false] at hT
    have := hT j hm
    rw [nmO_of hy] at this
    simpa [e] using this
  · simp [e]
theorem kd_none {L : List S5} {s i : Nat} {nm : ByteArray} (hi : i = (kidL L s L.length).length) (hT : ((kidL L s L.length).take i).any (fun j => decide (nmO L j = nm)) = false) : ffi (kdP s nm) L = none := by
  rw [hi, List.take_length, List.any_eq_false] at hT
  refine fs_none (fun j hj => ?_)
  obtain ⟨y, hy⟩ := get_of_lt hj
  refine fiG_0 hy ?_
  unfold kdP
  by_cases e : y.pr = s
  · have := hT j (kidL_mem.2 ⟨hj, by rw [prn_of hy]; exact e⟩)
    rw [nmO_of hy] at this
    simpa [e] using this
  · simp [e]
theorem kid_n {w : World} {pa : Option Addr} {c : Nat} {L : List S5} (hS : SL w 5 S5.cells pa L) (hz : L.length ≤ 64) (s : Nat) (nm : ByteArray) : Calls Try.prog 15 #[.slice pa L.length c, .int .i64 ((s : Nat) : Int), .string nm] w fun e w' => e = .returned (.tuple #[.int .i64 (((ffi (kdP s nm) L).getD 0 : Nat) : Int), .bool (ffi (kdP s nm) L).isSome]) ∧ Mo w w' := by
  refine w_enter 33 Try.func15 Try.ntmps15 rfl rfl ?_
  have M : Mo w w := Mo.refl _
  refine w_seq ?_
  refine w_reg ?_
  refine wl_mv (.const (.int .i64 (0))) (.int .i64 (0)) (fun _ => rfl) rfl rfl ?_
  refine wl_mv (.const (.bool false)) (.bool false) (fun _ => rfl) rfl rfl ?_
  refine w_nil ?_
  refine xn_then ?_
  refine w_seq ?_
  refine w_reg ?_
  refine wl_mv (.tmp 0) (.slice pa L.length c) (fun _ => rfl) rfl rfl ?_
  refine wl_mv (.tmp 1) (.int .i64 ((s : Nat) : Int)) (fun _ => rfl) rfl rfl ?_
  refine wl_callx 43 [(.tmp 10), (.tmp 11)] _ [.slice pa L.length c, .int .i64 ((s : Nat) : Int)] rfl rfl (fun _ _ => by kernel_rfl) (kids_n hS hz s) rfl ?_
  rintro e9 u1 ⟨pk, ck, rfl, hown, hq⟩
  refine ⟨_, rfl, ?_⟩
  replace M := M.trans hq
  have hKS : SL _ 1 nic pk (kidL L s L.length) := own_sl (cells := nic) (L := kidL L s L.length) (fun _ => rfl) (by have := kidL_len L s L.length; unfold maxLen; omega) hown
  have hSw := hS.kp M.kp
  have hMw := M
  clear M hq
  have M : Mo u1 u1 := Mo.refl _
  refine wl_mv (.tmp 12) (.slice pk (kidL L s L.length).length ck) (fun _ => rfl) rfl rfl ?_
  refine w_nil ?_
  refine xn_then ?_
  refine w_seq ?_
  refine w_seq ?_
  refine w_reg ?_
  refine wl_mv (.const (.int .i64 (0))) (.int .i64 (0)) (fun _ => rfl) rfl rfl ?_
  refine w_nil ?_
  refine xn_then ?_
  refine w_block ?_
  have hkl := kidL_len L s L.length
  refine w_loop (fun m l w1 => ∃ i : Nat, m = (kidL L s L.length).length - i ∧ i ≤ (kidL L s L.length).length ∧ look l 0 = .slice pa L.length c ∧ look l 2 = .string nm ∧ look l 8 = .slice pk (kidL L s L.length).length ck ∧ look l 9 = .int .i64 ((i : Nat) : Int) ∧ (((kidL L s L.length).take i).any (fun j => decide (nmO L j = nm)) = false) ∧ Mo u1 w1) _ ⟨0, rfl, Nat.zero_le _, rfl, rfl, rfl, rfl, rfl, M⟩ ?_
  clear M
  rintro m l40 wl40 ⟨i, rfl, hi, e40_0, e40_2, e40_8, e40_i, hT, M⟩
  by_cases hil : i < (kidL L s L.length).length
  · skip
    have hid : decide (i < (kidL L s L.length).length) = true := decide_eq_true hil
    obtain ⟨m9, hm⟩ := get_of_lt hil
    have hm3 := (kidL_take hm).2.2
    obtain ⟨x, hx⟩ := get_of_lt hm3
    obtain ⟨bp, op, hpp, hRp⟩ := D.SL.rw hKS hm
    obtain ⟨bq, oq, hpq, hRq⟩ := D.SL.rw hSw hx
    refine w_seq ?_
    refine w_seq ?_
    refine w_reg ?_
    refine wl_mv (.tmp 9) (.int .i64 ((i : Nat) : Int)) (fun _ => rfl) e40_i rfl ?_
    refine wl_mv (.tmp 8) (.slice pk (kidL L s L.length).length ck) (fun _ => rfl) e40_8 rfl ?_
    refine wl_val (.int .i64 (((kidL L s L.length).length : Nat) : Int)) (len81 _ _ _ _ _ (by exact rfl) _ _ _ _ _ _) rfl ?_
    refine wl_bin (fun x y => do eqGuard .lss 3 (.tmp 13) (.tmp 15) x y; binOp .lss 3 x y) (.tmp 13) (.tmp 15) (.int .i64 ((i : Nat) : Int)) (.int .i64 (((kidL L s L.length).length : Nat) : Int)) (.bool true) (fun _ => rfl) rfl rfl (ltN hid _ _ _) rfl ?_
    refine w_nil ?_
    refine xn_then ?_
    refine w_condT rfl ?_
    refine w_skip ?_
    refine xn_then ?_
    refine w_seq ?_
    refine w_block ?_
    refine w_seq ?_
    refine w_reg ?_
    refine wl_mv (.tmp 0) (.slice pa L.length c) (fun _ => rfl) e40_0 rfl ?_
    refine wl_mv (.tmp 8) (.slice pk (kidL L s L.length).length ck) (fun _ => rfl) e40_8 rfl ?_
    refine wl_mv (.tmp 9) (.int .i64 ((i : Nat) : Int)) (fun _ => rfl) e40_i rfl ?_
    refine wl_bin (fun x y => Instr.indexAt 81 x y) (.tmp 20) (.tmp 21) (.slice pk (kidL L s L.length).length ck) (.int .i64 ((i : Nat) : Int)) (pt bp (op + i * 1)) (fun _ => rfl) rfl rfl (ix81 (i := i) hpp hil _) rfl ?_
    refine wl_load 3 (.tmp 22) (pt bp (op + i * 1)) (.int .i64 ((m9 : Nat) : Int)) rfl rfl (D.run_oneR (hRp.mo M).at' 3 0 rfl Try.underlying3 rfl) rfl ?_
    refine wl_bin (fun x y => Instr.indexAt 37 x y) (.tmp 19) (.tmp 23) (.slice pa L.length c) (.int .i64 ((m9 : Nat) : Int)) (pt bq (oq + m9 * 5)) (fun _ => rfl) rfl rfl (ix37 (i := m9) hpq hm3 _) rfl ?_
    refine wl_un (fun v => Instr.fieldAt 52 v 2) (.tmp 24) (pt bq (oq + m9 * 5)) (pt bq (oq + m9 * 5 + 2)) (fun _ => rfl) rfl (by kernel_rfl) rfl ?_
    refine wl_load 9 (.tmp 25) (pt bq (oq + m9 * 5 + 2)) (.string x.nm) rfl rfl (D.run_oneR (hRq.mo M).at' 9 2 rfl Try.underlying9 rfl) rfl ?_
    refine wl_mv (.tmp 2) (.string nm) (fun _ => rfl) e40_2 rfl ?_
    cases hf30 : decide (x.nm = nm) with
    | true =>
      have hf30p := of_decide_eq_true hf30
      refine wl_bin (fun x y => do eqGuard .eql 9 (.tmp 26) (.tmp 27) x y; binOp .eql 9 x y) (.tmp 26) (.tmp 27) (.string x.nm) (.string nm) (.bool true) (fun _ => rfl) rfl rfl (s9 hf30 _ _ _) rfl ?_
      refine w_nil ?_
      refine xn_then ?_
      refine w_condT rfl ?_
      refine w_seq ?_
      refine w_reg ?_
      refine wl_mv (.tmp 8) (.slice pk (kidL L s L.length).length ck) (fun _ => rfl) e40_8 rfl ?_
      refine wl_mv (.tmp 9) (.int .i64 ((i : Nat) : Int)) (fun _ => rfl) e40_i rfl ?_
      refine wl_bin (fun x y => Instr.indexAt 81 x y) (.tmp 29) (.tmp 30) (.slice pk (kidL L s L.length).length ck) (.int .i64 ((i : Nat) : Int)) (pt bp (op + i * 1)) (fun _ => rfl) rfl rfl (ix81 (i := i) hpp hil _) rfl ?_
      refine wl_load 3 (.tmp 31) (pt bp (op + i * 1)) (.int .i64 ((m9 : Nat) : Int)) rfl rfl (D.run_oneR (hRp.mo M).at' 3 0 rfl Try.underlying3 rfl) rfl ?_
      refine wl_mv (.tmp 32) (.int .i64 ((m9 : Nat) : Int)) (fun _ => rfl) rfl rfl ?_
      refine wl_mv (.const (.bool true)) (.bool true) (fun _ => rfl) rfl rfl ?_
      refine w_nil ?_
      refine xn_then ?_
      refine w_ret ?_
      refine xr_blk ?_
      refine xr_then ?_
      refine xr_then ?_
      refine xr_blk ?_
      refine xr_then ?_
      exact w_ret2 _ _ (.int .i64 ((m9 : Nat) : Int)) (.bool true) rfl rfl rfl ⟨by rw [kd_hit hm hx hf30p hT]; rfl, hMw.trans M⟩
    | false =>
      have hf30p := of_decide_eq_false hf30
      refine wl_bin (fun x y => do eqGuard .eql 9 (.tmp 26) (.tmp 27) x y; binOp .eql 9 x y) (.tmp 26) (.tmp 27) (.string x.nm) (.string nm) (.bool false) (fun _ => rfl) rfl rfl (s9 hf30 _ _ _) rfl ?_
      refine w_nil ?_
      refine xn_then ?_
      refine w_condF rfl ?_
      refine w_skip ?_
      refine xn_blk ?_
      refine xn_then ?_
      refine w_reg ?_
      refine wl_mv (.tmp 9) (.int .i64 ((i : Nat) : Int)) (fun _ => rfl) e40_i rfl ?_
      refine wl_bin (fun x y => do eqGuard .add 3 (.tmp 17) (.const (.int .i64 (1))) x y; binOp .add 3 x y) (.tmp 17) (.const (.int .i64 (1))) (.int .i64 ((i : Nat) : Int)) (.int .i64 (1)) (.int .i64 ((i + 1 : Nat) : Int)) (fun _ => rfl) rfl rfl (add1r (k := i) (by omega) _ _ _) rfl ?_
      refine wl_mv (.tmp 18) (.int .i64 ((i + 1 : Nat) : Int)) (fun _ => rfl) rfl rfl ?_
      refine w_nil ?_
      exact xn_loop ((kidL L s L.length).length - (i + 1)) (by omega) ⟨i + 1, rfl, by omega, e40_0, e40_2, e40_8, rfl, any_take hT hm (by rw [nmO_of hx]; exact hf30), M⟩
  · skip
    have hid : decide (i < (kidL L s L.length).length) = false := decide_eq_false hil
    have hie : i = (kidL L s L.length).length := by omega
    refine w_seq ?_
    refine w_seq ?_
    refine w_reg ?_
    refine wl_mv (.tmp 9) (.int .i64 ((i : Nat) : Int)) (fun _ => rfl) e40_i rfl ?_
    refine wl_mv (.tmp 8) (.slice pk (kidL L s L.length).length ck) (fun _ => rfl) e40_8 rfl ?_
    refine wl_val (.int .i64 (((kidL L s L.length).length : Nat) : Int)) (len81 _ _ _ _ _ (by exact rfl) _ _ _ _ _ _) rfl ?_
    refine wl_bin (fun x y => do eqGuard .lss 3 (.tmp 13) (.tmp 15) x y; binOp .lss 3 x y) (.tmp 13) (.tmp 15) (.int .i64 ((i : Nat) : Int)) (.int .i64 (((kidL L s L.length).length : Nat) : Int)) (.bool false) (fun _ => rfl) rfl rfl (ltN hid _ _ _) rfl ?_
    refine w_nil ?_
    refine xn_then ?_
    refine w_condF rfl ?_
    refine w_exit ?_
    refine xx_then ?_
    refine xx_then ?_
    refine xx_blk ?_
    refine xn_then ?_
    refine w_seq ?_
    refine w_reg ?_
    refine wl_mv (.const (.int .i64 (0))) (.int .i64 (0)) (fun _ => rfl) rfl rfl ?_
    refine wl_mv (.const (.bool false)) (.bool false) (fun _ => rfl) rfl rfl ?_
    refine w_nil ?_
    refine xn_then ?_
    refine w_ret ?_
    exact w_ret2 _ _ (.int .i64 (0)) (.bool false) rfl rfl rfl ⟨by rw [kd_none hie hT]; rfl, hMw.trans M⟩
end Go.Proofs.Ytbanldffohopiaa
