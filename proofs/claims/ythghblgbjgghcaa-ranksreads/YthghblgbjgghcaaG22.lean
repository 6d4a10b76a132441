/-
  How many items there are; whether numbers rise.
-/
import Derived.Test.YthghblgbjgghcaaG21
namespace Go.Proofs.Ythghblgbjgghcaa
open Go.RowKit D
theorem eqBB (r : Bool) (x y : Operand) (w : World) : (do eqGuard .eql 4 x y (.bool r) (.bool r); binOp .eql 4 (.bool r) (.bool r)).run Try.prog w = .ok (.bool true) w := by cases r <;> kernel_rfl
theorem many_n {w : World} {l : List S5} {pl : Option Addr} {cl : Nat} (hL : SL w 5 S5.cells pl l) (hz : l.length < 400000) (hzI : nI l < 400000) : Calls Try.prog 28 #[.slice pl l.length cl] w fun e w' => e = .returned (.int .i64 ((nI l : Nat) : Int)) ∧ Mo w w' := by
  refine w_enter 20 Try.func28 Try.ntmps28 rfl rfl ?_
  have M : Mo w w := Mo.refl _
  refine w_seq ?_
  refine w_reg ?_
  refine wl_mv (.const (.int .i64 (0))) (.int .i64 (0)) (fun _ => rfl) rfl rfl ?_
  refine w_nil ?_
  refine xn_then ?_
  refine w_seq ?_
  refine w_reg ?_
  refine wl_mv (.const (.int .i64 (0))) (.int .i64 (0)) (fun _ => rfl) rfl rfl ?_
  refine w_nil ?_
  refine xn_then ?_
  refine w_seq ?_
  refine w_seq ?_
  refine w_reg ?_
  refine wl_mv (.const (.int .i64 (0))) (.int .i64 (0)) (fun _ => rfl) rfl rfl ?_
  refine w_nil ?_
  refine xn_then ?_
  refine w_block ?_
  refine w_loop (fun m lf w1 => ∃ i : Nat, m = l.length - i ∧ look lf 0 = .slice pl l.length cl ∧ look lf 3 = .int .i64 ((fsn l i : Nat) : Int) ∧ look lf 4 = .int .i64 ((i : Nat) : Int) ∧ (i ≤ l.length) ∧ (Mo w w1)) _ ⟨0, rfl, rfl, rfl, rfl, Nat.zero_le _, M⟩ ?_
  clear M
  rintro m lf40 wl40 ⟨i, rfl, e40_0, e40_3, e40_4, hi, M⟩
  cases hd : decide (i < l.length) with
  | true =>
    have hil := of_decide_eq_true hd
    obtain ⟨x, hx⟩ := get_of_lt hil
    have hfs := fsn_s hx
    have hfm := fsn_le l (i + 1)
    obtain ⟨bp, op, hpp, hRp⟩ := D.SL.rw hL hx
    refine w_seq ?_
    refine w_seq ?_
    refine w_reg ?_
    refine wl_mv (.tmp 4) (.int .i64 ((i : Nat) : Int)) (fun _ => rfl) e40_4 rfl ?_
    refine wl_mv (.tmp 0) (.slice pl l.length cl) (fun _ => rfl) e40_0 rfl ?_
    refine wl_val (.int .i64 ((l.length : Nat) : Int)) (len22 _ _ _ _ _ (by exact rfl) _ _ _ _ _ _) rfl ?_
    refine wl_bin (fun x y => do eqGuard .lss 3 (.tmp 5) (.tmp 7) x y; binOp .lss 3 x y) (.tmp 5) (.tmp 7) (.int .i64 ((i : Nat) : Int)) (.int .i64 ((l.length : Nat) : Int)) (.bool true) (fun _ => rfl) rfl rfl (ltN hd _ _ _) rfl ?_
    refine w_nil ?_
    refine xn_then ?_
    refine w_condT rfl ?_
    refine w_skip ?_
    refine xn_then ?_
    refine w_seq ?_
    refine w_block ?_
    refine w_reg ?_
    refine wl_mv (.tmp 3) (.int .i64 ((fsn l i : Nat) : Int)) (fun _ => rfl) e40_3 rfl ?_
    refine wl_mv (.tmp 0) (.slice pl l.length cl) (fun _ => rfl) e40_0 rfl ?_
    refine wl_mv (.tmp 4) (.int .i64 ((i : Nat) : Int)) (fun _ => rfl) e40_4 rfl ?_
    refine wl_bin (fun x y => Instr.indexAt 22 x y) (.tmp 12) (.tmp 13) (.slice pl l.length cl) (.int .i64 ((i : Nat) : Int)) (pt bp (op + i * 5)) (fun _ => rfl) rfl rfl (ix22 (i := i) hpp hil _) rfl ?_
    refine wl_un (fun v => Instr.fieldAt 55 v 4) (.tmp 14) (pt bp (op + i * 5)) (pt bp (op + i * 5 + 4)) (fun _ => rfl) rfl (by kernel_rfl) rfl ?_
    refine wl_load 39 (.tmp 15) (pt bp (op + i * 5 + 4)) (.slice x.pi x.items.length x.ci) rfl rfl (D.run_oneR (hRp.mo M).at' 39 4 rfl Try.underlying39 rfl) rfl ?_
    refine wl_val (.int .i64 ((x.items.length : Nat) : Int)) (len39 _ _ _ _ _ (by exact rfl) _ _ _ _ _ _) rfl ?_
    refine wl_bin (fun x y => do eqGuard .add 3 (.tmp 11) (.tmp 17) x y; binOp .add 3 x y) (.tmp 11) (.tmp 17) (.int .i64 ((fsn l i : Nat) : Int)) (.int .i64 ((x.items.length : Nat) : Int)) (.int .i64 ((fsn l i + x.items.length : Nat) : Int)) (fun _ => rfl) rfl rfl (addN (a := fsn l i) (b := x.items.length) (by omega) _ _ _) rfl ?_
    refine wl_mv (.tmp 18) (.int .i64 ((fsn l i + x.items.length : Nat) : Int)) (fun _ => rfl) rfl rfl ?_
    refine w_nil ?_
    refine xn_blk ?_
    refine xn_then ?_
    refine w_reg ?_
    refine wl_mv (.tmp 4) (.int .i64 ((i : Nat) : Int)) (fun _ => rfl) e40_4 rfl ?_
    refine wl_bin (fun x y => do eqGuard .add 3 (.tmp 9) (.const (.int .i64 (1))) x y; binOp .add 3 x y) (.tmp 9) (.const (.int .i64 (1))) (.int .i64 ((i : Nat) : Int)) (.int .i64 (1)) (.int .i64 ((i + 1 : Nat) : Int)) (fun _ => rfl) rfl rfl (add1r (k := i) (by omega) _ _ _) rfl ?_
    refine wl_mv (.tmp 10) (.int .i64 ((i + 1 : Nat) : Int)) (fun _ => rfl) rfl rfl ?_
    refine w_nil ?_
    exact xn_loop (l.length - (i + 1)) (by omega) ⟨i + 1, rfl, e40_0, (by rw [hfs]; rfl), rfl, by omega, M⟩
  | false =>
    have hie : i = l.length := by have := of_decide_eq_false hd; omega
    refine w_seq ?_
    refine w_seq ?_
    refine w_reg ?_
    refine wl_mv (.tmp 4) (.int .i64 ((i : Nat) : Int)) (fun _ => rfl) e40_4 rfl ?_
    refine wl_mv (.tmp 0) (.slice pl l.length cl) (fun _ => rfl) e40_0 rfl ?_
    refine wl_val (.int .i64 ((l.length : Nat) : Int)) (len22 _ _ _ _ _ (by exact rfl) _ _ _ _ _ _) rfl ?_
    refine wl_bin (fun x y => do eqGuard .lss 3 (.tmp 5) (.tmp 7) x y; binOp .lss 3 x y) (.tmp 5) (.tmp 7) (.int .i64 ((i : Nat) : Int)) (.int .i64 ((l.length : Nat) : Int)) (.bool false) (fun _ => rfl) rfl rfl (ltN hd _ _ _) rfl ?_
    refine w_nil ?_
    refine xn_then ?_
    refine w_condF rfl ?_
    refine w_exit ?_
    refine xx_then ?_
    refine xx_then ?_
    refine xx_blk ?_
    refine xn_then ?_
    refine w_seq ?_
    refine w_reg ?_
    refine wl_mv (.tmp 3) (.int .i64 ((fsn l i : Nat) : Int)) (fun _ => rfl) e40_3 rfl ?_
    refine wl_mv (.tmp 19) (.int .i64 ((fsn l i : Nat) : Int)) (fun _ => rfl) rfl rfl ?_
    refine w_nil ?_
    refine xn_then ?_
    refine w_ret ?_
    exact w_ret1 _ (.int .i64 ((fsn l i : Nat) : Int)) rfl rfl ⟨by rw [hie]; rfl, M⟩
theorem Less_mo (x y : Int) (w : World) : Calls Try.prog 52 #[.int .i64 x, .int .i64 y] w fun e w' => e = .returned (.bool (decide (x < y))) ∧ Mo w w' := (Try.cmp_Less_int2 x y w).mono (by rintro e w' ⟨rfl, rfl⟩; exact ⟨rfl, Mo.refl _⟩)
theorem subS {k : Nat} (h : k ≤ 9223372036854775806) (x y : Operand) (w : World) : (do eqGuard .sub 3 x y (.int .i64 ((k + 1 : Nat) : Int)) (.int .i64 1); binOp .sub 3 (.int .i64 ((k + 1 : Nat) : Int)) (.int .i64 1)).run Try.prog w = .ok (.int .i64 ((k : Nat) : Int)) w := by
  have e : (do eqGuard .sub 3 x y (.int .i64 ((k + 1 : Nat) : Int)) (.int .i64 1); binOp .sub 3 (.int .i64 ((k + 1 : Nat) : Int)) (.int .i64 1)).run Try.prog w = .ok (.int .i64 (IntKind.i64.wrap (((k + 1 : Nat) : Int) - 1))) w := by kernel_rfl
  have h : IntKind.i64.wrap (((k + 1 : Nat) : Int) - 1) = ((k : Nat) : Int) := by rw [IntKind.wrap_i64]; omega
  rw [e, h]
theorem sorted_n {w : World} {pa : Option Addr} {cap : Nat} {L : List Nat} (hL : SL w 1 ic pa L) (hs : L.Pairwise (· < ·)) (hz : L.length < 4000000) : Calls Try.prog 30 #[.slice pa L.length cap] w fun e w' => e = .returned (.bool true) ∧ Mo w w' := by
  refine w_enter 21 Try.func30 Try.ntmps30 rfl rfl ?_
  have M : Mo w w := Mo.refl _
  refine w_seq ?_
  refine w_reg ?_
  refine wl_mv (.const (.bool false)) (.bool false) (fun _ => rfl) rfl rfl ?_
  refine w_nil ?_
  refine xn_then ?_
  refine w_seq ?_
  refine w_seq ?_
  refine w_reg ?_
  refine wl_mv (.tmp 0) (.slice pa L.length cap) (fun _ => rfl) rfl rfl ?_
  refine wl_val (.int .i64 ((L.length : Nat) : Int)) (len32 _ _ _ _ _ (by exact rfl) _ _ _ _ _ _) rfl ?_
  refine wl_bin (fun x y => do eqGuard .sub 3 (.tmp 5) (.const (.int .i64 (1))) x y; binOp .sub 3 x y) (.tmp 5) (.const (.int .i64 (1))) (.int .i64 ((L.length : Nat) : Int)) (.int .i64 (1)) (.int .i64 (((L.length : Nat) : Int) - 1)) (fun _ => rfl) rfl rfl (subZ (a := ((L.length : Nat) : Int)) (b := 1) (by omega) (by omega) _ _ _) rfl ?_
  refine wl_mv (.tmp 6) (.int .i64 (((L.length : Nat) : Int) - 1)) (fun _ => rfl) rfl rfl ?_
  refine w_nil ?_
  refine xn_then ?_
  refine w_block ?_
  refine w_loop (fun m lf w1 => ∃ z : Int, m = z.toNat ∧ look lf 0 = .slice pa L.length cap ∧ look lf 3 = .int .i64 (z) ∧ (-1 ≤ z ∧ z < (L.length : Int)) ∧ (Mo w w1)) _ ⟨_, rfl, rfl, rfl, ⟨by omega, by omega⟩, M⟩ ?_
  clear M
  rintro m lf40 wl40 ⟨z, rfl, e40_0, e40_3, hi, M⟩
  cases hd : decide (0 < z) with
  | true =>
    have hil := of_decide_eq_true hd
    obtain ⟨i, rfl⟩ : ∃ i : Nat, z = ((i + 1 : Nat) : Int) := ⟨(z - 1).toNat, by omega⟩
    obtain ⟨a, ha⟩ := get_of_lt (show i < L.length by omega)
    obtain ⟨b, hb⟩ := get_of_lt (show i + 1 < L.length by omega)
    have hab : a < b := by have h1 := List.getElem?_eq_some_iff.1 ha; have h2 := List.getElem?_eq_some_iff.1 hb; obtain ⟨q1, e1⟩ := h1; obtain ⟨q2, e2⟩ := h2; have := (List.pairwise_iff_getElem.1 hs) i (i + 1) q1 q2 (by omega); rw [e1, e2] at this; exact this
    have hi1 : i + 1 < L.length := by omega
    have hi0 : i < L.length := by omega
    obtain ⟨bb, ob, hpb, hRb⟩ := D.SL.rw hL hb
    obtain ⟨ba, oa, hpa, hRa⟩ := D.SL.rw hL ha
    refine w_seq ?_
    refine w_seq ?_
    refine w_reg ?_
    refine wl_mv (.tmp 3) (.int .i64 ((i + 1 : Nat) : Int)) (fun _ => rfl) e40_3 rfl ?_
    cases hf30 : decide (0 < i + 1) with
    | true =>
      have hf30p := of_decide_eq_true hf30
      refine wl_bin (fun x y => do eqGuard .gtr 3 (.tmp 7) (.const (.int .i64 (0))) x y; binOp .gtr 3 x y) (.tmp 7) (.const (.int .i64 (0))) (.int .i64 ((i + 1 : Nat) : Int)) (.int .i64 (0)) (.bool true) (fun _ => rfl) rfl rfl (gtN hf30 _ _ _) rfl ?_
      refine w_nil ?_
      refine xn_then ?_
      refine w_condT rfl ?_
      refine w_skip ?_
      refine xn_then ?_
      refine w_seq ?_
      refine w_block ?_
      refine w_seq ?_
      have hsm9 : Smos [vq (.slice pa L.length cap), vq (.int .i64 ((i + 1 : Nat) : Int)), vq (pt bb (ob + (i + 1) * 1)), vq (.int .i64 ((b : Nat) : Int)), vq (.slice pa L.length cap), vq (.int .i64 ((i + 1 : Nat) : Int)), vq (.int .i64 ((i : Nat) : Int)), vq (pt ba (oa + i * 1)), vq (.int .i64 ((a : Nat) : Int)), vq (.bool false)] := smos_cons (smo_vq _) (smos_cons (smo_vq _) (smos_cons (smo_vq _) (smos_cons (smo_vq _) (smos_cons (smo_vq _) (smos_cons (smo_vq _) (smos_cons (smo_vq _) (smos_cons (smo_vq _) (smos_cons (smo_vq _) (smos_cons (smo_vq _) (smos_nil))))))))))
      refine w_ogc 10 (fun w9 => Mo wl40 w9) [vq (.slice pa L.length cap), vq (.int .i64 ((i + 1 : Nat) : Int)), vq (pt bb (ob + (i + 1) * 1)), vq (.int .i64 ((b : Nat) : Int)), vq (.slice pa L.length cap), vq (.int .i64 ((i + 1 : Nat) : Int)), vq (.int .i64 ((i : Nat) : Int)), vq (pt ba (oa + i * 1)), vq (.int .i64 ((a : Nat) : Int)), vq (.bool false)] [] (by kernel_rfl) (by kernel_rfl) (by kernel_rfl) (by kernel_rfl) rfl (by kernel_rfl) (by kernel_rfl) latec_nil ((Mo.refl _).drew) ?_ ?_
      · refine ea_cons ?_ (ea_cons ?_ (ea_cons ?_ (ea_cons ?_ (ea_cons ?_ (ea_cons ?_ (ea_cons ?_ (ea_cons ?_ (ea_cons ?_ (ea_cons ?_ (ea_nil))))))))))
        · exact oc_eq (.slice pa L.length cap) rfl (fun _ _ h m => h.trans m) hsm9 (fun f wf hq hd K hK => go_run rfl (wo_mv (.tmp 0) (.slice pa L.length cap) (fun _ => rfl) e40_0 (hK _ (Mo.refl _))))
        · exact oc_eq (.int .i64 ((i + 1 : Nat) : Int)) rfl (fun _ _ h m => h.trans m) hsm9 (fun f wf hq hd K hK => go_run rfl (wo_mv (.tmp 3) (.int .i64 ((i + 1 : Nat) : Int)) (fun _ => rfl) e40_3 (hK _ (Mo.refl _))))
        · exact oc_eq (pt bb (ob + (i + 1) * 1)) rfl (fun _ _ h m => h.trans m) hsm9 (fun f wf hq hd K hK => go_run rfl (wo_bin (fun x y => Instr.indexAt 32 x y) (.tmp 11) (.tmp 12) (.slice pa L.length cap) (.int .i64 ((i + 1 : Nat) : Int)) (pt bb (ob + (i + 1) * 1)) (fun _ => rfl) (hd 0 rfl) (hd 1 rfl) (ix32 (i := i + 1) hpb hi1 _) (hK _ (Mo.refl _))))
        · exact oc_eq (.int .i64 ((b : Nat) : Int)) rfl (fun _ _ h m => h.trans m) hsm9 (fun f wf hq hd K hK => go_run rfl (wo_load 3 (.tmp 13) (pt bb (ob + (i + 1) * 1)) (.int .i64 ((b : Nat) : Int)) rfl (hd 2 rfl) (D.run_oneR (hRb.mo (M.trans hq)).at' 3 0 rfl Try.underlying3 rfl) (hK _ (Mo.refl _))))
        · exact oc_eq (.slice pa L.length cap) rfl (fun _ _ h m => h.trans m) hsm9 (fun f wf hq hd K hK => go_run rfl (wo_mv (.tmp 0) (.slice pa L.length cap) (fun _ => rfl) e40_0 (hK _ (Mo.refl _))))
        · exact oc_eq (.int .i64 ((i + 1 : Nat) : Int)) rfl (fun _ _ h m => h.trans m) hsm9 (fun f wf hq hd K hK => go_run rfl (wo_mv (.tmp 3) (.int .i64 ((i + 1 : Nat) : Int)) (fun _ => rfl) e40_3 (hK _ (Mo.refl _))))
        · exact oc_eq (.int .i64 ((i : Nat) : Int)) rfl (fun _ _ h m => h.trans m) hsm9 (fun f wf hq hd K hK => go_run rfl (wo_bin (fun x y => do eqGuard .sub 3 (.tmp 16) (.const (.int .i64 (1))) x y; binOp .sub 3 x y) (.tmp 16) (.const (.int .i64 (1))) (.int .i64 ((i + 1 : Nat) : Int)) (.int .i64 (1)) (.int .i64 ((i : Nat) : Int)) (fun _ => rfl) (hd 5 rfl) rfl (subS (k := i) (by omega) _ _ _) (hK _ (Mo.refl _))))
        · exact oc_eq (pt ba (oa + i * 1)) rfl (fun _ _ h m => h.trans m) hsm9 (fun f wf hq hd K hK => go_run rfl (wo_bin (fun x y => Instr.indexAt 32 x y) (.tmp 15) (.tmp 17) (.slice pa L.length cap) (.int .i64 ((i : Nat) : Int)) (pt ba (oa + i * 1)) (fun _ => rfl) (hd 4 rfl) (hd 6 rfl) (ix32 (i := i) hpa hi0 _) (hK _ (Mo.refl _))))
        · exact oc_eq (.int .i64 ((a : Nat) : Int)) rfl (fun _ _ h m => h.trans m) hsm9 (fun f wf hq hd K hK => go_run rfl (wo_load 3 (.tmp 18) (pt ba (oa + i * 1)) (.int .i64 ((a : Nat) : Int)) rfl (hd 7 rfl) (D.run_oneR (hRa.mo (M.trans hq)).at' 3 0 rfl Try.underlying3 rfl) (hK _ (Mo.refl _))))
        · exact oc_eq (.bool false) rfl (fun _ _ h m => h.trans m) hsm9 (fun f wf hq hd K hK => go_run rfl (wo_call 52 [(.tmp 14), (.tmp 19)] _ [.int .i64 ((b : Nat) : Int), .int .i64 ((a : Nat) : Int)] (.bool false) rfl (li2 (hd 3 rfl) (hd 8 rfl)) (fun _ _ => by kernel_rfl) (cB (decide_eq_false (by omega)) (Less_mo _ _ _)) hK))
      intro f u41 hq hR9
      have er0 := hR9 0 rfl
      have er1 := hR9 1 rfl
      have er2 := hR9 2 rfl
      have er3 := hR9 3 rfl
      have er4 := hR9 4 rfl
      have er5 := hR9 5 rfl
      have er6 := hR9 6 rfl
      have er7 := hR9 7 rfl
      have er8 := hR9 8 rfl
      have er9 := hR9 9 rfl
      clear hR9 hsm9
      replace M := M.trans hq
      clear hq
      refine w_nil ?_
      refine xn_then ?_
      refine w_condF er9 ?_
      refine w_skip ?_
      refine xn_blk ?_
      refine xn_then ?_
      refine w_reg ?_
      refine wl_mv (.tmp 3) (.int .i64 ((i + 1 : Nat) : Int)) (fun _ => rfl) e40_3 rfl ?_
      refine wl_bin (fun x y => do eqGuard .sub 3 (.tmp 9) (.const (.int .i64 (1))) x y; binOp .sub 3 x y) (.tmp 9) (.const (.int .i64 (1))) (.int .i64 ((i + 1 : Nat) : Int)) (.int .i64 (1)) (.int .i64 ((i : Nat) : Int)) (fun _ => rfl) rfl rfl (subS (k := i) (by omega) _ _ _) rfl ?_
      refine wl_mv (.tmp 10) (.int .i64 ((i : Nat) : Int)) (fun _ => rfl) rfl rfl ?_
      refine w_nil ?_
      exact xn_loop (((i : Nat) : Int).toNat) (by omega) ⟨((i : Nat) : Int), rfl, e40_0, rfl, ⟨by omega, by omega⟩, M⟩
    | false =>
      have hf30p := of_decide_eq_false hf30
      refine wl_bin (fun x y => do eqGuard .gtr 3 (.tmp 7) (.const (.int .i64 (0))) x y; binOp .gtr 3 x y) (.tmp 7) (.const (.int .i64 (0))) (.int .i64 ((i + 1 : Nat) : Int)) (.int .i64 (0)) (.bool false) (fun _ => rfl) rfl rfl (gtN hf30 _ _ _) rfl ?_
      refine w_nil ?_
      refine xn_then ?_
      refine w_condF rfl ?_
      refine w_exit ?_
      refine xx_then ?_
      refine xx_then ?_
      refine xx_blk ?_
      refine xn_then ?_
      refine w_seq ?_
      refine w_reg ?_
      refine wl_mv (.const (.bool true)) (.bool true) (fun _ => rfl) rfl rfl ?_
      refine w_nil ?_
      refine xn_then ?_
      refine w_ret ?_
      exact w_ret1 _ (.bool true) rfl rfl ⟨rfl, M⟩
  | false =>
    refine w_seq ?_
    refine w_seq ?_
    refine w_reg ?_
    refine wl_mv (.tmp 3) (.int .i64 (z)) (fun _ => rfl) e40_3 rfl ?_
    refine wl_bin (fun x y => do eqGuard .gtr 3 (.tmp 7) (.const (.int .i64 (0))) x y; binOp .gtr 3 x y) (.tmp 7) (.const (.int .i64 (0))) (.int .i64 (z)) (.int .i64 (0)) (.bool false) (fun _ => rfl) rfl rfl (gt3 hd _ _ _) rfl ?_
    refine w_nil ?_
    refine xn_then ?_
    refine w_condF rfl ?_
    refine w_exit ?_
    refine xx_then ?_
    refine xx_then ?_
    refine xx_blk ?_
    refine xn_then ?_
    refine w_seq ?_
    refine w_reg ?_
    refine wl_mv (.const (.bool true)) (.bool true) (fun _ => rfl) rfl rfl ?_
    refine w_nil ?_
    refine xn_then ?_
    refine w_ret ?_
    exact w_ret1 _ (.bool true) rfl rfl ⟨rfl, M⟩
end Go.Proofs.Ythghblgbjgghcaa
