/-
  What all items read, as the document tells it (by what one reads).
-/
import Derived.Test.YthghblgbjgghcaaGda
namespace Go.Proofs.Ythghblgbjgghcaa
open Go.RowKit D
theorem all40_n {w : World} {l : List S5} {pl : Option Addr} {cl : Nat} (hL : SL w 5 S5.cells pl l) (hz : l.length < 400000) (hzI : nI l < 400000) (h16 : ∀ {u : World} {m : Nat}, Mo w u → m < nI l → Calls Try.prog 16 #[.slice pl l.length cl, .int .i64 ((m : Nat) : Int)] u fun e w' => ∃ (pa : Option Addr) (cap : Nat), e = .returned (.slice pa (row (RA l) m).length cap) ∧ Li w' pa (row (RA l) m) ∧ Mo u w') : Calls Try.prog 40 #[.slice pl l.length cl] w fun e w' => ∃ (V : List Iz) (pv : Option Addr) (cv : Nat), e = .returned (.slice pv V.length cv) ∧ Ow w.heap.size 32 1 zc w' pv cv V ∧ (∀ x ∈ V, Li w' x.pa x.L) ∧ V.map Iz.L = RA l ∧ Mo w w' := by
  refine w_enter 18 Try.func40 Try.ntmps40 rfl rfl ?_
  have M : Mo w w := Mo.refl _
  refine w_seq ?_
  refine w_reg ?_
  refine wl_mv (.const (.slice none 0 0)) (.slice none 0 0) (fun _ => rfl) rfl rfl ?_
  refine w_nil ?_
  refine xn_then ?_
  refine w_seq ?_
  refine w_reg ?_
  refine wl_mv (.const (.slice none 0 0)) (.slice none 0 0) (fun _ => rfl) rfl rfl ?_
  refine w_nil ?_
  refine xn_then ?_
  refine w_seq ?_
  refine w_seq ?_
  refine w_reg ?_
  refine wl_mv (.const (.int .i64 (0))) (.int .i64 (0)) (fun _ => rfl) rfl rfl ?_
  refine w_nil ?_
  refine xn_then ?_
  refine w_block ?_
  refine w_loop (fun m lf w1 => ∃ i : Nat, ∃ V : List Iz, ∃ pv : Option Addr, ∃ cv : Nat, m = nI l - i ∧ look lf 0 = .slice pl l.length cl ∧ look lf 3 = .slice pv V.length cv ∧ look lf 4 = .int .i64 ((i : Nat) : Int) ∧ (i ≤ nI l) ∧ (Ow w.heap.size 32 1 zc w1 pv cv V) ∧ (∀ x ∈ V, Li w1 x.pa x.L) ∧ (V.map Iz.L = (RA l).take i) ∧ (Mo w w1)) _ ⟨0, [], none, 0, rfl, rfl, rfl, rfl, Nat.zero_le _, Ow.nil _ _ _ _ _, (fun x hx => by cases hx), rfl, M⟩ ?_
  clear M
  rintro m lf40 wl40 ⟨i, V, pv, cv, rfl, e40_0, e40_3, e40_4, hi, hW, hli, hV, M⟩
  have hVl : V.length = i := by have := congrArg List.length hV; rw [List.length_map, List.length_take, RA_len] at this; omega
  cases hd : decide (i < (nI l)) with
  | true =>
    have hil := of_decide_eq_true hd
    refine w_seq ?_
    refine w_seq ?_
    refine w_reg ?_
    refine wl_mv (.tmp 4) (.int .i64 ((i : Nat) : Int)) (fun _ => rfl) e40_4 rfl ?_
    refine wl_mv (.tmp 0) (.slice pl l.length cl) (fun _ => rfl) e40_0 rfl ?_
    refine wl_callx 28 [(.tmp 6)] _ [.slice pl l.length cl] rfl rfl (fun _ _ => by kernel_rfl) (many_n (hL.kp M.kp) hz hzI) rfl ?_
    rintro e9 u41 ⟨rfl, hq⟩
    refine ⟨_, rfl, ?_⟩
    replace hW := own_mo hW hq
    replace hli : ∀ x ∈ V, Li _ x.pa x.L := fun x hx => (hli x hx).mo hq
    replace M := M.trans hq
    clear hq
    refine wl_bin (fun x y => do eqGuard .lss 3 (.tmp 5) (.tmp 7) x y; binOp .lss 3 x y) (.tmp 5) (.tmp 7) (.int .i64 ((i : Nat) : Int)) (.int .i64 (((nI l) : Nat) : Int)) (.bool true) (fun _ => rfl) rfl rfl (ltN hd _ _ _) rfl ?_
    refine w_nil ?_
    refine xn_then ?_
    refine w_condT rfl ?_
    refine w_skip ?_
    refine xn_then ?_
    refine w_seq ?_
    refine w_block ?_
    refine w_reg ?_
    refine wl_mv (.tmp 3) (.slice pv V.length cv) (fun _ => rfl) e40_3 rfl ?_
    refine wl_mv (.tmp 0) (.slice pl l.length cl) (fun _ => rfl) e40_0 rfl ?_
    refine wl_mv (.tmp 4) (.int .i64 ((i : Nat) : Int)) (fun _ => rfl) e40_4 rfl ?_
    refine wl_callx 16 [(.tmp 12), (.tmp 13)] _ [.slice pl l.length cl, .int .i64 ((i : Nat) : Int)] rfl rfl (fun _ _ => by kernel_rfl) ((h16 M hil)) rfl ?_
    rintro e9 u42 ⟨pr, cr, rfl, hLr, hq⟩
    refine ⟨_, rfl, ?_⟩
    replace hW := own_mo hW hq
    replace hli : ∀ x ∈ V, Li _ x.pa x.L := fun x hx => (hli x hx).mo hq
    replace M := M.trans hq
    clear hq
    refine wl_bs 79 1 [(0, (.tmp 14))] [(0, .slice pr (row (RA l) i).length cr)] #[.slice pr (row (RA l) i).length cr] 32 rfl rfl (fun _ => by kernel_rfl) rfl ?_
    intro k1 u43 hk hz hq Q1
    have N_k1 : w.heap.size ≤ k1 := by have := M.size; omega
    replace hW := own_mo hW hq
    replace hli : ∀ x ∈ V, Li _ x.pa x.L := fun x hx => (hli x hx).mo hq
    replace hLr := hLr.mo hq
    replace M := M.trans hq
    clear hk hz hq
    refine wl_apG Try.underlying79 inf32 rfl (by decide) (by decide) (.tmp 11) (.tmp 15) (cells := zc) (y := ⟨pr, cr, row (RA l) i⟩) k1 rfl rfl rfl hW rfl (by simp [Iz.v, Value.oneCell']) Q1 (by omega) M.size rfl ?_
    intro pv2 cv2 u44 hW2 hK9 hv9
    have hl2 : ∀ x ∈ V ++ [(⟨pr, cr, row (RA l) i⟩ : Iz)], Li u44 x.pa x.L := fun x hx => by rcases List.mem_append.1 hx with q | q; (exact (hli x q).kk hK9 (fun a e e2 => by have := ((hli x q).ty a e).two (own_ty hW e2); cases this)); (rcases List.mem_singleton.1 q with rfl; exact hLr.kk hK9 (fun a e e2 => by have := (hLr.ty a e).two (own_ty hW e2); cases this))
    replace M := own_gap hW hK9 (Nat.le_refl _) M
    clear hW hK9 hv9 hli
    refine wl_mv (.tmp 16) (.slice pv2 (V ++ [(⟨pr, cr, row (RA l) i⟩ : Iz)]).length cv2) (fun _ => rfl) rfl rfl ?_
    refine w_nil ?_
    refine xn_blk ?_
    refine xn_then ?_
    refine w_reg ?_
    refine wl_mv (.tmp 4) (.int .i64 ((i : Nat) : Int)) (fun _ => rfl) e40_4 rfl ?_
    refine wl_bin (fun x y => do eqGuard .add 3 (.tmp 9) (.const (.int .i64 (1))) x y; binOp .add 3 x y) (.tmp 9) (.const (.int .i64 (1))) (.int .i64 ((i : Nat) : Int)) (.int .i64 (1)) (.int .i64 ((i + 1 : Nat) : Int)) (fun _ => rfl) rfl rfl (add1r (k := i) (by omega) _ _ _) rfl ?_
    refine wl_mv (.tmp 10) (.int .i64 ((i + 1 : Nat) : Int)) (fun _ => rfl) rfl rfl ?_
    refine w_nil ?_
    exact xn_loop (nI l - (i + 1)) (by omega) ⟨i + 1, V ++ [(⟨pr, cr, row (RA l) i⟩ : Iz)], pv2, cv2, rfl, e40_0, rfl, rfl, by omega, hW2, hl2, (by rw [List.map_append, hV, List.take_add_one]; obtain ⟨r9, hr9⟩ := get_of_lt (show i < (RA l).length by rw [RA_len]; exact hil); rw [hr9, row_eq hr9]; rfl), M⟩
  | false =>
    have hie : i = nI l := by have := of_decide_eq_false hd; omega
    rw [hie, ← RA_len, List.take_length] at hV
    refine w_seq ?_
    refine w_seq ?_
    refine w_reg ?_
    refine wl_mv (.tmp 4) (.int .i64 ((i : Nat) : Int)) (fun _ => rfl) e40_4 rfl ?_
    refine wl_mv (.tmp 0) (.slice pl l.length cl) (fun _ => rfl) e40_0 rfl ?_
    refine wl_callx 28 [(.tmp 6)] _ [.slice pl l.length cl] rfl rfl (fun _ _ => by kernel_rfl) (many_n (hL.kp M.kp) hz hzI) rfl ?_
    rintro e9 u41 ⟨rfl, hq⟩
    refine ⟨_, rfl, ?_⟩
    replace hW := own_mo hW hq
    replace hli : ∀ x ∈ V, Li _ x.pa x.L := fun x hx => (hli x hx).mo hq
    replace M := M.trans hq
    clear hq
    refine wl_bin (fun x y => do eqGuard .lss 3 (.tmp 5) (.tmp 7) x y; binOp .lss 3 x y) (.tmp 5) (.tmp 7) (.int .i64 ((i : Nat) : Int)) (.int .i64 (((nI l) : Nat) : Int)) (.bool false) (fun _ => rfl) rfl rfl (ltN hd _ _ _) rfl ?_
    refine w_nil ?_
    refine xn_then ?_
    refine w_condF rfl ?_
    refine w_exit ?_
    refine xx_then ?_
    refine xx_then ?_
    refine xx_blk ?_
    refine xn_then ?_
    refine w_seq ?_
    refine w_reg ?_
    refine wl_mv (.tmp 3) (.slice pv V.length cv) (fun _ => rfl) e40_3 rfl ?_
    refine wl_mv (.tmp 17) (.slice pv V.length cv) (fun _ => rfl) rfl rfl ?_
    refine w_nil ?_
    refine xn_then ?_
    refine w_ret ?_
    exact w_ret1 _ (.slice pv V.length cv) rfl rfl ⟨V, pv, cv, rfl, hW, hli, hV, M⟩
end Go.Proofs.Ythghblgbjgghcaa
