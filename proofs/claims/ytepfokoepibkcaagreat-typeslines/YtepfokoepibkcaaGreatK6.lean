/-
  The kind of a node.
-/
import Derived.Test.YtepfokoepibkcaaGreatK5
import Derived.Test.YtepfokoepibkcaaGreatT2
namespace Go.Proofs.YtepfokoepibkcaaGreat
open Go.RowKit D
def vlc (v : Vl) : Int := ctc v.k v.d.b v.d.n0 v.d.n1 v.d.n2 v.d.n3 v.d.s v.f v.t v.e
theorem cst_v (v : Vl) (w : World) : Calls Tryz.prog 102 #[.agg #[.int .i64 v.k, .bool v.d.b, .int .u64 v.d.n0, .int .u64 v.d.n1, .int .u64 v.d.n2, .int .u64 v.d.n3, .int .i64 v.d.s, .bool v.f, .string v.t, .int .i64 v.e]] w fun e9 w' => e9 = .returned (.int .i64 (vlc v)) ∧ Mo w w' := cst_n v.k v.d.b v.d.n0 v.d.n1 v.d.n2 v.d.n3 v.d.s v.f v.t v.e w
def tbF (d : Df) (nm : ByteArray) : Option Nat := d.tb.findIdx? (fun t : Tb => decide (t.nm = nm))
/-- The kind of a node whose parts have kinds. -/
def ndK (d : Df) (L : List S5) (s : Nat) (x : Ex) (A : List Int) : Int × Int :=
  if x.k = 1 then leaK x.v.k (vlc x.v) A.length
  else if x.k = 2 then leaK (nmK L s x.nm).1 (nmK L s x.nm).2 A.length
  else if x.k = 10 then leaK (agK L s x).1 (agK L s x).2 A.length
  else if x.k = 7 then (if rnE x.sc x.po = 0 then sui (ovK x.k x.op A) else (0, rnE x.sc x.po))
  else if x.k = 8 then (if (tbF d x.nm).isSome = true then sui (ovK x.k x.op A) else (0, 91))
  else sui (ovK x.k x.op A)
theorem ndK_n {w : World} {d : Df} {sp : Option Addr} {L : List S5} {s : Nat} (hR : RD w d sp L s) (sc : Nat) (x : Ex) {pa : Option Addr} (cp : Nat) (A : List Int) (hA : SL w 1 kc pa A) : Calls Tryz.prog 69 #[.agg (rdr d sp L sc s).toArray, .agg (x.cells).toArray, .slice pa A.length cp] w fun e w' => e = .returned (tu2 (ndK d L s x A)) ∧ Mo w w' := by
  refine w_enter 83 Tryz.func69 Tryz.ntmps69 rfl rfl ?_
  have M : Mo w w := Mo.refl _
  refine w_seq ?_
  refine w_reg ?_
  refine wl_box 65 (.tmp 0) (.agg (rdr d sp L sc s).toArray) (((rdr d sp L sc s).toArray)) rfl rfl (fun _ => by kernel_rfl) rfl ?_
  intro k1 u1 hk hz hq Q1
  have N_k1 : w.heap.size ≤ k1 := by have := M.size; omega
  replace M := M.trans hq
  clear hk hz hq
  refine wl_box 52 (.tmp 1) (.agg (x.cells).toArray) (((x.cells).toArray)) rfl rfl (fun _ => by kernel_rfl) rfl ?_
  intro k2 u2 hk hz hq Q2
  have ne_k1_k2 : k1 ≠ k2 := by have := Q1.lt; omega
  have N_k2 : w.heap.size ≤ k2 := by have := M.size; omega
  replace Q1 := Q1.mo hq
  replace M := M.trans hq
  clear hk hz hq
  refine wl_mv (.const (.int .i64 (0))) (.int .i64 (0)) (fun _ => rfl) rfl rfl ?_
  refine wl_mv (.const (.int .i64 (0))) (.int .i64 (0)) (fun _ => rfl) rfl rfl ?_
  refine w_nil ?_
  refine xn_then ?_
  refine w_seq ?_
  refine w_seq ?_
  refine w_reg ?_
  refine wl_un (fun v => Instr.fieldAt 52 v 0) (.tmp 4) (pt k2 0) (pt k2 0) (fun _ => rfl) rfl (by kernel_rfl) rfl ?_
  refine wl_load 3 (.tmp 15) (pt k2 0) (.int .i64 (x.k)) rfl rfl (run_one Q2 3 0 rfl Tryz.underlying3 rfl) rfl ?_
  refine w_nil ?_
  refine xn_then ?_
  refine w_block ?_
  refine w_seq ?_
  refine w_reg ?_
  cases hf0 : decide (x.k = 1) with
  | true =>
    have hf0p := of_decide_eq_true hf0
    refine wl_bin (fun x y => do eqGuard .eql 3 (.tmp 16) (.const (.int .i64 (1))) x y; binOp .eql 3 x y) (.tmp 16) (.const (.int .i64 (1))) (.int .i64 (x.k)) (.int .i64 (1)) (.bool true) (fun _ => rfl) rfl rfl (eq3 hf0 _ _ _) rfl ?_
    refine wl_mv (.tmp 18) (.bool true) (fun _ => rfl) rfl rfl ?_
    refine w_nil ?_
    refine xn_then ?_
    refine w_condT rfl ?_
    refine w_seq ?_
    refine w_any 10 [.inl (pt k2 4), .inl (pt k2 4), .inl (.int .i64 (x.v.k)), .inl (pt k2 4), .inl (.agg #[.int .i64 x.v.k, .bool x.v.d.b, .int .u64 x.v.d.n0, .int .u64 x.v.d.n1, .int .u64 x.v.d.n2, .int .u64 x.v.d.n3, .int .i64 x.v.d.s, .bool x.v.f, .string x.v.t, .int .i64 x.v.e]), .inl (.int .i64 (vlc x.v)), .inl (.slice pa A.length cp), .inl (.tuple #[.int .i64 ((leaK (x.v.k) (vlc x.v) A.length).1), .int .i64 ((leaK (x.v.k) (vlc x.v) A.length).2)]), .inl (.int .i64 ((leaK (x.v.k) (vlc x.v) A.length).1)), .inl (.int .i64 ((leaK (x.v.k) (vlc x.v) A.length).2))] [] (by kernel_rfl) (by kernel_rfl) (by kernel_rfl) (by kernel_rfl) rfl (by kernel_rfl) (by kernel_rfl) late_nil ?_ ?_ ?_
    · exact Ds.none rfl
    · refine ea_cons ?_ (ea_cons ?_ (ea_cons ?_ (ea_cons ?_ (ea_cons ?_ (ea_cons ?_ (ea_cons ?_ (ea_cons ?_ (ea_cons ?_ (ea_cons ?_ (ea_nil))))))))))
      · exact og_eq (pt k2 4) rfl (fun f wf hq hd K hK => go_run rfl (wo_un (fun v => Instr.fieldAt 52 v 4) (.tmp 4) (pt k2 0) (pt k2 4) (fun _ => rfl) rfl (by kernel_rfl) (hK _ (Mo.refl _))))
      · exact og_eq (pt k2 4) rfl (fun f wf hq hd K hK => go_run rfl (wo_un (fun v => Instr.fieldAt 49 v 0) (.tmp 19) (pt k2 4) (pt k2 4) (fun _ => rfl) (hd 0 rfl) (by kernel_rfl) (hK _ (Mo.refl _))))
      · exact og_eq (.int .i64 (x.v.k)) rfl (fun f wf hq hd K hK => have Q2 := Q2.mo hq; go_run rfl (wo_load 3 (.tmp 20) (pt k2 4) (.int .i64 (x.v.k)) rfl (hd 1 rfl) (run_one Q2 3 4 rfl Tryz.underlying3 rfl) (hK _ (Mo.refl _))))
      · exact og_eq (pt k2 4) rfl (fun f wf hq hd K hK => go_run rfl (wo_un (fun v => Instr.fieldAt 52 v 4) (.tmp 4) (pt k2 0) (pt k2 4) (fun _ => rfl) rfl (by kernel_rfl) (hK _ (Mo.refl _))))
      · exact og_eq (.agg #[.int .i64 x.v.k, .bool x.v.d.b, .int .u64 x.v.d.n0, .int .u64 x.v.d.n1, .int .u64 x.v.d.n2, .int .u64 x.v.d.n3, .int .i64 x.v.d.s, .bool x.v.f, .string x.v.t, .int .i64 x.v.e]) rfl (fun f wf hq hd K hK => have Q2 := Q2.mo hq; go_run rfl (wo_load 49 (.tmp 22) (pt k2 4) (.agg #[.int .i64 x.v.k, .bool x.v.d.b, .int .u64 x.v.d.n0, .int .u64 x.v.d.n1, .int .u64 x.v.d.n2, .int .u64 x.v.d.n3, .int .i64 x.v.d.s, .bool x.v.f, .string x.v.t, .int .i64 x.v.e]) rfl (hd 3 rfl) (run_row Q2 49 4 10 [.int .i64 x.v.k, .bool x.v.d.b, .int .u64 x.v.d.n0, .int .u64 x.v.d.n1, .int .u64 x.v.d.n2, .int .u64 x.v.d.n3, .int .i64 x.v.d.s, .bool x.v.f, .string x.v.t, .int .i64 x.v.e] rfl Tryz.underlying49 rfl sz49) (hK _ (Mo.refl _))))
      · exact og_eq (.int .i64 (vlc x.v)) rfl (fun f wf hq hd K hK => go_run rfl (wo_call 102 [(.tmp 23)] _ [.agg #[.int .i64 x.v.k, .bool x.v.d.b, .int .u64 x.v.d.n0, .int .u64 x.v.d.n1, .int .u64 x.v.d.n2, .int .u64 x.v.d.n3, .int .i64 x.v.d.s, .bool x.v.f, .string x.v.t, .int .i64 x.v.e]] (.int .i64 (vlc x.v)) rfl (li1 (hd 4 rfl)) (fun _ _ => by kernel_rfl) (cst_v x.v _) hK))
      · exact og_eq (.slice pa A.length cp) rfl (fun f wf hq hd K hK => go_run rfl (wo_mv (.tmp 2) (.slice pa A.length cp) (fun _ => rfl) rfl (hK _ (Mo.refl _))))
      · exact og_eq (.tuple #[.int .i64 ((leaK (x.v.k) (vlc x.v) A.length).1), .int .i64 ((leaK (x.v.k) (vlc x.v) A.length).2)]) rfl (fun f wf hq hd K hK => go_run rfl (wo_call 101 [(.tmp 21), (.tmp 24), (.tmp 25)] _ [.int .i64 (x.v.k), .int .i64 (vlc x.v), .slice pa A.length cp] (.tuple #[.int .i64 ((leaK (x.v.k) (vlc x.v) A.length).1), .int .i64 ((leaK (x.v.k) (vlc x.v) A.length).2)]) rfl (li3 (hd 2 rfl) (hd 5 rfl) (hd 6 rfl)) (fun _ _ => by kernel_rfl) (lea_n (x.v.k) (vlc x.v) pa A.length cp _) hK))
      · exact og_eq (.int .i64 ((leaK (x.v.k) (vlc x.v) A.length).1)) rfl (fun f wf hq hd K hK => go_run rfl (wo_un (fun v => Instr.extract v 0) (.tmp 26) (.tuple #[.int .i64 ((leaK (x.v.k) (vlc x.v) A.length).1), .int .i64 ((leaK (x.v.k) (vlc x.v) A.length).2)]) (.int .i64 ((leaK (x.v.k) (vlc x.v) A.length).1)) (fun _ => rfl) (hd 7 rfl) (by kernel_rfl) (hK _ (Mo.refl _))))
      · exact og_eq (.int .i64 ((leaK (x.v.k) (vlc x.v) A.length).2)) rfl (fun f wf hq hd K hK => go_run rfl (wo_un (fun v => Instr.extract v 1) (.tmp 26) (.tuple #[.int .i64 ((leaK (x.v.k) (vlc x.v) A.length).1), .int .i64 ((leaK (x.v.k) (vlc x.v) A.length).2)]) (.int .i64 ((leaK (x.v.k) (vlc x.v) A.length).2)) (fun _ => rfl) (hd 7 rfl) (by kernel_rfl) (hK _ (Mo.refl _))))
    intro kf3 u3 hq hR hne
    replace Q1 := Q1.mo hq
    replace Q2 := Q2.mo hq
    replace M := M.trans hq
    clear hq hR hne
    refine wl_mv (.tmp 27) (.int .i64 ((leaK (x.v.k) (vlc x.v) A.length).1)) (fun _ => rfl) rfl rfl ?_
    refine wl_mv (.tmp 28) (.int .i64 ((leaK (x.v.k) (vlc x.v) A.length).2)) (fun _ => rfl) rfl rfl ?_
    refine w_nil ?_
    refine xn_then ?_
    refine w_ret ?_
    refine xr_blk ?_
    refine xr_then ?_
    exact w_ret2 _ _ (.int .i64 ((leaK (x.v.k) (vlc x.v) A.length).1)) (.int .i64 ((leaK (x.v.k) (vlc x.v) A.length).2)) rfl rfl rfl ⟨by unfold ndK; rw [if_pos hf0p], M⟩
  | false =>
    have hf0p := of_decide_eq_false hf0
    refine wl_bin (fun x y => do eqGuard .eql 3 (.tmp 16) (.const (.int .i64 (1))) x y; binOp .eql 3 x y) (.tmp 16) (.const (.int .i64 (1))) (.int .i64 (x.k)) (.int .i64 (1)) (.bool false) (fun _ => rfl) rfl rfl (eq3 hf0 _ _ _) rfl ?_
    refine wl_mv (.tmp 18) (.bool false) (fun _ => rfl) rfl rfl ?_
    refine w_nil ?_
    refine xn_then ?_
    refine w_condF rfl ?_
    refine w_seq ?_
    refine w_reg ?_
    cases hf1 : decide (x.k = 2) with
    | true =>
      have hf1p := of_decide_eq_true hf1
      refine wl_bin (fun x y => do eqGuard .eql 3 (.tmp 16) (.const (.int .i64 (2))) x y; binOp .eql 3 x y) (.tmp 16) (.const (.int .i64 (2))) (.int .i64 (x.k)) (.int .i64 (2)) (.bool true) (fun _ => rfl) rfl rfl (eq3 hf1 _ _ _) rfl ?_
      refine wl_mv (.tmp 30) (.bool true) (fun _ => rfl) rfl rfl ?_
      refine w_nil ?_
      refine xn_then ?_
      refine w_condT rfl ?_
      refine w_seq ?_
      refine w_reg ?_
      refine wl_load 65 (.tmp 3) (pt k1 0) (.agg (rdr d sp L sc s).toArray) rfl rfl (run_row Q1 65 0 9 (rdr d sp L sc s) rfl Tryz.underlying65 rfl sz65) rfl ?_
      refine wl_un (fun v => Instr.fieldAt 52 v 2) (.tmp 4) (pt k2 0) (pt k2 2) (fun _ => rfl) rfl (by kernel_rfl) rfl ?_
      refine wl_load 9 (.tmp 33) (pt k2 2) (.string x.nm) rfl rfl (run_one Q2 9 2 rfl Tryz.underlying9 rfl) rfl ?_
      refine wl_call 103 [(.tmp 32), (.tmp 34)] _ [.agg (rdr d sp L sc s).toArray, .string x.nm] (.tuple #[.int .i64 ((nmK L s x.nm).1), .int .i64 ((nmK L s x.nm).2)]) rfl rfl (fun _ _ => by kernel_rfl) (nmK_n (hR.kp M.kp) sc x.nm) rfl ?_
      intro u3 hq
      replace Q1 := Q1.mo hq
      replace Q2 := Q2.mo hq
      replace M := M.trans hq
      clear hq
      refine wl_mv (.tmp 35) (.tuple #[.int .i64 ((nmK L s x.nm).1), .int .i64 ((nmK L s x.nm).2)]) (fun _ => rfl) rfl rfl ?_
      refine wl_un (fun v => Instr.extract v 0) (.tmp 31) (.tuple #[.int .i64 ((nmK L s x.nm).1), .int .i64 ((nmK L s x.nm).2)]) (.int .i64 ((nmK L s x.nm).1)) (fun _ => rfl) rfl (by kernel_rfl) rfl ?_
      refine wl_un (fun v => Instr.extract v 1) (.tmp 31) (.tuple #[.int .i64 ((nmK L s x.nm).1), .int .i64 ((nmK L s x.nm).2)]) (.int .i64 ((nmK L s x.nm).2)) (fun _ => rfl) rfl (by kernel_rfl) rfl ?_
      refine wl_mv (.tmp 36) (.int .i64 ((nmK L s x.nm).1)) (fun _ => rfl) rfl rfl ?_
      refine wl_mv (.tmp 37) (.int .i64 ((nmK L s x.nm).2)) (fun _ => rfl) rfl rfl ?_
      refine w_nil ?_
      refine xn_then ?_
      refine w_seq ?_
      refine w_reg ?_
      refine wl_mv (.tmp 8) (.int .i64 ((nmK L s x.nm).1)) (fun _ => rfl) rfl rfl ?_
      refine wl_mv (.tmp 9) (.int .i64 ((nmK L s x.nm).2)) (fun _ => rfl) rfl rfl ?_
      refine wl_mv (.tmp 2) (.slice pa A.length cp) (fun _ => rfl) rfl rfl ?_
      refine wl_call 101 [(.tmp 38), (.tmp 39), (.tmp 40)] _ [.int .i64 ((nmK L s x.nm).1), .int .i64 ((nmK L s x.nm).2), .slice pa A.length cp] (.tuple #[.int .i64 ((leaK ((nmK L s x.nm).1) ((nmK L s x.nm).2) A.length).1), .int .i64 ((leaK ((nmK L s x.nm).1) ((nmK L s x.nm).2) A.length).2)]) rfl rfl (fun _ _ => by kernel_rfl) (lea_n ((nmK L s x.nm).1) ((nmK L s x.nm).2) pa A.length cp _) rfl ?_
      intro u4 hq
      replace Q1 := Q1.mo hq
      replace Q2 := Q2.mo hq
      replace M := M.trans hq
      clear hq
      refine wl_un (fun v => Instr.extract v 0) (.tmp 41) (.tuple #[.int .i64 ((leaK ((nmK L s x.nm).1) ((nmK L s x.nm).2) A.length).1), .int .i64 ((leaK ((nmK L s x.nm).1) ((nmK L s x.nm).2) A.length).2)]) (.int .i64 ((leaK ((nmK L s x.nm).1) ((nmK L s x.nm).2) A.length).1)) (fun _ => rfl) rfl (by kernel_rfl) rfl ?_
      refine wl_un (fun v => Instr.extract v 1) (.tmp 41) (.tuple #[.int .i64 ((leaK ((nmK L s x.nm).1) ((nmK L s x.nm).2) A.length).1), .int .i64 ((leaK ((nmK L s x.nm).1) ((nmK L s x.nm).2) A.length).2)]) (.int .i64 ((leaK ((nmK L s x.nm).1) ((nmK L s x.nm).2) A.length).2)) (fun _ => rfl) rfl (by kernel_rfl) rfl ?_
      refine wl_mv (.tmp 42) (.int .i64 ((leaK ((nmK L s x.nm).1) ((nmK L s x.nm).2) A.length).1)) (fun _ => rfl) rfl rfl ?_
      refine wl_mv (.tmp 43) (.int .i64 ((leaK ((nmK L s x.nm).1) ((nmK L s x.nm).2) A.length).2)) (fun _ => rfl) rfl rfl ?_
      refine w_nil ?_
      refine xn_then ?_
      refine w_ret ?_
      refine xr_blk ?_
      refine xr_then ?_
      exact w_ret2 _ _ (.int .i64 ((leaK ((nmK L s x.nm).1) ((nmK L s x.nm).2) A.length).1)) (.int .i64 ((leaK ((nmK L s x.nm).1) ((nmK L s x.nm).2) A.length).2)) rfl rfl rfl ⟨by unfold ndK; rw [if_neg hf0p, if_pos hf1p], M⟩
    | false =>
      have hf1p := of_decide_eq_false hf1
      refine wl_bin (fun x y => do eqGuard .eql 3 (.tmp 16) (.const (.int .i64 (2))) x y; binOp .eql 3 x y) (.tmp 16) (.const (.int .i64 (2))) (.int .i64 (x.k)) (.int .i64 (2)) (.bool false) (fun _ => rfl) rfl rfl (eq3 hf1 _ _ _) rfl ?_
      refine wl_mv (.tmp 30) (.bool false) (fun _ => rfl) rfl rfl ?_
      refine w_nil ?_
      refine xn_then ?_
      refine w_condF rfl ?_
      refine w_seq ?_
      refine w_reg ?_
      cases hf2 : decide (x.k = 10) with
      | true =>
        have hf2p := of_decide_eq_true hf2
        refine wl_bin (fun x y => do eqGuard .eql 3 (.tmp 16) (.const (.int .i64 (10))) x y; binOp .eql 3 x y) (.tmp 16) (.const (.int .i64 (10))) (.int .i64 (x.k)) (.int .i64 (10)) (.bool true) (fun _ => rfl) rfl rfl (eq3 hf2 _ _ _) rfl ?_
        refine wl_mv (.tmp 45) (.bool true) (fun _ => rfl) rfl rfl ?_
        refine w_nil ?_
        refine xn_then ?_
        refine w_condT rfl ?_
        refine w_seq ?_
        refine w_reg ?_
        refine wl_load 65 (.tmp 3) (pt k1 0) (.agg (rdr d sp L sc s).toArray) rfl rfl (run_row Q1 65 0 9 (rdr d sp L sc s) rfl Tryz.underlying65 rfl sz65) rfl ?_
        refine wl_load 52 (.tmp 4) (pt k2 0) (.agg (x.cells).toArray) rfl rfl (run_row Q2 52 0 17 (x.cells) rfl Tryz.underlying52 rfl sz52) rfl ?_
        refine wl_call 104 [(.tmp 47), (.tmp 48)] _ [.agg (rdr d sp L sc s).toArray, .agg (x.cells).toArray] (.tuple #[.int .i64 ((agK L s x).1), .int .i64 ((agK L s x).2)]) rfl rfl (fun _ _ => by kernel_rfl) (agK_n (hR.kp M.kp) sc x) rfl ?_
        intro u3 hq
        replace Q1 := Q1.mo hq
        replace Q2 := Q2.mo hq
        replace M := M.trans hq
        clear hq
        refine wl_mv (.tmp 49) (.tuple #[.int .i64 ((agK L s x).1), .int .i64 ((agK L s x).2)]) (fun _ => rfl) rfl rfl ?_
        refine wl_un (fun v => Instr.extract v 0) (.tmp 46) (.tuple #[.int .i64 ((agK L s x).1), .int .i64 ((agK L s x).2)]) (.int .i64 ((agK L s x).1)) (fun _ => rfl) rfl (by kernel_rfl) rfl ?_
        refine wl_un (fun v => Instr.extract v 1) (.tmp 46) (.tuple #[.int .i64 ((agK L s x).1), .int .i64 ((agK L s x).2)]) (.int .i64 ((agK L s x).2)) (fun _ => rfl) rfl (by kernel_rfl) rfl ?_
        refine wl_mv (.tmp 50) (.int .i64 ((agK L s x).1)) (fun _ => rfl) rfl rfl ?_
        refine wl_mv (.tmp 51) (.int .i64 ((agK L s x).2)) (fun _ => rfl) rfl rfl ?_
        refine w_nil ?_
        refine xn_then ?_
        refine w_seq ?_
        refine w_reg ?_
        refine wl_mv (.tmp 10) (.int .i64 ((agK L s x).1)) (fun _ => rfl) rfl rfl ?_
        refine wl_mv (.tmp 11) (.int .i64 ((agK L s x).2)) (fun _ => rfl) rfl rfl ?_
        refine wl_mv (.tmp 2) (.slice pa A.length cp) (fun _ => rfl) rfl rfl ?_
        refine wl_call 101 [(.tmp 52), (.tmp 53), (.tmp 54)] _ [.int .i64 ((agK L s x).1), .int .i64 ((agK L s x).2), .slice pa A.length cp] (.tuple #[.int .i64 ((leaK ((agK L s x).1) ((agK L s x).2) A.length).1), .int .i64 ((leaK ((agK L s x).1) ((agK L s x).2) A.length).2)]) rfl rfl (fun _ _ => by kernel_rfl) (lea_n ((agK L s x).1) ((agK L s x).2) pa A.length cp _) rfl ?_
        intro u4 hq
        replace Q1 := Q1.mo hq
        replace Q2 := Q2.mo hq
        replace M := M.trans hq
        clear hq
        refine wl_un (fun v => Instr.extract v 0) (.tmp 55) (.tuple #[.int .i64 ((leaK ((agK L s x).1) ((agK L s x).2) A.length).1), .int .i64 ((leaK ((agK L s x).1) ((agK L s x).2) A.length).2)]) (.int .i64 ((leaK ((agK L s x).1) ((agK L s x).2) A.length).1)) (fun _ => rfl) rfl (by kernel_rfl) rfl ?_
        refine wl_un (fun v => Instr.extract v 1) (.tmp 55) (.tuple #[.int .i64 ((leaK ((agK L s x).1) ((agK L s x).2) A.length).1), .int .i64 ((leaK ((agK L s x).1) ((agK L s x).2) A.length).2)]) (.int .i64 ((leaK ((agK L s x).1) ((agK L s x).2) A.length).2)) (fun _ => rfl) rfl (by kernel_rfl) rfl ?_
        refine wl_mv (.tmp 56) (.int .i64 ((leaK ((agK L s x).1) ((agK L s x).2) A.length).1)) (fun _ => rfl) rfl rfl ?_
        refine wl_mv (.tmp 57) (.int .i64 ((leaK ((agK L s x).1) ((agK L s x).2) A.length).2)) (fun _ => rfl) rfl rfl ?_
        refine w_nil ?_
        refine xn_then ?_
        refine w_ret ?_
        refine xr_blk ?_
        refine xr_then ?_
        exact w_ret2 _ _ (.int .i64 ((leaK ((agK L s x).1) ((agK L s x).2) A.length).1)) (.int .i64 ((leaK ((agK L s x).1) ((agK L s x).2) A.length).2)) rfl rfl rfl ⟨by unfold ndK; rw [if_neg hf0p, if_neg hf1p, if_pos hf2p], M⟩
      | false =>
        have hf2p := of_decide_eq_false hf2
        refine wl_bin (fun x y => do eqGuard .eql 3 (.tmp 16) (.const (.int .i64 (10))) x y; binOp .eql 3 x y) (.tmp 16) (.const (.int .i64 (10))) (.int .i64 (x.k)) (.int .i64 (10)) (.bool false) (fun _ => rfl) rfl rfl (eq3 hf2 _ _ _) rfl ?_
        refine wl_mv (.tmp 45) (.bool false) (fun _ => rfl) rfl rfl ?_
        refine w_nil ?_
        refine xn_then ?_
        refine w_condF rfl ?_
        refine w_seq ?_
        refine w_reg ?_
        cases hf3 : decide (x.k = 7) with
        | true =>
          have hf3p := of_decide_eq_true hf3
          refine wl_bin (fun x y => do eqGuard .eql 3 (.tmp 16) (.const (.int .i64 (7))) x y; binOp .eql 3 x y) (.tmp 16) (.const (.int .i64 (7))) (.int .i64 (x.k)) (.int .i64 (7)) (.bool true) (fun _ => rfl) rfl rfl (eq3 hf3 _ _ _) rfl ?_
          refine wl_mv (.tmp 59) (.bool true) (fun _ => rfl) rfl rfl ?_
          refine w_nil ?_
          refine xn_then ?_
          refine w_condT rfl ?_
          refine w_seq ?_
          refine w_reg ?_
          refine wl_load 52 (.tmp 4) (pt k2 0) (.agg (x.cells).toArray) rfl rfl (run_row Q2 52 0 17 (x.cells) rfl Tryz.underlying52 rfl sz52) rfl ?_
          refine wl_call 105 [(.tmp 60)] _ [.agg (x.cells).toArray] (.int .i64 (rnE x.sc x.po)) rfl rfl (fun _ _ => by kernel_rfl) (rnE_n x _) rfl ?_
          intro u3 hq
          replace Q1 := Q1.mo hq
          replace Q2 := Q2.mo hq
          replace M := M.trans hq
          clear hq
          refine wl_mv (.tmp 61) (.int .i64 (rnE x.sc x.po)) (fun _ => rfl) rfl rfl ?_
          refine w_nil ?_
          refine xn_then ?_
          refine w_seq ?_
          refine w_reg ?_
          refine wl_mv (.tmp 12) (.int .i64 (rnE x.sc x.po)) (fun _ => rfl) rfl rfl ?_
          cases hf4 : decide (rnE x.sc x.po = 0) with
          | true =>
            have hf4p := of_decide_eq_true hf4
            refine wl_bin (fun x y => do eqGuard .neq 32 (.tmp 62) (.const (.int .i64 (0))) x y; binOp .neq 32 x y) (.tmp 62) (.const (.int .i64 (0))) (.int .i64 (rnE x.sc x.po)) (.int .i64 (0)) (.bool false) (fun _ => rfl) rfl rfl (ne34 hf4 _ _ _) rfl ?_
            refine w_nil ?_
            refine xn_then ?_
            refine w_condF rfl ?_
            refine w_skip ?_
            refine xn_blk ?_
            refine xn_then ?_
            refine w_seq ?_
            refine w_reg ?_
            refine wl_load 52 (.tmp 4) (pt k2 0) (.agg (x.cells).toArray) rfl rfl (run_row Q2 52 0 17 (x.cells) rfl Tryz.underlying52 rfl sz52) rfl ?_
            refine wl_mv (.tmp 2) (.slice pa A.length cp) (fun _ => rfl) rfl rfl ?_
            refine wl_call 108 [(.tmp 77), (.tmp 78)] _ [.agg (x.cells).toArray, .slice pa A.length cp] (.int .i64 (ovK x.k x.op A)) rfl rfl (fun _ _ => by kernel_rfl) (ov_n x cp A (hA.kp M.kp)) rfl ?_
            intro u4 hq
            replace Q1 := Q1.mo hq
            replace Q2 := Q2.mo hq
            replace M := M.trans hq
            clear hq
            refine wl_call 107 [(.tmp 79)] _ [.int .i64 (ovK x.k x.op A)] (.tuple #[.int .i64 ((sui (ovK x.k x.op A)).1), .int .i64 ((sui (ovK x.k x.op A)).2)]) rfl rfl (fun _ _ => by kernel_rfl) (sui_n (ovK x.k x.op A) _) rfl ?_
            intro u5 hq
            replace Q1 := Q1.mo hq
            replace Q2 := Q2.mo hq
            replace M := M.trans hq
            clear hq
            refine wl_un (fun v => Instr.extract v 0) (.tmp 80) (.tuple #[.int .i64 ((sui (ovK x.k x.op A)).1), .int .i64 ((sui (ovK x.k x.op A)).2)]) (.int .i64 ((sui (ovK x.k x.op A)).1)) (fun _ => rfl) rfl (by kernel_rfl) rfl ?_
            refine wl_un (fun v => Instr.extract v 1) (.tmp 80) (.tuple #[.int .i64 ((sui (ovK x.k x.op A)).1), .int .i64 ((sui (ovK x.k x.op A)).2)]) (.int .i64 ((sui (ovK x.k x.op A)).2)) (fun _ => rfl) rfl (by kernel_rfl) rfl ?_
            refine wl_mv (.tmp 81) (.int .i64 ((sui (ovK x.k x.op A)).1)) (fun _ => rfl) rfl rfl ?_
            refine wl_mv (.tmp 82) (.int .i64 ((sui (ovK x.k x.op A)).2)) (fun _ => rfl) rfl rfl ?_
            refine w_nil ?_
            refine xn_then ?_
            refine w_ret ?_
            exact w_ret2 _ _ (.int .i64 ((sui (ovK x.k x.op A)).1)) (.int .i64 ((sui (ovK x.k x.op A)).2)) rfl rfl rfl ⟨by unfold ndK; rw [if_neg hf0p, if_neg hf1p, if_neg hf2p, if_pos hf3p, if_pos hf4p], M⟩
          | false =>
            have hf4p := of_decide_eq_false hf4
            refine wl_bin (fun x y => do eqGuard .neq 32 (.tmp 62) (.const (.int .i64 (0))) x y; binOp .neq 32 x y) (.tmp 62) (.const (.int .i64 (0))) (.int .i64 (rnE x.sc x.po)) (.int .i64 (0)) (.bool true) (fun _ => rfl) rfl rfl (ne34 hf4 _ _ _) rfl ?_
            refine w_nil ?_
            refine xn_then ?_
            refine w_condT rfl ?_
            refine w_seq ?_
            refine w_reg ?_
            refine wl_mv (.tmp 12) (.int .i64 (rnE x.sc x.po)) (fun _ => rfl) rfl rfl ?_
            refine wl_mv (.const (.int .i64 (0))) (.int .i64 (0)) (fun _ => rfl) rfl rfl ?_
            refine wl_mv (.tmp 64) (.int .i64 (rnE x.sc x.po)) (fun _ => rfl) rfl rfl ?_
            refine w_nil ?_
            refine xn_then ?_
            refine w_ret ?_
            refine xr_blk ?_
            refine xr_then ?_
            exact w_ret2 _ _ (.int .i64 (0)) (.int .i64 (rnE x.sc x.po)) rfl rfl rfl ⟨by unfold ndK; rw [if_neg hf0p, if_neg hf1p, if_neg hf2p, if_pos hf3p, if_neg hf4p], M⟩
        | false =>
          have hf3p := of_decide_eq_false hf3
          refine wl_bin (fun x y => do eqGuard .eql 3 (.tmp 16) (.const (.int .i64 (7))) x y; binOp .eql 3 x y) (.tmp 16) (.const (.int .i64 (7))) (.int .i64 (x.k)) (.int .i64 (7)) (.bool false) (fun _ => rfl) rfl rfl (eq3 hf3 _ _ _) rfl ?_
          refine wl_mv (.tmp 59) (.bool false) (fun _ => rfl) rfl rfl ?_
          refine w_nil ?_
          refine xn_then ?_
          refine w_condF rfl ?_
          refine w_seq ?_
          refine w_reg ?_
          cases hf4 : decide (x.k = 8) with
          | true =>
            have hf4p := of_decide_eq_true hf4
            refine wl_bin (fun x y => do eqGuard .eql 3 (.tmp 16) (.const (.int .i64 (8))) x y; binOp .eql 3 x y) (.tmp 16) (.const (.int .i64 (8))) (.int .i64 (x.k)) (.int .i64 (8)) (.bool true) (fun _ => rfl) rfl rfl (eq3 hf4 _ _ _) rfl ?_
            refine wl_mv (.tmp 66) (.bool true) (fun _ => rfl) rfl rfl ?_
            refine w_nil ?_
            refine xn_then ?_
            refine w_condT rfl ?_
            refine w_seq ?_
            refine w_reg ?_
            refine wl_un (fun v => Instr.fieldAt 65 v 0) (.tmp 3) (pt k1 0) (pt k1 0) (fun _ => rfl) rfl (by kernel_rfl) rfl ?_
            refine wl_load 29 (.tmp 68) (pt k1 0) (.agg (d.cells).toArray) rfl rfl (run_row Q1 29 0 7 (d.cells) rfl Tryz.underlying29 rfl sz29) rfl ?_
            refine wl_un (fun v => Instr.fieldAt 52 v 2) (.tmp 4) (pt k2 0) (pt k2 2) (fun _ => rfl) rfl (by kernel_rfl) rfl ?_
            refine wl_load 9 (.tmp 70) (pt k2 2) (.string x.nm) rfl rfl (run_one Q2 9 2 rfl Tryz.underlying9 rfl) rfl ?_
            cases hf5 : (tbF d x.nm).isSome with
            | true =>
              have hct := table_n (hR.df.kp M.kp) x.nm
              obtain ⟨kt, hkt⟩ := Option.isSome_iff_exists.1 hf5
              rw [show d.tb.findIdx? (fun t : Tb => decide (t.nm = x.nm)) = some kt from hkt] at hct
              refine wl_call 106 [(.tmp 69), (.tmp 71)] _ [.agg (d.cells).toArray, .string x.nm] (.tuple #[.int .i64 ((kt : Nat) : Int), .bool true]) rfl rfl (fun _ _ => by kernel_rfl) (hct) rfl ?_
              intro u3 hq
              replace Q1 := Q1.mo hq
              replace Q2 := Q2.mo hq
              replace M := M.trans hq
              clear hq
              refine wl_mv (.tmp 72) (.tuple #[.int .i64 ((kt : Nat) : Int), .bool true]) (fun _ => rfl) rfl rfl ?_
              refine wl_un (fun v => Instr.extract v 0) (.tmp 67) (.tuple #[.int .i64 ((kt : Nat) : Int), .bool true]) (.int .i64 ((kt : Nat) : Int)) (fun _ => rfl) rfl (by kernel_rfl) rfl ?_
              refine wl_un (fun v => Instr.extract v 1) (.tmp 67) (.tuple #[.int .i64 ((kt : Nat) : Int), .bool true]) (.bool true) (fun _ => rfl) rfl (by kernel_rfl) rfl ?_
              refine wl_mv (.tmp 73) (.int .i64 ((kt : Nat) : Int)) (fun _ => rfl) rfl rfl ?_
              refine wl_mv (.tmp 74) (.bool true) (fun _ => rfl) rfl rfl ?_
              refine w_nil ?_
              refine xn_then ?_
              refine w_seq ?_
              refine w_reg ?_
              refine wl_mv (.tmp 14) (.bool true) (fun _ => rfl) rfl rfl ?_
              refine wl_un (fun v => Op.unary .not v) (.tmp 75) (.bool true) (.bool false) (fun _ => rfl) rfl (by kernel_rfl) rfl ?_
              refine w_nil ?_
              refine xn_then ?_
              refine w_condF rfl ?_
              refine w_skip ?_
              refine xn_blk ?_
              refine xn_then ?_
              refine w_seq ?_
              refine w_reg ?_
              refine wl_load 52 (.tmp 4) (pt k2 0) (.agg (x.cells).toArray) rfl rfl (run_row Q2 52 0 17 (x.cells) rfl Tryz.underlying52 rfl sz52) rfl ?_
              refine wl_mv (.tmp 2) (.slice pa A.length cp) (fun _ => rfl) rfl rfl ?_
              refine wl_call 108 [(.tmp 77), (.tmp 78)] _ [.agg (x.cells).toArray, .slice pa A.length cp] (.int .i64 (ovK x.k x.op A)) rfl rfl (fun _ _ => by kernel_rfl) (ov_n x cp A (hA.kp M.kp)) rfl ?_
              intro u4 hq
              replace Q1 := Q1.mo hq
              replace Q2 := Q2.mo hq
              replace M := M.trans hq
              clear hq
              refine wl_call 107 [(.tmp 79)] _ [.int .i64 (ovK x.k x.op A)] (.tuple #[.int .i64 ((sui (ovK x.k x.op A)).1), .int .i64 ((sui (ovK x.k x.op A)).2)]) rfl rfl (fun _ _ => by kernel_rfl) (sui_n (ovK x.k x.op A) _) rfl ?_
              intro u5 hq
              replace Q1 := Q1.mo hq
              replace Q2 := Q2.mo hq
              replace M := M.trans hq
              clear hq
              refine wl_un (fun v => Instr.extract v 0) (.tmp 80) (.tuple #[.int .i64 ((sui (ovK x.k x.op A)).1), .int .i64 ((sui (ovK x.k x.op A)).2)]) (.int .i64 ((sui (ovK x.k x.op A)).1)) (fun _ => rfl) rfl (by kernel_rfl) rfl ?_
              refine wl_un (fun v => Instr.extract v 1) (.tmp 80) (.tuple #[.int .i64 ((sui (ovK x.k x.op A)).1), .int .i64 ((sui (ovK x.k x.op A)).2)]) (.int .i64 ((sui (ovK x.k x.op A)).2)) (fun _ => rfl) rfl (by kernel_rfl) rfl ?_
              refine wl_mv (.tmp 81) (.int .i64 ((sui (ovK x.k x.op A)).1)) (fun _ => rfl) rfl rfl ?_
              refine wl_mv (.tmp 82) (.int .i64 ((sui (ovK x.k x.op A)).2)) (fun _ => rfl) rfl rfl ?_
              refine w_nil ?_
              refine xn_then ?_
              refine w_ret ?_
              exact w_ret2 _ _ (.int .i64 ((sui (ovK x.k x.op A)).1)) (.int .i64 ((sui (ovK x.k x.op A)).2)) rfl rfl rfl ⟨by unfold ndK; rw [if_neg hf0p, if_neg hf1p, if_neg hf2p, if_neg hf3p, if_pos hf4p, if_pos hf5], M⟩
            | false =>
              have hct := table_n (hR.df.kp M.kp) x.nm
              have hkt : tbF d x.nm = none := by simpa using hf5
              rw [show d.tb.findIdx? (fun t : Tb => decide (t.nm = x.nm)) = none from hkt] at hct
              refine wl_call 106 [(.tmp 69), (.tmp 71)] _ [.agg (d.cells).toArray, .string x.nm] (.tuple #[.int .i64 (0), .bool false]) rfl rfl (fun _ _ => by kernel_rfl) (hct) rfl ?_
              intro u3 hq
              replace Q1 := Q1.mo hq
              replace Q2 := Q2.mo hq
              replace M := M.trans hq
              clear hq
              refine wl_mv (.tmp 72) (.tuple #[.int .i64 (0), .bool false]) (fun _ => rfl) rfl rfl ?_
              refine wl_un (fun v => Instr.extract v 0) (.tmp 67) (.tuple #[.int .i64 (0), .bool false]) (.int .i64 (0)) (fun _ => rfl) rfl (by kernel_rfl) rfl ?_
              refine wl_un (fun v => Instr.extract v 1) (.tmp 67) (.tuple #[.int .i64 (0), .bool false]) (.bool false) (fun _ => rfl) rfl (by kernel_rfl) rfl ?_
              refine wl_mv (.tmp 73) (.int .i64 (0)) (fun _ => rfl) rfl rfl ?_
              refine wl_mv (.tmp 74) (.bool false) (fun _ => rfl) rfl rfl ?_
              refine w_nil ?_
              refine xn_then ?_
              refine w_seq ?_
              refine w_reg ?_
              refine wl_mv (.tmp 14) (.bool false) (fun _ => rfl) rfl rfl ?_
              refine wl_un (fun v => Op.unary .not v) (.tmp 75) (.bool false) (.bool true) (fun _ => rfl) rfl (by kernel_rfl) rfl ?_
              refine w_nil ?_
              refine xn_then ?_
              refine w_condT rfl ?_
              refine w_seq ?_
              refine w_reg ?_
              refine wl_mv (.const (.int .i64 (0))) (.int .i64 (0)) (fun _ => rfl) rfl rfl ?_
              refine wl_mv (.const (.int .i64 (91))) (.int .i64 (91)) (fun _ => rfl) rfl rfl ?_
              refine w_nil ?_
              refine xn_then ?_
              refine w_ret ?_
              refine xr_blk ?_
              refine xr_then ?_
              exact w_ret2 _ _ (.int .i64 (0)) (.int .i64 (91)) rfl rfl rfl ⟨by unfold ndK; rw [if_neg hf0p, if_neg hf1p, if_neg hf2p, if_neg hf3p, if_pos hf4p, if_neg (by rw [hf5]; decide)], M⟩
          | false =>
            have hf4p := of_decide_eq_false hf4
            refine wl_bin (fun x y => do eqGuard .eql 3 (.tmp 16) (.const (.int .i64 (8))) x y; binOp .eql 3 x y) (.tmp 16) (.const (.int .i64 (8))) (.int .i64 (x.k)) (.int .i64 (8)) (.bool false) (fun _ => rfl) rfl rfl (eq3 hf4 _ _ _) rfl ?_
            refine wl_mv (.tmp 66) (.bool false) (fun _ => rfl) rfl rfl ?_
            refine w_nil ?_
            refine xn_then ?_
            refine w_condF rfl ?_
            refine w_skip ?_
            refine xn_blk ?_
            refine xn_then ?_
            refine w_seq ?_
            refine w_reg ?_
            refine wl_load 52 (.tmp 4) (pt k2 0) (.agg (x.cells).toArray) rfl rfl (run_row Q2 52 0 17 (x.cells) rfl Tryz.underlying52 rfl sz52) rfl ?_
            refine wl_mv (.tmp 2) (.slice pa A.length cp) (fun _ => rfl) rfl rfl ?_
            refine wl_call 108 [(.tmp 77), (.tmp 78)] _ [.agg (x.cells).toArray, .slice pa A.length cp] (.int .i64 (ovK x.k x.op A)) rfl rfl (fun _ _ => by kernel_rfl) (ov_n x cp A (hA.kp M.kp)) rfl ?_
            intro u3 hq
            replace Q1 := Q1.mo hq
            replace Q2 := Q2.mo hq
            replace M := M.trans hq
            clear hq
            refine wl_call 107 [(.tmp 79)] _ [.int .i64 (ovK x.k x.op A)] (.tuple #[.int .i64 ((sui (ovK x.k x.op A)).1), .int .i64 ((sui (ovK x.k x.op A)).2)]) rfl rfl (fun _ _ => by kernel_rfl) (sui_n (ovK x.k x.op A) _) rfl ?_
            intro u4 hq
            replace Q1 := Q1.mo hq
            replace Q2 := Q2.mo hq
            replace M := M.trans hq
            clear hq
            refine wl_un (fun v => Instr.extract v 0) (.tmp 80) (.tuple #[.int .i64 ((sui (ovK x.k x.op A)).1), .int .i64 ((sui (ovK x.k x.op A)).2)]) (.int .i64 ((sui (ovK x.k x.op A)).1)) (fun _ => rfl) rfl (by kernel_rfl) rfl ?_
            refine wl_un (fun v => Instr.extract v 1) (.tmp 80) (.tuple #[.int .i64 ((sui (ovK x.k x.op A)).1), .int .i64 ((sui (ovK x.k x.op A)).2)]) (.int .i64 ((sui (ovK x.k x.op A)).2)) (fun _ => rfl) rfl (by kernel_rfl) rfl ?_
            refine wl_mv (.tmp 81) (.int .i64 ((sui (ovK x.k x.op A)).1)) (fun _ => rfl) rfl rfl ?_
            refine wl_mv (.tmp 82) (.int .i64 ((sui (ovK x.k x.op A)).2)) (fun _ => rfl) rfl rfl ?_
            refine w_nil ?_
            refine xn_then ?_
            refine w_ret ?_
            exact w_ret2 _ _ (.int .i64 ((sui (ovK x.k x.op A)).1)) (.int .i64 ((sui (ovK x.k x.op A)).2)) rfl rfl rfl ⟨by unfold ndK; rw [if_neg hf0p, if_neg hf1p, if_neg hf2p, if_neg hf3p, if_neg hf4p], M⟩
end Go.Proofs.YtepfokoepibkcaaGreat

