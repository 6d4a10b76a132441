/-
  A node over its parts' kinds; a name's kind; an aggregate's.
-/
import Derived.Test.YtepfokoepibkcaaGreatK3
namespace Go.Proofs.YtepfokoepibkcaaGreat
open Go.RowKit D
abbrev kc (k : Int) : List Value := [.int .i64 k]
/-- A node over its parts' kinds. -/
def ovK (n op : Int) : List Int → Int
  | [a] => oneK n a
  | [a, b] => if n = 5 then twoK op a b else 0
  | [a, b, d] => if n = 6 ∧ a = 2 ∧ b = d then b else 0
  | _ => 0
theorem ov_big (n op : Int) {A : List Int} (h1 : A.length ≠ 1) (h2 : A.length ≠ 2) (h3 : A.length ≠ 3) : ovK n op A = 0 := by
  match A, h1, h2, h3 with
  | [], _, _, _ => rfl
  | [_], h, _, _ => simp at h
  | [_, _], _, h, _ => simp at h
  | [_, _, _], _, _, h => simp at h
  | _ :: _ :: _ :: _ :: _, _, _, _ => rfl
/-- A reader: a definition, its sections, a section's number. -/
def rdr (d : Df) (sp : Option Addr) (L : List S5) (sc s : Nat) : List Value := [.string d.nm, .string d.rt.nm, .int .i64 d.rt.mx, .slice d.rt.pi d.rt.items.length d.rt.ci, .slice d.rt.pk d.rt.kids.length d.rt.ck, .slice d.pt d.tb.length d.ct, .slice d.pp d.pg.length d.cp, .slice sp L.length sc, .int .i64 ((s : Nat) : Int)]
theorem sz65 : (Tryz.prog.info? 65).map (·.size) = some 9 := by kernel_rfl
/-- What a reader knows lies there. -/
structure RD (w : World) (d : Df) (sp : Option Addr) (L : List S5) (s : Nat) : Prop where
  df : LDf w d
  ls : SL w 5 S5.cells sp L
  it : ∀ x ∈ L, SL w 23 It.cells x.pi x.items
  wf : Wf L
  ln : L.length ≤ 4000000
  lt : s < L.length
theorem RD.kp {w w' : World} {d : Df} {sp : Option Addr} {L : List S5} {s : Nat} (h : RD w d sp L s) (m : Kp w w') : RD w' d sp L s := ⟨h.df.kp m, h.ls.kp m, fun x hx => (h.it x hx).kp m, h.wf, h.ln, h.lt⟩
theorem fnF_some {L : List S5} {nm : ByteArray} : ∀ (n : Nat) {k i : Nat}, fnF L nm n = some (k, i) → ∃ x y, L[k]? = some x ∧ x.items[i]? = some y := by
  intro n
  induction n using Nat.strongRecOn with
  | ind n ih =>
    intro k i h
    cases n with
    | zero => rw [fnF] at h; cases h
    | succ n =>
      rw [fnF] at h
      cases hx : L[n]? with
      | none => simp only [hx] at h; cases h
      | some x =>
        simp only [hx] at h
        cases hi : x.items.findIdx? (pIt nm) with
        | none => simp only [hi] at h; exact ih _ (by omega) h
        | some j =>
          simp only [hi] at h
          cases h
          have hj := List.findIdx?_eq_some_iff_getElem.1 hi
          obtain ⟨hj, _⟩ := hj
          exact ⟨x, _, hx, List.getElem?_eq_getElem hj⟩
/-- The item at two numbers. -/
def itA (L : List S5) (k i : Nat) : Option It := (L[k]?).bind (fun x => x.items[i]?)
theorem itA_of {L : List S5} {k i : Nat} {x : S5} {y : It} (hx : L[k]? = some x) (hy : x.items[i]? = some y) : itA L k i = some y := by unfold itA; rw [hx]; exact hy
def nmK (L : List S5) (s : Nat) (nm : ByteArray) : Int × Int := match fnF L nm (s + 1) with
  | none => (0, 91)
  | some (k, i) => match itA L k i with
    | none => (0, 0)
    | some y => (y.tk, tyc y.tk y.ts)
theorem nmK_no {L : List S5} {s : Nat} {nm : ByteArray} (h : fnF L nm (s + 1) = none) : nmK L s nm = (0, 91) := by unfold nmK; rw [h]
theorem nmK_of {L : List S5} {s k i : Nat} {nm : ByteArray} {y : It} (h : fnF L nm (s + 1) = some (k, i)) (hy : itA L k i = some y) : nmK L s nm = (y.tk, tyc y.tk y.ts) := by unfold nmK; rw [h]; simp only [hy]
abbrev pKd (s : Int) (nm : ByteArray) : S5 → Bool := fun y => decide (y.pr = s) && decide (y.nm = nm)
/-- An aggregate's kind. -/
def agK (L : List S5) (s : Nat) (x : Ex) : Int × Int := match L.findIdx? (pKd s x.se) with
  | none => (0, 91)
  | some k => if x.op = 16 then (if x.nm = ⟨#[]⟩ then (1, 0) else (0, 100)) else match fnF L x.nm (k + 1) with
    | none => (0, 91)
    | some (j, i) => if j = k then (match itA L j i with
      | none => (0, 0)
      | some y => sui (colK x.op y.tk)) else (0, 91)
theorem ov_1 (x : Ex) {pa : Option Addr} (cp : Nat) {w : World} (a : Int) (hS : SL w 1 kc pa [a]) : Calls Tryz.prog 108 #[.agg (x.cells).toArray, .slice pa 1 cp] w fun e w' => e = .returned (.int .i64 (ovK x.k x.op [a])) ∧ Mo w w' := by
  obtain ⟨ba, oa, hpa, hRa⟩ := D.SL.rw hS (show [a][0]? = some a from rfl)
  refine w_enter 58 Tryz.func108 Tryz.ntmps108 rfl rfl ?_
  have M : Mo w w := Mo.refl _
  refine w_seq ?_
  refine w_reg ?_
  refine wl_box 52 (.tmp 0) (.agg (x.cells).toArray) (((x.cells).toArray)) rfl rfl (fun _ => by kernel_rfl) rfl ?_
  intro k1 u1 hk hz hq Q1
  have N_k1 : w.heap.size ≤ k1 := by have := M.size; omega
  replace M := M.trans hq
  clear hk hz hq
  refine wl_mv (.const (.int .i64 (0))) (.int .i64 (0)) (fun _ => rfl) rfl rfl ?_
  refine w_nil ?_
  refine xn_then ?_
  refine w_seq ?_
  refine w_block ?_
  refine w_seq ?_
  refine w_reg ?_
  refine wl_mv (.tmp 1) (.slice pa 1 cp) (fun _ => rfl) rfl rfl ?_
  refine wl_val (.int .i64 (1)) (len132 _ _ _ 1 _ (by exact rfl) _ _ _ _ _ _) rfl ?_
  refine wl_bin (fun x y => do eqGuard .eql 3 (.tmp 7) (.const (.int .i64 (1))) x y; binOp .eql 3 x y) (.tmp 7) (.const (.int .i64 (1))) (.int .i64 (1)) (.int .i64 (1)) (.bool true) (fun _ => rfl) rfl rfl (eq3 (r := true) rfl _ _ _) rfl ?_
  refine wl_mv (.tmp 8) (.bool true) (fun _ => rfl) rfl rfl ?_
  refine w_nil ?_
  refine xn_then ?_
  refine w_condT rfl ?_
  refine w_seq ?_
  refine w_any 5 [.inl (pt k1 0), .inl (.int .i64 (x.k)), .inl (.slice pa 1 cp), .inl (pt ba (oa + 0 * 1)), .inl (.int .i64 (a))] [] (by kernel_rfl) (by kernel_rfl) (by kernel_rfl) (by kernel_rfl) rfl (by kernel_rfl) (by kernel_rfl) late_nil ?_ ?_ ?_
  · exact Ds.none rfl
  · refine ea_cons ?_ (ea_cons ?_ (ea_cons ?_ (ea_cons ?_ (ea_cons ?_ (ea_nil)))))
    · exact og_eq (pt k1 0) rfl (fun f wf hq hd K hK => go_run rfl (wo_un (fun v => Instr.fieldAt 52 v 0) (.tmp 2) (pt k1 0) (pt k1 0) (fun _ => rfl) rfl (by kernel_rfl) (hK _ (Mo.refl _))))
    · exact og_eq (.int .i64 (x.k)) rfl (fun f wf hq hd K hK => have Q1 := Q1.mo hq; go_run rfl (wo_load 3 (.tmp 9) (pt k1 0) (.int .i64 (x.k)) rfl (hd 0 rfl) (run_one Q1 3 0 rfl Tryz.underlying3 rfl) (hK _ (Mo.refl _))))
    · exact og_eq (.slice pa 1 cp) rfl (fun f wf hq hd K hK => go_run rfl (wo_mv (.tmp 1) (.slice pa 1 cp) (fun _ => rfl) rfl (hK _ (Mo.refl _))))
    · exact og_eq (pt ba (oa + 0 * 1)) rfl (fun f wf hq hd K hK => go_run rfl (wo_bin (fun x y => Instr.indexAt 132 x y) (.tmp 11) (.const (.int .i64 (0))) (.slice pa 1 cp) (.int .i64 (0)) (pt ba (oa + 0 * 1)) (fun _ => rfl) (hd 2 rfl) rfl (ix132 (i := 0) hpa (by decide) _) (hK _ (Mo.refl _))))
    · exact og_eq (.int .i64 (a)) rfl (fun f wf hq hd K hK => go_run rfl (wo_load 3 (.tmp 12) (pt ba (oa + 0 * 1)) (.int .i64 (a)) rfl (hd 3 rfl) (D.run_oneR (hRa.mo (M.trans hq)).at' 3 0 rfl Tryz.underlying3 rfl) (hK _ (Mo.refl _))))
  intro kf2 u2 hq hR hne
  replace Q1 := Q1.mo hq
  replace M := M.trans hq
  clear hq hR hne
  refine wl_call 125 [(.tmp 10), (.tmp 13)] _ [.int .i64 (x.k), .int .i64 (a)] (.int .i64 (oneK x.k a)) rfl rfl (fun _ _ => by kernel_rfl) (oneK_n x.k a _) rfl ?_
  intro u3 hq
  replace Q1 := Q1.mo hq
  replace M := M.trans hq
  clear hq
  refine wl_mv (.tmp 14) (.int .i64 (oneK x.k a)) (fun _ => rfl) rfl rfl ?_
  refine w_nil ?_
  refine xn_then ?_
  refine w_ret ?_
  refine xr_blk ?_
  refine xr_then ?_
  exact w_ret1 _ (.int .i64 (oneK x.k a)) rfl rfl ⟨rfl, M⟩
theorem ov_2 (x : Ex) {pa : Option Addr} (cp : Nat) {w : World} (a b : Int) (hS : SL w 1 kc pa [a, b]) : Calls Tryz.prog 108 #[.agg (x.cells).toArray, .slice pa 2 cp] w fun e w' => e = .returned (.int .i64 (ovK x.k x.op [a, b])) ∧ Mo w w' := by
  obtain ⟨ba, oa, hpa, hRa⟩ := D.SL.rw hS (show [a, b][0]? = some a from rfl)
  obtain ⟨bb, ob, hpb, hRb⟩ := D.SL.rw hS (show [a, b][1]? = some b from rfl)
  refine w_enter 58 Tryz.func108 Tryz.ntmps108 rfl rfl ?_
  have M : Mo w w := Mo.refl _
  refine w_seq ?_
  refine w_reg ?_
  refine wl_box 52 (.tmp 0) (.agg (x.cells).toArray) (((x.cells).toArray)) rfl rfl (fun _ => by kernel_rfl) rfl ?_
  intro k1 u1 hk hz hq Q1
  have N_k1 : w.heap.size ≤ k1 := by have := M.size; omega
  replace M := M.trans hq
  clear hk hz hq
  refine wl_mv (.const (.int .i64 (0))) (.int .i64 (0)) (fun _ => rfl) rfl rfl ?_
  refine w_nil ?_
  refine xn_then ?_
  refine w_seq ?_
  refine w_block ?_
  refine w_seq ?_
  refine w_reg ?_
  refine wl_mv (.tmp 1) (.slice pa 2 cp) (fun _ => rfl) rfl rfl ?_
  refine wl_val (.int .i64 (2)) (len132 _ _ _ 2 _ (by exact rfl) _ _ _ _ _ _) rfl ?_
  refine wl_bin (fun x y => do eqGuard .eql 3 (.tmp 7) (.const (.int .i64 (1))) x y; binOp .eql 3 x y) (.tmp 7) (.const (.int .i64 (1))) (.int .i64 (2)) (.int .i64 (1)) (.bool false) (fun _ => rfl) rfl rfl (eq3 (r := false) rfl _ _ _) rfl ?_
  refine wl_mv (.tmp 8) (.bool false) (fun _ => rfl) rfl rfl ?_
  refine w_nil ?_
  refine xn_then ?_
  refine w_condF rfl ?_
  refine w_seq ?_
  refine w_reg ?_
  refine wl_mv (.tmp 1) (.slice pa 2 cp) (fun _ => rfl) rfl rfl ?_
  refine wl_val (.int .i64 (2)) (len132 _ _ _ 2 _ (by exact rfl) _ _ _ _ _ _) rfl ?_
  refine wl_bin (fun x y => do eqGuard .eql 3 (.tmp 17) (.const (.int .i64 (2))) x y; binOp .eql 3 x y) (.tmp 17) (.const (.int .i64 (2))) (.int .i64 (2)) (.int .i64 (2)) (.bool true) (fun _ => rfl) rfl rfl (eq3 (r := true) rfl _ _ _) rfl ?_
  refine wl_mv (.tmp 18) (.bool true) (fun _ => rfl) rfl rfl ?_
  refine wl_un (fun v => Instr.fieldAt 52 v 0) (.tmp 2) (pt k1 0) (pt k1 0) (fun _ => rfl) rfl (by kernel_rfl) rfl ?_
  refine wl_load 3 (.tmp 20) (pt k1 0) (.int .i64 (x.k)) rfl rfl (run_one Q1 3 0 rfl Tryz.underlying3 rfl) rfl ?_
  cases hf0 : decide (x.k = 5) with
  | true =>
    have hf0p := of_decide_eq_true hf0
    refine wl_bin (fun x y => do eqGuard .eql 3 (.tmp 21) (.const (.int .i64 (5))) x y; binOp .eql 3 x y) (.tmp 21) (.const (.int .i64 (5))) (.int .i64 (x.k)) (.int .i64 (5)) (.bool true) (fun _ => rfl) rfl rfl (eq3 hf0 _ _ _) rfl ?_
    refine wl_pick (.tmp 19) (.tmp 22) (.const (.bool false)) true (.bool true) (fun _ => rfl) rfl rfl rfl ?_
    refine wl_mv (.tmp 23) (.bool true) (fun _ => rfl) rfl rfl ?_
    refine w_nil ?_
    refine xn_then ?_
    refine w_condT rfl ?_
    refine w_seq ?_
    refine w_any 8 [.inl (pt k1 1), .inl (.int .i64 (x.op)), .inl (.slice pa 2 cp), .inl (pt ba (oa + 0 * 1)), .inl (.int .i64 (a)), .inl (.slice pa 2 cp), .inl (pt bb (ob + 1 * 1)), .inl (.int .i64 (b))] [] (by kernel_rfl) (by kernel_rfl) (by kernel_rfl) (by kernel_rfl) rfl (by kernel_rfl) (by kernel_rfl) late_nil ?_ ?_ ?_
    · exact Ds.none rfl
    · refine ea_cons ?_ (ea_cons ?_ (ea_cons ?_ (ea_cons ?_ (ea_cons ?_ (ea_cons ?_ (ea_cons ?_ (ea_cons ?_ (ea_nil))))))))
      · exact og_eq (pt k1 1) rfl (fun f wf hq hd K hK => go_run rfl (wo_un (fun v => Instr.fieldAt 52 v 1) (.tmp 2) (pt k1 0) (pt k1 1) (fun _ => rfl) rfl (by kernel_rfl) (hK _ (Mo.refl _))))
      · exact og_eq (.int .i64 (x.op)) rfl (fun f wf hq hd K hK => have Q1 := Q1.mo hq; go_run rfl (wo_load 3 (.tmp 24) (pt k1 1) (.int .i64 (x.op)) rfl (hd 0 rfl) (run_one Q1 3 1 rfl Tryz.underlying3 rfl) (hK _ (Mo.refl _))))
      · exact og_eq (.slice pa 2 cp) rfl (fun f wf hq hd K hK => go_run rfl (wo_mv (.tmp 1) (.slice pa 2 cp) (fun _ => rfl) rfl (hK _ (Mo.refl _))))
      · exact og_eq (pt ba (oa + 0 * 1)) rfl (fun f wf hq hd K hK => go_run rfl (wo_bin (fun x y => Instr.indexAt 132 x y) (.tmp 26) (.const (.int .i64 (0))) (.slice pa 2 cp) (.int .i64 (0)) (pt ba (oa + 0 * 1)) (fun _ => rfl) (hd 2 rfl) rfl (ix132 (i := 0) hpa (by decide) _) (hK _ (Mo.refl _))))
      · exact og_eq (.int .i64 (a)) rfl (fun f wf hq hd K hK => go_run rfl (wo_load 3 (.tmp 27) (pt ba (oa + 0 * 1)) (.int .i64 (a)) rfl (hd 3 rfl) (D.run_oneR (hRa.mo (M.trans hq)).at' 3 0 rfl Tryz.underlying3 rfl) (hK _ (Mo.refl _))))
      · exact og_eq (.slice pa 2 cp) rfl (fun f wf hq hd K hK => go_run rfl (wo_mv (.tmp 1) (.slice pa 2 cp) (fun _ => rfl) rfl (hK _ (Mo.refl _))))
      · exact og_eq (pt bb (ob + 1 * 1)) rfl (fun f wf hq hd K hK => go_run rfl (wo_bin (fun x y => Instr.indexAt 132 x y) (.tmp 29) (.const (.int .i64 (1))) (.slice pa 2 cp) (.int .i64 (1)) (pt bb (ob + 1 * 1)) (fun _ => rfl) (hd 5 rfl) rfl (ix132 (i := 1) hpb (by decide) _) (hK _ (Mo.refl _))))
      · exact og_eq (.int .i64 (b)) rfl (fun f wf hq hd K hK => go_run rfl (wo_load 3 (.tmp 30) (pt bb (ob + 1 * 1)) (.int .i64 (b)) rfl (hd 6 rfl) (D.run_oneR (hRb.mo (M.trans hq)).at' 3 0 rfl Tryz.underlying3 rfl) (hK _ (Mo.refl _))))
    intro kf2 u2 hq hR hne
    replace Q1 := Q1.mo hq
    replace M := M.trans hq
    clear hq hR hne
    refine wl_call 126 [(.tmp 25), (.tmp 28), (.tmp 31)] _ [.int .i64 (x.op), .int .i64 (a), .int .i64 (b)] (.int .i64 (twoK x.op a b)) rfl rfl (fun _ _ => by kernel_rfl) (twoK_n x.op a b _) rfl ?_
    intro u3 hq
    replace Q1 := Q1.mo hq
    replace M := M.trans hq
    clear hq
    refine wl_mv (.tmp 32) (.int .i64 (twoK x.op a b)) (fun _ => rfl) rfl rfl ?_
    refine w_nil ?_
    refine xn_then ?_
    refine w_ret ?_
    refine xr_blk ?_
    refine xr_then ?_
    exact w_ret1 _ (.int .i64 (twoK x.op a b)) rfl rfl ⟨by unfold ovK; simp_all, M⟩
  | false =>
    have hf0p := of_decide_eq_false hf0
    refine wl_bin (fun x y => do eqGuard .eql 3 (.tmp 21) (.const (.int .i64 (5))) x y; binOp .eql 3 x y) (.tmp 21) (.const (.int .i64 (5))) (.int .i64 (x.k)) (.int .i64 (5)) (.bool false) (fun _ => rfl) rfl rfl (eq3 hf0 _ _ _) rfl ?_
    refine wl_pick (.tmp 19) (.tmp 22) (.const (.bool false)) true (.bool false) (fun _ => rfl) rfl rfl rfl ?_
    refine wl_mv (.tmp 23) (.bool false) (fun _ => rfl) rfl rfl ?_
    refine w_nil ?_
    refine xn_then ?_
    refine w_condF rfl ?_
    refine w_seq ?_
    refine w_reg ?_
    refine wl_mv (.tmp 1) (.slice pa 2 cp) (fun _ => rfl) rfl rfl ?_
    refine wl_val (.int .i64 (2)) (len132 _ _ _ 2 _ (by exact rfl) _ _ _ _ _ _) rfl ?_
    refine wl_bin (fun x y => do eqGuard .eql 3 (.tmp 35) (.const (.int .i64 (3))) x y; binOp .eql 3 x y) (.tmp 35) (.const (.int .i64 (3))) (.int .i64 (2)) (.int .i64 (3)) (.bool false) (fun _ => rfl) rfl rfl (eq3 (r := false) rfl _ _ _) rfl ?_
    refine wl_mv (.tmp 36) (.bool false) (fun _ => rfl) rfl rfl ?_
    refine wl_skip rfl ?_
    refine wl_skip rfl ?_
    refine wl_skip rfl ?_
    refine wl_pick (.tmp 37) (.tmp 40) (.const (.bool false)) false (.bool false) (fun _ => rfl) rfl rfl rfl ?_
    refine wl_mv (.tmp 41) (.bool false) (fun _ => rfl) rfl rfl ?_
    refine w_nil ?_
    refine xn_then ?_
    refine w_condF rfl ?_
    refine w_skip ?_
    refine xn_blk ?_
    refine xn_then ?_
    refine w_seq ?_
    refine w_reg ?_
    refine wl_mv (.const (.int .i64 (0))) (.int .i64 (0)) (fun _ => rfl) rfl rfl ?_
    refine w_nil ?_
    refine xn_then ?_
    refine w_ret ?_
    exact w_ret1 _ (.int .i64 (0)) rfl rfl ⟨by unfold ovK; simp_all, M⟩
theorem ov_3 (x : Ex) {pa : Option Addr} (cp : Nat) {w : World} (a b d : Int) (hS : SL w 1 kc pa [a, b, d]) : Calls Tryz.prog 108 #[.agg (x.cells).toArray, .slice pa 3 cp] w fun e w' => e = .returned (.int .i64 (ovK x.k x.op [a, b, d])) ∧ Mo w w' := by
  obtain ⟨ba, oa, hpa, hRa⟩ := D.SL.rw hS (show [a, b, d][0]? = some a from rfl)
  obtain ⟨bb, ob, hpb, hRb⟩ := D.SL.rw hS (show [a, b, d][1]? = some b from rfl)
  obtain ⟨bd, od, hpd, hRd⟩ := D.SL.rw hS (show [a, b, d][2]? = some d from rfl)
  refine w_enter 58 Tryz.func108 Tryz.ntmps108 rfl rfl ?_
  have M : Mo w w := Mo.refl _
  refine w_seq ?_
  refine w_reg ?_
  refine wl_box 52 (.tmp 0) (.agg (x.cells).toArray) (((x.cells).toArray)) rfl rfl (fun _ => by kernel_rfl) rfl ?_
  intro k1 u1 hk hz hq Q1
  have N_k1 : w.heap.size ≤ k1 := by have := M.size; omega
  replace M := M.trans hq
  clear hk hz hq
  refine wl_mv (.const (.int .i64 (0))) (.int .i64 (0)) (fun _ => rfl) rfl rfl ?_
  refine w_nil ?_
  refine xn_then ?_
  refine w_seq ?_
  refine w_block ?_
  refine w_seq ?_
  refine w_reg ?_
  refine wl_mv (.tmp 1) (.slice pa 3 cp) (fun _ => rfl) rfl rfl ?_
  refine wl_val (.int .i64 (3)) (len132 _ _ _ 3 _ (by exact rfl) _ _ _ _ _ _) rfl ?_
  refine wl_bin (fun x y => do eqGuard .eql 3 (.tmp 7) (.const (.int .i64 (1))) x y; binOp .eql 3 x y) (.tmp 7) (.const (.int .i64 (1))) (.int .i64 (3)) (.int .i64 (1)) (.bool false) (fun _ => rfl) rfl rfl (eq3 (r := false) rfl _ _ _) rfl ?_
  refine wl_mv (.tmp 8) (.bool false) (fun _ => rfl) rfl rfl ?_
  refine w_nil ?_
  refine xn_then ?_
  refine w_condF rfl ?_
  refine w_seq ?_
  refine w_reg ?_
  refine wl_mv (.tmp 1) (.slice pa 3 cp) (fun _ => rfl) rfl rfl ?_
  refine wl_val (.int .i64 (3)) (len132 _ _ _ 3 _ (by exact rfl) _ _ _ _ _ _) rfl ?_
  refine wl_bin (fun x y => do eqGuard .eql 3 (.tmp 17) (.const (.int .i64 (2))) x y; binOp .eql 3 x y) (.tmp 17) (.const (.int .i64 (2))) (.int .i64 (3)) (.int .i64 (2)) (.bool false) (fun _ => rfl) rfl rfl (eq3 (r := false) rfl _ _ _) rfl ?_
  refine wl_mv (.tmp 18) (.bool false) (fun _ => rfl) rfl rfl ?_
  refine wl_skip rfl ?_
  refine wl_skip rfl ?_
  refine wl_skip rfl ?_
  refine wl_pick (.tmp 19) (.tmp 22) (.const (.bool false)) false (.bool false) (fun _ => rfl) rfl rfl rfl ?_
  refine wl_mv (.tmp 23) (.bool false) (fun _ => rfl) rfl rfl ?_
  refine w_nil ?_
  refine xn_then ?_
  refine w_condF rfl ?_
  refine w_seq ?_
  refine w_reg ?_
  refine wl_mv (.tmp 1) (.slice pa 3 cp) (fun _ => rfl) rfl rfl ?_
  refine wl_val (.int .i64 (3)) (len132 _ _ _ 3 _ (by exact rfl) _ _ _ _ _ _) rfl ?_
  refine wl_bin (fun x y => do eqGuard .eql 3 (.tmp 35) (.const (.int .i64 (3))) x y; binOp .eql 3 x y) (.tmp 35) (.const (.int .i64 (3))) (.int .i64 (3)) (.int .i64 (3)) (.bool true) (fun _ => rfl) rfl rfl (eq3 (r := true) rfl _ _ _) rfl ?_
  refine wl_mv (.tmp 36) (.bool true) (fun _ => rfl) rfl rfl ?_
  refine wl_un (fun v => Instr.fieldAt 52 v 0) (.tmp 2) (pt k1 0) (pt k1 0) (fun _ => rfl) rfl (by kernel_rfl) rfl ?_
  refine wl_load 3 (.tmp 38) (pt k1 0) (.int .i64 (x.k)) rfl rfl (run_one Q1 3 0 rfl Tryz.underlying3 rfl) rfl ?_
  cases hf0 : decide (x.k = 6) with
  | true =>
    have hf0p := of_decide_eq_true hf0
    refine wl_bin (fun x y => do eqGuard .eql 3 (.tmp 39) (.const (.int .i64 (6))) x y; binOp .eql 3 x y) (.tmp 39) (.const (.int .i64 (6))) (.int .i64 (x.k)) (.int .i64 (6)) (.bool true) (fun _ => rfl) rfl rfl (eq3 hf0 _ _ _) rfl ?_
    refine wl_pick (.tmp 37) (.tmp 40) (.const (.bool false)) true (.bool true) (fun _ => rfl) rfl rfl rfl ?_
    refine wl_mv (.tmp 41) (.bool true) (fun _ => rfl) rfl rfl ?_
    refine w_nil ?_
    refine xn_then ?_
    refine w_condT rfl ?_
    refine w_seq ?_
    cases hf1 : decide (a = 2) with
    | true =>
      have hf1p := of_decide_eq_true hf1
      cases hf2 : decide (b = d) with
      | true =>
        have hf2p := of_decide_eq_true hf2
        refine w_any 11 [.inl (.slice pa 3 cp), .inl (pt ba (oa + 0 * 1)), .inl (.int .i64 (a)), .inl (.bool true), .inl (.bool true), .inl (.slice pa 3 cp), .inl (pt bb (ob + 1 * 1)), .inl (.int .i64 (b)), .inl (.slice pa 3 cp), .inl (pt bd (od + 2 * 1)), .inl (.int .i64 (d))] [] (by kernel_rfl) (by kernel_rfl) (by kernel_rfl) (by kernel_rfl) rfl (by kernel_rfl) (by kernel_rfl) late_nil ?_ ?_ ?_
        · exact Ds.none rfl
        · refine ea_cons ?_ (ea_cons ?_ (ea_cons ?_ (ea_cons ?_ (ea_cons ?_ (ea_cons ?_ (ea_cons ?_ (ea_cons ?_ (ea_cons ?_ (ea_cons ?_ (ea_cons ?_ (ea_nil)))))))))))
          · exact og_eq (.slice pa 3 cp) rfl (fun f wf hq hd K hK => go_run rfl (wo_mv (.tmp 1) (.slice pa 3 cp) (fun _ => rfl) rfl (hK _ (Mo.refl _))))
          · exact og_eq (pt ba (oa + 0 * 1)) rfl (fun f wf hq hd K hK => go_run rfl (wo_bin (fun x y => Instr.indexAt 132 x y) (.tmp 42) (.const (.int .i64 (0))) (.slice pa 3 cp) (.int .i64 (0)) (pt ba (oa + 0 * 1)) (fun _ => rfl) (hd 0 rfl) rfl (ix132 (i := 0) hpa (by decide) _) (hK _ (Mo.refl _))))
          · exact og_eq (.int .i64 (a)) rfl (fun f wf hq hd K hK => go_run rfl (wo_load 3 (.tmp 43) (pt ba (oa + 0 * 1)) (.int .i64 (a)) rfl (hd 1 rfl) (D.run_oneR (hRa.mo (M.trans hq)).at' 3 0 rfl Tryz.underlying3 rfl) (hK _ (Mo.refl _))))
          · exact og_eq (.bool true) rfl (fun f wf hq hd K hK => go_run rfl (wo_bin (fun x y => do eqGuard .eql 3 (.tmp 44) (.const (.int .i64 (2))) x y; binOp .eql 3 x y) (.tmp 44) (.const (.int .i64 (2))) (.int .i64 (a)) (.int .i64 (2)) (.bool true) (fun _ => rfl) (hd 2 rfl) rfl (eq3 hf1 _ _ _) (hK _ (Mo.refl _))))
          · exact og_eq (.bool true) rfl (fun f wf hq hd K hK => go_run rfl (wo_mv (.tmp 45) (.bool true) (fun _ => rfl) (hd 3 rfl) (hK _ (Mo.refl _))))
          · exact og_eq (.slice pa 3 cp) rfl (fun f wf hq hd K hK => go_run (wnt_g rfl rfl rfl (hd 4 rfl) rfl) (wo_mv (.tmp 1) (.slice pa 3 cp) (fun _ => rfl) rfl (hK _ (Mo.refl _))))
          · exact og_eq (pt bb (ob + 1 * 1)) rfl (fun f wf hq hd K hK => go_run (wnt_g rfl rfl rfl (hd 4 rfl) rfl) (wo_bin (fun x y => Instr.indexAt 132 x y) (.tmp 47) (.const (.int .i64 (1))) (.slice pa 3 cp) (.int .i64 (1)) (pt bb (ob + 1 * 1)) (fun _ => rfl) (hd 5 rfl) rfl (ix132 (i := 1) hpb (by decide) _) (hK _ (Mo.refl _))))
          · exact og_eq (.int .i64 (b)) rfl (fun f wf hq hd K hK => go_run (wnt_g rfl rfl rfl (hd 4 rfl) rfl) (wo_load 3 (.tmp 48) (pt bb (ob + 1 * 1)) (.int .i64 (b)) rfl (hd 6 rfl) (D.run_oneR (hRb.mo (M.trans hq)).at' 3 0 rfl Tryz.underlying3 rfl) (hK _ (Mo.refl _))))
          · exact og_eq (.slice pa 3 cp) rfl (fun f wf hq hd K hK => go_run (wnt_g rfl rfl rfl (hd 4 rfl) rfl) (wo_mv (.tmp 1) (.slice pa 3 cp) (fun _ => rfl) rfl (hK _ (Mo.refl _))))
          · exact og_eq (pt bd (od + 2 * 1)) rfl (fun f wf hq hd K hK => go_run (wnt_g rfl rfl rfl (hd 4 rfl) rfl) (wo_bin (fun x y => Instr.indexAt 132 x y) (.tmp 50) (.const (.int .i64 (2))) (.slice pa 3 cp) (.int .i64 (2)) (pt bd (od + 2 * 1)) (fun _ => rfl) (hd 8 rfl) rfl (ix132 (i := 2) hpd (by decide) _) (hK _ (Mo.refl _))))
          · exact og_eq (.int .i64 (d)) rfl (fun f wf hq hd K hK => go_run (wnt_g rfl rfl rfl (hd 4 rfl) rfl) (wo_load 3 (.tmp 51) (pt bd (od + 2 * 1)) (.int .i64 (d)) rfl (hd 9 rfl) (D.run_oneR (hRd.mo (M.trans hq)).at' 3 0 rfl Tryz.underlying3 rfl) (hK _ (Mo.refl _))))
        intro kf2 u2 hq hR hne
        replace Q1 := Q1.mo hq
        replace M := M.trans hq
        clear hq hR hne
        refine wl_bin (fun x y => do eqGuard .eql 3 (.tmp 49) (.tmp 52) x y; binOp .eql 3 x y) (.tmp 49) (.tmp 52) (.int .i64 (b)) (.int .i64 (d)) (.bool true) (fun _ => rfl) rfl rfl (eq3 hf2 _ _ _) rfl ?_
        refine wl_pick (.tmp 46) (.tmp 53) (.const (.bool false)) true (.bool true) (fun _ => rfl) rfl rfl rfl ?_
        refine w_nil ?_
        refine xn_then ?_
        refine w_condT rfl ?_
        refine w_seq ?_
        refine w_reg ?_
        refine wl_mv (.tmp 1) (.slice pa 3 cp) (fun _ => rfl) rfl rfl ?_
        refine wl_bin (fun x y => Instr.indexAt 132 x y) (.tmp 55) (.const (.int .i64 (1))) (.slice pa 3 cp) (.int .i64 (1)) (pt bb (ob + 1 * 1)) (fun _ => rfl) rfl rfl (ix132 (i := 1) hpb (by decide) _) rfl ?_
        refine wl_load 3 (.tmp 56) (pt bb (ob + 1 * 1)) (.int .i64 (b)) rfl rfl (D.run_oneR (hRb.mo M).at' 3 0 rfl Tryz.underlying3 rfl) rfl ?_
        refine wl_mv (.tmp 57) (.int .i64 (b)) (fun _ => rfl) rfl rfl ?_
        refine w_nil ?_
        refine xn_then ?_
        refine w_ret ?_
        refine xr_blk ?_
        refine xr_then ?_
        exact w_ret1 _ (.int .i64 (b)) rfl rfl ⟨by unfold ovK; simp_all, M⟩
      | false =>
        have hf2p := of_decide_eq_false hf2
        refine w_any 11 [.inl (.slice pa 3 cp), .inl (pt ba (oa + 0 * 1)), .inl (.int .i64 (a)), .inl (.bool true), .inl (.bool true), .inl (.slice pa 3 cp), .inl (pt bb (ob + 1 * 1)), .inl (.int .i64 (b)), .inl (.slice pa 3 cp), .inl (pt bd (od + 2 * 1)), .inl (.int .i64 (d))] [] (by kernel_rfl) (by kernel_rfl) (by kernel_rfl) (by kernel_rfl) rfl (by kernel_rfl) (by kernel_rfl) late_nil ?_ ?_ ?_
        · exact Ds.none rfl
        · refine ea_cons ?_ (ea_cons ?_ (ea_cons ?_ (ea_cons ?_ (ea_cons ?_ (ea_cons ?_ (ea_cons ?_ (ea_cons ?_ (ea_cons ?_ (ea_cons ?_ (ea_cons ?_ (ea_nil)))))))))))
          · exact og_eq (.slice pa 3 cp) rfl (fun f wf hq hd K hK => go_run rfl (wo_mv (.tmp 1) (.slice pa 3 cp) (fun _ => rfl) rfl (hK _ (Mo.refl _))))
          · exact og_eq (pt ba (oa + 0 * 1)) rfl (fun f wf hq hd K hK => go_run rfl (wo_bin (fun x y => Instr.indexAt 132 x y) (.tmp 42) (.const (.int .i64 (0))) (.slice pa 3 cp) (.int .i64 (0)) (pt ba (oa + 0 * 1)) (fun _ => rfl) (hd 0 rfl) rfl (ix132 (i := 0) hpa (by decide) _) (hK _ (Mo.refl _))))
          · exact og_eq (.int .i64 (a)) rfl (fun f wf hq hd K hK => go_run rfl (wo_load 3 (.tmp 43) (pt ba (oa + 0 * 1)) (.int .i64 (a)) rfl (hd 1 rfl) (D.run_oneR (hRa.mo (M.trans hq)).at' 3 0 rfl Tryz.underlying3 rfl) (hK _ (Mo.refl _))))
          · exact og_eq (.bool true) rfl (fun f wf hq hd K hK => go_run rfl (wo_bin (fun x y => do eqGuard .eql 3 (.tmp 44) (.const (.int .i64 (2))) x y; binOp .eql 3 x y) (.tmp 44) (.const (.int .i64 (2))) (.int .i64 (a)) (.int .i64 (2)) (.bool true) (fun _ => rfl) (hd 2 rfl) rfl (eq3 hf1 _ _ _) (hK _ (Mo.refl _))))
          · exact og_eq (.bool true) rfl (fun f wf hq hd K hK => go_run rfl (wo_mv (.tmp 45) (.bool true) (fun _ => rfl) (hd 3 rfl) (hK _ (Mo.refl _))))
          · exact og_eq (.slice pa 3 cp) rfl (fun f wf hq hd K hK => go_run (wnt_g rfl rfl rfl (hd 4 rfl) rfl) (wo_mv (.tmp 1) (.slice pa 3 cp) (fun _ => rfl) rfl (hK _ (Mo.refl _))))
          · exact og_eq (pt bb (ob + 1 * 1)) rfl (fun f wf hq hd K hK => go_run (wnt_g rfl rfl rfl (hd 4 rfl) rfl) (wo_bin (fun x y => Instr.indexAt 132 x y) (.tmp 47) (.const (.int .i64 (1))) (.slice pa 3 cp) (.int .i64 (1)) (pt bb (ob + 1 * 1)) (fun _ => rfl) (hd 5 rfl) rfl (ix132 (i := 1) hpb (by decide) _) (hK _ (Mo.refl _))))
          · exact og_eq (.int .i64 (b)) rfl (fun f wf hq hd K hK => go_run (wnt_g rfl rfl rfl (hd 4 rfl) rfl) (wo_load 3 (.tmp 48) (pt bb (ob + 1 * 1)) (.int .i64 (b)) rfl (hd 6 rfl) (D.run_oneR (hRb.mo (M.trans hq)).at' 3 0 rfl Tryz.underlying3 rfl) (hK _ (Mo.refl _))))
          · exact og_eq (.slice pa 3 cp) rfl (fun f wf hq hd K hK => go_run (wnt_g rfl rfl rfl (hd 4 rfl) rfl) (wo_mv (.tmp 1) (.slice pa 3 cp) (fun _ => rfl) rfl (hK _ (Mo.refl _))))
          · exact og_eq (pt bd (od + 2 * 1)) rfl (fun f wf hq hd K hK => go_run (wnt_g rfl rfl rfl (hd 4 rfl) rfl) (wo_bin (fun x y => Instr.indexAt 132 x y) (.tmp 50) (.const (.int .i64 (2))) (.slice pa 3 cp) (.int .i64 (2)) (pt bd (od + 2 * 1)) (fun _ => rfl) (hd 8 rfl) rfl (ix132 (i := 2) hpd (by decide) _) (hK _ (Mo.refl _))))
          · exact og_eq (.int .i64 (d)) rfl (fun f wf hq hd K hK => go_run (wnt_g rfl rfl rfl (hd 4 rfl) rfl) (wo_load 3 (.tmp 51) (pt bd (od + 2 * 1)) (.int .i64 (d)) rfl (hd 9 rfl) (D.run_oneR (hRd.mo (M.trans hq)).at' 3 0 rfl Tryz.underlying3 rfl) (hK _ (Mo.refl _))))
        intro kf2 u2 hq hR hne
        replace Q1 := Q1.mo hq
        replace M := M.trans hq
        clear hq hR hne
        refine wl_bin (fun x y => do eqGuard .eql 3 (.tmp 49) (.tmp 52) x y; binOp .eql 3 x y) (.tmp 49) (.tmp 52) (.int .i64 (b)) (.int .i64 (d)) (.bool false) (fun _ => rfl) rfl rfl (eq3 hf2 _ _ _) rfl ?_
        refine wl_pick (.tmp 46) (.tmp 53) (.const (.bool false)) true (.bool false) (fun _ => rfl) rfl rfl rfl ?_
        refine w_nil ?_
        refine xn_then ?_
        refine w_condF rfl ?_
        refine w_skip ?_
        refine xn_blk ?_
        refine xn_then ?_
        refine w_seq ?_
        refine w_reg ?_
        refine wl_mv (.const (.int .i64 (0))) (.int .i64 (0)) (fun _ => rfl) rfl rfl ?_
        refine w_nil ?_
        refine xn_then ?_
        refine w_ret ?_
        exact w_ret1 _ (.int .i64 (0)) rfl rfl ⟨by unfold ovK; simp_all, M⟩
    | false =>
      have hf1p := of_decide_eq_false hf1
      refine w_any 11 [.inl (.slice pa 3 cp), .inl (pt ba (oa + 0 * 1)), .inl (.int .i64 (a)), .inl (.bool false), .inl (.bool false), .inl undef, .inl undef, .inl undef, .inl undef, .inl undef, .inl undef] [] (by kernel_rfl) (by kernel_rfl) (by kernel_rfl) (by kernel_rfl) rfl (by kernel_rfl) (by kernel_rfl) late_nil ?_ ?_ ?_
      · exact Ds.none rfl
      · refine ea_cons ?_ (ea_cons ?_ (ea_cons ?_ (ea_cons ?_ (ea_cons ?_ (ea_cons ?_ (ea_cons ?_ (ea_cons ?_ (ea_cons ?_ (ea_cons ?_ (ea_cons ?_ (ea_nil)))))))))))
        · exact og_eq (.slice pa 3 cp) rfl (fun f wf hq hd K hK => go_run rfl (wo_mv (.tmp 1) (.slice pa 3 cp) (fun _ => rfl) rfl (hK _ (Mo.refl _))))
        · exact og_eq (pt ba (oa + 0 * 1)) rfl (fun f wf hq hd K hK => go_run rfl (wo_bin (fun x y => Instr.indexAt 132 x y) (.tmp 42) (.const (.int .i64 (0))) (.slice pa 3 cp) (.int .i64 (0)) (pt ba (oa + 0 * 1)) (fun _ => rfl) (hd 0 rfl) rfl (ix132 (i := 0) hpa (by decide) _) (hK _ (Mo.refl _))))
        · exact og_eq (.int .i64 (a)) rfl (fun f wf hq hd K hK => go_run rfl (wo_load 3 (.tmp 43) (pt ba (oa + 0 * 1)) (.int .i64 (a)) rfl (hd 1 rfl) (D.run_oneR (hRa.mo (M.trans hq)).at' 3 0 rfl Tryz.underlying3 rfl) (hK _ (Mo.refl _))))
        · exact og_eq (.bool false) rfl (fun f wf hq hd K hK => go_run rfl (wo_bin (fun x y => do eqGuard .eql 3 (.tmp 44) (.const (.int .i64 (2))) x y; binOp .eql 3 x y) (.tmp 44) (.const (.int .i64 (2))) (.int .i64 (a)) (.int .i64 (2)) (.bool false) (fun _ => rfl) (hd 2 rfl) rfl (eq3 hf1 _ _ _) (hK _ (Mo.refl _))))
        · exact og_eq (.bool false) rfl (fun f wf hq hd K hK => go_run rfl (wo_mv (.tmp 45) (.bool false) (fun _ => rfl) (hd 3 rfl) (hK _ (Mo.refl _))))
        · exact og_eq undef rfl (fun f wf hq hd K hK => go_pass (wnt_g rfl rfl rfl (hd 4 rfl) rfl) (hK _ (Mo.refl _)))
        · exact og_eq undef rfl (fun f wf hq hd K hK => go_pass (wnt_g rfl rfl rfl (hd 4 rfl) rfl) (hK _ (Mo.refl _)))
        · exact og_eq undef rfl (fun f wf hq hd K hK => go_pass (wnt_g rfl rfl rfl (hd 4 rfl) rfl) (hK _ (Mo.refl _)))
        · exact og_eq undef rfl (fun f wf hq hd K hK => go_pass (wnt_g rfl rfl rfl (hd 4 rfl) rfl) (hK _ (Mo.refl _)))
        · exact og_eq undef rfl (fun f wf hq hd K hK => go_pass (wnt_g rfl rfl rfl (hd 4 rfl) rfl) (hK _ (Mo.refl _)))
        · exact og_eq undef rfl (fun f wf hq hd K hK => go_pass (wnt_g rfl rfl rfl (hd 4 rfl) rfl) (hK _ (Mo.refl _)))
      intro kf2 u2 hq hR hne
      replace Q1 := Q1.mo hq
      replace M := M.trans hq
      clear hq hR hne
      refine wl_skip rfl ?_
      refine wl_pick (.tmp 46) (.tmp 53) (.const (.bool false)) false (.bool false) (fun _ => rfl) rfl rfl rfl ?_
      refine w_nil ?_
      refine xn_then ?_
      refine w_condF rfl ?_
      refine w_skip ?_
      refine xn_blk ?_
      refine xn_then ?_
      refine w_seq ?_
      refine w_reg ?_
      refine wl_mv (.const (.int .i64 (0))) (.int .i64 (0)) (fun _ => rfl) rfl rfl ?_
      refine w_nil ?_
      refine xn_then ?_
      refine w_ret ?_
      exact w_ret1 _ (.int .i64 (0)) rfl rfl ⟨by unfold ovK; simp_all, M⟩
  | false =>
    have hf0p := of_decide_eq_false hf0
    refine wl_bin (fun x y => do eqGuard .eql 3 (.tmp 39) (.const (.int .i64 (6))) x y; binOp .eql 3 x y) (.tmp 39) (.const (.int .i64 (6))) (.int .i64 (x.k)) (.int .i64 (6)) (.bool false) (fun _ => rfl) rfl rfl (eq3 hf0 _ _ _) rfl ?_
    refine wl_pick (.tmp 37) (.tmp 40) (.const (.bool false)) true (.bool false) (fun _ => rfl) rfl rfl rfl ?_
    refine wl_mv (.tmp 41) (.bool false) (fun _ => rfl) rfl rfl ?_
    refine w_nil ?_
    refine xn_then ?_
    refine w_condF rfl ?_
    refine w_skip ?_
    refine xn_blk ?_
    refine xn_then ?_
    refine w_seq ?_
    refine w_reg ?_
    refine wl_mv (.const (.int .i64 (0))) (.int .i64 (0)) (fun _ => rfl) rfl rfl ?_
    refine w_nil ?_
    refine xn_then ?_
    refine w_ret ?_
    exact w_ret1 _ (.int .i64 (0)) rfl rfl ⟨by unfold ovK; simp_all, M⟩
theorem ov_0 (x : Ex) {pa : Option Addr} (cp : Nat) {w : World} (A : List Int) (h1 : A.length ≠ 1) (h2 : A.length ≠ 2) (h3 : A.length ≠ 3) : Calls Tryz.prog 108 #[.agg (x.cells).toArray, .slice pa A.length cp] w fun e w' => e = .returned (.int .i64 (ovK x.k x.op A)) ∧ Mo w w' := by
  refine w_enter 58 Tryz.func108 Tryz.ntmps108 rfl rfl ?_
  have M : Mo w w := Mo.refl _
  refine w_seq ?_
  refine w_reg ?_
  refine wl_box 52 (.tmp 0) (.agg (x.cells).toArray) (((x.cells).toArray)) rfl rfl (fun _ => by kernel_rfl) rfl ?_
  intro k1 u1 hk hz hq Q1
  have N_k1 : w.heap.size ≤ k1 := by have := M.size; omega
  replace M := M.trans hq
  clear hk hz hq
  refine wl_mv (.const (.int .i64 (0))) (.int .i64 (0)) (fun _ => rfl) rfl rfl ?_
  refine w_nil ?_
  refine xn_then ?_
  refine w_seq ?_
  refine w_block ?_
  refine w_seq ?_
  refine w_reg ?_
  refine wl_mv (.tmp 1) (.slice pa A.length cp) (fun _ => rfl) rfl rfl ?_
  refine wl_val (.int .i64 ((A.length : Nat) : Int)) (len132 _ _ _ _ _ (by exact rfl) _ _ _ _ _ _) rfl ?_
  refine wl_bin (fun x y => do eqGuard .eql 3 (.tmp 7) (.const (.int .i64 (1))) x y; binOp .eql 3 x y) (.tmp 7) (.const (.int .i64 (1))) (.int .i64 ((A.length : Nat) : Int)) (.int .i64 (1)) (.bool false) (fun _ => rfl) rfl rfl (eq3 (decide_eq_false (by omega)) _ _ _) rfl ?_
  refine wl_mv (.tmp 8) (.bool false) (fun _ => rfl) rfl rfl ?_
  refine w_nil ?_
  refine xn_then ?_
  refine w_condF rfl ?_
  refine w_seq ?_
  refine w_reg ?_
  refine wl_mv (.tmp 1) (.slice pa A.length cp) (fun _ => rfl) rfl rfl ?_
  refine wl_val (.int .i64 ((A.length : Nat) : Int)) (len132 _ _ _ _ _ (by exact rfl) _ _ _ _ _ _) rfl ?_
  refine wl_bin (fun x y => do eqGuard .eql 3 (.tmp 17) (.const (.int .i64 (2))) x y; binOp .eql 3 x y) (.tmp 17) (.const (.int .i64 (2))) (.int .i64 ((A.length : Nat) : Int)) (.int .i64 (2)) (.bool false) (fun _ => rfl) rfl rfl (eq3 (decide_eq_false (by omega)) _ _ _) rfl ?_
  refine wl_mv (.tmp 18) (.bool false) (fun _ => rfl) rfl rfl ?_
  refine wl_skip rfl ?_
  refine wl_skip rfl ?_
  refine wl_skip rfl ?_
  refine wl_pick (.tmp 19) (.tmp 22) (.const (.bool false)) false (.bool false) (fun _ => rfl) rfl rfl rfl ?_
  refine wl_mv (.tmp 23) (.bool false) (fun _ => rfl) rfl rfl ?_
  refine w_nil ?_
  refine xn_then ?_
  refine w_condF rfl ?_
  refine w_seq ?_
  refine w_reg ?_
  refine wl_mv (.tmp 1) (.slice pa A.length cp) (fun _ => rfl) rfl rfl ?_
  refine wl_val (.int .i64 ((A.length : Nat) : Int)) (len132 _ _ _ _ _ (by exact rfl) _ _ _ _ _ _) rfl ?_
  refine wl_bin (fun x y => do eqGuard .eql 3 (.tmp 35) (.const (.int .i64 (3))) x y; binOp .eql 3 x y) (.tmp 35) (.const (.int .i64 (3))) (.int .i64 ((A.length : Nat) : Int)) (.int .i64 (3)) (.bool false) (fun _ => rfl) rfl rfl (eq3 (decide_eq_false (by omega)) _ _ _) rfl ?_
  refine wl_mv (.tmp 36) (.bool false) (fun _ => rfl) rfl rfl ?_
  refine wl_skip rfl ?_
  refine wl_skip rfl ?_
  refine wl_skip rfl ?_
  refine wl_pick (.tmp 37) (.tmp 40) (.const (.bool false)) false (.bool false) (fun _ => rfl) rfl rfl rfl ?_
  refine wl_mv (.tmp 41) (.bool false) (fun _ => rfl) rfl rfl ?_
  refine w_nil ?_
  refine xn_then ?_
  refine w_condF rfl ?_
  refine w_skip ?_
  refine xn_blk ?_
  refine xn_then ?_
  refine w_seq ?_
  refine w_reg ?_
  refine wl_mv (.const (.int .i64 (0))) (.int .i64 (0)) (fun _ => rfl) rfl rfl ?_
  refine w_nil ?_
  refine xn_then ?_
  refine w_ret ?_
  exact w_ret1 _ (.int .i64 (0)) rfl rfl ⟨by rw [ov_big x.k x.op h1 h2 h3], M⟩
theorem ov_n (x : Ex) {pa : Option Addr} (cp : Nat) {w : World} (A : List Int) (hS : SL w 1 kc pa A) : Calls Tryz.prog 108 #[.agg (x.cells).toArray, .slice pa A.length cp] w fun e w' => e = .returned (.int .i64 (ovK x.k x.op A)) ∧ Mo w w' := by
  match A, hS with
  | [], _ => exact ov_0 x cp [] (by decide) (by decide) (by decide)
  | [a], hS => exact ov_1 x cp a hS
  | [a, b], hS => exact ov_2 x cp a b hS
  | [a, b, d], hS => exact ov_3 x cp a b d hS
  | a :: b :: d :: f :: A, _ => exact ov_0 x cp (a :: b :: d :: f :: A) (by simp) (by simp) (by simp)
end Go.Proofs.YtepfokoepibkcaaGreat

