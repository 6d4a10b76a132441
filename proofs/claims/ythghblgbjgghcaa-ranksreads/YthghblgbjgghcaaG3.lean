/-
  The way up, walked.
-/
import Derived.Test.YthghblgbjgghcaaPa
namespace Go.Proofs.Ythghblgbjgghcaa
open Go.RowKit D
theorem wyA_t {l : List S5} {acc : List Nat} {s f : Nat} (hs : hasS l (s : Int) = true) (hm : s ∈ acc) : wyA l (f + 1) acc (s : Int) = (acc, acc.idxOf s) := by
  unfold wyA; rw [if_pos hs, Int.toNat_natCast, if_pos hm]
theorem wyA_f {l : List S5} {acc : List Nat} {s f : Nat} (hs : hasS l (s : Int) = true) (hm : s ∉ acc) : wyA l (f + 1) acc (s : Int) = wyA l f (acc ++ [s]) (par l s) := by
  rw [wyA, if_pos hs, Int.toNat_natCast, if_neg hm]
theorem wyA_o {l : List S5} {acc : List Nat} {s : Int} {f : Nat} (hs : hasS l s = false) : wyA l f acc s = (acc, acc.length) := by
  cases f with
  | zero => rfl
  | succ f => unfold wyA; rw [hs]; rfl
/-- Where each of a list stands. -/
def Pls (acc : List Nat) (al : List (Int × Int)) : Prop := ∀ k : Nat, lkq al (k : Int) = if k ∈ acc then some ((acc.idxOf k : Nat) : Int) else none
theorem Pls.nil : Pls [] [] := fun k => by simp [lkq]
theorem Pls.more {acc : List Nat} {al : List (Int × Int)} (h : Pls acc al) {s : Nat} (hs : s ∉ acc) : Pls (acc ++ [s]) (putq al (s : Int) ((acc.length : Nat) : Int)) := fun k => by
  rw [lkq_put, h k]
  by_cases e : s = k
  · subst e; simp [List.idxOf_append, hs]
  · have e2 : ¬ ((s : Int) = (k : Int)) := by omega
    rw [if_neg e2]
    by_cases hk : k ∈ acc
    · simp [hk, List.idxOf_append]
    · have : k ∉ acc ++ [s] := fun q => by rcases List.mem_append.1 q with q | q; exact hk q; simp at q; exact e q.symm
      simp [hk, this]
theorem wayUp_n {w : World} {l : List S5} {pl : Option Addr} {cl : Nat} (hL : SL w 5 S5.cells pl l) (hz : l.length < 1000000) (s0 : Int) : Calls Try.prog 35 #[.slice pl l.length cl, .int .i64 s0] w fun e w' => ∃ pa cap, e = .returned (.tuple #[.slice pa (wy l s0).1.length cap, .int .i64 (((wy l s0).2 : Nat) : Int)]) ∧ Ow w.heap.size 3 1 ic w' pa cap (wy l s0).1 ∧ Mo w w' := by
  refine w_enter 39 Try.func35 Try.ntmps35 rfl rfl ?_
  have M : Mo w w := Mo.refl _
  refine w_seq ?_
  refine w_reg ?_
  refine wl_mv (.const (.slice none 0 0)) (.slice none 0 0) (fun _ => rfl) rfl rfl ?_
  refine wl_mv (.const (.int .i64 (0))) (.int .i64 (0)) (fun _ => rfl) rfl rfl ?_
  refine w_nil ?_
  refine xn_then ?_
  refine w_seq ?_
  refine w_reg ?_
  refine wl_mv (.const (.slice none 0 0)) (.slice none 0 0) (fun _ => rfl) rfl rfl ?_
  refine w_nil ?_
  refine xn_then ?_
  refine w_seq ?_
  refine w_reg ?_
  refine wl_mmq ei 83 rfl rfl ?_
  intro mb1 u1 hk hz9 hq hO_mb1
  have N_mb1 : w.heap.size ≤ mb1 := by have := M.size; omega
  replace M := M.trans hq
  clear hk hz9 hq
  refine wl_mv (.tmp 10) (.map (some mb1)) (fun _ => rfl) rfl rfl ?_
  refine w_nil ?_
  refine xn_then ?_
  refine w_seq ?_
  refine w_block ?_
  refine w_loop (fun m lf w1 => ∃ acc : List Nat, ∃ s : Int, ∃ pv : Option Addr, ∃ cv : Nat, ∃ al : List (Int × Int), m = l.length + 1 - acc.length ∧ look lf 0 = .slice pl l.length cl ∧ look lf 1 = .int .i64 (s) ∧ look lf 6 = .slice pv acc.length cv ∧ look lf 7 = .map (some mb1) ∧ (Ow w.heap.size 3 1 ic w1 pv cv acc) ∧ (Mp ei w1 mb1 al) ∧ (Pls acc al) ∧ (Pw l s0 acc s) ∧ (wyA l (l.length + 1 - acc.length) acc s = wy l s0) ∧ (Mo w w1)) _ ⟨[], s0, none, 0, [], rfl, rfl, rfl, rfl, rfl, Ow.nil _ _ _ _ _, hO_mb1, Pls.nil, Pw.nil l s0, rfl, M⟩ ?_
  clear hO_mb1 M
  rintro m lf40 wl40 ⟨acc, s, pv, cv, al, rfl, e40_0, e40_1, e40_6, e40_7, hW, hO_mb1, hP, hp, hE, M⟩
  have hlen := hp.len
  cases hs : hasS l s with
  | true =>
    obtain ⟨sk, sx, rfl, hsx⟩ := hasS_get hs
    have hkl := lt_of_get hsx
    obtain ⟨bp, op, hpp, hRp⟩ := D.SL.rw hL hsx
    by_cases hm : sk ∈ acc
    · skip
      have hfT : (lkq al ((sk : Nat) : Int)).isSome = true := by rw [hP sk, if_pos hm]; rfl
      refine w_seq ?_
      refine w_seq ?_
      refine w_reg ?_
      refine wl_mv (.tmp 0) (.slice pl l.length cl) (fun _ => rfl) e40_0 rfl ?_
      refine wl_mv (.tmp 1) (.int .i64 ((sk : Nat) : Int)) (fun _ => rfl) e40_1 rfl ?_
      refine wl_call 33 [(.tmp 11), (.tmp 12)] _ [.slice pl l.length cl, .int .i64 ((sk : Nat) : Int)] (.bool true) rfl rfl (fun _ _ => by kernel_rfl) (cB hs (has_n pl l.length cl _ _)) rfl ?_
      intro u41 hq
      replace hW := own_mo hW hq
      replace hO_mb1 := hO_mb1.mo hq
      replace M := M.trans hq
      clear hq
      refine w_nil ?_
      refine xn_then ?_
      refine w_condT rfl ?_
      refine w_skip ?_
      refine xn_then ?_
      refine w_block ?_
      refine w_seq ?_
      refine w_seq ?_
      refine w_reg ?_
      refine wl_mv (.tmp 7) (.map (some mb1)) (fun _ => rfl) e40_7 rfl ?_
      refine wl_mv (.tmp 1) (.int .i64 ((sk : Nat) : Int)) (fun _ => rfl) e40_1 rfl ?_
      refine wl_val (.tuple #[.int .i64 ((lkq al ((sk : Nat) : Int)).getD 0), .bool true]) (lkp 83 (.tmp 15) (.tmp 16) true (.map (some mb1)) (.int .i64 ((sk : Nat) : Int)) (.tuple #[.int .i64 ((lkq al ((sk : Nat) : Int)).getD 0), .bool true]) rfl rfl rfl (hO_mb1.looks kt3 Try.underlying83 ((sk : Nat) : Int) hfT)) rfl ?_
      refine wl_mv (.tmp 17) (.tuple #[.int .i64 ((lkq al ((sk : Nat) : Int)).getD 0), .bool true]) (fun _ => rfl) rfl rfl ?_
      refine wl_un (fun v => Instr.extract v 0) (.tmp 14) (.tuple #[.int .i64 ((lkq al ((sk : Nat) : Int)).getD 0), .bool true]) (.int .i64 ((lkq al ((sk : Nat) : Int)).getD 0)) (fun _ => rfl) rfl (by kernel_rfl) rfl ?_
      refine wl_un (fun v => Instr.extract v 1) (.tmp 14) (.tuple #[.int .i64 ((lkq al ((sk : Nat) : Int)).getD 0), .bool true]) (.bool true) (fun _ => rfl) rfl (by kernel_rfl) rfl ?_
      refine wl_mv (.tmp 18) (.int .i64 ((lkq al ((sk : Nat) : Int)).getD 0)) (fun _ => rfl) rfl rfl ?_
      refine wl_mv (.tmp 19) (.bool true) (fun _ => rfl) rfl rfl ?_
      refine w_nil ?_
      refine xn_then ?_
      refine w_seq ?_
      refine w_reg ?_
      refine wl_mv (.tmp 9) (.bool true) (fun _ => rfl) rfl rfl ?_
      refine w_nil ?_
      refine xn_then ?_
      refine w_condT rfl ?_
      refine w_seq ?_
      refine w_reg ?_
      refine wl_mv (.tmp 6) (.slice pv acc.length cv) (fun _ => rfl) e40_6 rfl ?_
      refine wl_mv (.tmp 8) (.int .i64 ((lkq al ((sk : Nat) : Int)).getD 0)) (fun _ => rfl) rfl rfl ?_
      refine wl_mv (.tmp 21) (.slice pv acc.length cv) (fun _ => rfl) rfl rfl ?_
      refine wl_mv (.tmp 22) (.int .i64 ((lkq al ((sk : Nat) : Int)).getD 0)) (fun _ => rfl) rfl rfl ?_
      refine w_nil ?_
      refine xn_then ?_
      refine w_ret ?_
      refine xr_then ?_
      refine xr_blk ?_
      refine xr_then ?_
      refine xr_blk ?_
      refine xr_then ?_
      exact w_ret2 _ _ (.slice pv acc.length cv) (.int .i64 ((lkq al ((sk : Nat) : Int)).getD 0)) rfl rfl rfl ⟨pv, cv, by rw [← hE, show l.length + 1 - acc.length = (l.length - acc.length) + 1 by omega, wyA_t hs hm]; simp [hP sk, hm], by rw [← hE, show l.length + 1 - acc.length = (l.length - acc.length) + 1 by omega, wyA_t hs hm]; exact hW, M⟩
    · skip
      have hfF : (lkq al ((sk : Nat) : Int)).isSome = false := by rw [hP sk, if_neg hm]; rfl
      refine w_seq ?_
      refine w_seq ?_
      refine w_reg ?_
      refine wl_mv (.tmp 0) (.slice pl l.length cl) (fun _ => rfl) e40_0 rfl ?_
      refine wl_mv (.tmp 1) (.int .i64 ((sk : Nat) : Int)) (fun _ => rfl) e40_1 rfl ?_
      refine wl_call 33 [(.tmp 11), (.tmp 12)] _ [.slice pl l.length cl, .int .i64 ((sk : Nat) : Int)] (.bool true) rfl rfl (fun _ _ => by kernel_rfl) (cB hs (has_n pl l.length cl _ _)) rfl ?_
      intro u41 hq
      replace hW := own_mo hW hq
      replace hO_mb1 := hO_mb1.mo hq
      replace M := M.trans hq
      clear hq
      refine w_nil ?_
      refine xn_then ?_
      refine w_condT rfl ?_
      refine w_skip ?_
      refine xn_then ?_
      refine w_block ?_
      refine w_seq ?_
      refine w_seq ?_
      refine w_reg ?_
      refine wl_mv (.tmp 7) (.map (some mb1)) (fun _ => rfl) e40_7 rfl ?_
      refine wl_mv (.tmp 1) (.int .i64 ((sk : Nat) : Int)) (fun _ => rfl) e40_1 rfl ?_
      refine wl_val (.tuple #[.int .i64 ((lkq al ((sk : Nat) : Int)).getD 0), .bool false]) (lkp 83 (.tmp 15) (.tmp 16) true (.map (some mb1)) (.int .i64 ((sk : Nat) : Int)) (.tuple #[.int .i64 ((lkq al ((sk : Nat) : Int)).getD 0), .bool false]) rfl rfl rfl (hO_mb1.looks kt3 Try.underlying83 ((sk : Nat) : Int) hfF)) rfl ?_
      refine wl_mv (.tmp 17) (.tuple #[.int .i64 ((lkq al ((sk : Nat) : Int)).getD 0), .bool false]) (fun _ => rfl) rfl rfl ?_
      refine wl_un (fun v => Instr.extract v 0) (.tmp 14) (.tuple #[.int .i64 ((lkq al ((sk : Nat) : Int)).getD 0), .bool false]) (.int .i64 ((lkq al ((sk : Nat) : Int)).getD 0)) (fun _ => rfl) rfl (by kernel_rfl) rfl ?_
      refine wl_un (fun v => Instr.extract v 1) (.tmp 14) (.tuple #[.int .i64 ((lkq al ((sk : Nat) : Int)).getD 0), .bool false]) (.bool false) (fun _ => rfl) rfl (by kernel_rfl) rfl ?_
      refine wl_mv (.tmp 18) (.int .i64 ((lkq al ((sk : Nat) : Int)).getD 0)) (fun _ => rfl) rfl rfl ?_
      refine wl_mv (.tmp 19) (.bool false) (fun _ => rfl) rfl rfl ?_
      refine w_nil ?_
      refine xn_then ?_
      refine w_seq ?_
      refine w_reg ?_
      refine wl_mv (.tmp 9) (.bool false) (fun _ => rfl) rfl rfl ?_
      refine w_nil ?_
      refine xn_then ?_
      refine w_condF rfl ?_
      refine w_skip ?_
      refine xn_then ?_
      refine w_seq ?_
      refine w_reg ?_
      refine wl_mv (.tmp 7) (.map (some mb1)) (fun _ => rfl) e40_7 rfl ?_
      refine wl_mv (.tmp 1) (.int .i64 ((sk : Nat) : Int)) (fun _ => rfl) e40_1 rfl ?_
      refine wl_mv (.tmp 6) (.slice pv acc.length cv) (fun _ => rfl) e40_6 rfl ?_
      refine wl_val (.int .i64 ((acc.length : Nat) : Int)) (len32 _ _ _ _ _ (by exact rfl) _ _ _ _ _ _) rfl ?_
      refine wl_mupq (al := al) (.tmp 23) (.tmp 24) (.tmp 26) ((sk : Nat) : Int) ((acc.length : Nat) : Int) hO_mb1 kt3 Try.underlying83 rfl rfl rfl rfl rfl rfl ?_
      have hO0 := hO_mb1
      clear hO_mb1
      intro u42 hO_mb1 hK9
      replace hW := own_mk hW hK9 (fun k e h => hO0.nty (own_ty hW e) h)
      replace M := hK9.mo M (fun k e => e ▸ N_mb1)
      clear hK9 hO0
      refine w_nil ?_
      refine xn_then ?_
      refine w_seq ?_
      refine w_reg ?_
      refine wl_mv (.tmp 6) (.slice pv acc.length cv) (fun _ => rfl) e40_6 rfl ?_
      refine wl_mv (.tmp 1) (.int .i64 ((sk : Nat) : Int)) (fun _ => rfl) e40_1 rfl ?_
      refine wl_bs 32 1 [(0, (.tmp 28))] [(0, .int .i64 ((sk : Nat) : Int))] #[.int .i64 ((sk : Nat) : Int)] 3 rfl rfl (fun _ => by kernel_rfl) rfl ?_
      intro k1 u43 hk hz hq Q1
      have N_k1 : w.heap.size ≤ k1 := by have := M.size; omega
      replace hW := own_mo hW hq
      replace hO_mb1 := hO_mb1.mo hq
      replace M := M.trans hq
      clear hk hz hq
      refine wl_apI (.tmp 27) (.tmp 29) k1 rfl rfl rfl hW Q1 (by omega) M.size rfl ?_
      intro pv2 cv2 u44 hW2 hK9 hv9
      replace hO_mb1 := hO_mb1.mk hK9 (fun e => hO_mb1.nty (own_ty hW e) rfl)
      replace M := own_gap hW hK9 (Nat.le_refl _) M
      clear hK9 hv9
      refine wl_mv (.tmp 30) (.slice pv2 (acc ++ [sk]).length cv2) (fun _ => rfl) rfl rfl ?_
      refine w_nil ?_
      refine xn_then ?_
      refine w_reg ?_
      refine wl_mv (.tmp 0) (.slice pl l.length cl) (fun _ => rfl) e40_0 rfl ?_
      refine wl_mv (.tmp 1) (.int .i64 ((sk : Nat) : Int)) (fun _ => rfl) e40_1 rfl ?_
      refine wl_bin (fun x y => Instr.indexAt 22 x y) (.tmp 31) (.tmp 32) (.slice pl l.length cl) (.int .i64 ((sk : Nat) : Int)) (pt bp (op + sk * 5)) (fun _ => rfl) rfl rfl (ix22 (i := sk) hpp hkl _) rfl ?_
      refine wl_un (fun v => Instr.fieldAt 55 v 0) (.tmp 33) (pt bp (op + sk * 5)) (pt bp (op + sk * 5)) (fun _ => rfl) rfl (by kernel_rfl) rfl ?_
      refine wl_load 3 (.tmp 34) (pt bp (op + sk * 5)) (.int .i64 (sx.pr)) rfl rfl (D.run_oneR (hRp.mo M).at' 3 0 rfl Try.underlying3 rfl) rfl ?_
      refine wl_mv (.tmp 35) (.int .i64 (sx.pr)) (fun _ => rfl) rfl rfl ?_
      refine w_nil ?_
      refine xn_blk ?_
      have hal : (acc ++ [sk]).length = acc.length + 1 := by simp
      exact xn_loop (l.length + 1 - (acc ++ [sk]).length) (by omega) ⟨acc ++ [sk], par l sk, pv2, cv2, putq al ((sk : Nat) : Int) ((acc.length : Nat) : Int), rfl, e40_0, (by rw [par_eq hsx]; rfl), rfl, e40_7, hW2, hO_mb1, hP.more hm, by have := hp.more hs (by rw [Int.toNat_natCast]; exact hm); rw [Int.toNat_natCast] at this; exact this, by rw [← hE, show l.length + 1 - acc.length = (l.length + 1 - (acc ++ [sk]).length) + 1 by simp; omega, wyA_f hs hm], M⟩
  | false =>
    refine w_seq ?_
    refine w_seq ?_
    refine w_reg ?_
    refine wl_mv (.tmp 0) (.slice pl l.length cl) (fun _ => rfl) e40_0 rfl ?_
    refine wl_mv (.tmp 1) (.int .i64 (s)) (fun _ => rfl) e40_1 rfl ?_
    refine wl_call 33 [(.tmp 11), (.tmp 12)] _ [.slice pl l.length cl, .int .i64 (s)] (.bool false) rfl rfl (fun _ _ => by kernel_rfl) (cB hs (has_n pl l.length cl _ _)) rfl ?_
    intro u41 hq
    replace hW := own_mo hW hq
    replace hO_mb1 := hO_mb1.mo hq
    replace M := M.trans hq
    clear hq
    refine w_nil ?_
    refine xn_then ?_
    refine w_condF rfl ?_
    refine w_exit ?_
    refine xx_then ?_
    refine xx_then ?_
    refine xx_blk ?_
    refine xn_then ?_
    refine w_seq ?_
    refine w_reg ?_
    refine wl_mv (.tmp 6) (.slice pv acc.length cv) (fun _ => rfl) e40_6 rfl ?_
    refine wl_mv (.tmp 6) (.slice pv acc.length cv) (fun _ => rfl) e40_6 rfl ?_
    refine wl_val (.int .i64 ((acc.length : Nat) : Int)) (len32 _ _ _ _ _ (by exact rfl) _ _ _ _ _ _) rfl ?_
    refine wl_mv (.tmp 36) (.slice pv acc.length cv) (fun _ => rfl) rfl rfl ?_
    refine wl_mv (.tmp 38) (.int .i64 ((acc.length : Nat) : Int)) (fun _ => rfl) rfl rfl ?_
    refine w_nil ?_
    refine xn_then ?_
    refine w_ret ?_
    exact w_ret2 _ _ (.slice pv acc.length cv) (.int .i64 ((acc.length : Nat) : Int)) rfl rfl rfl ⟨pv, cv, by rw [← hE, wyA_o hs], by rw [← hE, wyA_o hs]; exact hW, M⟩
end Go.Proofs.Ythghblgbjgghcaa
