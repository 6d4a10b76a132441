/-
  One more of what is read.
-/
import Derived.Test.YtepfokoepibkcaaRs
namespace Go.Proofs.Ytepfokoepibkcaa
open Go.RowKit D
theorem add_n {S : Nat → Prop} {w : World} {N kM kO mb : Nat} {L : List Rd} (h : ST S w N kM kO mb L) (p : Rd) (hz : L.length < 4000000) (hN : N ≤ w.heap.size) : Calls Try.prog 33 #[rdv p, pt kM 0, pt kO 0] w fun e w' => e = .returned (.tuple #[]) ∧ ∃ S', ST S' w' N kM kO mb (ins L p) ∧ Mk S w w' ∧ ∀ k, k < w.heap.size → S' k → S k := by
  obtain ⟨v, aO, hown, hv⟩ := h.ow
  obtain ⟨pv, cv, rfl, _⟩ := own_form hown
  have aM := h.aM
  refine w_enter 22 Try.func33 Try.ntmps33 rfl rfl ?_
  have M : Mo w w := Mo.refl _
  refine w_seq ?_
  refine w_reg ?_
  refine wl_box 42 (.tmp 0) (.agg #[.string p.1, .string p.2]) (#[.string p.1, .string p.2]) rfl rfl (fun _ => by kernel_rfl) rfl ?_
  intro k1 u1 hk hz hq Q1
  have ne_kM_k1 : kM ≠ k1 := by have := aM.lt; omega
  have ne_kO_k1 : kO ≠ k1 := by have := aO.lt; omega
  have N_k1 : w.heap.size ≤ k1 := by have := M.size; omega
  replace aM := aM.mo hq
  replace aO := aO.mo hq
  replace M := M.trans hq
  clear hk hz hq
  refine w_nil ?_
  refine xn_then ?_
  refine w_seq ?_
  refine w_reg ?_
  refine wl_load 84 (.tmp 1) (pt kM 0) (.map (some mb)) rfl rfl (run_one aM 84 0 rfl Try.underlying84 rfl) rfl ?_
  refine wl_load 42 (.tmp 3) (pt k1 0) (.agg #[.string p.1, .string p.2]) rfl rfl (run_row Q1 42 0 2 [.string p.1, .string p.2] rfl Try.underlying42 rfl sz42) rfl ?_
  cases hf0 : hasR L p with
  | true =>
    obtain ⟨kk, hlk⟩ := (h.om.mo M).look p
    refine wl_val (.tuple #[.int .i64 (kk), .bool true]) (lkp 84 (.tmp 7) (.tmp 8) true (.map (some mb)) (.agg #[.string p.1, .string p.2]) (.tuple #[.int .i64 (kk), .bool true]) rfl rfl rfl (hlk.trans (by rw [hf0]))) rfl ?_
    refine wl_mv (.tmp 9) (.tuple #[.int .i64 (kk), .bool true]) (fun _ => rfl) rfl rfl ?_
    refine wl_un (fun v => Instr.extract v 0) (.tmp 6) (.tuple #[.int .i64 (kk), .bool true]) (.int .i64 (kk)) (fun _ => rfl) rfl (by kernel_rfl) rfl ?_
    refine wl_un (fun v => Instr.extract v 1) (.tmp 6) (.tuple #[.int .i64 (kk), .bool true]) (.bool true) (fun _ => rfl) rfl (by kernel_rfl) rfl ?_
    refine wl_mv (.tmp 10) (.int .i64 (kk)) (fun _ => rfl) rfl rfl ?_
    refine wl_mv (.tmp 11) (.bool true) (fun _ => rfl) rfl rfl ?_
    refine w_nil ?_
    refine xn_then ?_
    refine w_seq ?_
    refine w_reg ?_
    refine wl_mv (.tmp 5) (.bool true) (fun _ => rfl) rfl rfl ?_
    refine wl_un (fun v => Op.unary .not v) (.tmp 12) (.bool true) (.bool false) (fun _ => rfl) rfl (by kernel_rfl) rfl ?_
    refine w_nil ?_
    refine xn_then ?_
    refine w_condF rfl ?_
    refine w_skip ?_
    exact w_end0 rfl ⟨rfl, by rw [ins_has hf0]; exact ⟨S, h.mo M, Mk.of S M, fun _ _ s => s⟩⟩
  | false =>
    obtain ⟨kk, hlk⟩ := (h.om.mo M).look p
    refine wl_val (.tuple #[.int .i64 (kk), .bool false]) (lkp 84 (.tmp 7) (.tmp 8) true (.map (some mb)) (.agg #[.string p.1, .string p.2]) (.tuple #[.int .i64 (kk), .bool false]) rfl rfl rfl (hlk.trans (by rw [hf0]))) rfl ?_
    refine wl_mv (.tmp 9) (.tuple #[.int .i64 (kk), .bool false]) (fun _ => rfl) rfl rfl ?_
    refine wl_un (fun v => Instr.extract v 0) (.tmp 6) (.tuple #[.int .i64 (kk), .bool false]) (.int .i64 (kk)) (fun _ => rfl) rfl (by kernel_rfl) rfl ?_
    refine wl_un (fun v => Instr.extract v 1) (.tmp 6) (.tuple #[.int .i64 (kk), .bool false]) (.bool false) (fun _ => rfl) rfl (by kernel_rfl) rfl ?_
    refine wl_mv (.tmp 10) (.int .i64 (kk)) (fun _ => rfl) rfl rfl ?_
    refine wl_mv (.tmp 11) (.bool false) (fun _ => rfl) rfl rfl ?_
    refine w_nil ?_
    refine xn_then ?_
    refine w_seq ?_
    refine w_reg ?_
    refine wl_mv (.tmp 5) (.bool false) (fun _ => rfl) rfl rfl ?_
    refine wl_un (fun v => Op.unary .not v) (.tmp 12) (.bool false) (.bool true) (fun _ => rfl) rfl (by kernel_rfl) rfl ?_
    refine w_nil ?_
    refine xn_then ?_
    refine w_condT rfl ?_
    refine w_seq ?_
    refine w_reg ?_
    refine wl_load 84 (.tmp 1) (pt kM 0) (.map (some mb)) rfl rfl (run_one aM 84 0 rfl Try.underlying84 rfl) rfl ?_
    refine wl_load 42 (.tmp 3) (pt k1 0) (.agg #[.string p.1, .string p.2]) rfl rfl (run_row Q1 42 0 2 [.string p.1, .string p.2] rfl Try.underlying42 rfl sz42) rfl ?_
    refine wl_load 40 (.tmp 2) (pt kO 0) (.slice pv L.length cv) rfl rfl (run_one aO 40 0 rfl Try.underlying40 rfl) rfl ?_
    refine wl_val (.int .i64 ((L.length : Nat) : Int)) (len40 _ _ _ _ _ (by exact rfl) _ _ _ _ _ _) rfl ?_
    refine wl_mupR (.tmp 14) (.tmp 15) (.tmp 17) mb p (((L.length : Nat) : Int)) (h.om.mo M) hf0 rfl rfl rfl rfl rfl rfl ?_
    intro u2 hO2 m2
    have m1 := M
    replace aM := m2.at aM (at_ne aM (h.om.mo m1))
    replace aO := m2.at aO (at_ne aO (h.om.mo m1))
    replace Q1 := m2.at Q1 (at_ne Q1 (h.om.mo m1))
    clear M
    have M : Mo u2 u2 := Mo.refl _
    refine w_nil ?_
    refine xn_then ?_
    refine w_reg ?_
    refine wl_load 40 (.tmp 2) (pt kO 0) (.slice pv L.length cv) rfl rfl (run_one aO 40 0 rfl Try.underlying40 rfl) rfl ?_
    refine wl_load 42 (.tmp 3) (pt k1 0) (.agg #[.string p.1, .string p.2]) rfl rfl (run_row Q1 42 0 2 [.string p.1, .string p.2] rfl Try.underlying42 rfl sz42) rfl ?_
    refine wl_bs 40 1 [(0, (.tmp 19))] [(0, .agg #[.string p.1, .string p.2])] #[.string p.1, .string p.2] 42 rfl rfl (fun _ => by kernel_rfl) rfl ?_
    intro k2 u3 hk hz hq Q2
    have ne_kM_k2 : kM ≠ k2 := by have := aM.lt; omega
    have ne_kO_k2 : kO ≠ k2 := by have := aO.lt; omega
    have ne_k1_k2 : k1 ≠ k2 := by have := Q1.lt; omega
    have N_k2 : u2.heap.size ≤ k2 := by have := M.size; omega
    replace aM := aM.mo hq
    replace aO := aO.mo hq
    replace Q1 := Q1.mo hq
    replace M := M.trans hq
    clear hk hz hq
    refine wl_app Try.underlying40 inf42 rfl (by decide) (.tmp 18) (.tmp 20) N (.slice pv L.length cv) L.length (L.flatMap rdc) k2 1 1 (rdc p) rfl rfl rfl (own_mo (own_mk (own_mo hown m1) m2 (fun k e q => own_ne hown e h.om q)) M) rfl Q2 (by simp [Value.oneCell']) (by decide) (by unfold maxLen; omega) (by omega) (by have := M.size; have := m2.size; have := m1.size; omega) rfl ?_
    intro v2 u4 hw4 m4 hv4
    have m3 := M
    have aO4 := m4.at aO (fun e => (hv _ e).2 rfl)
    have hc1 : v2.cells = #[v2] := by obtain ⟨_, _, rfl, _⟩ := own_form hw4; rfl
    have hc2 : v2.oneCell' = true := by obtain ⟨_, _, rfl, _⟩ := own_form hw4; rfl
    refine wl_stm1 40 (.tmp 2) (.tmp 21) kO 0 (v2) [.slice pv L.length cv] [v2] aO4 rfl rfl rfl rfl rfl sz40 hc1 hc2 rfl rfl ?_
    intro u5 _ m5 aO5
    refine w_nil ?_
    exact w_end0 rfl ⟨rfl, by rw [ins_not hf0]; exact h.add hown hv m1 hO2 m2 m3 m4 hw4 hv4 m5 aO5⟩
end Go.Proofs.Ytepfokoepibkcaa
