/-
  live says yes.
-/
import Derived.Test.YthghblgbjgghcaaEz
namespace Go.Proofs.Ythghblgbjgghcaa
open Go.RowKit D Go.Sort Go.Lib
theorem nI_l0 (k : Nat) : nI (l0 k) = 3 := rfl
theorem rk_l0 (k : Nat) : RkS (RA (l0 k)) 0 0 ∧ RkS (RA (l0 k)) 1 2 ∧ RkS (RA (l0 k)) 2 1 := by
  rw [RA_l0]; exact ⟨⟨4, by decide⟩, ⟨4, by decide⟩, ⟨4, by decide⟩⟩
theorem no_l0 (k : Nat) : ¬ ∃ n, n < nI (l0 k) ∧ RkN (RA (l0 k)) n := fun ⟨n, hn, h⟩ => by
  obtain ⟨h0, h1, h2⟩ := rk_l0 k
  rw [nI_l0] at hn
  rcases n with _ | _ | _ | n
  · exact h0.no h
  · exact h1.no h
  · exact h2.no h
  · omega
theorem rs_l0 {k : Nat} {rs : List Nat} (hl : rs.length = nI (l0 k)) (h : ∀ n r, rs[n]? = some r → RkS (RA (l0 k)) n r) : rs = [0, 2, 1] := by
  obtain ⟨h0, h1, h2⟩ := rk_l0 k
  rw [nI_l0] at hl
  match rs, hl with
  | [a, b, c], _ =>
    rw [(h 0 a rfl).one h0, (h 1 b rfl).one h1, (h 2 c rfl).one h2]
theorem L_l0 {L : List Nat} (hp : L.Perm (List.range [0, 2, 1].length)) (hw : L.Pairwise (fun a b => cfO [0, 2, 1] a b < 0)) : L = [0, 2, 1] := by
  have hl : L.length = 3 := hp.length_eq
  have hb : ∀ x ∈ L, x < 3 := fun x hx => List.mem_range.1 (hp.mem_iff.1 hx)
  have key : ∀ a, a < 3 → ∀ b, b < 3 → ∀ c, c < 3 → cfO [0, 2, 1] a b < 0 → cfO [0, 2, 1] a c < 0 → cfO [0, 2, 1] b c < 0 → [a, b, c] = [0, 2, 1] := by
    intro a ha b hb c hc
    have ea : a = 0 ∨ a = 1 ∨ a = 2 := by omega
    have eb : b = 0 ∨ b = 1 ∨ b = 2 := by omega
    have ec : c = 0 ∨ c = 1 ∨ c = 2 := by omega
    rcases ea with rfl | rfl | rfl <;> rcases eb with rfl | rfl | rfl <;> rcases ec with rfl | rfl | rfl <;> decide
  match L, hl with
  | [a, b, c], _ =>
    simp only [List.pairwise_cons, List.mem_cons, List.not_mem_nil, or_false, forall_eq_or_imp, forall_eq] at hw
    exact key a (hb a (by simp)) b (hb b (by simp)) c (hb c (by simp)) hw.1.1 hw.1.2 hw.2.1
theorem us_l0 (k : Nat) : ris (nI (l0 k)) (fun u => decide (2 ∈ row (RA (l0 k)) u)) = [1] := by rw [RA_l0]; rfl
theorem ls_l0 {w : World} {k : Nat} (h : At w k ([itA, itB, itC].flatMap It.cells)) : ∀ x ∈ l0 k, LS5 w x := fun x hx => by
  rcases List.mem_singleton.1 hx with rfl
  refine ⟨SL.of_at (cells := It.cells) (fun _ => rfl) (by show 3 ≤ maxLen; unfold maxLen; omega) h, fun o ho => ?_⟩
  have : ∀ k nm, nm.size ≤ 1 → LEx w (exN k nm) := fun k nm hn => .mk (by unfold maxLen; exact Nat.le_trans hn (by decide)) (Nat.zero_le _) ⟨Nat.zero_le _, fun i o e => by cases e⟩ (fun o ho => by cases ho)
  simp only [List.mem_cons, List.not_mem_nil, or_false] at ho
  rcases ho with rfl | rfl | rfl
  · exact this _ _ (by decide)
  · exact this _ _ (by decide)
  · exact this _ _ (by decide)
theorem nd_l0 (k : Nat) : ∀ y ∈ l0 k, ∀ z ∈ y.items, nd z.ex ≤ 3000000 := fun y hy z hz => by
  rcases List.mem_singleton.1 hy with rfl
  simp only [List.mem_cons, List.not_mem_nil, or_false] at hz
  rcases hz with rfl | rfl | rfl <;> exact Nat.le_trans (Nat.le_of_eq (nd_exN _ _)) (by decide)
theorem live_n (w : World) : Calls Try.prog 9 #[] w fun e w' => e = .returned (.bool true) ∧ Mo w w' := by
  refine w_enter 49 Try.func9 Try.ntmps9 rfl rfl ?_
  have M : Mo w w := Mo.refl _
  refine w_seq ?_
  refine w_reg ?_
  refine wl_mv (.const (.bool false)) (.bool false) (fun _ => rfl) rfl rfl ?_
  refine w_nil ?_
  refine xn_then ?_
  refine w_seq ?_
  refine w_reg ?_
  refine wl_mv (.func 32) (.func (.func 32) #[] #[]) (fun _ => rfl) rfl rfl ?_
  refine w_nil ?_
  refine xn_then ?_
  refine w_seq ?_
  refine w_reg ?_
  refine wl_build 69 [(0, (.const (.string ⟨#[97]⟩))), (1, (.const (.int .i64 (1))))] [(0, .string ⟨#[97]⟩), (1, .int .i64 (1))] (.agg #[.string ⟨#[97]⟩, .int .i64 (1), .int .i64 0, .int .i64 0, .bool false, .int .i64 0, .int .i64 0, .int .i64 0, .string ⟨#[]⟩, .string ⟨#[]⟩, .int .i64 0, .bool false, .int .u64 0, .int .u64 0, .int .u64 0, .int .u64 0, .int .i64 0, .bool false, .string ⟨#[]⟩, .int .i64 0, .int .i64 0, .int .i64 0, .slice none 0 0]) rfl rfl (by kernel_rfl) rfl ?_
  refine wl_mv (.tmp 1) (.func (.func 32) #[] #[]) (fun _ => rfl) rfl rfl ?_
  refine wl_callv 32 (.tmp 8) #[] #[] [(.const (.string ⟨#[99]⟩))] _ [.string ⟨#[99]⟩] [.string ⟨#[99]⟩] rfl rfl rfl rfl (fun _ _ => by kernel_rfl) (lx_n ⟨#[99]⟩ _) rfl ?_
  rintro e9 u1 ⟨rfl, hq⟩
  refine ⟨_, rfl, ?_⟩
  replace M := M.trans hq
  clear hq
  refine wl_build 69 [(0, (.const (.string ⟨#[98]⟩))), (1, (.const (.int .i64 (2)))), (5, (.tmp 9))] [(0, .string ⟨#[98]⟩), (1, .int .i64 (2)), (5, .agg #[.int .i64 2, .int .i64 0, .string ⟨#[99]⟩, .string ⟨#[]⟩, .int .i64 0, .bool false, .int .u64 0, .int .u64 0, .int .u64 0, .int .u64 0, .int .i64 0, .bool false, .string ⟨#[]⟩, .int .i64 0, .int .i64 0, .int .i64 0, .slice none 0 0])] (.agg #[.string ⟨#[98]⟩, .int .i64 (2), .int .i64 0, .int .i64 0, .bool false, .int .i64 0, .int .i64 2, .int .i64 0, .string ⟨#[99]⟩, .string ⟨#[]⟩, .int .i64 0, .bool false, .int .u64 0, .int .u64 0, .int .u64 0, .int .u64 0, .int .i64 0, .bool false, .string ⟨#[]⟩, .int .i64 0, .int .i64 0, .int .i64 0, .slice none 0 0]) rfl rfl (by kernel_rfl) rfl ?_
  refine wl_mv (.tmp 1) (.func (.func 32) #[] #[]) (fun _ => rfl) rfl rfl ?_
  refine wl_callv 32 (.tmp 11) #[] #[] [(.const (.string ⟨#[97]⟩))] _ [.string ⟨#[97]⟩] [.string ⟨#[97]⟩] rfl rfl rfl rfl (fun _ _ => by kernel_rfl) (lx_n ⟨#[97]⟩ _) rfl ?_
  rintro e9 u2 ⟨rfl, hq⟩
  refine ⟨_, rfl, ?_⟩
  replace M := M.trans hq
  clear hq
  refine wl_build 69 [(0, (.const (.string ⟨#[99]⟩))), (1, (.const (.int .i64 (2)))), (5, (.tmp 12))] [(0, .string ⟨#[99]⟩), (1, .int .i64 (2)), (5, .agg #[.int .i64 2, .int .i64 0, .string ⟨#[97]⟩, .string ⟨#[]⟩, .int .i64 0, .bool false, .int .u64 0, .int .u64 0, .int .u64 0, .int .u64 0, .int .i64 0, .bool false, .string ⟨#[]⟩, .int .i64 0, .int .i64 0, .int .i64 0, .slice none 0 0])] (.agg #[.string ⟨#[99]⟩, .int .i64 (2), .int .i64 0, .int .i64 0, .bool false, .int .i64 0, .int .i64 2, .int .i64 0, .string ⟨#[97]⟩, .string ⟨#[]⟩, .int .i64 0, .bool false, .int .u64 0, .int .u64 0, .int .u64 0, .int .u64 0, .int .i64 0, .bool false, .string ⟨#[]⟩, .int .i64 0, .int .i64 0, .int .i64 0, .slice none 0 0]) rfl rfl (by kernel_rfl) rfl ?_
  refine wl_bs 39 3 [(0, (.tmp 7)), (1, (.tmp 10)), (2, (.tmp 13))] [(0, .agg #[.string ⟨#[97]⟩, .int .i64 (1), .int .i64 0, .int .i64 0, .bool false, .int .i64 0, .int .i64 0, .int .i64 0, .string ⟨#[]⟩, .string ⟨#[]⟩, .int .i64 0, .bool false, .int .u64 0, .int .u64 0, .int .u64 0, .int .u64 0, .int .i64 0, .bool false, .string ⟨#[]⟩, .int .i64 0, .int .i64 0, .int .i64 0, .slice none 0 0]), (1, .agg #[.string ⟨#[98]⟩, .int .i64 (2), .int .i64 0, .int .i64 0, .bool false, .int .i64 0, .int .i64 2, .int .i64 0, .string ⟨#[99]⟩, .string ⟨#[]⟩, .int .i64 0, .bool false, .int .u64 0, .int .u64 0, .int .u64 0, .int .u64 0, .int .i64 0, .bool false, .string ⟨#[]⟩, .int .i64 0, .int .i64 0, .int .i64 0, .slice none 0 0]), (2, .agg #[.string ⟨#[99]⟩, .int .i64 (2), .int .i64 0, .int .i64 0, .bool false, .int .i64 0, .int .i64 2, .int .i64 0, .string ⟨#[97]⟩, .string ⟨#[]⟩, .int .i64 0, .bool false, .int .u64 0, .int .u64 0, .int .u64 0, .int .u64 0, .int .i64 0, .bool false, .string ⟨#[]⟩, .int .i64 0, .int .i64 0, .int .i64 0, .slice none 0 0])] #[.string ⟨#[97]⟩, .int .i64 (1), .int .i64 0, .int .i64 0, .bool false, .int .i64 0, .int .i64 0, .int .i64 0, .string ⟨#[]⟩, .string ⟨#[]⟩, .int .i64 0, .bool false, .int .u64 0, .int .u64 0, .int .u64 0, .int .u64 0, .int .i64 0, .bool false, .string ⟨#[]⟩, .int .i64 0, .int .i64 0, .int .i64 0, .slice none 0 0, .string ⟨#[98]⟩, .int .i64 (2), .int .i64 0, .int .i64 0, .bool false, .int .i64 0, .int .i64 2, .int .i64 0, .string ⟨#[99]⟩, .string ⟨#[]⟩, .int .i64 0, .bool false, .int .u64 0, .int .u64 0, .int .u64 0, .int .u64 0, .int .i64 0, .bool false, .string ⟨#[]⟩, .int .i64 0, .int .i64 0, .int .i64 0, .slice none 0 0, .string ⟨#[99]⟩, .int .i64 (2), .int .i64 0, .int .i64 0, .bool false, .int .i64 0, .int .i64 2, .int .i64 0, .string ⟨#[97]⟩, .string ⟨#[]⟩, .int .i64 0, .bool false, .int .u64 0, .int .u64 0, .int .u64 0, .int .u64 0, .int .i64 0, .bool false, .string ⟨#[]⟩, .int .i64 0, .int .i64 0, .int .i64 0, .slice none 0 0] 69 rfl rfl (fun _ => by kernel_rfl) rfl ?_
  intro k1 u3 hk hz hq Q1
  have N_k1 : w.heap.size ≤ k1 := by have := M.size; omega
  replace M := M.trans hq
  clear hk hz hq
  refine wl_build 55 [(0, (.const (.int .i64 (-1)))), (1, (.const (.int .i64 (1)))), (4, (.tmp 14))] [(0, .int .i64 (-1)), (1, .int .i64 (1)), (4, .slice (some ⟨k1, 0, none⟩) 3 3)] (.agg #[.int .i64 (-1), .int .i64 (1), .string ⟨#[]⟩, .int .i64 0, .slice (some ⟨k1, 0, none⟩) 3 3]) rfl rfl (by kernel_rfl) rfl ?_
  refine wl_bs 22 1 [(0, (.tmp 15))] [(0, .agg #[.int .i64 (-1), .int .i64 (1), .string ⟨#[]⟩, .int .i64 0, .slice (some ⟨k1, 0, none⟩) 3 3])] #[.int .i64 (-1), .int .i64 (1), .string ⟨#[]⟩, .int .i64 0, .slice (some ⟨k1, 0, none⟩) 3 3] 55 rfl rfl (fun _ => by kernel_rfl) rfl ?_
  intro k2 u4 hk hz hq Q2
  have ne_k1_k2 : k1 ≠ k2 := by have := Q1.lt; omega
  have N_k2 : w.heap.size ≤ k2 := by have := M.size; omega
  replace Q1 := Q1.mo hq
  replace M := M.trans hq
  clear hk hz hq
  refine wl_mv (.tmp 16) (.slice (some ⟨k2, 0, none⟩) 1 1) (fun _ => rfl) rfl rfl ?_
  refine w_nil ?_
  refine xn_then ?_
  refine w_seq ?_
  have hL : SL u4 5 S5.cells (some ⟨k2, 0, none⟩) (l0 k1) := SL.of_at (cells := S5.cells) (fun _ => rfl) (by show 1 ≤ maxLen; unfold maxLen; omega) Q2
  have hLx := ls_l0 Q1
  have hnd : ∀ y ∈ l0 k1, ∀ z ∈ y.items, nd z.ex ≤ 3000000 := nd_l0 k1
  have M0 := M
  clear M
  have M : Mo u4 u4 := Mo.refl _
  refine w_reg ?_
  refine wl_mv (.tmp 2) (.slice (some ⟨k2, 0, none⟩) 1 1) (fun _ => rfl) rfl rfl ?_
  refine wl_callx 21 [(.tmp 18)] _ [.slice (some ⟨k2, 0, none⟩) 1 1] rfl rfl (fun _ _ => by kernel_rfl) ((ranks_ok (l := l0 k1) (cl := 1) (hL.kp M.kp) (fun x hx => (hLx x hx).kp M.kp) (by show 1 < 400000; omega) (by rw [nI_l0]; omega) hnd (no_l0 _))) rfl ?_
  rintro e9 u5 ⟨kr, rs, hrl, hrs, rfl, hOr, hkr, hq⟩
  refine ⟨_, rfl, ?_⟩
  have hr0 := rs_l0 hrl hrs
  subst hr0
  clear hrs hrl hkr
  replace Q1 := Q1.mo hq
  replace Q2 := Q2.mo hq
  replace M := M.trans hq
  clear hq
  refine wl_mv (.tmp 19) (.tuple #[.slice (some ⟨kr, 0, none⟩) 3 3, .int .i64 (0)]) (fun _ => rfl) rfl rfl ?_
  refine wl_un (fun v => Instr.extract v 0) (.tmp 17) (.tuple #[.slice (some ⟨kr, 0, none⟩) 3 3, .int .i64 (0)]) (.slice (some ⟨kr, 0, none⟩) 3 3) (fun _ => rfl) rfl (by kernel_rfl) rfl ?_
  refine wl_un (fun v => Instr.extract v 1) (.tmp 17) (.tuple #[.slice (some ⟨kr, 0, none⟩) 3 3, .int .i64 (0)]) (.int .i64 (0)) (fun _ => rfl) rfl (by kernel_rfl) rfl ?_
  refine wl_mv (.tmp 20) (.slice (some ⟨kr, 0, none⟩) 3 3) (fun _ => rfl) rfl rfl ?_
  refine wl_mv (.tmp 21) (.int .i64 (0)) (fun _ => rfl) rfl rfl ?_
  refine w_nil ?_
  refine xn_then ?_
  refine w_seq ?_
  refine w_reg ?_
  refine wl_mv (.tmp 2) (.slice (some ⟨k2, 0, none⟩) 1 1) (fun _ => rfl) rfl rfl ?_
  refine wl_callx 23 [(.tmp 23)] _ [.slice (some ⟨k2, 0, none⟩) 1 1] rfl rfl (fun _ _ => by kernel_rfl) ((order_ok (l := l0 k1) (cl := 1) (hL.kp M.kp) (fun x hx => (hLx x hx).kp M.kp) (by show 1 < 400000; omega) (by rw [nI_l0]; omega) hnd (no_l0 _))) rfl ?_
  rintro e9 u6 ⟨ko, rs, L, hrl, hrs, hp, hpw, rfl, hOo, hko, hq⟩
  refine ⟨_, rfl, ?_⟩
  have hr0 := rs_l0 hrl hrs
  subst hr0
  have hL0 := L_l0 hp hpw
  subst hL0
  clear hrs hrl hko hp hpw
  replace Q1 := Q1.mo hq
  replace Q2 := Q2.mo hq
  replace hOr := hOr.mo hq
  replace M := M.trans hq
  clear hq
  refine wl_mv (.tmp 24) (.tuple #[.slice (some ⟨ko, 0, none⟩) 3 3, .int .i64 (0)]) (fun _ => rfl) rfl rfl ?_
  refine wl_un (fun v => Instr.extract v 0) (.tmp 22) (.tuple #[.slice (some ⟨ko, 0, none⟩) 3 3, .int .i64 (0)]) (.slice (some ⟨ko, 0, none⟩) 3 3) (fun _ => rfl) rfl (by kernel_rfl) rfl ?_
  refine wl_un (fun v => Instr.extract v 1) (.tmp 22) (.tuple #[.slice (some ⟨ko, 0, none⟩) 3 3, .int .i64 (0)]) (.int .i64 (0)) (fun _ => rfl) rfl (by kernel_rfl) rfl ?_
  refine wl_mv (.tmp 25) (.slice (some ⟨ko, 0, none⟩) 3 3) (fun _ => rfl) rfl rfl ?_
  refine wl_mv (.tmp 26) (.int .i64 (0)) (fun _ => rfl) rfl rfl ?_
  refine w_nil ?_
  refine xn_then ?_
  refine w_seq ?_
  refine w_reg ?_
  refine wl_mv (.tmp 4) (.int .i64 (0)) (fun _ => rfl) rfl rfl ?_
  refine wl_bin (fun x y => do eqGuard .eql 35 (.tmp 27) (.const (.int .i64 (0))) x y; binOp .eql 35 x y) (.tmp 27) (.const (.int .i64 (0))) (.int .i64 (0)) (.int .i64 (0)) (.bool true) (fun _ => rfl) rfl rfl (eq34 (r := true) rfl _ _ _) rfl ?_
  refine wl_mv (.tmp 28) (.bool true) (fun _ => rfl) rfl rfl ?_
  refine wl_mv (.tmp 6) (.int .i64 (0)) (fun _ => rfl) rfl rfl ?_
  refine wl_bin (fun x y => do eqGuard .eql 35 (.tmp 30) (.const (.int .i64 (0))) x y; binOp .eql 35 x y) (.tmp 30) (.const (.int .i64 (0))) (.int .i64 (0)) (.int .i64 (0)) (.bool true) (fun _ => rfl) rfl rfl (eq34 (r := true) rfl _ _ _) rfl ?_
  refine wl_pick (.tmp 29) (.tmp 31) (.const (.bool false)) true (.bool true) (fun _ => rfl) rfl rfl rfl ?_
  refine wl_mv (.tmp 32) (.bool true) (fun _ => rfl) rfl rfl ?_
  refine wl_mv (.tmp 3) (.slice (some ⟨kr, 0, none⟩) 3 3) (fun _ => rfl) rfl rfl ?_
  refine wl_bs 32 3 [(0, (.const (.int .i64 (0)))), (1, (.const (.int .i64 (2)))), (2, (.const (.int .i64 (1))))] [(0, .int .i64 (0)), (1, .int .i64 (2)), (2, .int .i64 (1))] #[.int .i64 (0), .int .i64 (2), .int .i64 (1)] 3 rfl rfl (fun _ => by kernel_rfl) rfl ?_
  intro k3 u7 hk hz hq Q3
  have ne_k1_k3 : k1 ≠ k3 := by have := Q1.lt; omega
  have ne_k2_k3 : k2 ≠ k3 := by have := Q2.lt; omega
  have N_k3 : u4.heap.size ≤ k3 := by have := M.size; omega
  replace Q1 := Q1.mo hq
  replace Q2 := Q2.mo hq
  replace hOr := hOr.mo hq
  replace hOo := hOo.mo hq
  replace M := M.trans hq
  clear hk hz hq
  refine wl_callx 14 [(.tmp 34), (.tmp 35)] _ [.slice (some ⟨kr, 0, none⟩) 3 3, .slice (some ⟨k3, 0, none⟩) 3 3] rfl rfl (fun _ _ => by kernel_rfl) ((equal_n (L1 := [0, 2, 1]) (L2 := [0, 2, 1]) (Li.ob hOr (by unfold maxLen; decide)).sl (SL.of_at (cells := ic) (fun _ => rfl) (by unfold maxLen; decide) Q3) _ _)) rfl ?_
  rintro e9 u8 ⟨rfl, hq⟩
  refine ⟨_, rfl, ?_⟩
  replace Q1 := Q1.mo hq
  replace Q2 := Q2.mo hq
  replace Q3 := Q3.mo hq
  replace hOr := hOr.mo hq
  replace hOo := hOo.mo hq
  replace M := M.trans hq
  clear hq
  refine wl_pick (.tmp 33) (.tmp 36) (.const (.bool false)) true (.bool true) (fun _ => rfl) rfl rfl rfl ?_
  refine wl_mv (.tmp 37) (.bool true) (fun _ => rfl) rfl rfl ?_
  refine wl_mv (.tmp 5) (.slice (some ⟨ko, 0, none⟩) 3 3) (fun _ => rfl) rfl rfl ?_
  refine wl_bs 32 3 [(0, (.const (.int .i64 (0)))), (1, (.const (.int .i64 (2)))), (2, (.const (.int .i64 (1))))] [(0, .int .i64 (0)), (1, .int .i64 (2)), (2, .int .i64 (1))] #[.int .i64 (0), .int .i64 (2), .int .i64 (1)] 3 rfl rfl (fun _ => by kernel_rfl) rfl ?_
  intro k4 u9 hk hz hq Q4
  have ne_k1_k4 : k1 ≠ k4 := by have := Q1.lt; omega
  have ne_k2_k4 : k2 ≠ k4 := by have := Q2.lt; omega
  have ne_k3_k4 : k3 ≠ k4 := by have := Q3.lt; omega
  have N_k4 : u4.heap.size ≤ k4 := by have := M.size; omega
  replace Q1 := Q1.mo hq
  replace Q2 := Q2.mo hq
  replace Q3 := Q3.mo hq
  replace hOr := hOr.mo hq
  replace hOo := hOo.mo hq
  replace M := M.trans hq
  clear hk hz hq
  refine wl_callx 14 [(.tmp 39), (.tmp 40)] _ [.slice (some ⟨ko, 0, none⟩) 3 3, .slice (some ⟨k4, 0, none⟩) 3 3] rfl rfl (fun _ _ => by kernel_rfl) ((equal_n (L1 := [0, 2, 1]) (L2 := [0, 2, 1]) (Li.ob hOo (by unfold maxLen; decide)).sl (SL.of_at (cells := ic) (fun _ => rfl) (by unfold maxLen; decide) Q4) _ _)) rfl ?_
  rintro e9 u10 ⟨rfl, hq⟩
  refine ⟨_, rfl, ?_⟩
  replace Q1 := Q1.mo hq
  replace Q2 := Q2.mo hq
  replace Q3 := Q3.mo hq
  replace Q4 := Q4.mo hq
  replace hOr := hOr.mo hq
  replace hOo := hOo.mo hq
  replace M := M.trans hq
  clear hq
  refine wl_pick (.tmp 38) (.tmp 41) (.const (.bool false)) true (.bool true) (fun _ => rfl) rfl rfl rfl ?_
  refine wl_mv (.tmp 42) (.bool true) (fun _ => rfl) rfl rfl ?_
  refine wl_mv (.tmp 2) (.slice (some ⟨k2, 0, none⟩) 1 1) (fun _ => rfl) rfl rfl ?_
  refine wl_callx 17 [(.tmp 44), (.const (.int .i64 (2)))] _ [.slice (some ⟨k2, 0, none⟩) 1 1, .int .i64 (2)] rfl rfl (fun _ _ => by kernel_rfl) ((users_nat (l := l0 k1) (cl := 1) (hL.kp M.kp) (fun x hx => (hLx x hx).kp M.kp) (by show 1 < 400000; omega) (by rw [nI_l0]; omega) hnd 2)) rfl ?_
  rintro e9 u11 ⟨pu, cu, rfl, hOu, hq⟩
  refine ⟨_, rfl, ?_⟩
  rw [us_l0] at hOu ⊢
  replace Q1 := Q1.mo hq
  replace Q2 := Q2.mo hq
  replace Q3 := Q3.mo hq
  replace Q4 := Q4.mo hq
  replace hOr := hOr.mo hq
  replace hOo := hOo.mo hq
  replace M := M.trans hq
  clear hq
  refine wl_bs 32 1 [(0, (.const (.int .i64 (1))))] [(0, .int .i64 (1))] #[.int .i64 (1)] 3 rfl rfl (fun _ => by kernel_rfl) rfl ?_
  intro k5 u12 hk hz hq Q5
  have ne_k1_k5 : k1 ≠ k5 := by have := Q1.lt; omega
  have ne_k2_k5 : k2 ≠ k5 := by have := Q2.lt; omega
  have ne_k3_k5 : k3 ≠ k5 := by have := Q3.lt; omega
  have ne_k4_k5 : k4 ≠ k5 := by have := Q4.lt; omega
  have N_k5 : u4.heap.size ≤ k5 := by have := M.size; omega
  replace Q1 := Q1.mo hq
  replace Q2 := Q2.mo hq
  replace Q3 := Q3.mo hq
  replace Q4 := Q4.mo hq
  replace hOr := hOr.mo hq
  replace hOo := hOo.mo hq
  replace hOu := own_mo hOu hq
  replace M := M.trans hq
  clear hk hz hq
  refine wl_callx 14 [(.tmp 45), (.tmp 46)] _ [.slice pu [1].length cu, .slice (some ⟨k5, 0, none⟩) 1 1] rfl rfl (fun _ _ => by kernel_rfl) ((equal_n (L1 := [1]) (L2 := [1]) (Li.own hOu (by unfold maxLen; decide)).sl (SL.of_at (cells := ic) (fun _ => rfl) (by unfold maxLen; decide) Q5) _ _)) rfl ?_
  rintro e9 u13 ⟨rfl, hq⟩
  refine ⟨_, rfl, ?_⟩
  replace Q1 := Q1.mo hq
  replace Q2 := Q2.mo hq
  replace Q3 := Q3.mo hq
  replace Q4 := Q4.mo hq
  replace Q5 := Q5.mo hq
  replace hOr := hOr.mo hq
  replace hOo := hOo.mo hq
  replace hOu := own_mo hOu hq
  replace M := M.trans hq
  clear hq
  refine wl_pick (.tmp 43) (.tmp 47) (.const (.bool false)) true (.bool true) (fun _ => rfl) rfl rfl rfl ?_
  refine wl_mv (.tmp 48) (.bool true) (fun _ => rfl) rfl rfl ?_
  refine w_nil ?_
  refine xn_then ?_
  refine w_ret ?_
  exact w_ret1 _ (.bool true) rfl rfl ⟨rfl, M0.trans M⟩
end Go.Proofs.Ythghblgbjgghcaa
