/-
  Ranks by rounds.
-/
import Derived.Test.YthghblgbjgghcaaRdd
namespace Go.Proofs.Ythghblgbjgghcaa
open Go.RowKit D
theorem ranked45_n {w : World} {l : List S5} {pl : Option Addr} {cl : Nat} (hL : SL w 5 S5.cells pl l) (hz : l.length < 400000) (hzI : nI l < 400000) (h16 : ∀ {u : World} {m : Nat}, Mo w u → m < nI l → Calls Try.prog 16 #[.slice pl l.length cl, .int .i64 ((m : Nat) : Int)] u fun e w' => ∃ (pa : Option Addr) (cap : Nat), e = .returned (.slice pa (row (RA l) m).length cap) ∧ Li w' pa (row (RA l) m) ∧ Mo u w') : Calls Try.prog 45 #[.slice pl l.length cl] w fun e w' => ∃ (k : Nat) (zs : List Int), e = .returned (.slice (some ⟨k, 0, none⟩) zs.length zs.length) ∧ zs.length = nI l ∧ Ob w' k 3 (zs.map ei) ∧ w.heap.size ≤ k ∧ (∀ n v, zs[n]? = some v → Rkv (RA l) n v) ∧ Mo w w' := by
  refine w_enter 82 Try.func45 Try.ntmps45 rfl rfl ?_
  have M : Mo w w := Mo.refl _
  refine w_seq ?_
  refine w_reg ?_
  refine wl_mv (.const (.slice none 0 0)) (.slice none 0 0) (fun _ => rfl) rfl rfl ?_
  refine w_nil ?_
  refine xn_then ?_
  refine w_seq ?_
  refine w_reg ?_
  refine wl_mv (.tmp 0) (.slice pl l.length cl) (fun _ => rfl) rfl rfl ?_
  refine wl_callx 40 [(.tmp 10)] _ [.slice pl l.length cl] rfl rfl (fun _ _ => by kernel_rfl) ((all40_n (hL.kp M.kp) hz hzI (fun m q => h16 (M.trans m) q))) rfl ?_
  rintro e9 u1 ⟨V, pv, cv, rfl, hOV, hli, hV, hq⟩
  refine ⟨_, rfl, ?_⟩
  have M0 := M.trans hq
  have hN0 := M0.size
  have hVl : V.length = nI l := by have := congrArg List.length hV; rw [RA_len] at this; simpa using this
  have hsl := own_sl (cells := zc) (fun _ => rfl) (by unfold maxLen; omega) hOV
  have hVr := RA_rowlen hV
  have hRl := RA_len l
  clear hq hOV
  clear M
  have M : Mo u1 u1 := Mo.refl _
  refine wl_mv (.tmp 11) (.slice pv V.length cv) (fun _ => rfl) rfl rfl ?_
  refine w_nil ?_
  refine xn_then ?_
  refine w_seq ?_
  refine w_reg ?_
  refine wl_mv (.tmp 3) (.slice pv V.length cv) (fun _ => rfl) rfl rfl ?_
  refine wl_val (.int .i64 ((V.length : Nat) : Int)) (len79 _ _ _ _ _ (by exact rfl) _ _ _ _ _ _) rfl ?_
  refine wl_makeS 32 3 (.tmp 13) (.tmp 13) (V.length) (.int .i64 0) 8 Try.underlying32 inf3 rfl (by omega) (by omega) rfl rfl rfl rfl ?_
  intro k1 u2 hk hz hq O1
  have Q1 := O1.at
  have N_k1 : u1.heap.size ≤ k1 := by have := M.size; omega
  replace M := M.trans hq
  clear hk hz hq
  refine wl_mv (.tmp 14) (.slice (some ⟨k1, 0, none⟩) V.length V.length) (fun _ => rfl) rfl rfl ?_
  refine w_nil ?_
  refine xn_then ?_
  refine w_seq ?_
  refine w_seq ?_
  refine w_reg ?_
  refine wl_mv (.const (.int .i64 (0))) (.int .i64 (0)) (fun _ => rfl) rfl rfl ?_
  refine w_nil ?_
  refine xn_then ?_
  refine w_block ?_
  refine w_loop (fun m lf w1 => ∃ i : Nat, m = V.length - i ∧ look lf 3 = .slice pv V.length cv ∧ look lf 4 = .slice (some ⟨k1, 0, none⟩) V.length V.length ∧ look lf 5 = .int .i64 ((i : Nat) : Int) ∧ (i ≤ V.length) ∧ (Ob w1 k1 3 ((List.range i).map (fun _ => .int .i64 (-1)) ++ List.replicate (V.length - i) (.int .i64 0))) ∧ (Mo u1 w1)) _ ⟨0, rfl, rfl, rfl, rfl, Nat.zero_le _, (by simpa using O1), M⟩ ?_
  clear O1 Q1 M
  rintro m lf40 wl40 ⟨i, rfl, e40_3, e40_4, e40_5, hi, O1, M⟩
  cases hd : decide (i < V.length) with
  | true =>
    have hil := of_decide_eq_true hd
    have Q1 := O1.at
    refine w_seq ?_
    refine w_seq ?_
    refine w_reg ?_
    refine wl_mv (.tmp 5) (.int .i64 ((i : Nat) : Int)) (fun _ => rfl) e40_5 rfl ?_
    refine wl_mv (.tmp 4) (.slice (some ⟨k1, 0, none⟩) V.length V.length) (fun _ => rfl) e40_4 rfl ?_
    refine wl_val (.int .i64 ((V.length : Nat) : Int)) (len32 _ _ _ _ _ (by exact rfl) _ _ _ _ _ _) rfl ?_
    refine wl_bin (fun x y => do eqGuard .lss 3 (.tmp 15) (.tmp 17) x y; binOp .lss 3 x y) (.tmp 15) (.tmp 17) (.int .i64 ((i : Nat) : Int)) (.int .i64 ((V.length : Nat) : Int)) (.bool true) (fun _ => rfl) rfl rfl (ltN hd _ _ _) rfl ?_
    refine w_nil ?_
    refine xn_then ?_
    refine w_condT rfl ?_
    refine w_skip ?_
    refine xn_then ?_
    refine w_seq ?_
    refine w_block ?_
    refine w_reg ?_
    refine wl_mv (.tmp 4) (.slice (some ⟨k1, 0, none⟩) V.length V.length) (fun _ => rfl) e40_4 rfl ?_
    refine wl_mv (.tmp 5) (.int .i64 ((i : Nat) : Int)) (fun _ => rfl) e40_5 rfl ?_
    refine wl_bin (fun x y => Instr.indexAt 32 x y) (.tmp 21) (.tmp 22) (.slice (some ⟨k1, 0, none⟩) V.length V.length) (.int .i64 ((i : Nat) : Int)) (pt k1 (0 + i * 1)) (fun _ => rfl) rfl rfl (ix32 (i := i) rfl hil _) rfl ?_
    refine wl_sti 3 (.tmp 23) (.const (.int .i64 (-1))) k1 (0 + i * 1) (.int .i64 (-1)) 3 _ O1 rfl rfl rfl rfl (by simp; omega) sz3 rfl rfl rfl ?_
    intro u41 hK9 hO9
    replace M := hK9.mo M (fun k e => e ▸ N_k1)
    clear Q1 O1
    have O1 : Ob u41 k1 3 ((List.range (i + 1)).map (fun _ => .int .i64 (-1)) ++ List.replicate (V.length - (i + 1)) (.int .i64 0)) := by rw [set_rep (f := fun _ => .int .i64 (-1)) (List.range i) i hil (by simp), ← List.range_succ] at hO9; exact hO9
    refine w_nil ?_
    refine xn_blk ?_
    refine xn_then ?_
    refine w_reg ?_
    refine wl_mv (.tmp 5) (.int .i64 ((i : Nat) : Int)) (fun _ => rfl) e40_5 rfl ?_
    refine wl_bin (fun x y => do eqGuard .add 3 (.tmp 19) (.const (.int .i64 (1))) x y; binOp .add 3 x y) (.tmp 19) (.const (.int .i64 (1))) (.int .i64 ((i : Nat) : Int)) (.int .i64 (1)) (.int .i64 ((i + 1 : Nat) : Int)) (fun _ => rfl) rfl rfl (add1r (k := i) (by omega) _ _ _) rfl ?_
    refine wl_mv (.tmp 20) (.int .i64 ((i + 1 : Nat) : Int)) (fun _ => rfl) rfl rfl ?_
    refine w_nil ?_
    exact xn_loop (V.length - (i + 1)) (by omega) ⟨i + 1, rfl, e40_3, e40_4, rfl, by omega, O1, M⟩
  | false =>
    have hie : i = V.length := by have := of_decide_eq_false hd; omega
    rw [hie, Nat.sub_self, List.replicate_zero, List.append_nil, List.map_const', List.length_range] at O1
    refine w_seq ?_
    refine w_seq ?_
    refine w_reg ?_
    refine wl_mv (.tmp 5) (.int .i64 ((i : Nat) : Int)) (fun _ => rfl) e40_5 rfl ?_
    refine wl_mv (.tmp 4) (.slice (some ⟨k1, 0, none⟩) V.length V.length) (fun _ => rfl) e40_4 rfl ?_
    refine wl_val (.int .i64 ((V.length : Nat) : Int)) (len32 _ _ _ _ _ (by exact rfl) _ _ _ _ _ _) rfl ?_
    refine wl_bin (fun x y => do eqGuard .lss 3 (.tmp 15) (.tmp 17) x y; binOp .lss 3 x y) (.tmp 15) (.tmp 17) (.int .i64 ((i : Nat) : Int)) (.int .i64 ((V.length : Nat) : Int)) (.bool false) (fun _ => rfl) rfl rfl (ltN hd _ _ _) rfl ?_
    refine w_nil ?_
    refine xn_then ?_
    refine w_condF rfl ?_
    refine w_exit ?_
    refine xx_then ?_
    refine xx_then ?_
    refine xx_blk ?_
    refine xn_then ?_
    refine w_seq ?_
    refine w_seq ?_
    refine w_reg ?_
    refine wl_mv (.const (.bool true)) (.bool true) (fun _ => rfl) rfl rfl ?_
    refine w_nil ?_
    refine xn_then ?_
    refine w_block ?_
    have O2 : Ob wl40 k1 3 ((List.replicate V.length (-1 : Int)).map ei) := by rw [List.map_replicate]; exact O1
    refine w_loop (fun m lf w1 => ∃ zs : List Int, ∃ b : Bool, m = 2 * Ng zs + (if b then 1 else 0) ∧ look lf 3 = .slice pv V.length cv ∧ look lf 4 = .slice (some ⟨k1, 0, none⟩) V.length V.length ∧ look lf 6 = .bool b ∧ (zs.length = V.length) ∧ (Ob w1 k1 3 (zs.map ei)) ∧ (Gr (RA l) zs) ∧ (b = false → ∀ n, zs[n]? = some (-1) → ∃ y ∈ row (RA l) n, zs[y]? = some (-1)) ∧ (Mo u1 w1)) _ ⟨List.replicate V.length (-1), true, rfl, e40_3, e40_4, rfl, by simp, O2, (fun n v h => by rw [List.getElem?_replicate] at h; split at h; (cases h; exact Or.inl rfl); cases h), (fun h => by cases h), M⟩ ?_
    clear O1 O2 M
    rintro m lf40 wl40 ⟨zs, b, rfl, e40_3, e40_4, e40_6, hzl, hO, hG, hF, M⟩
    cases b with
    | true =>
      refine w_seq ?_
      refine w_seq ?_
      refine w_reg ?_
      refine wl_mv (.tmp 6) (.bool true) (fun _ => rfl) e40_6 rfl ?_
      refine w_nil ?_
      refine xn_then ?_
      refine w_condT rfl ?_
      refine w_skip ?_
      refine xn_then ?_
      refine w_block ?_
      refine w_seq ?_
      refine w_reg ?_
      refine wl_mv (.const (.bool false)) (.bool false) (fun _ => rfl) rfl rfl ?_
      refine w_nil ?_
      refine xn_then ?_
      refine w_seq ?_
      refine w_reg ?_
      refine wl_mv (.const (.int .i64 (0))) (.int .i64 (0)) (fun _ => rfl) rfl rfl ?_
      refine w_nil ?_
      refine xn_then ?_
      refine w_block ?_
      refine w_loop (fun m lf w1 => ∃ a : Nat, ∃ zs2 : List Int, ∃ b2 : Bool, m = V.length - a ∧ look lf 3 = .slice pv V.length cv ∧ look lf 4 = .slice (some ⟨k1, 0, none⟩) V.length V.length ∧ look lf 6 = .bool b2 ∧ look lf 7 = .int .i64 ((a : Nat) : Int) ∧ (a ≤ V.length) ∧ (zs2.length = V.length) ∧ (Ob w1 k1 3 (zs2.map ei)) ∧ (Gr (RA l) zs2) ∧ (b2 = true → Ng zs2 < Ng zs) ∧ (b2 = false → zs2 = zs ∧ ∀ n, n < a → zs2[n]? = some (-1) → ∃ y ∈ row (RA l) n, zs2[y]? = some (-1)) ∧ (Ng zs2 ≤ Ng zs) ∧ (Mo u1 w1)) _ ⟨0, zs, false, rfl, e40_3, e40_4, rfl, rfl, Nat.zero_le _, hzl, hO, hG, (fun e => by cases e), (fun _ => ⟨rfl, fun n hn => by omega⟩), Nat.le_refl _, M⟩ ?_
      clear hO M
      rintro m lf70 wl70 ⟨a, zs2, b2, rfl, e70_3, e70_4, e70_6, e70_7, ha, hl2, hO, hG2, hB1, hB0, hNg, M⟩
      cases hda : decide (a < V.length) with
      | true =>
        have hal := of_decide_eq_true hda
        obtain ⟨x, hx⟩ := get_of_lt hal
        have hxm := List.mem_of_getElem? hx
        have hxL : row (RA l) a = x.L := row_eq (by rw [← hV, List.getElem?_map, hx]; rfl)
        have hxz := hVr x hxm
        have hLx := (hli x hxm).sl
        obtain ⟨va, hva⟩ := get_of_lt (show a < zs2.length by omega)
        obtain ⟨bp, op, hpp, hRp⟩ := D.SL.rw hsl hx
        refine w_seq ?_
        refine w_seq ?_
        refine w_reg ?_
        refine wl_mv (.tmp 7) (.int .i64 ((a : Nat) : Int)) (fun _ => rfl) e70_7 rfl ?_
        refine wl_mv (.tmp 3) (.slice pv V.length cv) (fun _ => rfl) e70_3 rfl ?_
        refine wl_val (.int .i64 ((V.length : Nat) : Int)) (len79 _ _ _ _ _ (by exact rfl) _ _ _ _ _ _) rfl ?_
        refine wl_bin (fun x y => do eqGuard .lss 3 (.tmp 25) (.tmp 27) x y; binOp .lss 3 x y) (.tmp 25) (.tmp 27) (.int .i64 ((a : Nat) : Int)) (.int .i64 ((V.length : Nat) : Int)) (.bool true) (fun _ => rfl) rfl rfl (ltN hda _ _ _) rfl ?_
        refine w_nil ?_
        refine xn_then ?_
        refine w_condT rfl ?_
        refine w_skip ?_
        refine xn_then ?_
        refine w_seq ?_
        refine w_block ?_
        refine w_seq ?_
        refine w_reg ?_
        refine wl_mv (.const (.int .i64 (0))) (.int .i64 (0)) (fun _ => rfl) rfl rfl ?_
        refine w_nil ?_
        refine xn_then ?_
        refine w_seq ?_
        refine w_seq ?_
        refine w_reg ?_
        refine wl_mv (.const (.int .i64 (0))) (.int .i64 (0)) (fun _ => rfl) rfl rfl ?_
        refine w_nil ?_
        refine xn_then ?_
        refine w_block ?_
        refine w_loop (fun m lf w1 => ∃ k : Nat, ∃ lv : Int, m = x.L.length - k ∧ look lf 3 = .slice pv V.length cv ∧ look lf 4 = .slice (some ⟨k1, 0, none⟩) V.length V.length ∧ look lf 6 = .bool b2 ∧ look lf 7 = .int .i64 ((a : Nat) : Int) ∧ look lf 8 = .int .i64 (lv) ∧ look lf 9 = .int .i64 ((k : Nat) : Int) ∧ (k ≤ x.L.length) ∧ (Ob w1 k1 3 (zs2.map ei)) ∧ ((lv = -1 ∧ ∃ y ∈ x.L, zs2[y]? = some (-1)) ∨ ∃ bb : Nat, lv = ((bb : Nat) : Int) ∧ Lst (RA l) (x.L.take k) bb) ∧ (Mo u1 w1)) _ ⟨0, 0, rfl, e70_3, e70_4, e70_6, e70_7, rfl, rfl, Nat.zero_le _, hO, Or.inr ⟨0, rfl, Lst.nil _⟩, M⟩ ?_
        clear hO M
        rintro m lf110 wl110 ⟨k, lv, rfl, e110_3, e110_4, e110_6, e110_7, e110_8, e110_9, hk, hO, hlv, M⟩
        rcases hlv with ⟨rfl, hex⟩ | ⟨bb, rfl, hls⟩
        · skip
          cases hdk : decide (k < x.L.length) with
          | true =>
            have QO := hO.at
            rcases hG2 a va hva with rfl | ⟨ra, hra, rfl⟩
            · skip
              have hcase : zs2[a]? = some (-1) → ∃ y ∈ row (RA l) a, zs2[y]? = some (-1) := fun _ => by rw [hxL]; exact hex
              refine w_seq ?_
              refine w_seq ?_
              refine w_reg ?_
              refine wl_mv (.tmp 9) (.int .i64 ((k : Nat) : Int)) (fun _ => rfl) e110_9 rfl ?_
              refine wl_mv (.tmp 3) (.slice pv V.length cv) (fun _ => rfl) e110_3 rfl ?_
              refine wl_mv (.tmp 7) (.int .i64 ((a : Nat) : Int)) (fun _ => rfl) e110_7 rfl ?_
              refine wl_bin (fun x y => Instr.indexAt 79 x y) (.tmp 32) (.tmp 33) (.slice pv V.length cv) (.int .i64 ((a : Nat) : Int)) (pt bp (op + a * 1)) (fun _ => rfl) rfl rfl (ix79 (i := a) hpp hal _) rfl ?_
              refine wl_load 32 (.tmp 34) (pt bp (op + a * 1)) (.slice x.pa x.L.length x.cap) rfl rfl (D.run_oneR (hRp.mo M).at' 32 0 rfl Try.underlying32 rfl) rfl ?_
              refine wl_val (.int .i64 ((x.L.length : Nat) : Int)) (len32 _ _ _ _ _ (by exact rfl) _ _ _ _ _ _) rfl ?_
              refine wl_bin (fun x y => do eqGuard .lss 3 (.tmp 31) (.tmp 36) x y; binOp .lss 3 x y) (.tmp 31) (.tmp 36) (.int .i64 ((k : Nat) : Int)) (.int .i64 ((x.L.length : Nat) : Int)) (.bool true) (fun _ => rfl) rfl rfl (ltN hdk _ _ _) rfl ?_
              refine wl_mv (.tmp 37) (.bool true) (fun _ => rfl) rfl rfl ?_
              refine wl_mv (.tmp 8) (.int .i64 (-1)) (fun _ => rfl) e110_8 rfl ?_
              refine wl_bin (fun x y => do eqGuard .geq 3 (.tmp 39) (.const (.int .i64 (0))) x y; binOp .geq 3 x y) (.tmp 39) (.const (.int .i64 (0))) (.int .i64 (-1)) (.int .i64 (0)) (.bool false) (fun _ => rfl) rfl rfl (ge3 (r := false) rfl _ _ _) rfl ?_
              refine wl_pick (.tmp 38) (.tmp 40) (.const (.bool false)) true (.bool false) (fun _ => rfl) rfl rfl rfl ?_
              refine w_nil ?_
              refine xn_then ?_
              refine w_condF rfl ?_
              refine w_exit ?_
              refine xx_then ?_
              refine xx_then ?_
              refine xx_blk ?_
              refine xn_then ?_
              refine w_seq ?_
              refine w_reg ?_
              refine wl_mv (.tmp 8) (.int .i64 (-1)) (fun _ => rfl) e110_8 rfl ?_
              refine wl_bin (fun x y => do eqGuard .geq 3 (.tmp 68) (.const (.int .i64 (0))) x y; binOp .geq 3 x y) (.tmp 68) (.const (.int .i64 (0))) (.int .i64 (-1)) (.int .i64 (0)) (.bool false) (fun _ => rfl) rfl rfl (ge3 (r := false) rfl _ _ _) rfl ?_
              refine wl_mv (.tmp 69) (.bool false) (fun _ => rfl) rfl rfl ?_
              refine wl_skip rfl ?_
              refine wl_skip rfl ?_
              refine wl_skip rfl ?_
              refine wl_skip rfl ?_
              refine wl_skip rfl ?_
              refine wl_pick (.tmp 70) (.tmp 75) (.const (.bool false)) false (.bool false) (fun _ => rfl) rfl rfl rfl ?_
              refine w_nil ?_
              refine xn_then ?_
              refine w_condF rfl ?_
              refine w_skip ?_
              refine xn_blk ?_
              refine xn_then ?_
              refine w_reg ?_
              refine wl_mv (.tmp 7) (.int .i64 ((a : Nat) : Int)) (fun _ => rfl) e110_7 rfl ?_
              refine wl_bin (fun x y => do eqGuard .add 3 (.tmp 29) (.const (.int .i64 (1))) x y; binOp .add 3 x y) (.tmp 29) (.const (.int .i64 (1))) (.int .i64 ((a : Nat) : Int)) (.int .i64 (1)) (.int .i64 ((a + 1 : Nat) : Int)) (fun _ => rfl) rfl rfl (add1r (k := a) (by omega) _ _ _) rfl ?_
              refine wl_mv (.tmp 30) (.int .i64 ((a + 1 : Nat) : Int)) (fun _ => rfl) rfl rfl ?_
              refine w_nil ?_
              exact xn_loop (V.length - (a + 1)) (by omega) ⟨a + 1, zs2, b2, rfl, e110_3, e110_4, e110_6, rfl, by omega, hl2, hO, hG2, hB1, (fun e => (⟨(hB0 e).1, fun n hn hz => by rcases Nat.lt_or_ge n a with q | q; (exact (hB0 e).2 n q hz); (have e9 : n = a := by omega); subst e9; exact hcase hz⟩)), hNg, M⟩
            · skip
              have hra0 : decide (ra < 0) = false := decide_eq_false (by omega)
              have hra1 : decide (((ra : Nat) : Int) < 0) = false := decide_eq_false (by omega)
              have hcase : zs2[a]? = some (-1) → ∃ y ∈ row (RA l) a, zs2[y]? = some (-1) := fun e => by rw [hva] at e; have := Option.some.inj e; omega
              refine w_seq ?_
              refine w_seq ?_
              refine w_reg ?_
              refine wl_mv (.tmp 9) (.int .i64 ((k : Nat) : Int)) (fun _ => rfl) e110_9 rfl ?_
              refine wl_mv (.tmp 3) (.slice pv V.length cv) (fun _ => rfl) e110_3 rfl ?_
              refine wl_mv (.tmp 7) (.int .i64 ((a : Nat) : Int)) (fun _ => rfl) e110_7 rfl ?_
              refine wl_bin (fun x y => Instr.indexAt 79 x y) (.tmp 32) (.tmp 33) (.slice pv V.length cv) (.int .i64 ((a : Nat) : Int)) (pt bp (op + a * 1)) (fun _ => rfl) rfl rfl (ix79 (i := a) hpp hal _) rfl ?_
              refine wl_load 32 (.tmp 34) (pt bp (op + a * 1)) (.slice x.pa x.L.length x.cap) rfl rfl (D.run_oneR (hRp.mo M).at' 32 0 rfl Try.underlying32 rfl) rfl ?_
              refine wl_val (.int .i64 ((x.L.length : Nat) : Int)) (len32 _ _ _ _ _ (by exact rfl) _ _ _ _ _ _) rfl ?_
              refine wl_bin (fun x y => do eqGuard .lss 3 (.tmp 31) (.tmp 36) x y; binOp .lss 3 x y) (.tmp 31) (.tmp 36) (.int .i64 ((k : Nat) : Int)) (.int .i64 ((x.L.length : Nat) : Int)) (.bool true) (fun _ => rfl) rfl rfl (ltN hdk _ _ _) rfl ?_
              refine wl_mv (.tmp 37) (.bool true) (fun _ => rfl) rfl rfl ?_
              refine wl_mv (.tmp 8) (.int .i64 (-1)) (fun _ => rfl) e110_8 rfl ?_
              refine wl_bin (fun x y => do eqGuard .geq 3 (.tmp 39) (.const (.int .i64 (0))) x y; binOp .geq 3 x y) (.tmp 39) (.const (.int .i64 (0))) (.int .i64 (-1)) (.int .i64 (0)) (.bool false) (fun _ => rfl) rfl rfl (ge3 (r := false) rfl _ _ _) rfl ?_
              refine wl_pick (.tmp 38) (.tmp 40) (.const (.bool false)) true (.bool false) (fun _ => rfl) rfl rfl rfl ?_
              refine w_nil ?_
              refine xn_then ?_
              refine w_condF rfl ?_
              refine w_exit ?_
              refine xx_then ?_
              refine xx_then ?_
              refine xx_blk ?_
              refine xn_then ?_
              refine w_seq ?_
              refine w_reg ?_
              refine wl_mv (.tmp 8) (.int .i64 (-1)) (fun _ => rfl) e110_8 rfl ?_
              refine wl_bin (fun x y => do eqGuard .geq 3 (.tmp 68) (.const (.int .i64 (0))) x y; binOp .geq 3 x y) (.tmp 68) (.const (.int .i64 (0))) (.int .i64 (-1)) (.int .i64 (0)) (.bool false) (fun _ => rfl) rfl rfl (ge3 (r := false) rfl _ _ _) rfl ?_
              refine wl_mv (.tmp 69) (.bool false) (fun _ => rfl) rfl rfl ?_
              refine wl_skip rfl ?_
              refine wl_skip rfl ?_
              refine wl_skip rfl ?_
              refine wl_skip rfl ?_
              refine wl_skip rfl ?_
              refine wl_pick (.tmp 70) (.tmp 75) (.const (.bool false)) false (.bool false) (fun _ => rfl) rfl rfl rfl ?_
              refine w_nil ?_
              refine xn_then ?_
              refine w_condF rfl ?_
              refine w_skip ?_
              refine xn_blk ?_
              refine xn_then ?_
              refine w_reg ?_
              refine wl_mv (.tmp 7) (.int .i64 ((a : Nat) : Int)) (fun _ => rfl) e110_7 rfl ?_
              refine wl_bin (fun x y => do eqGuard .add 3 (.tmp 29) (.const (.int .i64 (1))) x y; binOp .add 3 x y) (.tmp 29) (.const (.int .i64 (1))) (.int .i64 ((a : Nat) : Int)) (.int .i64 (1)) (.int .i64 ((a + 1 : Nat) : Int)) (fun _ => rfl) rfl rfl (add1r (k := a) (by omega) _ _ _) rfl ?_
              refine wl_mv (.tmp 30) (.int .i64 ((a + 1 : Nat) : Int)) (fun _ => rfl) rfl rfl ?_
              refine w_nil ?_
              exact xn_loop (V.length - (a + 1)) (by omega) ⟨a + 1, zs2, b2, rfl, e110_3, e110_4, e110_6, rfl, by omega, hl2, hO, hG2, hB1, (fun e => (⟨(hB0 e).1, fun n hn hz => by rcases Nat.lt_or_ge n a with q | q; (exact (hB0 e).2 n q hz); (have e9 : n = a := by omega); subst e9; exact hcase hz⟩)), hNg, M⟩
          | false =>
            have QO := hO.at
            rcases hG2 a va hva with rfl | ⟨ra, hra, rfl⟩
            · skip
              have hcase : zs2[a]? = some (-1) → ∃ y ∈ row (RA l) a, zs2[y]? = some (-1) := fun _ => by rw [hxL]; exact hex
              refine w_seq ?_
              refine w_seq ?_
              refine w_reg ?_
              refine wl_mv (.tmp 9) (.int .i64 ((k : Nat) : Int)) (fun _ => rfl) e110_9 rfl ?_
              refine wl_mv (.tmp 3) (.slice pv V.length cv) (fun _ => rfl) e110_3 rfl ?_
              refine wl_mv (.tmp 7) (.int .i64 ((a : Nat) : Int)) (fun _ => rfl) e110_7 rfl ?_
              refine wl_bin (fun x y => Instr.indexAt 79 x y) (.tmp 32) (.tmp 33) (.slice pv V.length cv) (.int .i64 ((a : Nat) : Int)) (pt bp (op + a * 1)) (fun _ => rfl) rfl rfl (ix79 (i := a) hpp hal _) rfl ?_
              refine wl_load 32 (.tmp 34) (pt bp (op + a * 1)) (.slice x.pa x.L.length x.cap) rfl rfl (D.run_oneR (hRp.mo M).at' 32 0 rfl Try.underlying32 rfl) rfl ?_
              refine wl_val (.int .i64 ((x.L.length : Nat) : Int)) (len32 _ _ _ _ _ (by exact rfl) _ _ _ _ _ _) rfl ?_
              refine wl_bin (fun x y => do eqGuard .lss 3 (.tmp 31) (.tmp 36) x y; binOp .lss 3 x y) (.tmp 31) (.tmp 36) (.int .i64 ((k : Nat) : Int)) (.int .i64 ((x.L.length : Nat) : Int)) (.bool false) (fun _ => rfl) rfl rfl (ltN hdk _ _ _) rfl ?_
              refine wl_mv (.tmp 37) (.bool false) (fun _ => rfl) rfl rfl ?_
              refine wl_skip rfl ?_
              refine wl_skip rfl ?_
              refine wl_pick (.tmp 38) (.tmp 40) (.const (.bool false)) false (.bool false) (fun _ => rfl) rfl rfl rfl ?_
              refine w_nil ?_
              refine xn_then ?_
              refine w_condF rfl ?_
              refine w_exit ?_
              refine xx_then ?_
              refine xx_then ?_
              refine xx_blk ?_
              refine xn_then ?_
              refine w_seq ?_
              refine w_reg ?_
              refine wl_mv (.tmp 8) (.int .i64 (-1)) (fun _ => rfl) e110_8 rfl ?_
              refine wl_bin (fun x y => do eqGuard .geq 3 (.tmp 68) (.const (.int .i64 (0))) x y; binOp .geq 3 x y) (.tmp 68) (.const (.int .i64 (0))) (.int .i64 (-1)) (.int .i64 (0)) (.bool false) (fun _ => rfl) rfl rfl (ge3 (r := false) rfl _ _ _) rfl ?_
              refine wl_mv (.tmp 69) (.bool false) (fun _ => rfl) rfl rfl ?_
              refine wl_skip rfl ?_
              refine wl_skip rfl ?_
              refine wl_skip rfl ?_
              refine wl_skip rfl ?_
              refine wl_skip rfl ?_
              refine wl_pick (.tmp 70) (.tmp 75) (.const (.bool false)) false (.bool false) (fun _ => rfl) rfl rfl rfl ?_
              refine w_nil ?_
              refine xn_then ?_
              refine w_condF rfl ?_
              refine w_skip ?_
              refine xn_blk ?_
              refine xn_then ?_
              refine w_reg ?_
              refine wl_mv (.tmp 7) (.int .i64 ((a : Nat) : Int)) (fun _ => rfl) e110_7 rfl ?_
              refine wl_bin (fun x y => do eqGuard .add 3 (.tmp 29) (.const (.int .i64 (1))) x y; binOp .add 3 x y) (.tmp 29) (.const (.int .i64 (1))) (.int .i64 ((a : Nat) : Int)) (.int .i64 (1)) (.int .i64 ((a + 1 : Nat) : Int)) (fun _ => rfl) rfl rfl (add1r (k := a) (by omega) _ _ _) rfl ?_
              refine wl_mv (.tmp 30) (.int .i64 ((a + 1 : Nat) : Int)) (fun _ => rfl) rfl rfl ?_
              refine w_nil ?_
              exact xn_loop (V.length - (a + 1)) (by omega) ⟨a + 1, zs2, b2, rfl, e110_3, e110_4, e110_6, rfl, by omega, hl2, hO, hG2, hB1, (fun e => (⟨(hB0 e).1, fun n hn hz => by rcases Nat.lt_or_ge n a with q | q; (exact (hB0 e).2 n q hz); (have e9 : n = a := by omega); subst e9; exact hcase hz⟩)), hNg, M⟩
            · skip
              have hra0 : decide (ra < 0) = false := decide_eq_false (by omega)
              have hra1 : decide (((ra : Nat) : Int) < 0) = false := decide_eq_false (by omega)
              have hcase : zs2[a]? = some (-1) → ∃ y ∈ row (RA l) a, zs2[y]? = some (-1) := fun e => by rw [hva] at e; have := Option.some.inj e; omega
              refine w_seq ?_
              refine w_seq ?_
              refine w_reg ?_
              refine wl_mv (.tmp 9) (.int .i64 ((k : Nat) : Int)) (fun _ => rfl) e110_9 rfl ?_
              refine wl_mv (.tmp 3) (.slice pv V.length cv) (fun _ => rfl) e110_3 rfl ?_
              refine wl_mv (.tmp 7) (.int .i64 ((a : Nat) : Int)) (fun _ => rfl) e110_7 rfl ?_
              refine wl_bin (fun x y => Instr.indexAt 79 x y) (.tmp 32) (.tmp 33) (.slice pv V.length cv) (.int .i64 ((a : Nat) : Int)) (pt bp (op + a * 1)) (fun _ => rfl) rfl rfl (ix79 (i := a) hpp hal _) rfl ?_
              refine wl_load 32 (.tmp 34) (pt bp (op + a * 1)) (.slice x.pa x.L.length x.cap) rfl rfl (D.run_oneR (hRp.mo M).at' 32 0 rfl Try.underlying32 rfl) rfl ?_
              refine wl_val (.int .i64 ((x.L.length : Nat) : Int)) (len32 _ _ _ _ _ (by exact rfl) _ _ _ _ _ _) rfl ?_
              refine wl_bin (fun x y => do eqGuard .lss 3 (.tmp 31) (.tmp 36) x y; binOp .lss 3 x y) (.tmp 31) (.tmp 36) (.int .i64 ((k : Nat) : Int)) (.int .i64 ((x.L.length : Nat) : Int)) (.bool false) (fun _ => rfl) rfl rfl (ltN hdk _ _ _) rfl ?_
              refine wl_mv (.tmp 37) (.bool false) (fun _ => rfl) rfl rfl ?_
              refine wl_skip rfl ?_
              refine wl_skip rfl ?_
              refine wl_pick (.tmp 38) (.tmp 40) (.const (.bool false)) false (.bool false) (fun _ => rfl) rfl rfl rfl ?_
              refine w_nil ?_
              refine xn_then ?_
              refine w_condF rfl ?_
              refine w_exit ?_
              refine xx_then ?_
              refine xx_then ?_
              refine xx_blk ?_
              refine xn_then ?_
              refine w_seq ?_
              refine w_reg ?_
              refine wl_mv (.tmp 8) (.int .i64 (-1)) (fun _ => rfl) e110_8 rfl ?_
              refine wl_bin (fun x y => do eqGuard .geq 3 (.tmp 68) (.const (.int .i64 (0))) x y; binOp .geq 3 x y) (.tmp 68) (.const (.int .i64 (0))) (.int .i64 (-1)) (.int .i64 (0)) (.bool false) (fun _ => rfl) rfl rfl (ge3 (r := false) rfl _ _ _) rfl ?_
              refine wl_mv (.tmp 69) (.bool false) (fun _ => rfl) rfl rfl ?_
              refine wl_skip rfl ?_
              refine wl_skip rfl ?_
              refine wl_skip rfl ?_
              refine wl_skip rfl ?_
              refine wl_skip rfl ?_
              refine wl_pick (.tmp 70) (.tmp 75) (.const (.bool false)) false (.bool false) (fun _ => rfl) rfl rfl rfl ?_
              refine w_nil ?_
              refine xn_then ?_
              refine w_condF rfl ?_
              refine w_skip ?_
              refine xn_blk ?_
              refine xn_then ?_
              refine w_reg ?_
              refine wl_mv (.tmp 7) (.int .i64 ((a : Nat) : Int)) (fun _ => rfl) e110_7 rfl ?_
              refine wl_bin (fun x y => do eqGuard .add 3 (.tmp 29) (.const (.int .i64 (1))) x y; binOp .add 3 x y) (.tmp 29) (.const (.int .i64 (1))) (.int .i64 ((a : Nat) : Int)) (.int .i64 (1)) (.int .i64 ((a + 1 : Nat) : Int)) (fun _ => rfl) rfl rfl (add1r (k := a) (by omega) _ _ _) rfl ?_
              refine wl_mv (.tmp 30) (.int .i64 ((a + 1 : Nat) : Int)) (fun _ => rfl) rfl rfl ?_
              refine w_nil ?_
              exact xn_loop (V.length - (a + 1)) (by omega) ⟨a + 1, zs2, b2, rfl, e110_3, e110_4, e110_6, rfl, by omega, hl2, hO, hG2, hB1, (fun e => (⟨(hB0 e).1, fun n hn hz => by rcases Nat.lt_or_ge n a with q | q; (exact (hB0 e).2 n q hz); (have e9 : n = a := by omega); subst e9; exact hcase hz⟩)), hNg, M⟩
        · skip
          have hge : decide (0 ≤ ((bb : Nat) : Int)) = true := decide_eq_true (by omega)
          cases hdk : decide (k < x.L.length) with
          | true =>
            have hkl := of_decide_eq_true hdk
            obtain ⟨y, hy⟩ := get_of_lt hkl
            have hyr : y ∈ row (RA l) a := by rw [hxL]; exact List.mem_of_getElem? hy
            have hyb : y < V.length := by have := (RA_in l).row hyr; omega
            obtain ⟨vy, hvy⟩ := get_of_lt (show y < zs2.length by omega)
            have QO := hO.at
            obtain ⟨bq, oq, hpq, hRq⟩ := D.SL.rw hLx hy
            rcases hG2 y vy hvy with rfl | ⟨ry, hry, rfl⟩
            · skip
              refine w_seq ?_
              refine w_seq ?_
              refine w_reg ?_
              refine wl_mv (.tmp 9) (.int .i64 ((k : Nat) : Int)) (fun _ => rfl) e110_9 rfl ?_
              refine wl_mv (.tmp 3) (.slice pv V.length cv) (fun _ => rfl) e110_3 rfl ?_
              refine wl_mv (.tmp 7) (.int .i64 ((a : Nat) : Int)) (fun _ => rfl) e110_7 rfl ?_
              refine wl_bin (fun x y => Instr.indexAt 79 x y) (.tmp 32) (.tmp 33) (.slice pv V.length cv) (.int .i64 ((a : Nat) : Int)) (pt bp (op + a * 1)) (fun _ => rfl) rfl rfl (ix79 (i := a) hpp hal _) rfl ?_
              refine wl_load 32 (.tmp 34) (pt bp (op + a * 1)) (.slice x.pa x.L.length x.cap) rfl rfl (D.run_oneR (hRp.mo M).at' 32 0 rfl Try.underlying32 rfl) rfl ?_
              refine wl_val (.int .i64 ((x.L.length : Nat) : Int)) (len32 _ _ _ _ _ (by exact rfl) _ _ _ _ _ _) rfl ?_
              refine wl_bin (fun x y => do eqGuard .lss 3 (.tmp 31) (.tmp 36) x y; binOp .lss 3 x y) (.tmp 31) (.tmp 36) (.int .i64 ((k : Nat) : Int)) (.int .i64 ((x.L.length : Nat) : Int)) (.bool true) (fun _ => rfl) rfl rfl (ltN hdk _ _ _) rfl ?_
              refine wl_mv (.tmp 37) (.bool true) (fun _ => rfl) rfl rfl ?_
              refine wl_mv (.tmp 8) (.int .i64 ((bb : Nat) : Int)) (fun _ => rfl) e110_8 rfl ?_
              refine wl_bin (fun x y => do eqGuard .geq 3 (.tmp 39) (.const (.int .i64 (0))) x y; binOp .geq 3 x y) (.tmp 39) (.const (.int .i64 (0))) (.int .i64 ((bb : Nat) : Int)) (.int .i64 (0)) (.bool true) (fun _ => rfl) rfl rfl (ge3 hge _ _ _) rfl ?_
              refine wl_pick (.tmp 38) (.tmp 40) (.const (.bool false)) true (.bool true) (fun _ => rfl) rfl rfl rfl ?_
              refine w_nil ?_
              refine xn_then ?_
              refine w_condT rfl ?_
              refine w_skip ?_
              refine xn_then ?_
              refine w_seq ?_
              refine w_block ?_
              refine w_seq ?_
              refine w_reg ?_
              refine wl_mv (.tmp 8) (.int .i64 ((bb : Nat) : Int)) (fun _ => rfl) e110_8 rfl ?_
              refine wl_mv (.tmp 4) (.slice (some ⟨k1, 0, none⟩) V.length V.length) (fun _ => rfl) e110_4 rfl ?_
              refine wl_mv (.tmp 3) (.slice pv V.length cv) (fun _ => rfl) e110_3 rfl ?_
              refine wl_mv (.tmp 7) (.int .i64 ((a : Nat) : Int)) (fun _ => rfl) e110_7 rfl ?_
              refine wl_bin (fun x y => Instr.indexAt 79 x y) (.tmp 46) (.tmp 47) (.slice pv V.length cv) (.int .i64 ((a : Nat) : Int)) (pt bp (op + a * 1)) (fun _ => rfl) rfl rfl (ix79 (i := a) hpp hal _) rfl ?_
              refine wl_load 32 (.tmp 48) (pt bp (op + a * 1)) (.slice x.pa x.L.length x.cap) rfl rfl (D.run_oneR (hRp.mo M).at' 32 0 rfl Try.underlying32 rfl) rfl ?_
              refine wl_mv (.tmp 9) (.int .i64 ((k : Nat) : Int)) (fun _ => rfl) e110_9 rfl ?_
              refine wl_bin (fun x y => Instr.indexAt 32 x y) (.tmp 49) (.tmp 50) (.slice x.pa x.L.length x.cap) (.int .i64 ((k : Nat) : Int)) (pt bq (oq + k * 1)) (fun _ => rfl) rfl rfl (ix32 (i := k) hpq hkl _) rfl ?_
              refine wl_load 3 (.tmp 51) (pt bq (oq + k * 1)) (.int .i64 ((y : Nat) : Int)) rfl rfl (D.run_oneR (hRq.mo M).at' 3 0 rfl Try.underlying3 rfl) rfl ?_
              refine wl_bin (fun x y => Instr.indexAt 32 x y) (.tmp 45) (.tmp 52) (.slice (some ⟨k1, 0, none⟩) V.length V.length) (.int .i64 ((y : Nat) : Int)) (pt k1 (0 + y * 1)) (fun _ => rfl) rfl rfl (ix32 (i := y) rfl hyb _) rfl ?_
              refine wl_load 3 (.tmp 53) (pt k1 (0 + y * 1)) (.int .i64 (-1)) rfl rfl (run_one QO 3 (0 + y * 1) (by simp [hvy]) Try.underlying3 rfl) rfl ?_
              refine wl_bin (fun x y => do eqGuard .add 3 (.tmp 54) (.const (.int .i64 (1))) x y; binOp .add 3 x y) (.tmp 54) (.const (.int .i64 (1))) (.int .i64 (-1)) (.int .i64 (1)) (.int .i64 (0)) (fun _ => rfl) rfl rfl (by kernel_rfl) rfl ?_
              refine wl_val (.int .i64 ((max (bb) (0) : Nat) : Int)) (maxI _ _ _ (bb) (0) (by exact rfl) (by exact rfl) _ _ _ _ _ _) rfl ?_
              refine wl_mv (.tmp 56) (.int .i64 ((max (bb) (0) : Nat) : Int)) (fun _ => rfl) rfl rfl ?_
              refine w_nil ?_
              refine xn_then ?_
              refine w_seq ?_
              refine w_reg ?_
              refine wl_mv (.tmp 4) (.slice (some ⟨k1, 0, none⟩) V.length V.length) (fun _ => rfl) e110_4 rfl ?_
              refine wl_mv (.tmp 3) (.slice pv V.length cv) (fun _ => rfl) e110_3 rfl ?_
              refine wl_mv (.tmp 7) (.int .i64 ((a : Nat) : Int)) (fun _ => rfl) e110_7 rfl ?_
              refine wl_bin (fun x y => Instr.indexAt 79 x y) (.tmp 58) (.tmp 59) (.slice pv V.length cv) (.int .i64 ((a : Nat) : Int)) (pt bp (op + a * 1)) (fun _ => rfl) rfl rfl (ix79 (i := a) hpp hal _) rfl ?_
              refine wl_load 32 (.tmp 60) (pt bp (op + a * 1)) (.slice x.pa x.L.length x.cap) rfl rfl (D.run_oneR (hRp.mo M).at' 32 0 rfl Try.underlying32 rfl) rfl ?_
              refine wl_mv (.tmp 9) (.int .i64 ((k : Nat) : Int)) (fun _ => rfl) e110_9 rfl ?_
              refine wl_bin (fun x y => Instr.indexAt 32 x y) (.tmp 61) (.tmp 62) (.slice x.pa x.L.length x.cap) (.int .i64 ((k : Nat) : Int)) (pt bq (oq + k * 1)) (fun _ => rfl) rfl rfl (ix32 (i := k) hpq hkl _) rfl ?_
              refine wl_load 3 (.tmp 63) (pt bq (oq + k * 1)) (.int .i64 ((y : Nat) : Int)) rfl rfl (D.run_oneR (hRq.mo M).at' 3 0 rfl Try.underlying3 rfl) rfl ?_
              refine wl_bin (fun x y => Instr.indexAt 32 x y) (.tmp 57) (.tmp 64) (.slice (some ⟨k1, 0, none⟩) V.length V.length) (.int .i64 ((y : Nat) : Int)) (pt k1 (0 + y * 1)) (fun _ => rfl) rfl rfl (ix32 (i := y) rfl hyb _) rfl ?_
              refine wl_load 3 (.tmp 65) (pt k1 (0 + y * 1)) (.int .i64 (-1)) rfl rfl (run_one QO 3 (0 + y * 1) (by simp [hvy]) Try.underlying3 rfl) rfl ?_
              refine wl_bin (fun x y => do eqGuard .lss 3 (.tmp 66) (.const (.int .i64 (0))) x y; binOp .lss 3 x y) (.tmp 66) (.const (.int .i64 (0))) (.int .i64 (-1)) (.int .i64 (0)) (.bool true) (fun _ => rfl) rfl rfl (lt3 (r := true) rfl _ _ _) rfl ?_
              refine w_nil ?_
              refine xn_then ?_
              refine w_condT rfl ?_
              refine w_reg ?_
              refine wl_mv (.const (.int .i64 (-1))) (.int .i64 (-1)) (fun _ => rfl) rfl rfl ?_
              refine w_nil ?_
              refine xn_blk ?_
              refine xn_then ?_
              refine w_reg ?_
              refine wl_mv (.tmp 9) (.int .i64 ((k : Nat) : Int)) (fun _ => rfl) e110_9 rfl ?_
              refine wl_bin (fun x y => do eqGuard .add 3 (.tmp 42) (.const (.int .i64 (1))) x y; binOp .add 3 x y) (.tmp 42) (.const (.int .i64 (1))) (.int .i64 ((k : Nat) : Int)) (.int .i64 (1)) (.int .i64 ((k + 1 : Nat) : Int)) (fun _ => rfl) rfl rfl (add1r (k := k) (by omega) _ _ _) rfl ?_
              refine wl_mv (.tmp 43) (.int .i64 ((k + 1 : Nat) : Int)) (fun _ => rfl) rfl rfl ?_
              refine w_nil ?_
              exact xn_loop (x.L.length - (k + 1)) (by omega) ⟨k + 1, -1, rfl, e110_3, e110_4, e110_6, e110_7, rfl, rfl, by omega, hO, Or.inl ⟨rfl, y, List.mem_of_getElem? hy, hvy⟩, M⟩
            · skip
              have hry0 : decide (ry < 0) = false := decide_eq_false (by omega)
              have hry1 := hry.lt (RA_in l)
              have hbb : bb ≤ (RA l).length + 1 := Lst.bd hls (fun m _ r hr => by have := hr.lt (RA_in l); omega)
              refine w_seq ?_
              refine w_seq ?_
              refine w_reg ?_
              refine wl_mv (.tmp 9) (.int .i64 ((k : Nat) : Int)) (fun _ => rfl) e110_9 rfl ?_
              refine wl_mv (.tmp 3) (.slice pv V.length cv) (fun _ => rfl) e110_3 rfl ?_
              refine wl_mv (.tmp 7) (.int .i64 ((a : Nat) : Int)) (fun _ => rfl) e110_7 rfl ?_
              refine wl_bin (fun x y => Instr.indexAt 79 x y) (.tmp 32) (.tmp 33) (.slice pv V.length cv) (.int .i64 ((a : Nat) : Int)) (pt bp (op + a * 1)) (fun _ => rfl) rfl rfl (ix79 (i := a) hpp hal _) rfl ?_
              refine wl_load 32 (.tmp 34) (pt bp (op + a * 1)) (.slice x.pa x.L.length x.cap) rfl rfl (D.run_oneR (hRp.mo M).at' 32 0 rfl Try.underlying32 rfl) rfl ?_
              refine wl_val (.int .i64 ((x.L.length : Nat) : Int)) (len32 _ _ _ _ _ (by exact rfl) _ _ _ _ _ _) rfl ?_
              refine wl_bin (fun x y => do eqGuard .lss 3 (.tmp 31) (.tmp 36) x y; binOp .lss 3 x y) (.tmp 31) (.tmp 36) (.int .i64 ((k : Nat) : Int)) (.int .i64 ((x.L.length : Nat) : Int)) (.bool true) (fun _ => rfl) rfl rfl (ltN hdk _ _ _) rfl ?_
              refine wl_mv (.tmp 37) (.bool true) (fun _ => rfl) rfl rfl ?_
              refine wl_mv (.tmp 8) (.int .i64 ((bb : Nat) : Int)) (fun _ => rfl) e110_8 rfl ?_
              refine wl_bin (fun x y => do eqGuard .geq 3 (.tmp 39) (.const (.int .i64 (0))) x y; binOp .geq 3 x y) (.tmp 39) (.const (.int .i64 (0))) (.int .i64 ((bb : Nat) : Int)) (.int .i64 (0)) (.bool true) (fun _ => rfl) rfl rfl (ge3 hge _ _ _) rfl ?_
              refine wl_pick (.tmp 38) (.tmp 40) (.const (.bool false)) true (.bool true) (fun _ => rfl) rfl rfl rfl ?_
              refine w_nil ?_
              refine xn_then ?_
              refine w_condT rfl ?_
              refine w_skip ?_
              refine xn_then ?_
              refine w_seq ?_
              refine w_block ?_
              refine w_seq ?_
              refine w_reg ?_
              refine wl_mv (.tmp 8) (.int .i64 ((bb : Nat) : Int)) (fun _ => rfl) e110_8 rfl ?_
              refine wl_mv (.tmp 4) (.slice (some ⟨k1, 0, none⟩) V.length V.length) (fun _ => rfl) e110_4 rfl ?_
              refine wl_mv (.tmp 3) (.slice pv V.length cv) (fun _ => rfl) e110_3 rfl ?_
              refine wl_mv (.tmp 7) (.int .i64 ((a : Nat) : Int)) (fun _ => rfl) e110_7 rfl ?_
              refine wl_bin (fun x y => Instr.indexAt 79 x y) (.tmp 46) (.tmp 47) (.slice pv V.length cv) (.int .i64 ((a : Nat) : Int)) (pt bp (op + a * 1)) (fun _ => rfl) rfl rfl (ix79 (i := a) hpp hal _) rfl ?_
              refine wl_load 32 (.tmp 48) (pt bp (op + a * 1)) (.slice x.pa x.L.length x.cap) rfl rfl (D.run_oneR (hRp.mo M).at' 32 0 rfl Try.underlying32 rfl) rfl ?_
              refine wl_mv (.tmp 9) (.int .i64 ((k : Nat) : Int)) (fun _ => rfl) e110_9 rfl ?_
              refine wl_bin (fun x y => Instr.indexAt 32 x y) (.tmp 49) (.tmp 50) (.slice x.pa x.L.length x.cap) (.int .i64 ((k : Nat) : Int)) (pt bq (oq + k * 1)) (fun _ => rfl) rfl rfl (ix32 (i := k) hpq hkl _) rfl ?_
              refine wl_load 3 (.tmp 51) (pt bq (oq + k * 1)) (.int .i64 ((y : Nat) : Int)) rfl rfl (D.run_oneR (hRq.mo M).at' 3 0 rfl Try.underlying3 rfl) rfl ?_
              refine wl_bin (fun x y => Instr.indexAt 32 x y) (.tmp 45) (.tmp 52) (.slice (some ⟨k1, 0, none⟩) V.length V.length) (.int .i64 ((y : Nat) : Int)) (pt k1 (0 + y * 1)) (fun _ => rfl) rfl rfl (ix32 (i := y) rfl hyb _) rfl ?_
              refine wl_load 3 (.tmp 53) (pt k1 (0 + y * 1)) (.int .i64 ((ry : Nat) : Int)) rfl rfl (run_one QO 3 (0 + y * 1) (by simp [hvy]) Try.underlying3 rfl) rfl ?_
              refine wl_bin (fun x y => do eqGuard .add 3 (.tmp 54) (.const (.int .i64 (1))) x y; binOp .add 3 x y) (.tmp 54) (.const (.int .i64 (1))) (.int .i64 ((ry : Nat) : Int)) (.int .i64 (1)) (.int .i64 ((ry + 1 : Nat) : Int)) (fun _ => rfl) rfl rfl (add1r (k := ry) (by omega) _ _ _) rfl ?_
              refine wl_val (.int .i64 ((max (bb) (ry + 1) : Nat) : Int)) (maxI _ _ _ (bb) (ry + 1) (by exact rfl) (by exact rfl) _ _ _ _ _ _) rfl ?_
              refine wl_mv (.tmp 56) (.int .i64 ((max (bb) (ry + 1) : Nat) : Int)) (fun _ => rfl) rfl rfl ?_
              refine w_nil ?_
              refine xn_then ?_
              refine w_seq ?_
              refine w_reg ?_
              refine wl_mv (.tmp 4) (.slice (some ⟨k1, 0, none⟩) V.length V.length) (fun _ => rfl) e110_4 rfl ?_
              refine wl_mv (.tmp 3) (.slice pv V.length cv) (fun _ => rfl) e110_3 rfl ?_
              refine wl_mv (.tmp 7) (.int .i64 ((a : Nat) : Int)) (fun _ => rfl) e110_7 rfl ?_
              refine wl_bin (fun x y => Instr.indexAt 79 x y) (.tmp 58) (.tmp 59) (.slice pv V.length cv) (.int .i64 ((a : Nat) : Int)) (pt bp (op + a * 1)) (fun _ => rfl) rfl rfl (ix79 (i := a) hpp hal _) rfl ?_
              refine wl_load 32 (.tmp 60) (pt bp (op + a * 1)) (.slice x.pa x.L.length x.cap) rfl rfl (D.run_oneR (hRp.mo M).at' 32 0 rfl Try.underlying32 rfl) rfl ?_
              refine wl_mv (.tmp 9) (.int .i64 ((k : Nat) : Int)) (fun _ => rfl) e110_9 rfl ?_
              refine wl_bin (fun x y => Instr.indexAt 32 x y) (.tmp 61) (.tmp 62) (.slice x.pa x.L.length x.cap) (.int .i64 ((k : Nat) : Int)) (pt bq (oq + k * 1)) (fun _ => rfl) rfl rfl (ix32 (i := k) hpq hkl _) rfl ?_
              refine wl_load 3 (.tmp 63) (pt bq (oq + k * 1)) (.int .i64 ((y : Nat) : Int)) rfl rfl (D.run_oneR (hRq.mo M).at' 3 0 rfl Try.underlying3 rfl) rfl ?_
              refine wl_bin (fun x y => Instr.indexAt 32 x y) (.tmp 57) (.tmp 64) (.slice (some ⟨k1, 0, none⟩) V.length V.length) (.int .i64 ((y : Nat) : Int)) (pt k1 (0 + y * 1)) (fun _ => rfl) rfl rfl (ix32 (i := y) rfl hyb _) rfl ?_
              refine wl_load 3 (.tmp 65) (pt k1 (0 + y * 1)) (.int .i64 ((ry : Nat) : Int)) rfl rfl (run_one QO 3 (0 + y * 1) (by simp [hvy]) Try.underlying3 rfl) rfl ?_
              refine wl_bin (fun x y => do eqGuard .lss 3 (.tmp 66) (.const (.int .i64 (0))) x y; binOp .lss 3 x y) (.tmp 66) (.const (.int .i64 (0))) (.int .i64 ((ry : Nat) : Int)) (.int .i64 (0)) (.bool false) (fun _ => rfl) rfl rfl (ltN hry0 _ _ _) rfl ?_
              refine w_nil ?_
              refine xn_then ?_
              refine w_condF rfl ?_
              refine w_skip ?_
              refine xn_blk ?_
              refine xn_then ?_
              refine w_reg ?_
              refine wl_mv (.tmp 9) (.int .i64 ((k : Nat) : Int)) (fun _ => rfl) e110_9 rfl ?_
              refine wl_bin (fun x y => do eqGuard .add 3 (.tmp 42) (.const (.int .i64 (1))) x y; binOp .add 3 x y) (.tmp 42) (.const (.int .i64 (1))) (.int .i64 ((k : Nat) : Int)) (.int .i64 (1)) (.int .i64 ((k + 1 : Nat) : Int)) (fun _ => rfl) rfl rfl (add1r (k := k) (by omega) _ _ _) rfl ?_
              refine wl_mv (.tmp 43) (.int .i64 ((k + 1 : Nat) : Int)) (fun _ => rfl) rfl rfl ?_
              refine w_nil ?_
              exact xn_loop (x.L.length - (k + 1)) (by omega) ⟨k + 1, ((max (bb) (ry + 1) : Nat) : Int), rfl, e110_3, e110_4, e110_6, e110_7, rfl, rfl, by omega, hO, Or.inr ⟨_, rfl, by rw [List.take_add_one, hy]; exact hls.more hry⟩, M⟩
          | false =>
            have hke : k = x.L.length := by have := of_decide_eq_false hdk; omega
            rw [hke, List.take_length, ← hxL] at hls
            have hbr := hls.all
            have QO := hO.at
            rcases hG2 a va hva with rfl | ⟨ra, hra, rfl⟩
            · skip
              have hns := Ng_set (r := bb) hva
              refine w_seq ?_
              refine w_seq ?_
              refine w_reg ?_
              refine wl_mv (.tmp 9) (.int .i64 ((k : Nat) : Int)) (fun _ => rfl) e110_9 rfl ?_
              refine wl_mv (.tmp 3) (.slice pv V.length cv) (fun _ => rfl) e110_3 rfl ?_
              refine wl_mv (.tmp 7) (.int .i64 ((a : Nat) : Int)) (fun _ => rfl) e110_7 rfl ?_
              refine wl_bin (fun x y => Instr.indexAt 79 x y) (.tmp 32) (.tmp 33) (.slice pv V.length cv) (.int .i64 ((a : Nat) : Int)) (pt bp (op + a * 1)) (fun _ => rfl) rfl rfl (ix79 (i := a) hpp hal _) rfl ?_
              refine wl_load 32 (.tmp 34) (pt bp (op + a * 1)) (.slice x.pa x.L.length x.cap) rfl rfl (D.run_oneR (hRp.mo M).at' 32 0 rfl Try.underlying32 rfl) rfl ?_
              refine wl_val (.int .i64 ((x.L.length : Nat) : Int)) (len32 _ _ _ _ _ (by exact rfl) _ _ _ _ _ _) rfl ?_
              refine wl_bin (fun x y => do eqGuard .lss 3 (.tmp 31) (.tmp 36) x y; binOp .lss 3 x y) (.tmp 31) (.tmp 36) (.int .i64 ((k : Nat) : Int)) (.int .i64 ((x.L.length : Nat) : Int)) (.bool false) (fun _ => rfl) rfl rfl (ltN hdk _ _ _) rfl ?_
              refine wl_mv (.tmp 37) (.bool false) (fun _ => rfl) rfl rfl ?_
              refine wl_skip rfl ?_
              refine wl_skip rfl ?_
              refine wl_pick (.tmp 38) (.tmp 40) (.const (.bool false)) false (.bool false) (fun _ => rfl) rfl rfl rfl ?_
              refine w_nil ?_
              refine xn_then ?_
              refine w_condF rfl ?_
              refine w_exit ?_
              refine xx_then ?_
              refine xx_then ?_
              refine xx_blk ?_
              refine xn_then ?_
              refine w_seq ?_
              refine w_reg ?_
              refine wl_mv (.tmp 8) (.int .i64 ((bb : Nat) : Int)) (fun _ => rfl) e110_8 rfl ?_
              refine wl_bin (fun x y => do eqGuard .geq 3 (.tmp 68) (.const (.int .i64 (0))) x y; binOp .geq 3 x y) (.tmp 68) (.const (.int .i64 (0))) (.int .i64 ((bb : Nat) : Int)) (.int .i64 (0)) (.bool true) (fun _ => rfl) rfl rfl (ge3 hge _ _ _) rfl ?_
              refine wl_mv (.tmp 69) (.bool true) (fun _ => rfl) rfl rfl ?_
              refine wl_mv (.tmp 4) (.slice (some ⟨k1, 0, none⟩) V.length V.length) (fun _ => rfl) e110_4 rfl ?_
              refine wl_mv (.tmp 7) (.int .i64 ((a : Nat) : Int)) (fun _ => rfl) e110_7 rfl ?_
              refine wl_bin (fun x y => Instr.indexAt 32 x y) (.tmp 71) (.tmp 72) (.slice (some ⟨k1, 0, none⟩) V.length V.length) (.int .i64 ((a : Nat) : Int)) (pt k1 (0 + a * 1)) (fun _ => rfl) rfl rfl (ix32 (i := a) rfl hal _) rfl ?_
              refine wl_load 3 (.tmp 73) (pt k1 (0 + a * 1)) (.int .i64 (-1)) rfl rfl (run_one QO 3 (0 + a * 1) (by simp [hva]) Try.underlying3 rfl) rfl ?_
              refine wl_bin (fun x y => do eqGuard .lss 3 (.tmp 74) (.const (.int .i64 (0))) x y; binOp .lss 3 x y) (.tmp 74) (.const (.int .i64 (0))) (.int .i64 (-1)) (.int .i64 (0)) (.bool true) (fun _ => rfl) rfl rfl (lt3 (r := true) rfl _ _ _) rfl ?_
              refine wl_pick (.tmp 70) (.tmp 75) (.const (.bool false)) true (.bool true) (fun _ => rfl) rfl rfl rfl ?_
              refine w_nil ?_
              refine xn_then ?_
              refine w_condT rfl ?_
              refine w_seq ?_
              refine w_reg ?_
              refine wl_mv (.tmp 4) (.slice (some ⟨k1, 0, none⟩) V.length V.length) (fun _ => rfl) e110_4 rfl ?_
              refine wl_mv (.tmp 7) (.int .i64 ((a : Nat) : Int)) (fun _ => rfl) e110_7 rfl ?_
              refine wl_mv (.tmp 8) (.int .i64 ((bb : Nat) : Int)) (fun _ => rfl) e110_8 rfl ?_
              refine wl_bin (fun x y => Instr.indexAt 32 x y) (.tmp 77) (.tmp 78) (.slice (some ⟨k1, 0, none⟩) V.length V.length) (.int .i64 ((a : Nat) : Int)) (pt k1 (0 + a * 1)) (fun _ => rfl) rfl rfl (ix32 (i := a) rfl hal _) rfl ?_
              refine wl_sti 3 (.tmp 80) (.tmp 79) k1 (0 + a * 1) (.int .i64 ((bb : Nat) : Int)) 3 _ hO rfl rfl rfl rfl (by simp; omega) sz3 rfl rfl rfl ?_
              intro u111 hK9 hO9
              replace M := hK9.mo M (fun k e => e ▸ N_k1)
              clear QO hO
              have hO : Ob u111 k1 3 ((zs2.set a ((bb : Nat) : Int)).map ei) := by rw [List.map_set]; simpa using hO9
              refine w_nil ?_
              refine xn_then ?_
              refine w_reg ?_
              refine wl_mv (.const (.bool true)) (.bool true) (fun _ => rfl) rfl rfl ?_
              refine w_nil ?_
              refine xn_blk ?_
              refine xn_then ?_
              refine w_reg ?_
              refine wl_mv (.tmp 7) (.int .i64 ((a : Nat) : Int)) (fun _ => rfl) e110_7 rfl ?_
              refine wl_bin (fun x y => do eqGuard .add 3 (.tmp 29) (.const (.int .i64 (1))) x y; binOp .add 3 x y) (.tmp 29) (.const (.int .i64 (1))) (.int .i64 ((a : Nat) : Int)) (.int .i64 (1)) (.int .i64 ((a + 1 : Nat) : Int)) (fun _ => rfl) rfl rfl (add1r (k := a) (by omega) _ _ _) rfl ?_
              refine wl_mv (.tmp 30) (.int .i64 ((a + 1 : Nat) : Int)) (fun _ => rfl) rfl rfl ?_
              refine w_nil ?_
              exact xn_loop (V.length - (a + 1)) (by omega) ⟨a + 1, zs2.set a ((bb : Nat) : Int), true, rfl, e110_3, e110_4, rfl, rfl, by omega, (by simpa using hl2), hO, hG2.set hbr, (fun _ => by omega), (fun e => by cases e), (by omega), M⟩
            · skip
              have hra0 : decide (ra < 0) = false := decide_eq_false (by omega)
              have hra1 : decide (((ra : Nat) : Int) < 0) = false := decide_eq_false (by omega)
              have hcase : zs2[a]? = some (-1) → ∃ y ∈ row (RA l) a, zs2[y]? = some (-1) := fun e => by rw [hva] at e; have := Option.some.inj e; omega
              refine w_seq ?_
              refine w_seq ?_
              refine w_reg ?_
              refine wl_mv (.tmp 9) (.int .i64 ((k : Nat) : Int)) (fun _ => rfl) e110_9 rfl ?_
              refine wl_mv (.tmp 3) (.slice pv V.length cv) (fun _ => rfl) e110_3 rfl ?_
              refine wl_mv (.tmp 7) (.int .i64 ((a : Nat) : Int)) (fun _ => rfl) e110_7 rfl ?_
              refine wl_bin (fun x y => Instr.indexAt 79 x y) (.tmp 32) (.tmp 33) (.slice pv V.length cv) (.int .i64 ((a : Nat) : Int)) (pt bp (op + a * 1)) (fun _ => rfl) rfl rfl (ix79 (i := a) hpp hal _) rfl ?_
              refine wl_load 32 (.tmp 34) (pt bp (op + a * 1)) (.slice x.pa x.L.length x.cap) rfl rfl (D.run_oneR (hRp.mo M).at' 32 0 rfl Try.underlying32 rfl) rfl ?_
              refine wl_val (.int .i64 ((x.L.length : Nat) : Int)) (len32 _ _ _ _ _ (by exact rfl) _ _ _ _ _ _) rfl ?_
              refine wl_bin (fun x y => do eqGuard .lss 3 (.tmp 31) (.tmp 36) x y; binOp .lss 3 x y) (.tmp 31) (.tmp 36) (.int .i64 ((k : Nat) : Int)) (.int .i64 ((x.L.length : Nat) : Int)) (.bool false) (fun _ => rfl) rfl rfl (ltN hdk _ _ _) rfl ?_
              refine wl_mv (.tmp 37) (.bool false) (fun _ => rfl) rfl rfl ?_
              refine wl_skip rfl ?_
              refine wl_skip rfl ?_
              refine wl_pick (.tmp 38) (.tmp 40) (.const (.bool false)) false (.bool false) (fun _ => rfl) rfl rfl rfl ?_
              refine w_nil ?_
              refine xn_then ?_
              refine w_condF rfl ?_
              refine w_exit ?_
              refine xx_then ?_
              refine xx_then ?_
              refine xx_blk ?_
              refine xn_then ?_
              refine w_seq ?_
              refine w_reg ?_
              refine wl_mv (.tmp 8) (.int .i64 ((bb : Nat) : Int)) (fun _ => rfl) e110_8 rfl ?_
              refine wl_bin (fun x y => do eqGuard .geq 3 (.tmp 68) (.const (.int .i64 (0))) x y; binOp .geq 3 x y) (.tmp 68) (.const (.int .i64 (0))) (.int .i64 ((bb : Nat) : Int)) (.int .i64 (0)) (.bool true) (fun _ => rfl) rfl rfl (ge3 hge _ _ _) rfl ?_
              refine wl_mv (.tmp 69) (.bool true) (fun _ => rfl) rfl rfl ?_
              refine wl_mv (.tmp 4) (.slice (some ⟨k1, 0, none⟩) V.length V.length) (fun _ => rfl) e110_4 rfl ?_
              refine wl_mv (.tmp 7) (.int .i64 ((a : Nat) : Int)) (fun _ => rfl) e110_7 rfl ?_
              refine wl_bin (fun x y => Instr.indexAt 32 x y) (.tmp 71) (.tmp 72) (.slice (some ⟨k1, 0, none⟩) V.length V.length) (.int .i64 ((a : Nat) : Int)) (pt k1 (0 + a * 1)) (fun _ => rfl) rfl rfl (ix32 (i := a) rfl hal _) rfl ?_
              refine wl_load 3 (.tmp 73) (pt k1 (0 + a * 1)) (.int .i64 ((ra : Nat) : Int)) rfl rfl (run_one QO 3 (0 + a * 1) (by simp [hva]) Try.underlying3 rfl) rfl ?_
              refine wl_bin (fun x y => do eqGuard .lss 3 (.tmp 74) (.const (.int .i64 (0))) x y; binOp .lss 3 x y) (.tmp 74) (.const (.int .i64 (0))) (.int .i64 ((ra : Nat) : Int)) (.int .i64 (0)) (.bool false) (fun _ => rfl) rfl rfl (ltN hra0 _ _ _) rfl ?_
              refine wl_pick (.tmp 70) (.tmp 75) (.const (.bool false)) true (.bool false) (fun _ => rfl) rfl rfl rfl ?_
              refine w_nil ?_
              refine xn_then ?_
              refine w_condF rfl ?_
              refine w_skip ?_
              refine xn_blk ?_
              refine xn_then ?_
              refine w_reg ?_
              refine wl_mv (.tmp 7) (.int .i64 ((a : Nat) : Int)) (fun _ => rfl) e110_7 rfl ?_
              refine wl_bin (fun x y => do eqGuard .add 3 (.tmp 29) (.const (.int .i64 (1))) x y; binOp .add 3 x y) (.tmp 29) (.const (.int .i64 (1))) (.int .i64 ((a : Nat) : Int)) (.int .i64 (1)) (.int .i64 ((a + 1 : Nat) : Int)) (fun _ => rfl) rfl rfl (add1r (k := a) (by omega) _ _ _) rfl ?_
              refine wl_mv (.tmp 30) (.int .i64 ((a + 1 : Nat) : Int)) (fun _ => rfl) rfl rfl ?_
              refine w_nil ?_
              exact xn_loop (V.length - (a + 1)) (by omega) ⟨a + 1, zs2, b2, rfl, e110_3, e110_4, e110_6, rfl, by omega, hl2, hO, hG2, hB1, (fun e => (⟨(hB0 e).1, fun n hn hz => by rcases Nat.lt_or_ge n a with q | q; (exact (hB0 e).2 n q hz); (have e9 : n = a := by omega); subst e9; exact hcase hz⟩)), hNg, M⟩
      | false =>
        have hie : a = V.length := by have := of_decide_eq_false hda; omega
        rw [hie] at hB0
        have hB3 : (if (true = true) then 1 else 0 : Nat) = 1 := rfl
        have hB2 : 2 * Ng zs2 + (if b2 then 1 else 0) < 2 * Ng zs + 1 := by cases b2 with | true => (have := hB1 rfl; simp; omega) | false => (simp; omega)
        refine w_seq ?_
        refine w_seq ?_
        refine w_reg ?_
        refine wl_mv (.tmp 7) (.int .i64 ((a : Nat) : Int)) (fun _ => rfl) e70_7 rfl ?_
        refine wl_mv (.tmp 3) (.slice pv V.length cv) (fun _ => rfl) e70_3 rfl ?_
        refine wl_val (.int .i64 ((V.length : Nat) : Int)) (len79 _ _ _ _ _ (by exact rfl) _ _ _ _ _ _) rfl ?_
        refine wl_bin (fun x y => do eqGuard .lss 3 (.tmp 25) (.tmp 27) x y; binOp .lss 3 x y) (.tmp 25) (.tmp 27) (.int .i64 ((a : Nat) : Int)) (.int .i64 ((V.length : Nat) : Int)) (.bool false) (fun _ => rfl) rfl rfl (ltN hda _ _ _) rfl ?_
        refine w_nil ?_
        refine xn_then ?_
        refine w_condF rfl ?_
        refine w_exit ?_
        refine xx_then ?_
        refine xx_then ?_
        refine xx_blk ?_
        refine xn_blk ?_
        exact xn_loop (2 * Ng zs2 + (if b2 then 1 else 0)) (by omega) ⟨zs2, b2, rfl, e70_3, e70_4, e70_6, hl2, hO, hG2, (fun e => by obtain ⟨e2, h2⟩ := hB0 e; subst e2; exact fun n hn => h2 n (by have := lt_of_get hn; omega) hn), M⟩
    | false =>
      refine w_seq ?_
      refine w_seq ?_
      refine w_reg ?_
      refine wl_mv (.tmp 6) (.bool false) (fun _ => rfl) e40_6 rfl ?_
      refine w_nil ?_
      refine xn_then ?_
      refine w_condF rfl ?_
      refine w_exit ?_
      refine xx_then ?_
      refine xx_then ?_
      refine xx_blk ?_
      refine xn_then ?_
      refine w_seq ?_
      refine w_reg ?_
      refine wl_mv (.tmp 4) (.slice (some ⟨k1, 0, none⟩) V.length V.length) (fun _ => rfl) e40_4 rfl ?_
      refine wl_mv (.tmp 81) (.slice (some ⟨k1, 0, none⟩) V.length V.length) (fun _ => rfl) rfl rfl ?_
      refine w_nil ?_
      refine xn_then ?_
      refine w_ret ?_
      exact w_ret1 _ (.slice (some ⟨k1, 0, none⟩) V.length V.length) rfl rfl ⟨k1, zs, by rw [hzl], by rw [hzl, hVl], hO, Nat.le_trans hN0 N_k1, hG.all (hF rfl), M0.trans M⟩
end Go.Proofs.Ythghblgbjgghcaa
