/-
  Sorting by a comparison of one's own: worlds, exactly. How two items stand. slices.SortFunc, by how two items stand.
-/
import Derived.Test.YthghblgbjgghcaaGna
import Derived.Shelf.SlSortCmp.NoneTotal
namespace Go.Proofs.Ythghblgbjgghcaa
open Go.RowKit D Go.Sort Go.Lib
theorem mk_sorted {α : Type} [Inhabited α] (enc : α → Value) (w : World) (g n : Nat) (os : Array Obj) (d : Array α) : Mk (fun j => j = g) w (grow (putRow enc (Sort.ahead w n) g 0 d) os) := by
  have hb : ∀ k, k < w.heap.size → ¬ k = g → (grow (putRow enc (Sort.ahead w n) g 0 d) os).heap[k]? = w.heap[k]? := fun k hk hne => by
    rw [heap_grow_old _ _ (by simpa using hk)]
    have : g ≠ k := fun e => hne e.symm
    simp [putRow, mapBlock, Sort.ahead, Array.getElem?_modify, this]
  refine ⟨rfl, rfl, rfl, by simp, hb, fun a ha => ?_⟩
  have h1 : (grow (putRow enc (Sort.ahead w n) g 0 d) os).frozen? a = (putRow enc (Sort.ahead w n) g 0 d).frozen? a := World.frozen?_of_block (heap_grow_old _ _ (by simpa using ha))
  rw [h1, frozen?_putRow]; rfl
theorem ob_sorted {α : Type} [Inhabited α] (enc : α → Value) {w : World} {g t : Nat} {vs : List Value} (hO : Ob w g t vs) (n : Nat) (os : Array Obj) (d : Array α) (hd : d.size = vs.length) : Ob (grow (putRow enc (Sort.ahead w n) g 0 d) os) g t (d.toList.map enc) := by
  unfold Ob at hO ⊢
  have hg : g < w.heap.size := (Array.getElem?_eq_some_iff.1 hO).1
  rw [heap_grow_old _ _ (by simpa using hg)]
  have e : putCells enc 0 d vs.toArray = (d.toList.map enc).toArray := by
    apply Array.ext'
    apply List.ext_getElem?
    intro j
    rw [Array.getElem?_toList]
    by_cases hj : j < d.size
    · simp [putCells, hj, show j < vs.length by omega]
    · rw [Array.getElem?_eq_none (by simp [putCells]; omega), List.getElem?_eq_none (by simp; omega)]
  simp [putRow, mapBlock, Sort.ahead, Array.getElem?_modify, hO, onCells, e]
theorem holds_ob {α : Type} [Inhabited α] (enc : α → Value) {w : World} {g t : Nat} {vs : List Value} (hO : Ob w g t vs) {d : Array α} (hd : vs = d.toList.map enc) : Holds enc w g 0 d := by
  subst hd
  intro j hj
  unfold Ob at hO
  refine ⟨?_, by simp [World.frozen?, hO]⟩
  simp [World.cell?, hO, hj]
section
variable {P : Program} {n : Nat} {l : List (Nat × Value)} {w : World} {Q : Exit → Act → World → Prop} {o : Oper}
/-- One that yields a value and leaves the world as it is. -/
theorem ol_same {ol : List Oper} {m : Nat} {W : World} {sp : List (Value → World → Prop)} {i : Nat} (v : Value) (hs : spQ sp i = vq v)
    (h : ∀ f, (∀ j, depb o j = true → spQ sp j (f j) W) → ∀ K : Act → World → Prop, K (fr n (ext (asg f 0 (ol.take m) l) o.dst v)) W → Go1 P ol Q n (asg f 0 (ol.take m) l) W K o) : OgL P ol Q n l m (fun _ _ w => w = W) sp i o :=
  ⟨fun L f w hG _ hd K hK => by subst hG; exact h f (fun j hj => (hd j hj).2) K (hK v w rfl (by rw [hs]; rfl) (fun _ _ _ h => h))⟩
theorem wl_bsX {ops : Array Oper} {rest : List Oper} (ty : TypeId) (m : Nat) (xs : List (Nat × Operand)) (ps : List (Nat × Value)) (cs : Array Value) (e : TypeId) (ho : o.op = .buildSlice ty m xs.toArray) (hx : xs.map (fun p => (p.1, evl n l p.2)) = ps)
    (h : ∀ w, (Instr.buildSlice ty m ps.toArray).run P w = .ok (.slice (some ⟨w.heap.size, 0, none⟩) m m) (w.alloc (.cells cs e))) (hg : wnt n l ops o = true)
    (hk : ∀ k w', k = w.heap.size → w' = w.alloc (.cells cs e) → At w' k cs.toList → WL P ops Q rest n (ext l o.dst (.slice (some ⟨k, 0, none⟩) m m)) w') : WL P ops Q (o :: rest) n l w := by
  subst hx
  refine ⟨l_step hg (o_val (.slice (some ⟨w.heap.size, 0, none⟩) m m) (w' := w.alloc (.cells cs e)) ?_ (hk _ _ rfl rfl (At.new w cs e)).out)⟩
  simp [execOp, ho, h]
end
theorem grow_alloc (w : World) (cs : Array Value) (e : TypeId) : w.drew.alloc (.cells cs e) = grow (w.drewN 1) #[.cells cs e] := by rw [alloc_eq_grow]; rfl
/-- How two items stand: by their ranks, then by their numbers. -/
def cfO (rs : List Nat) (x y : Nat) : Int := if compareInt ((rs.getD x 0 : Nat) : Int) ((rs.getD y 0 : Nat) : Int) = 0 then compareInt (x : Int) (y : Int) else compareInt ((rs.getD x 0 : Nat) : Int) ((rs.getD y 0 : Nat) : Int)
theorem cfO_lt (rs : List Nat) (x y : Nat) : cfO rs x y < 0 ↔ rs.getD x 0 < rs.getD y 0 ∨ (rs.getD x 0 = rs.getD y 0 ∧ x < y) := by
  unfold cfO compareInt
  generalize rs.getD x 0 = a
  generalize rs.getD y 0 = b
  by_cases h1 : (a : Int) < (b : Int)
  · simp [h1]; omega
  · by_cases h2 : (b : Int) < (a : Int)
    · simp [h1, h2]; omega
    · by_cases h3 : (x : Int) < (y : Int)
      · simp [h1, h2, h3]; omega
      · by_cases h4 : (y : Int) < (x : Int)
        · simp [h1, h2, h3, h4]; omega
        · simp [h1, h2, h3, h4]; omega
end Go.Proofs.Ythghblgbjgghcaa
namespace Go.Proofs.Ythghblgbjgghcaa
open Go.RowKit D Go.Sort Go.Lib
theorem or_n {w : World} {k : Nat} {a b : Int} (hA : At w k [.int .i64 a, .int .i64 b]) : Calls Try.prog 48 #[.slice (some ⟨k, 0, none⟩) 2 2] w fun e w' => e = .returned (.int .i64 (if a = 0 then b else a)) ∧ w' = w := by
  refine w_enter 18 Try.func48 Try.ntmps48 rfl rfl ?_
  have M : Mo w w := Mo.refl _
  refine w_seq ?_
  refine w_reg ?_
  refine wl_mv (.const (.int .i64 (0))) (.int .i64 (0)) (fun _ => rfl) rfl rfl ?_
  refine w_nil ?_
  refine xn_then ?_
  refine w_seq ?_
  refine w_reg ?_
  refine wl_mv (.const (.int .i64 (0))) (.int .i64 (0)) (fun _ => rfl) rfl rfl ?_
  refine w_nil ?_
  refine xn_then ?_
  refine w_seq ?_
  refine w_seq ?_
  refine w_reg ?_
  refine wl_mv (.tmp 0) (.slice (some ⟨k, 0, none⟩) 2 2) (fun _ => rfl) rfl rfl ?_
  refine wl_val (.int .i64 (2)) (len32 _ _ _ 2 _ (by exact rfl) _ _ _ _ _ _) rfl ?_
  refine wl_mv (.const (.int .i64 (0))) (.int .i64 (0)) (fun _ => rfl) rfl rfl ?_
  refine w_nil ?_
  refine xn_then ?_
  refine w_block ?_
  refine w_loop (fun m lf w1 => ∃ i : Nat, m = 2 - i ∧ look lf 3 = .int .i64 (0) ∧ look lf 6 = .slice (some ⟨k, 0, none⟩) 2 2 ∧ look lf 7 = .int .i64 (2) ∧ look lf 8 = .int .i64 ((i : Nat) : Int) ∧ (i ≤ 2) ∧ ((0 < i → a = 0) ∧ (1 < i → b = 0)) ∧ (w1 = w)) _ ⟨0, rfl, rfl, rfl, rfl, rfl, by omega, ⟨fun h => absurd h (by omega), fun h => absurd h (by omega)⟩, rfl⟩ ?_
  clear M
  rintro m lf40 wl40 ⟨i, rfl, e40_3, e40_6, e40_7, e40_8, hi, ha, hw⟩
  subst hw
  have M : Mo wl40 wl40 := Mo.refl _
  have hi3 : i = 0 ∨ i = 1 ∨ i = 2 := by omega
  rcases hi3 with rfl | rfl | rfl
  · skip
    refine w_seq ?_
    refine w_reg ?_
    refine wl_bin (fun x y => do eqGuard .lss 3 (.tmp 8) (.tmp 7) x y; binOp .lss 3 x y) (.tmp 8) (.tmp 7) (.int .i64 (0)) (.int .i64 (2)) (.bool true) (fun _ => rfl) e40_8 e40_7 (lt3 (r := true) rfl _ _ _) rfl ?_
    refine w_nil ?_
    refine xn_then ?_
    refine w_seq ?_
    refine w_condT rfl ?_
    refine w_skip ?_
    refine xn_then ?_
    refine w_seq ?_
    refine w_block ?_
    refine w_seq ?_
    refine w_reg ?_
    refine wl_bin (fun x y => Instr.indexAt 32 x y) (.tmp 6) (.tmp 8) (.slice (some ⟨k, 0, none⟩) 2 2) (.int .i64 (0)) (pt k 0) (fun _ => rfl) e40_6 e40_8 (ix32 (i := 0) rfl (by decide) _) rfl ?_
    refine wl_load 3 (.tmp 10) (pt k 0) (.int .i64 (a)) rfl rfl (run_one hA 3 0 rfl Try.underlying3 rfl) rfl ?_
    refine wl_mv (.tmp 11) (.int .i64 (a)) (fun _ => rfl) rfl rfl ?_
    refine w_nil ?_
    refine xn_then ?_
    refine w_seq ?_
    refine w_reg ?_
    refine wl_mv (.tmp 5) (.int .i64 (a)) (fun _ => rfl) rfl rfl ?_
    refine wl_mv (.tmp 3) (.int .i64 (0)) (fun _ => rfl) e40_3 rfl ?_
    cases hf30 : decide (a = 0) with
    | true =>
      have hf30p := of_decide_eq_true hf30
      refine wl_bin (fun x y => do eqGuard .neq 3 (.tmp 12) (.tmp 13) x y; binOp .neq 3 x y) (.tmp 12) (.tmp 13) (.int .i64 (a)) (.int .i64 (0)) (.bool false) (fun _ => rfl) rfl rfl (ne3 hf30 _ _ _) rfl ?_
      refine w_nil ?_
      refine xn_then ?_
      refine w_condF rfl ?_
      refine w_skip ?_
      refine xn_blk ?_
      refine xn_then ?_
      refine w_reg ?_
      refine wl_bin (fun x y => do eqGuard .add 3 (.tmp 8) (.const (.int .i64 (1))) x y; binOp .add 3 x y) (.tmp 8) (.const (.int .i64 (1))) (.int .i64 (0)) (.int .i64 (1)) (.int .i64 (1)) (fun _ => rfl) e40_8 rfl (by kernel_rfl) rfl ?_
      refine wl_mv (.tmp 16) (.int .i64 (1)) (fun _ => rfl) rfl rfl ?_
      refine w_nil ?_
      exact xn_loop (2 - 1) (by omega) ⟨1, rfl, e40_3, e40_6, e40_7, rfl, by omega, ⟨fun _ => of_decide_eq_true hf30, fun h => absurd h (by omega)⟩, rfl⟩
    | false =>
      have hf30p := of_decide_eq_false hf30
      refine wl_bin (fun x y => do eqGuard .neq 3 (.tmp 12) (.tmp 13) x y; binOp .neq 3 x y) (.tmp 12) (.tmp 13) (.int .i64 (a)) (.int .i64 (0)) (.bool true) (fun _ => rfl) rfl rfl (ne3 hf30 _ _ _) rfl ?_
      refine w_nil ?_
      refine xn_then ?_
      refine w_condT rfl ?_
      refine w_seq ?_
      refine w_reg ?_
      refine wl_mv (.tmp 5) (.int .i64 (a)) (fun _ => rfl) rfl rfl ?_
      refine wl_mv (.tmp 15) (.int .i64 (a)) (fun _ => rfl) rfl rfl ?_
      refine w_nil ?_
      refine xn_then ?_
      refine w_ret ?_
      refine xr_blk ?_
      refine xr_then ?_
      refine xr_then ?_
      refine xr_blk ?_
      refine xr_then ?_
      exact w_ret1 _ (.int .i64 (a)) rfl rfl ⟨by rw [if_neg (of_decide_eq_false hf30)], rfl⟩
  · skip
    refine w_seq ?_
    refine w_reg ?_
    refine wl_bin (fun x y => do eqGuard .lss 3 (.tmp 8) (.tmp 7) x y; binOp .lss 3 x y) (.tmp 8) (.tmp 7) (.int .i64 (1)) (.int .i64 (2)) (.bool true) (fun _ => rfl) e40_8 e40_7 (lt3 (r := true) rfl _ _ _) rfl ?_
    refine w_nil ?_
    refine xn_then ?_
    refine w_seq ?_
    refine w_condT rfl ?_
    refine w_skip ?_
    refine xn_then ?_
    refine w_seq ?_
    refine w_block ?_
    refine w_seq ?_
    refine w_reg ?_
    refine wl_bin (fun x y => Instr.indexAt 32 x y) (.tmp 6) (.tmp 8) (.slice (some ⟨k, 0, none⟩) 2 2) (.int .i64 (1)) (pt k 1) (fun _ => rfl) e40_6 e40_8 (ix32 (i := 1) rfl (by decide) _) rfl ?_
    refine wl_load 3 (.tmp 10) (pt k 1) (.int .i64 (b)) rfl rfl (run_one hA 3 1 rfl Try.underlying3 rfl) rfl ?_
    refine wl_mv (.tmp 11) (.int .i64 (b)) (fun _ => rfl) rfl rfl ?_
    refine w_nil ?_
    refine xn_then ?_
    refine w_seq ?_
    refine w_reg ?_
    refine wl_mv (.tmp 5) (.int .i64 (b)) (fun _ => rfl) rfl rfl ?_
    refine wl_mv (.tmp 3) (.int .i64 (0)) (fun _ => rfl) e40_3 rfl ?_
    cases hf30 : decide (b = 0) with
    | true =>
      have hf30p := of_decide_eq_true hf30
      refine wl_bin (fun x y => do eqGuard .neq 3 (.tmp 12) (.tmp 13) x y; binOp .neq 3 x y) (.tmp 12) (.tmp 13) (.int .i64 (b)) (.int .i64 (0)) (.bool false) (fun _ => rfl) rfl rfl (ne3 hf30 _ _ _) rfl ?_
      refine w_nil ?_
      refine xn_then ?_
      refine w_condF rfl ?_
      refine w_skip ?_
      refine xn_blk ?_
      refine xn_then ?_
      refine w_reg ?_
      refine wl_bin (fun x y => do eqGuard .add 3 (.tmp 8) (.const (.int .i64 (1))) x y; binOp .add 3 x y) (.tmp 8) (.const (.int .i64 (1))) (.int .i64 (1)) (.int .i64 (1)) (.int .i64 (2)) (fun _ => rfl) e40_8 rfl (by kernel_rfl) rfl ?_
      refine wl_mv (.tmp 16) (.int .i64 (2)) (fun _ => rfl) rfl rfl ?_
      refine w_nil ?_
      exact xn_loop (2 - 2) (by omega) ⟨2, rfl, e40_3, e40_6, e40_7, rfl, by omega, ⟨fun _ => ha.1 (by decide), fun h => of_decide_eq_true hf30⟩, rfl⟩
    | false =>
      have hf30p := of_decide_eq_false hf30
      refine wl_bin (fun x y => do eqGuard .neq 3 (.tmp 12) (.tmp 13) x y; binOp .neq 3 x y) (.tmp 12) (.tmp 13) (.int .i64 (b)) (.int .i64 (0)) (.bool true) (fun _ => rfl) rfl rfl (ne3 hf30 _ _ _) rfl ?_
      refine w_nil ?_
      refine xn_then ?_
      refine w_condT rfl ?_
      refine w_seq ?_
      refine w_reg ?_
      refine wl_mv (.tmp 5) (.int .i64 (b)) (fun _ => rfl) rfl rfl ?_
      refine wl_mv (.tmp 15) (.int .i64 (b)) (fun _ => rfl) rfl rfl ?_
      refine w_nil ?_
      refine xn_then ?_
      refine w_ret ?_
      refine xr_blk ?_
      refine xr_then ?_
      refine xr_then ?_
      refine xr_blk ?_
      refine xr_then ?_
      exact w_ret1 _ (.int .i64 (b)) rfl rfl ⟨by rw [if_pos (ha.1 (by decide))], rfl⟩
  · skip
    refine w_seq ?_
    refine w_reg ?_
    refine wl_bin (fun x y => do eqGuard .lss 3 (.tmp 8) (.tmp 7) x y; binOp .lss 3 x y) (.tmp 8) (.tmp 7) (.int .i64 (2)) (.int .i64 (2)) (.bool false) (fun _ => rfl) e40_8 e40_7 (lt3 (r := false) rfl _ _ _) rfl ?_
    refine w_nil ?_
    refine xn_then ?_
    refine w_seq ?_
    refine w_condF rfl ?_
    refine w_exit ?_
    refine xx_then ?_
    refine xx_then ?_
    refine xx_blk ?_
    refine xn_then ?_
    refine w_seq ?_
    refine w_reg ?_
    refine wl_mv (.tmp 3) (.int .i64 (0)) (fun _ => rfl) e40_3 rfl ?_
    refine wl_mv (.tmp 17) (.int .i64 (0)) (fun _ => rfl) rfl rfl ?_
    refine w_nil ?_
    refine xn_then ?_
    refine w_ret ?_
    exact w_ret1 _ (.int .i64 (0)) rfl rfl ⟨by rw [if_pos (ha.1 (by decide)), ha.2 (by decide)], rfl⟩
theorem ordc_n {rs : List Nat} {kR kr : Nat} {w : World} {x y : Nat} (hA : At w kR [.slice (some ⟨kr, 0, none⟩) rs.length rs.length]) (hB : Ob w kr 3 (rs.map (fun n => .int .i64 ((n : Nat) : Int)))) (hx : x < rs.length) (hy : y < rs.length) : Calls Try.prog 47 #[.int .i64 ((x : Nat) : Int), .int .i64 ((y : Nat) : Int), pt kR 0] w fun e w' => e = .returned (.int .i64 (cfO rs x y)) ∧ ∃ q os, w' = grow (w.drewN q) os := by
  unfold cfO
  have hxg : rs[x]? = some (rs.getD x 0) := by simp [hx]
  have hyg : rs[y]? = some (rs.getD y 0) := by simp [hy]
  generalize rs.getD x 0 = rx at hxg ⊢
  generalize rs.getD y 0 = ry at hyg ⊢
  refine w_enter 20 Try.func47 Try.ntmps47 rfl rfl ?_
  have M : Mo w w := Mo.refl _
  refine w_seq ?_
  refine w_reg ?_
  refine wl_mv (.const (.int .i64 (0))) (.int .i64 (0)) (fun _ => rfl) rfl rfl ?_
  refine w_nil ?_
  refine xn_then ?_
  refine w_seq ?_
  have hAd := hA.mo ((Mo.refl _).drew)
  have hBd := (hB.mo ((Mo.refl _).drew)).at
  refine w_ogl 12 (fun _ _ w9 => w9 = w.drew) [vq (.slice (some ⟨kr, 0, none⟩) rs.length rs.length), vq (.int .i64 ((x : Nat) : Int)), vq (pt kr (0 + x * 1)), vq (.int .i64 ((rx : Nat) : Int)), vq (.slice (some ⟨kr, 0, none⟩) rs.length rs.length), vq (.int .i64 ((y : Nat) : Int)), vq (pt kr (0 + y * 1)), vq (.int .i64 ((ry : Nat) : Int)), vq (.int .i64 (compareInt (((rx : Nat) : Int)) (((ry : Nat) : Int)))), vq (.int .i64 ((x : Nat) : Int)), vq (.int .i64 ((y : Nat) : Int)), vq (.int .i64 (compareInt (((x : Nat) : Int)) (((y : Nat) : Int))))] (by kernel_rfl) (by kernel_rfl) (by kernel_rfl) (by kernel_rfl) rfl (fun _ => rfl) ?_ ?_
  · refine ea_cons ?_ (ea_cons ?_ (ea_cons ?_ (ea_cons ?_ (ea_cons ?_ (ea_cons ?_ (ea_cons ?_ (ea_cons ?_ (ea_cons ?_ (ea_cons ?_ (ea_cons ?_ (ea_cons ?_ (ea_nil))))))))))))
    · exact ol_same (.slice (some ⟨kr, 0, none⟩) rs.length rs.length) rfl (fun f hd K hK => go_run rfl (wo_load 32 (.tmp 2) (pt kR 0) (.slice (some ⟨kr, 0, none⟩) rs.length rs.length) rfl rfl (run_one hAd 32 0 rfl Try.underlying32 rfl) hK))
    · exact ol_same (.int .i64 ((x : Nat) : Int)) rfl (fun f hd K hK => go_run rfl (wo_mv (.tmp 0) (.int .i64 ((x : Nat) : Int)) (fun _ => rfl) rfl hK))
    · exact ol_same (pt kr (0 + x * 1)) rfl (fun f hd K hK => go_run rfl (wo_bin (fun x y => Instr.indexAt 32 x y) (.tmp 6) (.tmp 7) (.slice (some ⟨kr, 0, none⟩) rs.length rs.length) (.int .i64 ((x : Nat) : Int)) (pt kr (0 + x * 1)) (fun _ => rfl) (hd 0 rfl) (hd 1 rfl) (ix32 (i := x) rfl hx _) hK))
    · exact ol_same (.int .i64 ((rx : Nat) : Int)) rfl (fun f hd K hK => go_run rfl (wo_load 3 (.tmp 8) (pt kr (0 + x * 1)) (.int .i64 ((rx : Nat) : Int)) rfl (hd 2 rfl) (run_one hBd 3 (0 + x * 1) (by simp [hxg]) Try.underlying3 rfl) hK))
    · exact ol_same (.slice (some ⟨kr, 0, none⟩) rs.length rs.length) rfl (fun f hd K hK => go_run rfl (wo_load 32 (.tmp 2) (pt kR 0) (.slice (some ⟨kr, 0, none⟩) rs.length rs.length) rfl rfl (run_one hAd 32 0 rfl Try.underlying32 rfl) hK))
    · exact ol_same (.int .i64 ((y : Nat) : Int)) rfl (fun f hd K hK => go_run rfl (wo_mv (.tmp 1) (.int .i64 ((y : Nat) : Int)) (fun _ => rfl) rfl hK))
    · exact ol_same (pt kr (0 + y * 1)) rfl (fun f hd K hK => go_run rfl (wo_bin (fun x y => Instr.indexAt 32 x y) (.tmp 10) (.tmp 11) (.slice (some ⟨kr, 0, none⟩) rs.length rs.length) (.int .i64 ((y : Nat) : Int)) (pt kr (0 + y * 1)) (fun _ => rfl) (hd 4 rfl) (hd 5 rfl) (ix32 (i := y) rfl hy _) hK))
    · exact ol_same (.int .i64 ((ry : Nat) : Int)) rfl (fun f hd K hK => go_run rfl (wo_load 3 (.tmp 12) (pt kr (0 + y * 1)) (.int .i64 ((ry : Nat) : Int)) rfl (hd 6 rfl) (run_one hBd 3 (0 + y * 1) (by simp [hyg]) Try.underlying3 rfl) hK))
    · exact ol_same (.int .i64 (compareInt (((rx : Nat) : Int)) (((ry : Nat) : Int)))) rfl (fun f hd K hK => go_run rfl (wo_callx 49 [(.tmp 9), (.tmp 13)] _ [.int .i64 ((rx : Nat) : Int), .int .i64 ((ry : Nat) : Int)] rfl (li2 (hd 3 rfl) (hd 7 rfl)) (fun _ _ => by kernel_rfl) (Try.cmp_Compare_int (((rx : Nat) : Int)) (((ry : Nat) : Int)) _) (fun e9 w9 ⟨he9, hw9⟩ => ⟨_, he9, hw9 ▸ hK⟩)))
    · exact ol_same (.int .i64 ((x : Nat) : Int)) rfl (fun f hd K hK => go_run rfl (wo_mv (.tmp 0) (.int .i64 ((x : Nat) : Int)) (fun _ => rfl) rfl hK))
    · exact ol_same (.int .i64 ((y : Nat) : Int)) rfl (fun f hd K hK => go_run rfl (wo_mv (.tmp 1) (.int .i64 ((y : Nat) : Int)) (fun _ => rfl) rfl hK))
    · exact ol_same (.int .i64 (compareInt (((x : Nat) : Int)) (((y : Nat) : Int)))) rfl (fun f hd K hK => go_run rfl (wo_callx 49 [(.tmp 15), (.tmp 16)] _ [.int .i64 ((x : Nat) : Int), .int .i64 ((y : Nat) : Int)] rfl (li2 (hd 9 rfl) (hd 10 rfl)) (fun _ _ => by kernel_rfl) (Try.cmp_Compare_int (((x : Nat) : Int)) (((y : Nat) : Int)) _) (fun e9 w9 ⟨he9, hw9⟩ => ⟨_, he9, hw9 ▸ hK⟩)))
  intro L9 f w9 hall9 hG9 hR9
  subst hG9
  have er0 := hR9 0 rfl
  have er1 := hR9 1 rfl
  have er2 := hR9 2 rfl
  have er3 := hR9 3 rfl
  have er4 := hR9 4 rfl
  have er5 := hR9 5 rfl
  have er6 := hR9 6 rfl
  have er7 := hR9 7 rfl
  have er8 := hR9 8 rfl
  have er9 := hR9 9 rfl
  have er10 := hR9 10 rfl
  have er11 := hR9 11 rfl
  clear hall9 hR9
  refine wl_bsX 32 2 [(0, (.tmp 14)), (1, (.tmp 17))] [(0, .int .i64 (compareInt (((rx : Nat) : Int)) (((ry : Nat) : Int)))), (1, .int .i64 (compareInt (((x : Nat) : Int)) (((y : Nat) : Int))))] #[.int .i64 (compareInt (((rx : Nat) : Int)) (((ry : Nat) : Int))), .int .i64 (compareInt (((x : Nat) : Int)) (((y : Nat) : Int)))] 3 rfl (lp2 er8 er11) (fun _ => by kernel_rfl) rfl ?_
  intro k1 w1 hk1 hw1 Q1
  refine wl_callx 48 [(.tmp 18)] _ [.slice (some ⟨k1, 0, none⟩) 2 2] rfl rfl (fun _ _ => by kernel_rfl) (or_n Q1) rfl ?_
  rintro e9 u1 ⟨rfl, hw2⟩
  refine ⟨_, rfl, ?_⟩
  refine wl_mv (.tmp 19) (.int .i64 (if (compareInt (((rx : Nat) : Int)) (((ry : Nat) : Int))) = 0 then (compareInt (((x : Nat) : Int)) (((y : Nat) : Int))) else (compareInt (((rx : Nat) : Int)) (((ry : Nat) : Int))))) (fun _ => rfl) rfl rfl ?_
  refine w_nil ?_
  refine xn_then ?_
  refine w_ret ?_
  exact w_ret1 _ (.int .i64 (if (compareInt (((rx : Nat) : Int)) (((ry : Nat) : Int))) = 0 then (compareInt (((x : Nat) : Int)) (((y : Nat) : Int))) else (compareInt (((rx : Nat) : Int)) (((ry : Nat) : Int))))) rfl rfl ⟨rfl, 1, _, by rw [hw2, hw1]; exact grow_alloc _ _ _⟩
end Go.Proofs.Ythghblgbjgghcaa
namespace Go.Proofs.Ythghblgbjgghcaa
open Go.RowKit D Go.Sort Go.Lib
theorem cfO_tot (rs : List Nat) {x y : Nat} (h : x ≠ y) : cfO rs x y < 0 ∨ cfO rs y x < 0 := by
  rw [cfO_lt, cfO_lt]; omega
theorem swoO (rs : List Nat) (p : Nat → Prop) : SWO (ltOf (fun x y : {n : Nat // p n} => cfO rs x.val y.val)) where
  irrefl x := by unfold ltOf; rw [decide_eq_false_iff_not, cfO_lt]; omega
  trans x y z h1 h2 := by unfold ltOf at *; rw [decide_eq_true_eq, cfO_lt] at *; omega
  ntrans x y z h1 h2 := by unfold ltOf at *; rw [decide_eq_false_iff_not, cfO_lt] at *; omega
abbrev iv (n : Nat) : Value := .int .i64 ((n : Nat) : Int)
theorem sortf_n {rs : List Nat} {kR kr kb : Nat} {w : World} (hA : At w kR [.slice (some ⟨kr, 0, none⟩) rs.length rs.length]) (hB : Ob w kr 3 (rs.map iv)) (hO : Ob w kb 3 ((List.range rs.length).map iv)) (h1 : kR ≠ kb) (h2 : kr ≠ kb) (hz : rs.length < 4000000) :
    Calls Try.prog 46 #[.slice (some ⟨kb, 0, none⟩) rs.length rs.length, .func (.func 47) #[] #[pt kR 0]] w fun e w' => e = .returned (.tuple #[]) ∧ (∃ L : List Nat, L.Perm (List.range rs.length) ∧ L.Pairwise (fun a b => cfO rs a b < 0) ∧ Ob w' kb 3 (L.map iv)) ∧ Mk (fun j => j = kb) w w' := by
  rcases Nat.eq_zero_or_pos rs.length with h0 | h0
  · rw [h0] at hO ⊢
    have hS := AnyF.slices_SortFunc_none (P := Try.prog) (ρ := Try.laysSlF6_f46_ren) { Try.laysSlF6_f46 with } (some ⟨kb, 0, none⟩) 0 (.func (.func 47) #[] #[pt kR 0]) w
    refine hS.mono ?_
    rintro e w' ⟨rfl, rfl⟩
    exact ⟨rfl, ⟨[], List.Perm.refl _, List.Pairwise.nil, hO⟩, Mk.refl _ _⟩
  · let α := {n : Nat // n < rs.length}
    haveI : Inhabited α := ⟨⟨0, h0⟩⟩
    let enc : α → Value := fun x => iv x.val
    let dl : List α := (List.range rs.length).attachWith (fun n => n < rs.length) (fun x hx => List.mem_range.1 hx)
    have hdl : dl.map Subtype.val = List.range rs.length := List.attachWith_map_subtype_val _
    have hdlen : dl.length = rs.length := by have := congrArg List.length hdl; simpa using this
    have hdv : (List.range rs.length).map iv = dl.toArray.toList.map enc := by rw [← hdl, List.map_map]; rfl
    have hsz : dl.toArray.size = rs.length := by simpa using hdlen
    have hcmp : CmpLays1 Try.prog 47 #[pt kR 0] enc (fun x y : α => cfO rs x.val y.val) kb 0 dl.toArray.size w := fun m os dk _ x y => by
      have hM := mk_sorted enc w kb m os dk
      exact ordc_n (hM.at hA h1) (hB.mk hM h2) x.2 y.2
    have hS := Try.slices_SortFunc enc (fun _ => rfl) (fun x y : α => cfO rs x.val y.val) (swoO rs _) 47 #[pt kR 0] kb 0 rs.length dl.toArray w (fun _ _ => by kernel_rfl) hcmp (holds_ob enc hO hdv) hO.lt (by omega)
    rw [hsz] at hS
    refine hS.mono ?_
    rintro e w' ⟨rfl, d', n, os, hp, hs, rfl⟩
    have hds : d'.size = rs.length := hp.1.trans hsz
    have hpm : d'.toList.Perm dl := by
      have h9 := hp.2.2
      have e1 : d'.extract 0 rs.length = d' := by rw [← hds]; simp
      have e2 : dl.toArray.extract 0 rs.length = dl.toArray := by rw [← hsz]; simp
      rw [e1, e2] at h9; exact h9
    have hpL : (d'.toList.map Subtype.val).Perm (List.range rs.length) := by rw [← hdl]; exact hpm.map _
    refine ⟨rfl, ⟨d'.toList.map Subtype.val, hpL, ?_, ?_⟩, mk_sorted enc w kb n os d'⟩
    · have hnd : (d'.toList.map Subtype.val).Nodup := hpL.nodup_iff.2 List.nodup_range
      rw [List.pairwise_iff_getElem]
      intro i j hi hj hij
      have hi' : i < d'.size := by simpa using hi
      have hj' : j < d'.size := by simpa using hj
      have h3 := hs i j (Nat.zero_le _) hij (by omega)
      rw [getElem!_pos d' i hi', getElem!_pos d' j hj'] at h3
      have h4 : ¬ cfO rs d'[j].val d'[i].val < 0 := of_decide_eq_false h3
      have h5 := (List.pairwise_iff_getElem.1 hnd) i j hi hj hij
      rw [List.getElem_map, List.getElem_map, Array.getElem_toList, Array.getElem_toList] at h5 ⊢
      exact (cfO_tot rs h5).resolve_right h4
    · have := ob_sorted enc hO n os d' (by simp [hds])
      rw [List.map_map]; exact this
end Go.Proofs.Ythghblgbjgghcaa
