/-
  A part of the proof.
-/
import Derived.Test.YtnffhcjmpjajlaaDoorKa11
import Derived.Test.YtnffhcjmpjajlaaDoorKParses1
import Derived.Test.YtnffhcjmpjajlaaDoorKa8
import Derived.Test.YtnffhcjmpjajlaaDoorKa7
import Derived.Test.YtnffhcjmpjajlaaDoorKa6
import Derived.Test.YtnffhcjmpjajlaaDoorKa5
import Derived.Test.YtnffhcjmpjajlaaDoorKa4
import Derived.Test.YtnffhcjmpjajlaaDoorKa3
import Derived.Test.YtnffhcjmpjajlaaDoorKa2
import Derived.Test.YtnffhcjmpjajlaaDoorKa1
import Derived.RegionTactic
import Derived.Test.YtnffhcjmpjajlaaDoorProg
import Derived.WalkKit
import Derived.WalkSpells
import Derived.Handy
import Derived.BigQuiet
import Derived.Deep.RegionHeld3
import Derived.Deep.MidRow
import Derived.BigCall
import Derived.ChangeKeysEq
import Derived.Shelf.Small.Bits
import Derived.Shelf.Strconv.Itoa0
import Derived.Shelf.Bits.Mul64
import Derived.Deep.CutRange
import Derived.Deep.CutBlock
import Derived.ScopeJumps
import Derived.WalkMore
import Derived.Laws.StructEq
import Derived.Lib.CutLaws
import Derived.Maps.OwnSet
import Derived.WalkArith
import Derived.StringKeys
import Derived.ProofKit
import Derived.OpenShut
import Derived.ChangeArms
import Derived.Deep.Slices
import Derived.ReadAgain
import Derived.WideKeyArgs
import Derived.Maps.AppendAt
import Derived.Shelf.Strconv.Itoa4
import Derived.Test.YtnffhcjmpjajlaaDoorKa10
import Derived.Test.YtnffhcjmpjajlaaDoorKa9
import Derived.Lib.IndexBytes
import Derived.Lib.AppendIntMem
import Derived.Lib.ItoaLen
import Derived.Laws.MakeOwn
import Derived.Test.YtnffhcjmpjajlaaDoorKa12
import Derived.Test.YtnffhcjmpjajlaaDoorKa13
import Derived.Test.YtnffhcjmpjajlaaDoorKa14
namespace Go.Proofs.YtnffhcjmpjajlaaDoor
open Go.RowKit D
theorem sz4 : (Tryd.prog.info? 4).map (·.size) = some 1 := by kernel_rfl
theorem ix84 {pa : Option Addr} {b off i n c : Nat} (hp : pa = some ⟨b, off, none⟩) (h : i < n) (w : World) : (Instr.indexAt 84 (.slice pa n c) (.int .i64 (i : Int))).run Tryd.prog w = .ok (pt b (off + i * 6)) w := by
 subst hp
 have e : (Instr.indexAt 84 (.slice (some ⟨b, off, none⟩) n c) (.int .i64 (i : Int))).run Tryd.prog w = .ok (.pointer (some ((⟨b, off, none⟩ : Addr).add (i * 6)))) w := by simp [go_sem, h]
 rw [e, Addr.add_mid]
theorem len84 (ρ : Operand → Value) (x : Operand) (p : Option Addr) (m c : Nat) (hx : ρ x = .slice p m c) (dst : Option Tmp) (type : TypeId) (pos : String) (after : Array Edge) (guard : Option (Nat × Bool)) (w : World) : (execOp ρ { dst, op := .call { callee := .builtin .len, args := #[x], argTypes := #[84] }, type, pos, after, guard }).run Tryd.prog w = .ok (.value (.int .i64 (m : Int))) w := by
 simp [go_sem, hx]
theorem sz87 : (Tryd.prog.info? 87).map (·.size) = some 6 := by kernel_rfl
theorem fl_len (X : List Bg) : (fl X).length = X.length * 6 := by
 induction X with
 | nil => rfl
 | cons a X ih => show (a.cells ++ fl X).length = _; rw [List.length_append, ih, List.length_cons, show a.cells.length = 6 from rfl]; omega
theorem fl_4 (p : Bg) (T : List Bg) (u : ByteArray) : fl (⟨p.r, u, p.b⟩ :: T) = (fl (p :: T)).take 4 ++ [.string u] ++ (fl (p :: T)).drop (4 + 1) := by simp [fl, Bg.cells, Ro.cells]
theorem fl_5 (p : Bg) (T : List Bg) (b : Bool) : fl (⟨p.r, p.s, b⟩ :: T) = (fl (p :: T)).take 5 ++ [.bool b] ++ (fl (p :: T)).drop (5 + 1) := by simp [fl, Bg.cells, Ro.cells]
theorem fl_set {b : Bg} : ∀ {X : List Bg} {n : Nat}, n < X.length → fl (X.set n b) = (fl X).take (n * 6) ++ b.cells ++ (fl X).drop (n * 6 + 6)
 | [], n, h => absurd h (Nat.not_lt_zero n)
 | a :: X, 0, _ => by
  show b.cells ++ fl X = (a.cells ++ fl X).take 0 ++ b.cells ++ (a.cells ++ fl X).drop (0 + 6)
  rw [List.take_zero, List.nil_append, List.drop_append_of_le_length (by show 0 + 6 ≤ 6; omega), List.drop_of_length_le (by show 6 ≤ 0 + 6; omega), List.nil_append]
 | a :: X, n + 1, h => by
  have ih := fl_set (b := b) (X := X) (n := n) (by rw [List.length_cons] at h; omega)
  show a.cells ++ fl (X.set n b) = (a.cells ++ fl X).take ((n + 1) * 6) ++ b.cells ++ (a.cells ++ fl X).drop ((n + 1) * 6 + 6)
  rw [ih, List.take_append, List.drop_append, show a.cells.length = 6 from rfl, show a.cells.take ((n + 1) * 6) = a.cells from List.take_of_length_le (by show 6 ≤ (n + 1) * 6; omega), show a.cells.drop ((n + 1) * 6 + 6) = [] from List.drop_of_length_le (by show 6 ≤ (n + 1) * 6 + 6; omega), show (n + 1) * 6 - 6 = n * 6 by omega, show (n + 1) * 6 + 6 - 6 = n * 6 + 6 by omega]
  simp only [List.append_assoc, List.nil_append]
theorem fl_rep : ∀ (N j : Nat), j < N * 6 → (fl (List.replicate N bg0))[j]? = bg0.cells[j % 6]?
 | 0, j, h => absurd h (by omega)
 | N + 1, j, h => by
  show (bg0.cells ++ fl (List.replicate N bg0))[j]? = _
  by_cases q : j < 6
  ·rw [List.getElem?_append_left (by exact q), Nat.mod_eq_of_lt q]
  ·rw [List.getElem?_append_right (by show 6 ≤ j; omega), show bg0.cells.length = 6 from rfl]
   rw [fl_rep N (j - 6) (by omega)]
   congr 1
   omega
theorem inf87 : ∃ i, Tryd.prog.info? 87 = some i ∧ i.zero = some (.agg bg0.cells.toArray) ∧ i.size = 6 ∧ i.bytes = 56 := by
 have h : (Tryd.prog.info? 87).map (fun i => (i.zero, i.size, i.bytes)) = some (some (.agg bg0.cells.toArray), 6, 56) := by kernel_rfl
 cases hi : Tryd.prog.info? 87 with
 | none => rw [hi] at h; cases h
 | some i =>
  rw [hi] at h
  simp at h
  exact ⟨i, rfl, h.1, h.2.1, h.2.2⟩
theorem made_fl (N : Nat) : madeCells (Value.agg bg0.cells.toArray).cells (N * 6) = (fl (List.replicate N bg0)).toArray := by
 apply Array.ext'
 apply List.ext_getElem?
 intro j
 show (madeCells bg0.cells.toArray (N * 6)).toList[j]? = (fl (List.replicate N bg0))[j]?
 by_cases q : j < N * 6
 ·rw [fl_rep N j q]
  have h6 : j % 6 < 6 := Nat.mod_lt _ (by omega)
  simp only [madeCells, Array.toList_map, List.getElem?_map, Array.toList_range, List.getElem?_range q, Option.map_some]
  rw [show bg0.cells.toArray.size = 6 from rfl]
  rw [List.getElem?_eq_getElem (show j % 6 < bg0.cells.length from h6)]
  congr 1
  rw [getElem!_pos bg0.cells.toArray (j % 6) h6]
  rfl
 ·rw [List.getElem?_eq_none (by rw [Array.length_toList, size_madeCells]; omega), List.getElem?_eq_none (by rw [fl_len, List.length_replicate]; omega)]
section
variable {o : Oper} {n : Nat} {l : List (Nat × Value)} {w : World} {ops : Array Oper} {rest : List Oper} {Q : Exit → Act → World → Prop}
theorem wl_mkB (x y : Operand) (N : Nat) (hN : N ≤ 100) (ho : o.op = .makeSlice 84 x y) (hx : evl n l x = .int .i64 ((N : Nat) : Int)) (hy : evl n l y = .int .i64 ((N : Nat) : Int)) (hg : wnt n l ops o = true)
  (hk : ∀ k w', w.heap.size = k → w'.heap.size = k + 1 → Mo w w' → At w' k (fl (List.replicate N bg0)) → WL Tryd.prog ops Q rest n (ext l o.dst (.slice (some ⟨k, 0, none⟩) N N)) w') : WL Tryd.prog ops Q (o :: rest) n l w := by
 obtain ⟨i, hi, hzz, hs, hby⟩ := inf87
 have hr : (Instr.makeSlice 84 (.int .i64 (N : Int)) (.int .i64 (N : Int))).run Tryd.prog w = .ok (.slice (some ⟨w.heap.size, 0, none⟩) N N) (w.alloc (.cells (fl (List.replicate N bg0)).toArray 87)) := by
  have h := run_make (P := Tryd.prog) w 84 87 i _ Tryd.underlying84 hi hzz .i64 .i64 (N : Int) (N : Int) (by omega) (Int.le_refl _) (by rw [hby]; omega) (by omega)
  simp only [Int.toNat_natCast, hs] at h
  rw [h, made_fl]
 refine ⟨l_step hg (o_val (.slice (some ⟨w.heap.size, 0, none⟩) N N) (w' := w.alloc (.cells (fl (List.replicate N bg0)).toArray 87)) ?_ (hk _ _ rfl (by simp) ((Mo.refl _).alloc _ _) (At.new w _ 87)).out)⟩
 simp [execOp, ho, hx, hy, hr]
end
theorem ix84n {k i n c : Nat} (h : i < n) (w : World) : (Instr.indexAt 84 (.slice (some ⟨k, 0, none⟩) n c) (.int .i64 (i : Int))).run Tryd.prog w = .ok (pt k (i * 6)) w := by
 have e := ix84 (pa := some ⟨k, 0, none⟩) (b := k) (off := 0) (c := c) rfl h w
 rw [Nat.zero_add] at e
 exact e
theorem ix84z {k n c : Nat} {z : Int} (h0 : 0 ≤ z) (h : z.toNat < n) (w : World) : (Instr.indexAt 84 (.slice (some ⟨k, 0, none⟩) n c) (.int .i64 z)).run Tryd.prog w = .ok (pt k (z.toNat * 6)) w := by
 have e := ix84n (k := k) (c := c) h w
 rw [show ((z.toNat : Nat) : Int) = z by omega] at e
 exact e
theorem ix840 {k n c : Nat} (h : 0 < n) (w : World) : (Instr.indexAt 84 (.slice (some ⟨k, 0, none⟩) n c) (.int .i64 0)).run Tryd.prog w = .ok (pt k 0) w := ix84n (k := k) (i := 0) h w
theorem rw_of {w : World} {k j : Nat} {X : List Bg} {p : Bg} (h : At w k (fl X)) (hp : X[j]? = some p) (hz : X.length ≤ 1000) : Rw w k (j * 6) p.cells := by
 obtain ⟨b, off, e, hR⟩ := D.SL.rw (SL.of_at (cells := Bg.cells) (n := 6) (L := X) (fun _ => rfl) (by unfold maxLen; omega) h) hp
 cases e
 rw [Nat.zero_add] at hR
 exact hR
def bqs (l : List S5) (s : ByteArray) : List Bg := if snd l then bqL l s l.length else []
theorem bq_1 {l : List S5} {s : ByteArray} (h : 0 < l.length) : bqL l s 1 = [⟨ro0, (bgn s ⟨#[47]⟩).getD s, bgB s ⟨#[47]⟩⟩] := by
 obtain ⟨x, hx⟩ := get_of_lt h
 show [] ++ [bqS l s [] 0] = _
 unfold bqS
 rw [hx]
 rfl
theorem bqS_n {l : List S5} {s R : ByteArray} {acc : List Bg} {n : Nat} {y : S5} {g : Bg} (hy : l[n]? = some y) (h0 : ¬ n = 0) (hg : acc[y.pr.toNat]? = some g) (hR : (if y.pr = 0 then s else g.s) = R) (h : (cst R y.nm).isSome = false) : bqS l s acc n = bg0 := by
 unfold bqS
 rw [hy]
 show (if n = 0 then _ else _) = bg0
 rw [if_neg h0, hg]
 show (match cst (if y.pr = 0 then s else g.s) y.nm with | none => bg0 | some c => _) = bg0
 rw [hR]
 cases e : cst R y.nm with
 | none => rfl
 | some c => rw [e] at h; cases h
theorem bqS_y {l : List S5} {s R : ByteArray} {acc : List Bg} {n : Nat} {y : S5} {g : Bg} (hy : l[n]? = some y) (h0 : ¬ n = 0) (hg : acc[y.pr.toNat]? = some g) (hR : (if y.pr = 0 then s else g.s) = R) (h : (cst R y.nm).isSome = true) : bqS l s acc n = ⟨udR y.dp g.r (n : Int) (ciN (cst R y.nm)), ciS (cst R y.nm), true⟩ := by
 unfold bqS
 rw [hy]
 show (if n = 0 then _ else _) = _
 rw [if_neg h0, hg]
 show (match cst (if y.pr = 0 then s else g.s) y.nm with | none => bg0 | some c => _) = _
 rw [hR]
 cases e : cst R y.nm with
 | none => rw [e] at h; cases h
 | some c => rfl
theorem bq_skip {l : List S5} {s : ByteArray} {n N : Nat} (hn : n < N) (h : bqS l s (bqL l s n) n = bg0) : bqL l s n ++ List.replicate (N - n) bg0 = bqL l s (n + 1) ++ List.replicate (N - (n + 1)) bg0 := by
 rw [bqL, h, show N - n = N - (n + 1) + 1 by omega, List.replicate_succ, List.append_assoc]
 rfl
theorem bq_put {l : List S5} {s : ByteArray} {n N : Nat} {b : Bg} (hn : n < N) (h : bqS l s (bqL l s n) n = b) : (bqL l s n ++ List.replicate (N - n) bg0).set n b = bqL l s (n + 1) ++ List.replicate (N - (n + 1)) bg0 := by
 rw [bqL, h, List.set_append_right _ _ (by rw [bqL_len]; exact Nat.le_refl _), bqL_len, Nat.sub_self, show N - n = N - (n + 1) + 1 by omega, List.replicate_succ, List.append_assoc]
 rfl
theorem cid_sz {u r : ByteArray} {n : Int} (h : cid u = some (n, r)) : r.size ≤ u.size := by
 unfold cid at h
 split at h
 ·cases h
 ·split at h
  ·cases h
  ·split at h
   ·cases h; exact ex_sz _ _ _
   ·cases h
theorem ciS_sz (s nm : ByteArray) : (ciS (cst s nm)).size ≤ s.size := by
 unfold cst
 cases e : bgn s (V.catB (V.catB ⟨#[47]⟩ nm) ⟨#[58]⟩) with
 | none => exact Nat.zero_le _
 | some u =>
  rw [Option.bind_some]
  unfold ciS
  cases q : cid u with
  | none => exact Nat.zero_le _
  | some c => exact Nat.le_trans (cid_sz (n := c.1) q) (bgn_sz e)
theorem bqS_sz {l : List S5} {s : ByteArray} {acc : List Bg} {n : Nat} (ha : ∀ p ∈ acc, p.s.size ≤ s.size) : (bqS l s acc n).s.size ≤ s.size := by
 unfold bqS
 cases e : l[n]? with
 | none => exact Nat.zero_le _
 | some x =>
  dsimp only
  by_cases h0 : n = 0
  ·rw [if_pos h0]
   dsimp only
   cases e : bgn s ⟨#[47]⟩ with
   | none => exact Nat.le_refl _
   | some u => exact bgn_sz e
  ·rw [if_neg h0]
   cases hp : acc[x.pr.toNat]? with
   | none => exact Nat.zero_le _
   | some p =>
    dsimp only
    have q := ciS_sz (if x.pr = 0 then s else p.s) x.nm
    have hp' := ha p (List.mem_of_getElem? hp)
    cases hc : cst (if x.pr = 0 then s else p.s) x.nm with
    | none => exact Nat.zero_le _
    | some c =>
     rw [hc] at q
     refine Nat.le_trans q ?_
     split
     ·exact Nat.le_refl _
     ·exact hp'
theorem bqL_sz (l : List S5) (s : ByteArray) : ∀ n, ∀ p ∈ bqL l s n, p.s.size ≤ s.size
 | 0, p, h => by cases h
 | n + 1, p, h => by
  rw [bqL] at h
  rcases List.mem_append.1 h with h | h
  ·exact bqL_sz l s n p h
  ·rw [List.mem_singleton.1 h]; exact bqS_sz (bqL_sz l s n)
set_option maxHeartbeats 1000000 in
theorem pbg_n {L : List S5} {pl : Option Addr} {cl : Nat} {s : ByteArray} (w : World) (hL : LL w pl L) (hcl : L.length ≤ cl) (hs : s.size ≤ 9223372036854775807) (hN : L.length ≤ 100) : Calls Tryd.prog 36 #[.slice pl L.length cl, .string s] w fun e9 w' => ∃ pa ca, e9 = .returned (.slice pa (bqs L s).length ca) ∧ SL w' 6 Bg.cells pa (bqs L s) ∧ (∀ a, pa = some a → w.heap.size ≤ a.block ∧ a.block < w'.heap.size) ∧ Mo w w' := by
 refine w_enter 80 Tryd.func36 Tryd.ntmps36 rfl rfl ?_
 have M : Mo w w := Mo.refl _
 refine w_seq (w_reg ?_)
 refine wl_m (.const (.slice none 0 0)) (.slice none 0 0) ?_
 refine w_nil (xn_then (w_seq (w_seq (w_reg ?_))))
 refine wl_m (.tmp 0) (.slice pl L.length cl) ?_
 refine wl_val (.int .i64 ((L.length : Nat) : Int)) (len22 _ _ _ _ _ (by exact rfl) _ _ _ _ _ _) rfl ?_
 cases hf0 : decide (((L.length : Nat) : Int) = 0) with
 | true =>
  have hf0p := of_decide_eq_true hf0
  refine wl_b .eql 3 (.tmp 12) (.const (.int .i64 (0))) (.int .i64 ((L.length : Nat) : Int)) (.int .i64 (0)) (.bool true) (eq3 hf0 _ _ _) ?_
  refine wl_m (.tmp 13) (.bool true) ?_
  refine wl_skip rfl (wl_skip rfl (wl_skip rfl ?_))
  refine wl_pick (.tmp 14) (.const (.bool true)) (.tmp 17) true (.bool true) (fun _ => rfl) rfl rfl rfl ?_
  refine w_nil (xn_then (w_condT rfl (w_seq (w_reg ?_))))
  refine wl_m (.const (.slice none 0 0)) (.slice none 0 0) ?_
  refine w_nil (xn_then (w_ret (xr_then ?_)))
  exact w_ret1 _ (.slice none 0 0) rfl rfl ⟨none, 0, by rw [show bqs L s = [] from (by unfold bqs; rw [show L.length = 0 by omega]; split <;> rfl)]; rfl, by rw [show bqs L s = [] from (by unfold bqs; rw [show L.length = 0 by omega]; split <;> rfl)]; exact ⟨Nat.zero_le _, fun _ _ e => by cases e⟩, (fun a e => by cases e), M⟩
 | false =>
  have hf0p := of_decide_eq_false hf0
  refine wl_b .eql 3 (.tmp 12) (.const (.int .i64 (0))) (.int .i64 ((L.length : Nat) : Int)) (.int .i64 (0)) (.bool false) (eq3 hf0 _ _ _) ?_
  refine wl_m (.tmp 13) (.bool false) ?_
  refine wl_m (.tmp 0) (.slice pl L.length cl) ?_
  cases hf1 : snd L with
  | true =>
   refine wl_call 30 [(.tmp 15)] _ [.slice pl L.length cl] (.bool true) rfl rfl (fun _ _ => by kernel_rfl) (cB hf1 (psnd_n _ (hL.mo M) hcl)) rfl ?_
   intro u1 hq
   replace M := M.trans hq
   clear hq
   refine wl_un (fun v => Op.unary .not v) (.tmp 16) (.bool true) (.bool false) (fun _ => rfl) rfl (by kernel_rfl) rfl ?_
   refine wl_pick (.tmp 14) (.const (.bool true)) (.tmp 17) false (.bool false) (fun _ => rfl) rfl rfl rfl ?_
   refine w_nil (xn_then (w_condF rfl (w_skip (xn_then (w_seq (w_reg ?_))))))
   refine wl_m (.tmp 0) (.slice pl L.length cl) ?_
   refine wl_val (.int .i64 ((L.length : Nat) : Int)) (len22 _ _ _ _ _ (by exact rfl) _ _ _ _ _ _) rfl ?_
   refine wl_mkB (.tmp 20) (.tmp 20) L.length hN rfl rfl rfl rfl ?_
   intro ko u2 hk hz hq QO
   have N_ko : w.heap.size ≤ ko := by have := M.size; omega
   replace M := M.trans hq
   clear hk hz hq
   have hrep : List.replicate L.length bg0 = bg0 :: List.replicate (L.length - 1) bg0 := by rw [← List.replicate_succ, show L.length - 1 + 1 = L.length by omega]
   rw [hrep] at QO
   refine wl_m (.tmp 21) (.slice (some ⟨ko, 0, none⟩) L.length L.length) ?_
   refine w_nil (xn_then (w_seq (w_reg ?_)))
   refine wl_m (.tmp 5) (.slice (some ⟨ko, 0, none⟩) L.length L.length) ?_
   refine wl_m (.tmp 5) (.slice (some ⟨ko, 0, none⟩) L.length L.length) ?_
   refine wl_m (.tmp 1) (.string s) ?_
   refine wl_call 38 [(.tmp 25), (.const (.string ⟨#[47]⟩))] _ [.string s, .string ⟨#[47]⟩] (.tuple #[.string ((bgn s ⟨#[47]⟩).getD s), .bool ((bgB s ⟨#[47]⟩))]) rfl rfl (fun _ _ => by kernel_rfl) (cpx_n _) rfl ?_
   intro u3 hq
   replace QO := QO.mo hq
   replace M := M.trans hq
   clear hq
   refine wl_m (.tmp 26) (.tuple #[.string ((bgn s ⟨#[47]⟩).getD s), .bool ((bgB s ⟨#[47]⟩))]) ?_
   refine wl_un (fun v => Instr.extract v 0) (.tmp 22) (.tuple #[.string ((bgn s ⟨#[47]⟩).getD s), .bool ((bgB s ⟨#[47]⟩))]) (.string ((bgn s ⟨#[47]⟩).getD s)) (fun _ => rfl) rfl (by kernel_rfl) rfl ?_
   refine wl_un (fun v => Instr.extract v 1) (.tmp 22) (.tuple #[.string ((bgn s ⟨#[47]⟩).getD s), .bool ((bgB s ⟨#[47]⟩))]) (.bool ((bgB s ⟨#[47]⟩))) (fun _ => rfl) rfl (by kernel_rfl) rfl ?_
   refine wl_bin (fun x y => Instr.indexAt 84 x y) (.tmp 23) (.const (.int .i64 (0))) (.slice (some ⟨ko, 0, none⟩) L.length L.length) (.int .i64 (0)) (pt ko 0) (fun _ => rfl) rfl rfl (ix840 (by omega) _) rfl ?_
   refine wl_f 87 1 (.tmp 29) (pt ko 0) (pt ko 4) ?_
   refine wl_stm1 9 (.tmp 30) (.tmp 27) ko 4 (.string ((bgn s ⟨#[47]⟩).getD s)) (fl (bg0 :: List.replicate (L.length - 1) bg0)) (fl (⟨ro0, (bgn s ⟨#[47]⟩).getD s, false⟩ :: List.replicate (L.length - 1) bg0)) QO rfl rfl rfl rfl (by rw [Nat.blt_eq, fl_len, List.length_cons]; omega) sz9 rfl rfl (fl_4 bg0 _ _) rfl ?_
   intro u4 hS9 hm9 Qn
   replace QO := Qn
   clear Qn hm9
   replace M := hS9.mo _ N_ko M
   clear hS9
   refine wl_bin (fun x y => Instr.indexAt 84 x y) (.tmp 24) (.const (.int .i64 (0))) (.slice (some ⟨ko, 0, none⟩) L.length L.length) (.int .i64 (0)) (pt ko 0) (fun _ => rfl) rfl rfl (ix840 (by omega) _) rfl ?_
   refine wl_f 87 2 (.tmp 31) (pt ko 0) (pt ko 5) ?_
   refine wl_stm1 4 (.tmp 32) (.tmp 28) ko 5 (.bool ((bgB s ⟨#[47]⟩))) (fl (⟨ro0, (bgn s ⟨#[47]⟩).getD s, false⟩ :: List.replicate (L.length - 1) bg0)) (fl (⟨ro0, (bgn s ⟨#[47]⟩).getD s, bgB s ⟨#[47]⟩⟩ :: List.replicate (L.length - 1) bg0)) QO rfl rfl rfl rfl (by rw [Nat.blt_eq, fl_len, List.length_cons]; omega) sz4 rfl rfl (fl_5 ⟨ro0, (bgn s ⟨#[47]⟩).getD s, false⟩ _ _) rfl ?_
   intro u5 hS9 hm9 Qn
   replace QO := Qn
   clear Qn hm9
   replace M := hS9.mo _ N_ko M
   clear hS9
   refine w_nil (xn_then (w_seq (w_seq (w_reg ?_))))
   refine wl_m (.const (.int .i64 (1))) (.int .i64 (1)) ?_
   refine w_nil (xn_then (w_block ?_))
   have hsn := hf1
   refine w_loop (fun m l9 w1 => ∃ n : Nat, m = L.length - n ∧ 1 ≤ n ∧ n ≤ L.length ∧ look l9 0 = .slice pl L.length cl ∧ look l9 1 = .string s ∧ look l9 5 = .slice (some ⟨ko, 0, none⟩) L.length L.length ∧ look l9 6 = .int .i64 ((n : Nat) : Int) ∧ At w1 ko (fl (bqL L s n ++ List.replicate (L.length - n) bg0)) ∧ Mo w w1) _ ⟨1, rfl, Nat.le_refl _, by omega, rfl, rfl, rfl, rfl, (by rw [bq_1 (by omega)]; exact QO), M⟩ ?_
   clear M QO hrep
   rintro m l9 wl ⟨n, rfl, hn1, hn, e0, e1, e5, e6, QO, M⟩
   by_cases hnl : n < L.length
   ·skip
    have hnd : decide (n < L.length) = true := decide_eq_true hnl
    obtain ⟨y, hy⟩ := get_of_lt hnl
    have hmy := List.mem_of_getElem? hy
    obtain ⟨bp, op, hpp, hRp⟩ := D.SL.rw hL.sl hy
    obtain ⟨pp, hpp9, hpp0, hpp1, hpd, hd2, hd4⟩ := pr_at hsn hy (by omega)
    have hny := hL.nm y hmy
    obtain ⟨g, hg⟩ := get_of_lt (show y.pr.toNat < (bqL L s n).length by rw [bqL_len]; omega)
    have hgX : (bqL L s n ++ List.replicate (L.length - n) bg0)[y.pr.toNat]? = some g := by rw [List.getElem?_append_left (by rw [bqL_len]; omega)]; exact hg
    have hgs : g.s.size ≤ 9223372036854775807 := Nat.le_trans (bqL_sz L s n g (List.mem_of_getElem? hg)) hs
    refine w_seq (w_seq (w_reg ?_))
    refine wl_mv (.tmp 6) (.int .i64 ((n : Nat) : Int)) (fun _ => rfl) e6 rfl ?_
    refine wl_mv (.tmp 0) (.slice pl L.length cl) (fun _ => rfl) e0 rfl ?_
    refine wl_val (.int .i64 ((L.length : Nat) : Int)) (len22 _ _ _ _ _ (by exact rfl) _ _ _ _ _ _) rfl ?_
    refine wl_b .lss 3 (.tmp 33) (.tmp 35) (.int .i64 ((n : Nat) : Int)) (.int .i64 ((L.length : Nat) : Int)) (.bool true) (ltN hnd _ _ _) ?_
    refine w_nil (xn_then (w_condT rfl (w_skip (xn_then (w_seq (w_block (w_seq (w_reg ?_))))))))
    refine wl_mv (.tmp 5) (.slice (some ⟨ko, 0, none⟩) L.length L.length) (fun _ => rfl) e5 rfl ?_
    refine wl_mv (.tmp 0) (.slice pl L.length cl) (fun _ => rfl) e0 rfl ?_
    refine wl_mv (.tmp 6) (.int .i64 ((n : Nat) : Int)) (fun _ => rfl) e6 rfl ?_
    refine wl_bin (fun x y => Instr.indexAt 22 x y) (.tmp 40) (.tmp 41) (.slice pl L.length cl) (.int .i64 ((n : Nat) : Int)) (pt bp (op + n * 5)) (fun _ => rfl) rfl rfl (ix22 (i := n) hpp hnl _) rfl ?_
    refine wl_f 65 0 (.tmp 42) (pt bp (op + n * 5)) (pt bp (op + n * 5)) ?_
    refine wl_l 3 (.tmp 43) (pt bp (op + n * 5)) (.int .i64 (y.pr)) (D.run_oneR (hRp.mo M).at' 3 0 rfl Tryd.underlying3 rfl) ?_
    have hRg := rwn (rw_of QO hgX (by rw [List.length_append, bqL_len, List.length_replicate]; omega))
    refine wl_bin (fun x y => Instr.indexAt 84 x y) (.tmp 39) (.tmp 44) (.slice (some ⟨ko, 0, none⟩) L.length L.length) (.int .i64 (y.pr)) (pt ko (y.pr.toNat * 6)) (fun _ => rfl) rfl rfl (ix84z (by omega) (by omega) _) rfl ?_
    refine wl_l 87 (.tmp 45) (pt ko (y.pr.toNat * 6)) (.agg (g.cells).toArray) (D.run_partR (hRg.mo M).at' 87 0 6 (g.cells) rfl Tryd.underlying87 rfl sz87) ?_
    refine wl_alloc 87 #[.int .i64 0, .int .i64 0, .int .i64 0, .int .i64 0, .string ⟨#[]⟩, .bool false] rfl (fun _ => by kernel_rfl) rfl ?_
    intro k1 u41 hk hz hq Q1
    have ne_ko_k1 : ko ≠ k1 := by have := QO.lt; omega
    have N_k1 : w.heap.size ≤ k1 := by have := M.size; omega
    replace QO := QO.mo hq
    replace M := M.trans hq
    clear hk hz hq
    refine wl_st 87 (.tmp 7) (.tmp 46) k1 0 ((g.cells).toArray) _ (g.cells) Q1 rfl rfl rfl rfl rfl sz87 rfl rfl rfl ?_
    intro u42 hS Qn
    replace Q1 := Qn
    clear Qn
    replace QO := hS.other _ _ ne_ko_k1 QO
    replace M := hS.mo _ N_k1 M
    clear hS
    refine w_nil (xn_then (w_seq (w_seq (w_reg ?_))))
    refine wl_mv (.tmp 0) (.slice pl L.length cl) (fun _ => rfl) e0 rfl ?_
    refine wl_mv (.tmp 6) (.int .i64 ((n : Nat) : Int)) (fun _ => rfl) e6 rfl ?_
    refine wl_bin (fun x y => Instr.indexAt 22 x y) (.tmp 47) (.tmp 48) (.slice pl L.length cl) (.int .i64 ((n : Nat) : Int)) (pt bp (op + n * 5)) (fun _ => rfl) rfl rfl (ix22 (i := n) hpp hnl _) rfl ?_
    refine wl_f 65 0 (.tmp 49) (pt bp (op + n * 5)) (pt bp (op + n * 5)) ?_
    refine wl_l 3 (.tmp 50) (pt bp (op + n * 5)) (.int .i64 (y.pr)) (D.run_oneR (hRp.mo M).at' 3 0 rfl Tryd.underlying3 rfl) ?_
    cases hf30 : decide (y.pr = 0) with
    | true =>
     have hf30p := of_decide_eq_true hf30
     refine wl_b .eql 3 (.tmp 51) (.const (.int .i64 (0))) (.int .i64 (y.pr)) (.int .i64 (0)) (.bool true) (eq3 hf30 _ _ _) ?_
     refine w_nil (xn_then (w_condT rfl (w_reg ?_)))
     refine wl_mv (.tmp 1) (.string s) (fun _ => rfl) e1 rfl ?_
     refine wl_f 87 1 (.tmp 7) (pt k1 0) (pt k1 4) ?_
     refine wl_st1 9 (.tmp 54) (.tmp 53) k1 4 (.string s) (g.cells) [.int .i64 g.r.s, .int .i64 g.r.a, .int .i64 g.r.b, .int .i64 g.r.c, .string s, .bool g.b] Q1 rfl rfl rfl rfl rfl sz9 rfl rfl rfl rfl ?_
     intro u43 hS Qn
     replace Q1 := Qn
     clear Qn
     replace QO := hS.other _ _ ne_ko_k1 QO
     replace M := hS.mo _ N_k1 M
     clear hS
     refine w_nil (xn_then (w_seq ?_))
     cases hf31 : (cst s y.nm).isSome with
     | true =>
      refine w_any 14 [.inl (pt k1 4), .inl (.string s), .inl (.slice pl L.length cl), .inl (.int .i64 ((n : Nat) : Int)), .inl (pt bp (op + n * 5)), .inl (pt bp (op + n * 5 + 2)), .inl (.string y.nm), .inl (.tuple #[.int .i64 (ciN (cst s y.nm)), .string (ciS (cst s y.nm)), .bool true]), .inl (.tuple #[.int .i64 (ciN (cst s y.nm)), .string (ciS (cst s y.nm)), .bool true]), .inl (.int .i64 (ciN (cst s y.nm))), .inl (.string (ciS (cst s y.nm))), .inl (.bool true), .inl (.int .i64 (ciN (cst s y.nm))), .inl (.string (ciS (cst s y.nm)))] [] (by kernel_rfl) (by kernel_rfl) (by kernel_rfl) (by kernel_rfl) rfl (by kernel_rfl) (by kernel_rfl) late_nil ?_ ?_ ?_
      ·exact Ds.none rfl
      ·refine ea_cons ?_ (ea_cons ?_ (ea_cons ?_ (ea_cons ?_ (ea_cons ?_ (ea_cons ?_ (ea_cons ?_ (ea_cons ?_ (ea_cons ?_ (ea_cons ?_ (ea_cons ?_ (ea_cons ?_ (ea_cons ?_ (ea_cons ?_ (ea_nil))))))))))))))
       ·exact og_eq _ rfl (fun f wf hq hd K hK => go_run rfl (wo_un (fun v => Instr.fieldAt 87 v 1) (.tmp 7) (pt k1 0) (pt k1 4) (fun _ => rfl) rfl (by kernel_rfl) (hK _ (Mo.refl _))))
       ·exact og_eq _ rfl (fun f wf hq hd K hK => have Q1 := Q1.mo hq; go_run rfl (wo_load 9 (.tmp 56) (pt k1 4) (.string s) rfl (hd 0 rfl) (run_one Q1 9 4 rfl Tryd.underlying9 rfl) (hK _ (Mo.refl _))))
       ·exact og_eq _ rfl (fun f wf hq hd K hK => go_run rfl (wo_mv (.tmp 0) (.slice pl L.length cl) (fun _ => rfl) e0 (hK _ (Mo.refl _))))
       ·exact og_eq _ rfl (fun f wf hq hd K hK => go_run rfl (wo_mv (.tmp 6) (.int .i64 ((n : Nat) : Int)) (fun _ => rfl) e6 (hK _ (Mo.refl _))))
       ·exact og_eq _ rfl (fun f wf hq hd K hK => go_run rfl (wo_bin (fun x y => Instr.indexAt 22 x y) (.tmp 58) (.tmp 59) (.slice pl L.length cl) (.int .i64 ((n : Nat) : Int)) (pt bp (op + n * 5)) (fun _ => rfl) (hd 2 rfl) (hd 3 rfl) (ix22 (i := n) hpp hnl _) (hK _ (Mo.refl _))))
       ·exact og_eq _ rfl (fun f wf hq hd K hK => go_run rfl (wo_un (fun v => Instr.fieldAt 65 v 2) (.tmp 60) (pt bp (op + n * 5)) (pt bp (op + n * 5 + 2)) (fun _ => rfl) (hd 4 rfl) (by kernel_rfl) (hK _ (Mo.refl _))))
       ·exact og_eq _ rfl (fun f wf hq hd K hK => go_run rfl (wo_load 9 (.tmp 61) (pt bp (op + n * 5 + 2)) (.string y.nm) rfl (hd 5 rfl) (D.run_oneR (hRp.mo (M.trans hq)).at' 9 2 rfl Tryd.underlying9 rfl) (hK _ (Mo.refl _))))
       ·exact og_eq _ rfl (fun f wf hq hd K hK => go_run rfl (wo_call 53 [(.tmp 57), (.tmp 62)] _ [.string s, .string y.nm] (.tuple #[.int .i64 (ciN (cst s y.nm)), .string (ciS (cst s y.nm)), .bool true]) rfl (li2 (hd 1 rfl) (hd 6 rfl)) (fun _ _ => by kernel_rfl) (cR (by rw [hf31]) (cst_n (s := s) _ hs hny)) hK))
       ·exact og_eq _ rfl (fun f wf hq hd K hK => go_run rfl (wo_mv (.tmp 63) (.tuple #[.int .i64 (ciN (cst s y.nm)), .string (ciS (cst s y.nm)), .bool true]) (fun _ => rfl) (hd 7 rfl) (hK _ (Mo.refl _))))
       ·exact og_eq _ rfl (fun f wf hq hd K hK => go_run rfl (wo_un (fun v => Instr.extract v 0) (.tmp 55) (.tuple #[.int .i64 (ciN (cst s y.nm)), .string (ciS (cst s y.nm)), .bool true]) (.int .i64 (ciN (cst s y.nm))) (fun _ => rfl) (hd 8 rfl) (by kernel_rfl) (hK _ (Mo.refl _))))
       ·exact og_eq _ rfl (fun f wf hq hd K hK => go_run rfl (wo_un (fun v => Instr.extract v 1) (.tmp 55) (.tuple #[.int .i64 (ciN (cst s y.nm)), .string (ciS (cst s y.nm)), .bool true]) (.string (ciS (cst s y.nm))) (fun _ => rfl) (hd 8 rfl) (by kernel_rfl) (hK _ (Mo.refl _))))
       ·exact og_eq _ rfl (fun f wf hq hd K hK => go_run rfl (wo_un (fun v => Instr.extract v 2) (.tmp 55) (.tuple #[.int .i64 (ciN (cst s y.nm)), .string (ciS (cst s y.nm)), .bool true]) (.bool true) (fun _ => rfl) (hd 8 rfl) (by kernel_rfl) (hK _ (Mo.refl _))))
       ·exact og_eq _ rfl (fun f wf hq hd K hK => go_run rfl (wo_mv (.tmp 64) (.int .i64 (ciN (cst s y.nm))) (fun _ => rfl) (hd 9 rfl) (hK _ (Mo.refl _))))
       ·exact og_eq _ rfl (fun f wf hq hd K hK => go_run rfl (wo_mv (.tmp 65) (.string (ciS (cst s y.nm))) (fun _ => rfl) (hd 10 rfl) (hK _ (Mo.refl _))))
      intro kf44 u44 hq hR hne
      replace QO := QO.mo hq
      replace Q1 := Q1.mo hq
      replace M := M.trans hq
      clear hq hR hne
      refine wl_m (.tmp 66) (.bool true) ?_
      refine w_nil (xn_then (w_seq (w_reg ?_)))
      refine wl_m (.tmp 10) (.bool true) ?_
      refine w_nil (xn_then (w_condT rfl (w_reg ?_)))
      refine wl_mv (.tmp 5) (.slice (some ⟨ko, 0, none⟩) L.length L.length) (fun _ => rfl) e5 rfl ?_
      refine wl_mv (.tmp 6) (.int .i64 ((n : Nat) : Int)) (fun _ => rfl) e6 rfl ?_
      refine wl_mv (.tmp 0) (.slice pl L.length cl) (fun _ => rfl) e0 rfl ?_
      refine wl_f 87 0 (.tmp 7) (pt k1 0) (pt k1 0) ?_
      refine wl_l 25 (.tmp 71) (pt k1 0) (.agg #[.int .i64 g.r.s, .int .i64 g.r.a, .int .i64 g.r.b, .int .i64 g.r.c]) (run_row Q1 25 0 4 _ rfl Tryd.underlying25 rfl sz25) ?_
      refine wl_mv (.tmp 6) (.int .i64 ((n : Nat) : Int)) (fun _ => rfl) e6 rfl ?_
      refine wl_m (.tmp 8) (.int .i64 (ciN (cst s y.nm))) ?_
      refine wl_call 49 [(.tmp 70), (.tmp 72), (.tmp 73), (.tmp 74)] _ [.slice pl L.length cl, .agg #[.int .i64 g.r.s, .int .i64 g.r.a, .int .i64 g.r.b, .int .i64 g.r.c], .int .i64 ((n : Nat) : Int), .int .i64 (ciN (cst s y.nm))] (.agg ((udR y.dp (⟨g.r.s, g.r.a, g.r.b, g.r.c⟩ : Ro) ((n : Nat) : Int) (ciN (cst s y.nm))).cells).toArray) rfl rfl (fun _ _ => by kernel_rfl) (pud_n (y := y) (r := (⟨g.r.s, g.r.a, g.r.b, g.r.c⟩ : Ro)) _ (hL.mo M) (by omega) (by rw [Int.toNat_natCast]; exact hy) hd2 hd4) rfl ?_
      intro u45 hq
      replace QO := QO.mo hq
      replace Q1 := Q1.mo hq
      replace M := M.trans hq
      clear hq
      refine wl_m (.tmp 9) (.string (ciS (cst s y.nm))) ?_
      refine wl_build 87 [(0, (.tmp 75)), (1, (.tmp 76)), (2, (.const (.bool true)))] [(0, .agg ((udR y.dp (⟨g.r.s, g.r.a, g.r.b, g.r.c⟩ : Ro) ((n : Nat) : Int) (ciN (cst s y.nm))).cells).toArray), (1, .string (ciS (cst s y.nm))), (2, .bool true)] (.agg #[.int .i64 (udR y.dp (⟨g.r.s, g.r.a, g.r.b, g.r.c⟩ : Ro) ((n : Nat) : Int) (ciN (cst s y.nm))).s, .int .i64 (udR y.dp (⟨g.r.s, g.r.a, g.r.b, g.r.c⟩ : Ro) ((n : Nat) : Int) (ciN (cst s y.nm))).a, .int .i64 (udR y.dp (⟨g.r.s, g.r.a, g.r.b, g.r.c⟩ : Ro) ((n : Nat) : Int) (ciN (cst s y.nm))).b, .int .i64 (udR y.dp (⟨g.r.s, g.r.a, g.r.b, g.r.c⟩ : Ro) ((n : Nat) : Int) (ciN (cst s y.nm))).c, .string (ciS (cst s y.nm)), .bool true]) rfl rfl (by kernel_rfl) rfl ?_
      refine wl_bin (fun x y => Instr.indexAt 84 x y) (.tmp 68) (.tmp 69) (.slice (some ⟨ko, 0, none⟩) L.length L.length) (.int .i64 ((n : Nat) : Int)) (pt ko (n * 6)) (fun _ => rfl) rfl rfl (ix84n (by omega) _) rfl ?_
      refine wl_stm 87 (.tmp 78) (.tmp 77) ko (n * 6) #[.int .i64 (udR y.dp (⟨g.r.s, g.r.a, g.r.b, g.r.c⟩ : Ro) ((n : Nat) : Int) (ciN (cst s y.nm))).s, .int .i64 (udR y.dp (⟨g.r.s, g.r.a, g.r.b, g.r.c⟩ : Ro) ((n : Nat) : Int) (ciN (cst s y.nm))).a, .int .i64 (udR y.dp (⟨g.r.s, g.r.a, g.r.b, g.r.c⟩ : Ro) ((n : Nat) : Int) (ciN (cst s y.nm))).b, .int .i64 (udR y.dp (⟨g.r.s, g.r.a, g.r.b, g.r.c⟩ : Ro) ((n : Nat) : Int) (ciN (cst s y.nm))).c, .string (ciS (cst s y.nm)), .bool true] (fl (bqL L s n ++ List.replicate (L.length - n) bg0)) (fl ((bqL L s n ++ List.replicate (L.length - n) bg0).set n (⟨(udR y.dp (⟨g.r.s, g.r.a, g.r.b, g.r.c⟩ : Ro) ((n : Nat) : Int) (ciN (cst s y.nm))), ciS (cst s y.nm), true⟩ : Bg))) QO rfl rfl rfl rfl (by rw [Nat.ble_eq, fl_len, List.length_append, bqL_len, List.length_replicate]; show n * 6 + 6 ≤ _; omega) sz87 rfl (fl_set (b := (⟨(udR y.dp (⟨g.r.s, g.r.a, g.r.b, g.r.c⟩ : Ro) ((n : Nat) : Int) (ciN (cst s y.nm))), ciS (cst s y.nm), true⟩ : Bg)) (by rw [List.length_append, bqL_len, List.length_replicate]; omega)) rfl ?_
      intro u46 hS9 hm9 Qn
      replace QO := Qn
      clear Qn hm9
      replace Q1 := hS9.other _ _ ne_ko_k1.symm Q1
      replace M := hS9.mo _ N_ko M
      clear hS9
      refine w_nil (xn_blk (xn_then (w_reg ?_)))
      refine wl_mv (.tmp 6) (.int .i64 ((n : Nat) : Int)) (fun _ => rfl) e6 rfl ?_
      refine wl_b .add 3 (.tmp 37) (.const (.int .i64 (1))) (.int .i64 ((n : Nat) : Int)) (.int .i64 (1)) (.int .i64 ((n + 1 : Nat) : Int)) (add1r (k := n) (by omega) _ _ _) ?_
      refine wl_m (.tmp 38) (.int .i64 ((n + 1 : Nat) : Int)) ?_
      refine w_nil ?_
      exact xn_loop (L.length - (n + 1)) (by omega) ⟨n + 1, rfl, by omega, by omega, e0, e1, e5, rfl, (by rw [← bq_put (N := L.length) hnl (bqS_y hy (by omega) hg (if_pos hf30p) hf31)]; exact QO), M⟩
     | false =>
      refine w_any 14 [.inl (pt k1 4), .inl (.string s), .inl (.slice pl L.length cl), .inl (.int .i64 ((n : Nat) : Int)), .inl (pt bp (op + n * 5)), .inl (pt bp (op + n * 5 + 2)), .inl (.string y.nm), .inl (.tuple #[.int .i64 (ciN (cst s y.nm)), .string (ciS (cst s y.nm)), .bool false]), .inl (.tuple #[.int .i64 (ciN (cst s y.nm)), .string (ciS (cst s y.nm)), .bool false]), .inl (.int .i64 (ciN (cst s y.nm))), .inl (.string (ciS (cst s y.nm))), .inl (.bool false), .inl (.int .i64 (ciN (cst s y.nm))), .inl (.string (ciS (cst s y.nm)))] [] (by kernel_rfl) (by kernel_rfl) (by kernel_rfl) (by kernel_rfl) rfl (by kernel_rfl) (by kernel_rfl) late_nil ?_ ?_ ?_
      ·exact Ds.none rfl
      ·refine ea_cons ?_ (ea_cons ?_ (ea_cons ?_ (ea_cons ?_ (ea_cons ?_ (ea_cons ?_ (ea_cons ?_ (ea_cons ?_ (ea_cons ?_ (ea_cons ?_ (ea_cons ?_ (ea_cons ?_ (ea_cons ?_ (ea_cons ?_ (ea_nil))))))))))))))
       ·exact og_eq _ rfl (fun f wf hq hd K hK => go_run rfl (wo_un (fun v => Instr.fieldAt 87 v 1) (.tmp 7) (pt k1 0) (pt k1 4) (fun _ => rfl) rfl (by kernel_rfl) (hK _ (Mo.refl _))))
       ·exact og_eq _ rfl (fun f wf hq hd K hK => have Q1 := Q1.mo hq; go_run rfl (wo_load 9 (.tmp 56) (pt k1 4) (.string s) rfl (hd 0 rfl) (run_one Q1 9 4 rfl Tryd.underlying9 rfl) (hK _ (Mo.refl _))))
       ·exact og_eq _ rfl (fun f wf hq hd K hK => go_run rfl (wo_mv (.tmp 0) (.slice pl L.length cl) (fun _ => rfl) e0 (hK _ (Mo.refl _))))
       ·exact og_eq _ rfl (fun f wf hq hd K hK => go_run rfl (wo_mv (.tmp 6) (.int .i64 ((n : Nat) : Int)) (fun _ => rfl) e6 (hK _ (Mo.refl _))))
       ·exact og_eq _ rfl (fun f wf hq hd K hK => go_run rfl (wo_bin (fun x y => Instr.indexAt 22 x y) (.tmp 58) (.tmp 59) (.slice pl L.length cl) (.int .i64 ((n : Nat) : Int)) (pt bp (op + n * 5)) (fun _ => rfl) (hd 2 rfl) (hd 3 rfl) (ix22 (i := n) hpp hnl _) (hK _ (Mo.refl _))))
       ·exact og_eq _ rfl (fun f wf hq hd K hK => go_run rfl (wo_un (fun v => Instr.fieldAt 65 v 2) (.tmp 60) (pt bp (op + n * 5)) (pt bp (op + n * 5 + 2)) (fun _ => rfl) (hd 4 rfl) (by kernel_rfl) (hK _ (Mo.refl _))))
       ·exact og_eq _ rfl (fun f wf hq hd K hK => go_run rfl (wo_load 9 (.tmp 61) (pt bp (op + n * 5 + 2)) (.string y.nm) rfl (hd 5 rfl) (D.run_oneR (hRp.mo (M.trans hq)).at' 9 2 rfl Tryd.underlying9 rfl) (hK _ (Mo.refl _))))
       ·exact og_eq _ rfl (fun f wf hq hd K hK => go_run rfl (wo_call 53 [(.tmp 57), (.tmp 62)] _ [.string s, .string y.nm] (.tuple #[.int .i64 (ciN (cst s y.nm)), .string (ciS (cst s y.nm)), .bool false]) rfl (li2 (hd 1 rfl) (hd 6 rfl)) (fun _ _ => by kernel_rfl) (cR (by rw [hf31]) (cst_n (s := s) _ hs hny)) hK))
       ·exact og_eq _ rfl (fun f wf hq hd K hK => go_run rfl (wo_mv (.tmp 63) (.tuple #[.int .i64 (ciN (cst s y.nm)), .string (ciS (cst s y.nm)), .bool false]) (fun _ => rfl) (hd 7 rfl) (hK _ (Mo.refl _))))
       ·exact og_eq _ rfl (fun f wf hq hd K hK => go_run rfl (wo_un (fun v => Instr.extract v 0) (.tmp 55) (.tuple #[.int .i64 (ciN (cst s y.nm)), .string (ciS (cst s y.nm)), .bool false]) (.int .i64 (ciN (cst s y.nm))) (fun _ => rfl) (hd 8 rfl) (by kernel_rfl) (hK _ (Mo.refl _))))
       ·exact og_eq _ rfl (fun f wf hq hd K hK => go_run rfl (wo_un (fun v => Instr.extract v 1) (.tmp 55) (.tuple #[.int .i64 (ciN (cst s y.nm)), .string (ciS (cst s y.nm)), .bool false]) (.string (ciS (cst s y.nm))) (fun _ => rfl) (hd 8 rfl) (by kernel_rfl) (hK _ (Mo.refl _))))
       ·exact og_eq _ rfl (fun f wf hq hd K hK => go_run rfl (wo_un (fun v => Instr.extract v 2) (.tmp 55) (.tuple #[.int .i64 (ciN (cst s y.nm)), .string (ciS (cst s y.nm)), .bool false]) (.bool false) (fun _ => rfl) (hd 8 rfl) (by kernel_rfl) (hK _ (Mo.refl _))))
       ·exact og_eq _ rfl (fun f wf hq hd K hK => go_run rfl (wo_mv (.tmp 64) (.int .i64 (ciN (cst s y.nm))) (fun _ => rfl) (hd 9 rfl) (hK _ (Mo.refl _))))
       ·exact og_eq _ rfl (fun f wf hq hd K hK => go_run rfl (wo_mv (.tmp 65) (.string (ciS (cst s y.nm))) (fun _ => rfl) (hd 10 rfl) (hK _ (Mo.refl _))))
      intro kf44 u44 hq hR hne
      replace QO := QO.mo hq
      replace Q1 := Q1.mo hq
      replace M := M.trans hq
      clear hq hR hne
      refine wl_m (.tmp 66) (.bool false) ?_
      refine w_nil (xn_then (w_seq (w_reg ?_)))
      refine wl_m (.tmp 10) (.bool false) ?_
      refine w_nil (xn_then (w_condF rfl (w_skip (xn_blk (xn_then (w_reg ?_))))))
      refine wl_mv (.tmp 6) (.int .i64 ((n : Nat) : Int)) (fun _ => rfl) e6 rfl ?_
      refine wl_b .add 3 (.tmp 37) (.const (.int .i64 (1))) (.int .i64 ((n : Nat) : Int)) (.int .i64 (1)) (.int .i64 ((n + 1 : Nat) : Int)) (add1r (k := n) (by omega) _ _ _) ?_
      refine wl_m (.tmp 38) (.int .i64 ((n + 1 : Nat) : Int)) ?_
      refine w_nil ?_
      exact xn_loop (L.length - (n + 1)) (by omega) ⟨n + 1, rfl, by omega, by omega, e0, e1, e5, rfl, (by rw [← bq_skip (N := L.length) hnl (bqS_n hy (by omega) hg (if_pos hf30p) hf31)]; exact QO), M⟩
    | false =>
     have hf30p := of_decide_eq_false hf30
     refine wl_b .eql 3 (.tmp 51) (.const (.int .i64 (0))) (.int .i64 (y.pr)) (.int .i64 (0)) (.bool false) (eq3 hf30 _ _ _) ?_
     refine w_nil (xn_then (w_condF rfl (w_skip (xn_then (w_seq ?_)))))
     cases hf31 : (cst g.s y.nm).isSome with
     | true =>
      refine w_any 14 [.inl (pt k1 4), .inl (.string g.s), .inl (.slice pl L.length cl), .inl (.int .i64 ((n : Nat) : Int)), .inl (pt bp (op + n * 5)), .inl (pt bp (op + n * 5 + 2)), .inl (.string y.nm), .inl (.tuple #[.int .i64 (ciN (cst g.s y.nm)), .string (ciS (cst g.s y.nm)), .bool true]), .inl (.tuple #[.int .i64 (ciN (cst g.s y.nm)), .string (ciS (cst g.s y.nm)), .bool true]), .inl (.int .i64 (ciN (cst g.s y.nm))), .inl (.string (ciS (cst g.s y.nm))), .inl (.bool true), .inl (.int .i64 (ciN (cst g.s y.nm))), .inl (.string (ciS (cst g.s y.nm)))] [] (by kernel_rfl) (by kernel_rfl) (by kernel_rfl) (by kernel_rfl) rfl (by kernel_rfl) (by kernel_rfl) late_nil ?_ ?_ ?_
      ·exact Ds.none rfl
      ·refine ea_cons ?_ (ea_cons ?_ (ea_cons ?_ (ea_cons ?_ (ea_cons ?_ (ea_cons ?_ (ea_cons ?_ (ea_cons ?_ (ea_cons ?_ (ea_cons ?_ (ea_cons ?_ (ea_cons ?_ (ea_cons ?_ (ea_cons ?_ (ea_nil))))))))))))))
       ·exact og_eq _ rfl (fun f wf hq hd K hK => go_run rfl (wo_un (fun v => Instr.fieldAt 87 v 1) (.tmp 7) (pt k1 0) (pt k1 4) (fun _ => rfl) rfl (by kernel_rfl) (hK _ (Mo.refl _))))
       ·exact og_eq _ rfl (fun f wf hq hd K hK => have Q1 := Q1.mo hq; go_run rfl (wo_load 9 (.tmp 56) (pt k1 4) (.string g.s) rfl (hd 0 rfl) (run_one Q1 9 4 rfl Tryd.underlying9 rfl) (hK _ (Mo.refl _))))
       ·exact og_eq _ rfl (fun f wf hq hd K hK => go_run rfl (wo_mv (.tmp 0) (.slice pl L.length cl) (fun _ => rfl) e0 (hK _ (Mo.refl _))))
       ·exact og_eq _ rfl (fun f wf hq hd K hK => go_run rfl (wo_mv (.tmp 6) (.int .i64 ((n : Nat) : Int)) (fun _ => rfl) e6 (hK _ (Mo.refl _))))
       ·exact og_eq _ rfl (fun f wf hq hd K hK => go_run rfl (wo_bin (fun x y => Instr.indexAt 22 x y) (.tmp 58) (.tmp 59) (.slice pl L.length cl) (.int .i64 ((n : Nat) : Int)) (pt bp (op + n * 5)) (fun _ => rfl) (hd 2 rfl) (hd 3 rfl) (ix22 (i := n) hpp hnl _) (hK _ (Mo.refl _))))
       ·exact og_eq _ rfl (fun f wf hq hd K hK => go_run rfl (wo_un (fun v => Instr.fieldAt 65 v 2) (.tmp 60) (pt bp (op + n * 5)) (pt bp (op + n * 5 + 2)) (fun _ => rfl) (hd 4 rfl) (by kernel_rfl) (hK _ (Mo.refl _))))
       ·exact og_eq _ rfl (fun f wf hq hd K hK => go_run rfl (wo_load 9 (.tmp 61) (pt bp (op + n * 5 + 2)) (.string y.nm) rfl (hd 5 rfl) (D.run_oneR (hRp.mo (M.trans hq)).at' 9 2 rfl Tryd.underlying9 rfl) (hK _ (Mo.refl _))))
       ·exact og_eq _ rfl (fun f wf hq hd K hK => go_run rfl (wo_call 53 [(.tmp 57), (.tmp 62)] _ [.string g.s, .string y.nm] (.tuple #[.int .i64 (ciN (cst g.s y.nm)), .string (ciS (cst g.s y.nm)), .bool true]) rfl (li2 (hd 1 rfl) (hd 6 rfl)) (fun _ _ => by kernel_rfl) (cR (by rw [hf31]) (cst_n (s := g.s) _ hgs hny)) hK))
       ·exact og_eq _ rfl (fun f wf hq hd K hK => go_run rfl (wo_mv (.tmp 63) (.tuple #[.int .i64 (ciN (cst g.s y.nm)), .string (ciS (cst g.s y.nm)), .bool true]) (fun _ => rfl) (hd 7 rfl) (hK _ (Mo.refl _))))
       ·exact og_eq _ rfl (fun f wf hq hd K hK => go_run rfl (wo_un (fun v => Instr.extract v 0) (.tmp 55) (.tuple #[.int .i64 (ciN (cst g.s y.nm)), .string (ciS (cst g.s y.nm)), .bool true]) (.int .i64 (ciN (cst g.s y.nm))) (fun _ => rfl) (hd 8 rfl) (by kernel_rfl) (hK _ (Mo.refl _))))
       ·exact og_eq _ rfl (fun f wf hq hd K hK => go_run rfl (wo_un (fun v => Instr.extract v 1) (.tmp 55) (.tuple #[.int .i64 (ciN (cst g.s y.nm)), .string (ciS (cst g.s y.nm)), .bool true]) (.string (ciS (cst g.s y.nm))) (fun _ => rfl) (hd 8 rfl) (by kernel_rfl) (hK _ (Mo.refl _))))
       ·exact og_eq _ rfl (fun f wf hq hd K hK => go_run rfl (wo_un (fun v => Instr.extract v 2) (.tmp 55) (.tuple #[.int .i64 (ciN (cst g.s y.nm)), .string (ciS (cst g.s y.nm)), .bool true]) (.bool true) (fun _ => rfl) (hd 8 rfl) (by kernel_rfl) (hK _ (Mo.refl _))))
       ·exact og_eq _ rfl (fun f wf hq hd K hK => go_run rfl (wo_mv (.tmp 64) (.int .i64 (ciN (cst g.s y.nm))) (fun _ => rfl) (hd 9 rfl) (hK _ (Mo.refl _))))
       ·exact og_eq _ rfl (fun f wf hq hd K hK => go_run rfl (wo_mv (.tmp 65) (.string (ciS (cst g.s y.nm))) (fun _ => rfl) (hd 10 rfl) (hK _ (Mo.refl _))))
      intro kf43 u43 hq hR hne
      replace QO := QO.mo hq
      replace Q1 := Q1.mo hq
      replace M := M.trans hq
      clear hq hR hne
      refine wl_m (.tmp 66) (.bool true) ?_
      refine w_nil (xn_then (w_seq (w_reg ?_)))
      refine wl_m (.tmp 10) (.bool true) ?_
      refine w_nil (xn_then (w_condT rfl (w_reg ?_)))
      refine wl_mv (.tmp 5) (.slice (some ⟨ko, 0, none⟩) L.length L.length) (fun _ => rfl) e5 rfl ?_
      refine wl_mv (.tmp 6) (.int .i64 ((n : Nat) : Int)) (fun _ => rfl) e6 rfl ?_
      refine wl_mv (.tmp 0) (.slice pl L.length cl) (fun _ => rfl) e0 rfl ?_
      refine wl_f 87 0 (.tmp 7) (pt k1 0) (pt k1 0) ?_
      refine wl_l 25 (.tmp 71) (pt k1 0) (.agg #[.int .i64 g.r.s, .int .i64 g.r.a, .int .i64 g.r.b, .int .i64 g.r.c]) (run_row Q1 25 0 4 _ rfl Tryd.underlying25 rfl sz25) ?_
      refine wl_mv (.tmp 6) (.int .i64 ((n : Nat) : Int)) (fun _ => rfl) e6 rfl ?_
      refine wl_m (.tmp 8) (.int .i64 (ciN (cst g.s y.nm))) ?_
      refine wl_call 49 [(.tmp 70), (.tmp 72), (.tmp 73), (.tmp 74)] _ [.slice pl L.length cl, .agg #[.int .i64 g.r.s, .int .i64 g.r.a, .int .i64 g.r.b, .int .i64 g.r.c], .int .i64 ((n : Nat) : Int), .int .i64 (ciN (cst g.s y.nm))] (.agg ((udR y.dp (⟨g.r.s, g.r.a, g.r.b, g.r.c⟩ : Ro) ((n : Nat) : Int) (ciN (cst g.s y.nm))).cells).toArray) rfl rfl (fun _ _ => by kernel_rfl) (pud_n (y := y) (r := (⟨g.r.s, g.r.a, g.r.b, g.r.c⟩ : Ro)) _ (hL.mo M) (by omega) (by rw [Int.toNat_natCast]; exact hy) hd2 hd4) rfl ?_
      intro u44 hq
      replace QO := QO.mo hq
      replace Q1 := Q1.mo hq
      replace M := M.trans hq
      clear hq
      refine wl_m (.tmp 9) (.string (ciS (cst g.s y.nm))) ?_
      refine wl_build 87 [(0, (.tmp 75)), (1, (.tmp 76)), (2, (.const (.bool true)))] [(0, .agg ((udR y.dp (⟨g.r.s, g.r.a, g.r.b, g.r.c⟩ : Ro) ((n : Nat) : Int) (ciN (cst g.s y.nm))).cells).toArray), (1, .string (ciS (cst g.s y.nm))), (2, .bool true)] (.agg #[.int .i64 (udR y.dp (⟨g.r.s, g.r.a, g.r.b, g.r.c⟩ : Ro) ((n : Nat) : Int) (ciN (cst g.s y.nm))).s, .int .i64 (udR y.dp (⟨g.r.s, g.r.a, g.r.b, g.r.c⟩ : Ro) ((n : Nat) : Int) (ciN (cst g.s y.nm))).a, .int .i64 (udR y.dp (⟨g.r.s, g.r.a, g.r.b, g.r.c⟩ : Ro) ((n : Nat) : Int) (ciN (cst g.s y.nm))).b, .int .i64 (udR y.dp (⟨g.r.s, g.r.a, g.r.b, g.r.c⟩ : Ro) ((n : Nat) : Int) (ciN (cst g.s y.nm))).c, .string (ciS (cst g.s y.nm)), .bool true]) rfl rfl (by kernel_rfl) rfl ?_
      refine wl_bin (fun x y => Instr.indexAt 84 x y) (.tmp 68) (.tmp 69) (.slice (some ⟨ko, 0, none⟩) L.length L.length) (.int .i64 ((n : Nat) : Int)) (pt ko (n * 6)) (fun _ => rfl) rfl rfl (ix84n (by omega) _) rfl ?_
      refine wl_stm 87 (.tmp 78) (.tmp 77) ko (n * 6) #[.int .i64 (udR y.dp (⟨g.r.s, g.r.a, g.r.b, g.r.c⟩ : Ro) ((n : Nat) : Int) (ciN (cst g.s y.nm))).s, .int .i64 (udR y.dp (⟨g.r.s, g.r.a, g.r.b, g.r.c⟩ : Ro) ((n : Nat) : Int) (ciN (cst g.s y.nm))).a, .int .i64 (udR y.dp (⟨g.r.s, g.r.a, g.r.b, g.r.c⟩ : Ro) ((n : Nat) : Int) (ciN (cst g.s y.nm))).b, .int .i64 (udR y.dp (⟨g.r.s, g.r.a, g.r.b, g.r.c⟩ : Ro) ((n : Nat) : Int) (ciN (cst g.s y.nm))).c, .string (ciS (cst g.s y.nm)), .bool true] (fl (bqL L s n ++ List.replicate (L.length - n) bg0)) (fl ((bqL L s n ++ List.replicate (L.length - n) bg0).set n (⟨(udR y.dp (⟨g.r.s, g.r.a, g.r.b, g.r.c⟩ : Ro) ((n : Nat) : Int) (ciN (cst g.s y.nm))), ciS (cst g.s y.nm), true⟩ : Bg))) QO rfl rfl rfl rfl (by rw [Nat.ble_eq, fl_len, List.length_append, bqL_len, List.length_replicate]; show n * 6 + 6 ≤ _; omega) sz87 rfl (fl_set (b := (⟨(udR y.dp (⟨g.r.s, g.r.a, g.r.b, g.r.c⟩ : Ro) ((n : Nat) : Int) (ciN (cst g.s y.nm))), ciS (cst g.s y.nm), true⟩ : Bg)) (by rw [List.length_append, bqL_len, List.length_replicate]; omega)) rfl ?_
      intro u45 hS9 hm9 Qn
      replace QO := Qn
      clear Qn hm9
      replace Q1 := hS9.other _ _ ne_ko_k1.symm Q1
      replace M := hS9.mo _ N_ko M
      clear hS9
      refine w_nil (xn_blk (xn_then (w_reg ?_)))
      refine wl_mv (.tmp 6) (.int .i64 ((n : Nat) : Int)) (fun _ => rfl) e6 rfl ?_
      refine wl_b .add 3 (.tmp 37) (.const (.int .i64 (1))) (.int .i64 ((n : Nat) : Int)) (.int .i64 (1)) (.int .i64 ((n + 1 : Nat) : Int)) (add1r (k := n) (by omega) _ _ _) ?_
      refine wl_m (.tmp 38) (.int .i64 ((n + 1 : Nat) : Int)) ?_
      refine w_nil ?_
      exact xn_loop (L.length - (n + 1)) (by omega) ⟨n + 1, rfl, by omega, by omega, e0, e1, e5, rfl, (by rw [← bq_put (N := L.length) hnl (bqS_y hy (by omega) hg (if_neg hf30p) hf31)]; exact QO), M⟩
     | false =>
      refine w_any 14 [.inl (pt k1 4), .inl (.string g.s), .inl (.slice pl L.length cl), .inl (.int .i64 ((n : Nat) : Int)), .inl (pt bp (op + n * 5)), .inl (pt bp (op + n * 5 + 2)), .inl (.string y.nm), .inl (.tuple #[.int .i64 (ciN (cst g.s y.nm)), .string (ciS (cst g.s y.nm)), .bool false]), .inl (.tuple #[.int .i64 (ciN (cst g.s y.nm)), .string (ciS (cst g.s y.nm)), .bool false]), .inl (.int .i64 (ciN (cst g.s y.nm))), .inl (.string (ciS (cst g.s y.nm))), .inl (.bool false), .inl (.int .i64 (ciN (cst g.s y.nm))), .inl (.string (ciS (cst g.s y.nm)))] [] (by kernel_rfl) (by kernel_rfl) (by kernel_rfl) (by kernel_rfl) rfl (by kernel_rfl) (by kernel_rfl) late_nil ?_ ?_ ?_
      ·exact Ds.none rfl
      ·refine ea_cons ?_ (ea_cons ?_ (ea_cons ?_ (ea_cons ?_ (ea_cons ?_ (ea_cons ?_ (ea_cons ?_ (ea_cons ?_ (ea_cons ?_ (ea_cons ?_ (ea_cons ?_ (ea_cons ?_ (ea_cons ?_ (ea_cons ?_ (ea_nil))))))))))))))
       ·exact og_eq _ rfl (fun f wf hq hd K hK => go_run rfl (wo_un (fun v => Instr.fieldAt 87 v 1) (.tmp 7) (pt k1 0) (pt k1 4) (fun _ => rfl) rfl (by kernel_rfl) (hK _ (Mo.refl _))))
       ·exact og_eq _ rfl (fun f wf hq hd K hK => have Q1 := Q1.mo hq; go_run rfl (wo_load 9 (.tmp 56) (pt k1 4) (.string g.s) rfl (hd 0 rfl) (run_one Q1 9 4 rfl Tryd.underlying9 rfl) (hK _ (Mo.refl _))))
       ·exact og_eq _ rfl (fun f wf hq hd K hK => go_run rfl (wo_mv (.tmp 0) (.slice pl L.length cl) (fun _ => rfl) e0 (hK _ (Mo.refl _))))
       ·exact og_eq _ rfl (fun f wf hq hd K hK => go_run rfl (wo_mv (.tmp 6) (.int .i64 ((n : Nat) : Int)) (fun _ => rfl) e6 (hK _ (Mo.refl _))))
       ·exact og_eq _ rfl (fun f wf hq hd K hK => go_run rfl (wo_bin (fun x y => Instr.indexAt 22 x y) (.tmp 58) (.tmp 59) (.slice pl L.length cl) (.int .i64 ((n : Nat) : Int)) (pt bp (op + n * 5)) (fun _ => rfl) (hd 2 rfl) (hd 3 rfl) (ix22 (i := n) hpp hnl _) (hK _ (Mo.refl _))))
       ·exact og_eq _ rfl (fun f wf hq hd K hK => go_run rfl (wo_un (fun v => Instr.fieldAt 65 v 2) (.tmp 60) (pt bp (op + n * 5)) (pt bp (op + n * 5 + 2)) (fun _ => rfl) (hd 4 rfl) (by kernel_rfl) (hK _ (Mo.refl _))))
       ·exact og_eq _ rfl (fun f wf hq hd K hK => go_run rfl (wo_load 9 (.tmp 61) (pt bp (op + n * 5 + 2)) (.string y.nm) rfl (hd 5 rfl) (D.run_oneR (hRp.mo (M.trans hq)).at' 9 2 rfl Tryd.underlying9 rfl) (hK _ (Mo.refl _))))
       ·exact og_eq _ rfl (fun f wf hq hd K hK => go_run rfl (wo_call 53 [(.tmp 57), (.tmp 62)] _ [.string g.s, .string y.nm] (.tuple #[.int .i64 (ciN (cst g.s y.nm)), .string (ciS (cst g.s y.nm)), .bool false]) rfl (li2 (hd 1 rfl) (hd 6 rfl)) (fun _ _ => by kernel_rfl) (cR (by rw [hf31]) (cst_n (s := g.s) _ hgs hny)) hK))
       ·exact og_eq _ rfl (fun f wf hq hd K hK => go_run rfl (wo_mv (.tmp 63) (.tuple #[.int .i64 (ciN (cst g.s y.nm)), .string (ciS (cst g.s y.nm)), .bool false]) (fun _ => rfl) (hd 7 rfl) (hK _ (Mo.refl _))))
       ·exact og_eq _ rfl (fun f wf hq hd K hK => go_run rfl (wo_un (fun v => Instr.extract v 0) (.tmp 55) (.tuple #[.int .i64 (ciN (cst g.s y.nm)), .string (ciS (cst g.s y.nm)), .bool false]) (.int .i64 (ciN (cst g.s y.nm))) (fun _ => rfl) (hd 8 rfl) (by kernel_rfl) (hK _ (Mo.refl _))))
       ·exact og_eq _ rfl (fun f wf hq hd K hK => go_run rfl (wo_un (fun v => Instr.extract v 1) (.tmp 55) (.tuple #[.int .i64 (ciN (cst g.s y.nm)), .string (ciS (cst g.s y.nm)), .bool false]) (.string (ciS (cst g.s y.nm))) (fun _ => rfl) (hd 8 rfl) (by kernel_rfl) (hK _ (Mo.refl _))))
       ·exact og_eq _ rfl (fun f wf hq hd K hK => go_run rfl (wo_un (fun v => Instr.extract v 2) (.tmp 55) (.tuple #[.int .i64 (ciN (cst g.s y.nm)), .string (ciS (cst g.s y.nm)), .bool false]) (.bool false) (fun _ => rfl) (hd 8 rfl) (by kernel_rfl) (hK _ (Mo.refl _))))
       ·exact og_eq _ rfl (fun f wf hq hd K hK => go_run rfl (wo_mv (.tmp 64) (.int .i64 (ciN (cst g.s y.nm))) (fun _ => rfl) (hd 9 rfl) (hK _ (Mo.refl _))))
       ·exact og_eq _ rfl (fun f wf hq hd K hK => go_run rfl (wo_mv (.tmp 65) (.string (ciS (cst g.s y.nm))) (fun _ => rfl) (hd 10 rfl) (hK _ (Mo.refl _))))
      intro kf43 u43 hq hR hne
      replace QO := QO.mo hq
      replace Q1 := Q1.mo hq
      replace M := M.trans hq
      clear hq hR hne
      refine wl_m (.tmp 66) (.bool false) ?_
      refine w_nil (xn_then (w_seq (w_reg ?_)))
      refine wl_m (.tmp 10) (.bool false) ?_
      refine w_nil (xn_then (w_condF rfl (w_skip (xn_blk (xn_then (w_reg ?_))))))
      refine wl_mv (.tmp 6) (.int .i64 ((n : Nat) : Int)) (fun _ => rfl) e6 rfl ?_
      refine wl_b .add 3 (.tmp 37) (.const (.int .i64 (1))) (.int .i64 ((n : Nat) : Int)) (.int .i64 (1)) (.int .i64 ((n + 1 : Nat) : Int)) (add1r (k := n) (by omega) _ _ _) ?_
      refine wl_m (.tmp 38) (.int .i64 ((n + 1 : Nat) : Int)) ?_
      refine w_nil ?_
      exact xn_loop (L.length - (n + 1)) (by omega) ⟨n + 1, rfl, by omega, by omega, e0, e1, e5, rfl, (by rw [← bq_skip (N := L.length) hnl (bqS_n hy (by omega) hg (if_neg hf30p) hf31)]; exact QO), M⟩
   ·skip
    have hnd : decide (n < L.length) = false := decide_eq_false hnl
    have hne : n = L.length := by omega
    refine w_seq (w_seq (w_reg ?_))
    refine wl_mv (.tmp 6) (.int .i64 ((n : Nat) : Int)) (fun _ => rfl) e6 rfl ?_
    refine wl_mv (.tmp 0) (.slice pl L.length cl) (fun _ => rfl) e0 rfl ?_
    refine wl_val (.int .i64 ((L.length : Nat) : Int)) (len22 _ _ _ _ _ (by exact rfl) _ _ _ _ _ _) rfl ?_
    refine wl_b .lss 3 (.tmp 33) (.tmp 35) (.int .i64 ((n : Nat) : Int)) (.int .i64 ((L.length : Nat) : Int)) (.bool false) (ltN hnd _ _ _) ?_
    refine w_nil (xn_then (w_condF rfl (w_exit (xx_then (xx_then (xx_blk (xn_then (w_seq (w_reg ?_)))))))))
    refine wl_mv (.tmp 5) (.slice (some ⟨ko, 0, none⟩) L.length L.length) (fun _ => rfl) e5 rfl ?_
    refine wl_m (.tmp 79) (.slice (some ⟨ko, 0, none⟩) L.length L.length) ?_
    refine w_nil (xn_then (w_ret ?_))
    exact w_ret1 _ (.slice (some ⟨ko, 0, none⟩) L.length L.length) rfl rfl ⟨some ⟨ko, 0, none⟩, L.length, by have e9 : bqs L s = bqL L s L.length := (by unfold bqs; rw [if_pos hsn]); rw [e9, bqL_len], by have e9 : bqs L s = bqL L s L.length := (by unfold bqs; rw [if_pos hsn]); rw [e9]; rw [hne, Nat.sub_self, List.replicate_zero, List.append_nil] at QO; exact SL.of_at (cells := Bg.cells) (L := bqL L s L.length) (fun _ => rfl) (by rw [bqL_len L s L.length]; unfold maxLen; omega) QO, (fun a e => by cases e; exact ⟨N_ko, QO.lt⟩), M⟩
  | false =>
   refine wl_call 30 [(.tmp 15)] _ [.slice pl L.length cl] (.bool false) rfl rfl (fun _ _ => by kernel_rfl) (cB hf1 (psnd_n _ (hL.mo M) hcl)) rfl ?_
   intro u1 hq
   replace M := M.trans hq
   clear hq
   refine wl_un (fun v => Op.unary .not v) (.tmp 16) (.bool false) (.bool true) (fun _ => rfl) rfl (by kernel_rfl) rfl ?_
   refine wl_pick (.tmp 14) (.const (.bool true)) (.tmp 17) false (.bool true) (fun _ => rfl) rfl rfl rfl ?_
   refine w_nil (xn_then (w_condT rfl (w_seq (w_reg ?_))))
   refine wl_m (.const (.slice none 0 0)) (.slice none 0 0) ?_
   refine w_nil (xn_then (w_ret (xr_then ?_)))
   exact w_ret1 _ (.slice none 0 0) rfl rfl ⟨none, 0, by rw [show bqs L s = [] from (by unfold bqs; rw [hf1]; rfl)]; rfl, by rw [show bqs L s = [] from (by unfold bqs; rw [hf1]; rfl)]; exact ⟨Nat.zero_le _, fun _ _ e => by cases e⟩, (fun a e => by cases e), M⟩
end Go.Proofs.YtnffhcjmpjajlaaDoor
namespace Go.Proofs.YtnffhcjmpjajlaaDoor.V
open Go.RowKit D
section
variable {P : Program} {o : Oper} {n : Nat} {l : List (Nat × Value)} {w : World} {ops : Array Oper} {rest : List Oper} {Q : Exit → Act → World → Prop}
theorem wl_callx (g : FuncId) (xs : List Operand) (ats : Array TypeId) (args : List Value) {F : Ending → World → Prop} (ho : o.op = .call { callee := .value (.func g), args := xs.toArray, argTypes := ats }) (hx : xs.map (evl n l) = args)
  (h : ∀ args w, (callFunc g args).run P w = .ok (.enter g args) w)
  (hc : Calls P g args.toArray w F) (hg : wnt n l ops o = true) (hk : ∀ v w', F v w' → ∃ u, v = .returned u ∧ WL P ops Q rest n (ext l o.dst u) w') : WL P ops Q (o :: rest) n l w := by
 have e : (execOp (evl n l) o).run P w = .ok (.enter g args.toArray) w := by
  obtain ⟨dst, op, ty, pos, after, guard⟩ := o
  simp only at ho
  subst ho hx
  have e2 := execOp_call_go (fr n l) dst g xs.toArray ats ty pos after guard
  rw [fr_eval] at e2
  rw [e2, h]
  simp
 refine ⟨l_step hg ?_⟩
 unfold Oper.wp; rw [fr_eval, e, Oper.upon_enter]
 refine hc.mono ?_
 intro e w' hF
 obtain ⟨u, rfl, hW⟩ := hk e w' hF
 show wpList _ _ _ _ _ _
 rw [fr_put]
 exact hW.out
end
def mtS (l : List S5) (z : Int) (s : ByteArray) : ByteArray := ((mtc l z s).map (·.2)).getD ⟨#[]⟩
def mtB (l : List S5) (z : Int) (s : ByteArray) : Bool := (mtc l z s).isSome
def mtR (l : List S5) (z : Int) (s : ByteArray) : Ro := ((mtc l z s).map (·.1)).getD ro0
theorem mt_t {l : List S5} {z : Int} {s : ByteArray} {e : Ending} (h : mtB l z s = true) (p : mtP (mtc l z s) e) : e = .returned (.tuple #[(mtR l z s).v, .string (mtS l z s), .bool true]) := by
 obtain ⟨r, he, hr⟩ := p
 obtain ⟨x, hx⟩ := Option.isSome_iff_exists.1 h
 have : r = mtR l z s := by rw [hr x hx]; unfold mtR; rw [hx]; rfl
 rw [he, this]
 show Ending.returned (.tuple #[_, _, .bool (mtB l z s)]) = _
 rw [h]; rfl
theorem mt_f {l : List S5} {z : Int} {s : ByteArray} {e : Ending} (h : mtB l z s = false) (p : mtP (mtc l z s) e) : ∃ r : Ro, e = .returned (.tuple #[r.v, .string (mtS l z s), .bool false]) := by
 obtain ⟨r, he, hr⟩ := p
 refine ⟨r, ?_⟩
 rw [he]
 show Ending.returned (.tuple #[_, _, .bool (mtB l z s)]) = _
 rw [h]; rfl
def fstN {α : Type} (f : Nat → Option α) : Nat → Option α
 | 0 => none
 | n + 1 => match fstN f n with
  | some x => some x
  | none => f n
theorem fst_next {α : Type} {f : Nat → Option α} {n : Nat} (h : fstN f n = none) (k : f n = none) : fstN f (n + 1) = none := by rw [fstN, h]; exact k
theorem fst_hit {α : Type} {f : Nat → Option α} {i : Nat} {x : α} (h : fstN f i = none) (k : f i = some x) : ∀ n, i < n → fstN f n = some x
 | 0, hn => absurd hn (Nat.not_lt_zero i)
 | n + 1, hn => by
  rw [fstN]
  by_cases e : i = n
  ·subst e; rw [h]; exact k
  ·rw [fst_hit h k n (by omega)]
def prsC (l : List S5) (s : ByteArray) (i : Nat) : Bool := mtB l i s && (decide (mtS l i s = ⟨#[]⟩) && (decide (ckR l (mtR l i s) = 0) && decide (txR l (mtR l i s) = s)))
def prsA (l : List S5) (s : ByteArray) (i : Nat) : Option Ro := if prsC l s i then some (mtR l i s) else none
def prs (l : List S5) (s : ByteArray) : Option Ro := if snd l then fstN (prsA l s) l.length else none
theorem prs_yes {l : List S5} {s : ByteArray} {i : Nat} (hs : snd l = true) (hi : i < l.length) (h : fstN (prsA l s) i = none) (k : prsC l s i = true) : prs l s = some (mtR l i s) := by
 unfold prs; rw [if_pos hs]; exact fst_hit h (by unfold prsA; rw [if_pos k]) _ hi
theorem prs_no {l : List S5} {s : ByteArray} (h : snd l = false ∨ fstN (prsA l s) l.length = none) : prs l s = none := by
 unfold prs
 split
 next e => rcases h with h | h; rw [e] at h; cases h; exact h
 next => rfl
theorem prs_n1 {l : List S5} {s : ByteArray} {i : Nat} (h : prsC l s i = false) : prsA l s i = none := by unfold prsA; rw [h]; rfl
theorem pr_ret {l : List S5} {s : ByteArray} {o : Option Ro} {a : Ro} {f : Bool} (h : prs l s = o) (ha : a = o.getD ro0) (hf : f = o.isSome) : Ending.returned (.tuple #[a.v, .bool f]) = .returned (.tuple #[((prs l s).getD ro0).v, .bool (prs l s).isSome]) := by rw [h, ha, hf]
theorem match_t {L : List S5} {pl : Option Addr} {cl : Nat} {z : Int} {s : ByteArray} (h : mtB L z s = true) (w : World) (hL : LL w pl L) (hsn : snd L = true) (h0 : 0 ≤ z) (h1 : z < (L.length : Int)) (hs : s.size ≤ 9223372036854775807) : Calls Tryd.prog 37 #[.slice pl L.length cl, .int .i64 z, .string s] w fun e9 w' => e9 = .returned (.tuple #[(mtR L z s).v, .string (mtS L z s), .bool true]) ∧ Mw w w' := (match_n w hL hsn h0 h1 hs).mono (fun _ _ q => ⟨mt_t h q.1, q.2.1⟩)
theorem match_f {L : List S5} {pl : Option Addr} {cl : Nat} {z : Int} {s : ByteArray} (h : mtB L z s = false) (w : World) (hL : LL w pl L) (hsn : snd L = true) (h0 : 0 ≤ z) (h1 : z < (L.length : Int)) (hs : s.size ≤ 9223372036854775807) : Calls Tryd.prog 37 #[.slice pl L.length cl, .int .i64 z, .string s] w fun e9 w' => (∃ r : Ro, e9 = .returned (.tuple #[r.v, .string (mtS L z s), .bool false])) ∧ Mw w w' := (match_n w hL hsn h0 h1 hs).mono (fun _ _ q => ⟨mt_f h q.1, q.2.1⟩)
set_option maxHeartbeats 1000000 in
theorem rprs_n {L : List S5} {pl : Option Addr} {cl : Nat} {s : ByteArray} (w : World) (hL : LL w pl L) (hTb : TB w) (hs : s.size ≤ 9223372036854775807) : Calls Tryd.prog 21 #[.slice pl L.length cl, .string s] w fun e9 w' => e9 = .returned (.tuple #[((prs L s).getD ro0).v, .bool (prs L s).isSome]) ∧ Mw w w' := by
 refine w_enter 48 Tryd.func21 Tryd.ntmps21 rfl rfl ?_
 have M : Mw w w := Mw.refl _
 refine w_seq (w_reg ?_)
 refine wl_alloc 25 #[.int .i64 0, .int .i64 0, .int .i64 0, .int .i64 0] rfl (fun _ => by kernel_rfl) rfl ?_
 intro k1 u1 hk hz hq Q1
 have N_k1 : w.heap.size ≤ k1 := by have := M.size; omega
 replace M := M.trans hq
 clear hk hz hq
 refine wl_m (.const (.bool false)) (.bool false) ?_
 refine w_nil (xn_then (w_seq (w_seq (w_reg ?_))))
 refine wl_m (.const (.int .i64 (0))) (.int .i64 (0)) ?_
 refine w_nil (xn_then (w_block ?_))
 have hz9 := hL.sl.1
 unfold maxLen at hz9
 refine w_loop (fun m l w1 => ∃ i : Nat, m = L.length - i ∧ i ≤ L.length ∧ look l 0 = .slice pl L.length cl ∧ look l 1 = .string s ∧ look l 4 = pt k1 0 ∧ look l 6 = .int .i64 ((i : Nat) : Int) ∧ At w1 k1 [.int .i64 0, .int .i64 0, .int .i64 0, .int .i64 0] ∧ (fstN (prsA L s) i = none) ∧ Mw w w1) _ ⟨0, rfl, Nat.zero_le _, rfl, rfl, rfl, rfl, Q1, rfl, M⟩ ?_
 clear Q1 M
 rintro m l40 wl40 ⟨i, rfl, hi, e40_0, e40_1, e40_4, e40_i, Q1, hno, M⟩
 by_cases hil : i < L.length
 ·skip
  have hid : decide (i < L.length) = true := decide_eq_true hil
  refine w_seq (w_seq (w_reg ?_))
  refine wl_mv (.tmp 6) (.int .i64 ((i : Nat) : Int)) (fun _ => rfl) e40_i rfl ?_
  refine wl_mv (.tmp 0) (.slice pl L.length cl) (fun _ => rfl) e40_0 rfl ?_
  refine wl_val (.int .i64 ((L.length : Nat) : Int)) (len22 _ _ _ _ _ (by exact rfl) _ _ _ _ _ _) rfl ?_
  refine wl_b .lss 3 (.tmp 10) (.tmp 12) (.int .i64 ((i : Nat) : Int)) (.int .i64 ((L.length : Nat) : Int)) (.bool true) (ltN hid _ _ _) ?_
  refine wl_m (.tmp 13) (.bool true) ?_
  refine wl_mv (.tmp 0) (.slice pl L.length cl) (fun _ => rfl) e40_0 rfl ?_
  cases hf30 : snd L with
  | true =>
   refine wl_call 32 [(.tmp 15)] _ [.slice pl L.length cl] (.bool true) rfl rfl (fun _ _ => by kernel_rfl) (wk (cB hf30 (sound_n _ (hL.mw M)))) rfl ?_
   intro u41 hq
   replace Q1 := Q1.mo hq
   replace M := M.trans hq
   clear hq
   refine wl_pick (.tmp 14) (.tmp 16) (.const (.bool false)) true (.bool true) (fun _ => rfl) rfl rfl rfl ?_
   refine w_nil (xn_then (w_condT rfl (w_skip (xn_then (w_seq (w_block (w_seq (w_reg ?_))))))))
   refine wl_mv (.tmp 0) (.slice pl L.length cl) (fun _ => rfl) e40_0 rfl ?_
   refine wl_mv (.tmp 6) (.int .i64 ((i : Nat) : Int)) (fun _ => rfl) e40_i rfl ?_
   refine wl_mv (.tmp 1) (.string s) (fun _ => rfl) e40_1 rfl ?_
   cases hf31 : mtB L ((i : Nat) : Int) s with
   | true =>
    refine wl_callx 37 [(.tmp 21), (.tmp 22), (.tmp 23)] _ [.slice pl L.length cl, .int .i64 ((i : Nat) : Int), .string s] rfl rfl (fun _ _ => by kernel_rfl) (match_t hf31 _ (hL.mw M) hf30 (by omega) (by omega) hs) rfl ?_
    rintro e9 u42 ⟨rfl, hq⟩
    refine ⟨_, rfl, ?_⟩
    replace Q1 := Q1.mo hq
    replace M := M.trans hq
    clear hq
    refine wl_m (.tmp 24) (.tuple #[.agg ((mtR L ((i : Nat) : Int) s).cells).toArray, .string (mtS L ((i : Nat) : Int) s), .bool true]) ?_
    refine wl_un (fun v => Instr.extract v 0) (.tmp 20) (.tuple #[.agg ((mtR L ((i : Nat) : Int) s).cells).toArray, .string (mtS L ((i : Nat) : Int) s), .bool true]) (.agg ((mtR L ((i : Nat) : Int) s).cells).toArray) (fun _ => rfl) rfl (by kernel_rfl) rfl ?_
    refine wl_un (fun v => Instr.extract v 1) (.tmp 20) (.tuple #[.agg ((mtR L ((i : Nat) : Int) s).cells).toArray, .string (mtS L ((i : Nat) : Int) s), .bool true]) (.string (mtS L ((i : Nat) : Int) s)) (fun _ => rfl) rfl (by kernel_rfl) rfl ?_
    refine wl_un (fun v => Instr.extract v 2) (.tmp 20) (.tuple #[.agg ((mtR L ((i : Nat) : Int) s).cells).toArray, .string (mtS L ((i : Nat) : Int) s), .bool true]) (.bool true) (fun _ => rfl) rfl (by kernel_rfl) rfl ?_
    refine wl_alloc 25 #[.int .i64 0, .int .i64 0, .int .i64 0, .int .i64 0] rfl (fun _ => by kernel_rfl) rfl ?_
    intro k2 u43 hk hz hq Q2
    have ne_k1_k2 : k1 ≠ k2 := by have := Q1.lt; omega
    have N_k2 : w.heap.size ≤ k2 := by have := M.size; omega
    replace Q1 := Q1.mo hq
    replace M := M.trans hq
    clear hk hz hq
    refine wl_st 25 (.tmp 7) (.tmp 25) k2 0 (((mtR L ((i : Nat) : Int) s).cells).toArray) _ ((mtR L ((i : Nat) : Int) s).cells) Q2 rfl rfl rfl rfl rfl sz25 rfl rfl rfl ?_
    intro u44 hS Qn
    replace Q2 := Qn
    clear Qn
    replace Q1 := hS.other _ _ ne_k1_k2 Q1
    replace M := hS.mo _ N_k2 M
    clear hS
    refine wl_m (.tmp 26) (.string (mtS L ((i : Nat) : Int) s)) ?_
    refine wl_m (.tmp 27) (.bool true) ?_
    refine w_nil (xn_then (w_seq (w_reg ?_)))
    refine wl_m (.tmp 9) (.bool true) ?_
    refine wl_m (.tmp 28) (.bool true) ?_
    refine wl_m (.tmp 8) (.string (mtS L ((i : Nat) : Int) s)) ?_
    cases hf32 : decide (mtS L ((i : Nat) : Int) s = ⟨#[]⟩) with
    | true =>
     have hf32p := of_decide_eq_true hf32
     refine wl_b .eql 9 (.tmp 30) (.const (.string ⟨#[]⟩)) (.string (mtS L ((i : Nat) : Int) s)) (.string ⟨#[]⟩) (.bool true) (s9 hf32 _ _ _) ?_
     refine wl_pick (.tmp 29) (.tmp 31) (.const (.bool false)) true (.bool true) (fun _ => rfl) rfl rfl rfl ?_
     refine wl_m (.tmp 32) (.bool true) ?_
     refine wl_mv (.tmp 0) (.slice pl L.length cl) (fun _ => rfl) e40_0 rfl ?_
     refine wl_l 25 (.tmp 7) (pt k2 0) (.agg ((mtR L ((i : Nat) : Int) s).cells).toArray) (run_row Q2 25 0 4 ((mtR L ((i : Nat) : Int) s).cells) rfl Tryd.underlying25 rfl sz25) ?_
     refine wl_call 11 [(.tmp 34), (.tmp 35)] _ [.slice pl L.length cl, .agg ((mtR L ((i : Nat) : Int) s).cells).toArray] (.int .i64 (ckR L (mtR L ((i : Nat) : Int) s))) rfl rfl (fun _ _ => by kernel_rfl) (wk (rck_n _ (hL.mw M))) rfl ?_
     intro u45 hq
     replace Q1 := Q1.mo hq
     replace Q2 := Q2.mo hq
     replace M := M.trans hq
     clear hq
     cases hf33 : decide (ckR L (mtR L ((i : Nat) : Int) s) = 0) with
     | true =>
      have hf33p := of_decide_eq_true hf33
      refine wl_b .eql 31 (.tmp 36) (.const (.int .i64 (0))) (.int .i64 (ckR L (mtR L ((i : Nat) : Int) s))) (.int .i64 (0)) (.bool true) (eq34 hf33 _ _ _) ?_
      refine wl_pick (.tmp 33) (.tmp 37) (.const (.bool false)) true (.bool true) (fun _ => rfl) rfl rfl rfl ?_
      refine wl_m (.tmp 38) (.bool true) ?_
      refine wl_mv (.tmp 0) (.slice pl L.length cl) (fun _ => rfl) e40_0 rfl ?_
      refine wl_l 25 (.tmp 7) (pt k2 0) (.agg ((mtR L ((i : Nat) : Int) s).cells).toArray) (run_row Q2 25 0 4 ((mtR L ((i : Nat) : Int) s).cells) rfl Tryd.underlying25 rfl sz25) ?_
      refine wl_call 17 [(.tmp 40), (.tmp 41)] _ [.slice pl L.length cl, .agg ((mtR L ((i : Nat) : Int) s).cells).toArray] (.string (txR L (mtR L ((i : Nat) : Int) s))) rfl rfl (fun _ _ => by kernel_rfl) (rtxt_n _ (hL.mw M) (hTb.mw M)) rfl ?_
      intro u46 hq
      replace Q1 := Q1.mo hq
      replace Q2 := Q2.mo hq
      replace M := M.trans hq
      clear hq
      refine wl_mv (.tmp 1) (.string s) (fun _ => rfl) e40_1 rfl ?_
      cases hf34 : decide (txR L (mtR L ((i : Nat) : Int) s) = s) with
      | true =>
       have hf34p := of_decide_eq_true hf34
       refine wl_b .eql 9 (.tmp 42) (.tmp 43) (.string (txR L (mtR L ((i : Nat) : Int) s))) (.string s) (.bool true) (s9 hf34 _ _ _) ?_
       refine wl_pick (.tmp 39) (.tmp 44) (.const (.bool false)) true (.bool true) (fun _ => rfl) rfl rfl rfl ?_
       refine w_nil (xn_then (w_condT rfl (w_seq (w_reg ?_))))
       refine wl_l 25 (.tmp 7) (pt k2 0) (.agg ((mtR L ((i : Nat) : Int) s).cells).toArray) (run_row Q2 25 0 4 ((mtR L ((i : Nat) : Int) s).cells) rfl Tryd.underlying25 rfl sz25) ?_
       refine wl_st 25 (.tmp 4) (.tmp 46) k1 0 (((mtR L ((i : Nat) : Int) s).cells).toArray) _ ((mtR L ((i : Nat) : Int) s).cells) Q1 rfl rfl e40_4 rfl rfl sz25 rfl rfl rfl ?_
       intro u47 hS Qn
       replace Q1 := Qn
       clear Qn
       replace Q2 := hS.other _ _ ne_k1_k2.symm Q2
       replace M := hS.mo _ N_k1 M
       clear hS
       refine wl_m (.const (.bool true)) (.bool true) ?_
       refine w_nil (xn_then (w_ret (xr_blk (xr_then (xr_then (xr_blk (xr_then ?_)))))))
       exact w_ret2 _ _ (.agg ((mtR L ((i : Nat) : Int) s).cells).toArray) (.bool true) rfl ⟨k1, e40_4, (run_row Q1 25 0 4 ((mtR L ((i : Nat) : Int) s).cells) rfl Tryd.underlying25 rfl sz25)⟩ rfl ⟨pr_ret (prs_yes hf30 hil hno (by unfold prsC; simp [hf31, hf32p, hf33p, hf34p])) rfl rfl, M⟩
      | false =>
       have hf34p := of_decide_eq_false hf34
       refine wl_b .eql 9 (.tmp 42) (.tmp 43) (.string (txR L (mtR L ((i : Nat) : Int) s))) (.string s) (.bool false) (s9 hf34 _ _ _) ?_
       refine wl_pick (.tmp 39) (.tmp 44) (.const (.bool false)) true (.bool false) (fun _ => rfl) rfl rfl rfl ?_
       refine w_nil (xn_then (w_condF rfl (w_skip (xn_blk (xn_then (w_reg ?_))))))
       refine wl_mv (.tmp 6) (.int .i64 ((i : Nat) : Int)) (fun _ => rfl) e40_i rfl ?_
       refine wl_b .add 3 (.tmp 18) (.const (.int .i64 (1))) (.int .i64 ((i : Nat) : Int)) (.int .i64 (1)) (.int .i64 ((i + 1 : Nat) : Int)) (add1r (k := i) (by omega) _ _ _) ?_
       refine wl_m (.tmp 19) (.int .i64 ((i + 1 : Nat) : Int)) ?_
       refine w_nil ?_
       exact xn_loop (L.length - (i + 1)) (by omega) ⟨i + 1, rfl, by omega, e40_0, e40_1, e40_4, rfl, Q1, (fst_next hno (prs_n1 (by unfold prsC; simp [hf31, hf32p, hf33p, hf34p]))), M⟩
     | false =>
      have hf33p := of_decide_eq_false hf33
      refine wl_b .eql 31 (.tmp 36) (.const (.int .i64 (0))) (.int .i64 (ckR L (mtR L ((i : Nat) : Int) s))) (.int .i64 (0)) (.bool false) (eq34 hf33 _ _ _) ?_
      refine wl_pick (.tmp 33) (.tmp 37) (.const (.bool false)) true (.bool false) (fun _ => rfl) rfl rfl rfl ?_
      refine wl_m (.tmp 38) (.bool false) ?_
      refine wl_skip rfl (wl_skip rfl (wl_skip rfl (wl_skip rfl (wl_skip rfl ?_))))
      refine wl_pick (.tmp 39) (.tmp 44) (.const (.bool false)) false (.bool false) (fun _ => rfl) rfl rfl rfl ?_
      refine w_nil (xn_then (w_condF rfl (w_skip (xn_blk (xn_then (w_reg ?_))))))
      refine wl_mv (.tmp 6) (.int .i64 ((i : Nat) : Int)) (fun _ => rfl) e40_i rfl ?_
      refine wl_b .add 3 (.tmp 18) (.const (.int .i64 (1))) (.int .i64 ((i : Nat) : Int)) (.int .i64 (1)) (.int .i64 ((i + 1 : Nat) : Int)) (add1r (k := i) (by omega) _ _ _) ?_
      refine wl_m (.tmp 19) (.int .i64 ((i + 1 : Nat) : Int)) ?_
      refine w_nil ?_
      exact xn_loop (L.length - (i + 1)) (by omega) ⟨i + 1, rfl, by omega, e40_0, e40_1, e40_4, rfl, Q1, (fst_next hno (prs_n1 (by unfold prsC; simp [hf31, hf32p, hf33p]))), M⟩
    | false =>
     have hf32p := of_decide_eq_false hf32
     refine wl_b .eql 9 (.tmp 30) (.const (.string ⟨#[]⟩)) (.string (mtS L ((i : Nat) : Int) s)) (.string ⟨#[]⟩) (.bool false) (s9 hf32 _ _ _) ?_
     refine wl_pick (.tmp 29) (.tmp 31) (.const (.bool false)) true (.bool false) (fun _ => rfl) rfl rfl rfl ?_
     refine wl_m (.tmp 32) (.bool false) ?_
     refine wl_skip rfl (wl_skip rfl (wl_skip rfl (wl_skip rfl ?_)))
     refine wl_pick (.tmp 33) (.tmp 37) (.const (.bool false)) false (.bool false) (fun _ => rfl) rfl rfl rfl ?_
     refine wl_m (.tmp 38) (.bool false) ?_
     refine wl_skip rfl (wl_skip rfl (wl_skip rfl (wl_skip rfl (wl_skip rfl ?_))))
     refine wl_pick (.tmp 39) (.tmp 44) (.const (.bool false)) false (.bool false) (fun _ => rfl) rfl rfl rfl ?_
     refine w_nil (xn_then (w_condF rfl (w_skip (xn_blk (xn_then (w_reg ?_))))))
     refine wl_mv (.tmp 6) (.int .i64 ((i : Nat) : Int)) (fun _ => rfl) e40_i rfl ?_
     refine wl_b .add 3 (.tmp 18) (.const (.int .i64 (1))) (.int .i64 ((i : Nat) : Int)) (.int .i64 (1)) (.int .i64 ((i + 1 : Nat) : Int)) (add1r (k := i) (by omega) _ _ _) ?_
     refine wl_m (.tmp 19) (.int .i64 ((i + 1 : Nat) : Int)) ?_
     refine w_nil ?_
     exact xn_loop (L.length - (i + 1)) (by omega) ⟨i + 1, rfl, by omega, e40_0, e40_1, e40_4, rfl, Q1, (fst_next hno (prs_n1 (by unfold prsC; simp [hf31, hf32p]))), M⟩
   | false =>
    refine wl_callx 37 [(.tmp 21), (.tmp 22), (.tmp 23)] _ [.slice pl L.length cl, .int .i64 ((i : Nat) : Int), .string s] rfl rfl (fun _ _ => by kernel_rfl) (match_f hf31 _ (hL.mw M) hf30 (by omega) (by omega) hs) rfl ?_
    rintro e9 u42 ⟨⟨r9, rfl⟩, hq⟩
    refine ⟨_, rfl, ?_⟩
    replace Q1 := Q1.mo hq
    replace M := M.trans hq
    clear hq
    refine wl_m (.tmp 24) (.tuple #[.agg (r9.cells).toArray, .string (mtS L ((i : Nat) : Int) s), .bool false]) ?_
    refine wl_un (fun v => Instr.extract v 0) (.tmp 20) (.tuple #[.agg (r9.cells).toArray, .string (mtS L ((i : Nat) : Int) s), .bool false]) (.agg (r9.cells).toArray) (fun _ => rfl) rfl (by kernel_rfl) rfl ?_
    refine wl_un (fun v => Instr.extract v 1) (.tmp 20) (.tuple #[.agg (r9.cells).toArray, .string (mtS L ((i : Nat) : Int) s), .bool false]) (.string (mtS L ((i : Nat) : Int) s)) (fun _ => rfl) rfl (by kernel_rfl) rfl ?_
    refine wl_un (fun v => Instr.extract v 2) (.tmp 20) (.tuple #[.agg (r9.cells).toArray, .string (mtS L ((i : Nat) : Int) s), .bool false]) (.bool false) (fun _ => rfl) rfl (by kernel_rfl) rfl ?_
    refine wl_alloc 25 #[.int .i64 0, .int .i64 0, .int .i64 0, .int .i64 0] rfl (fun _ => by kernel_rfl) rfl ?_
    intro k2 u43 hk hz hq Q2
    have ne_k1_k2 : k1 ≠ k2 := by have := Q1.lt; omega
    have N_k2 : w.heap.size ≤ k2 := by have := M.size; omega
    replace Q1 := Q1.mo hq
    replace M := M.trans hq
    clear hk hz hq
    refine wl_st 25 (.tmp 7) (.tmp 25) k2 0 ((r9.cells).toArray) _ (r9.cells) Q2 rfl rfl rfl rfl rfl sz25 rfl rfl rfl ?_
    intro u44 hS Qn
    replace Q2 := Qn
    clear Qn
    replace Q1 := hS.other _ _ ne_k1_k2 Q1
    replace M := hS.mo _ N_k2 M
    clear hS
    refine wl_m (.tmp 26) (.string (mtS L ((i : Nat) : Int) s)) ?_
    refine wl_m (.tmp 27) (.bool false) ?_
    refine w_nil (xn_then (w_seq (w_reg ?_)))
    refine wl_m (.tmp 9) (.bool false) ?_
    refine wl_m (.tmp 28) (.bool false) ?_
    refine wl_skip rfl (wl_skip rfl ?_)
    refine wl_pick (.tmp 29) (.tmp 31) (.const (.bool false)) false (.bool false) (fun _ => rfl) rfl rfl rfl ?_
    refine wl_m (.tmp 32) (.bool false) ?_
    refine wl_skip rfl (wl_skip rfl (wl_skip rfl (wl_skip rfl ?_)))
    refine wl_pick (.tmp 33) (.tmp 37) (.const (.bool false)) false (.bool false) (fun _ => rfl) rfl rfl rfl ?_
    refine wl_m (.tmp 38) (.bool false) ?_
    refine wl_skip rfl (wl_skip rfl (wl_skip rfl (wl_skip rfl (wl_skip rfl ?_))))
    refine wl_pick (.tmp 39) (.tmp 44) (.const (.bool false)) false (.bool false) (fun _ => rfl) rfl rfl rfl ?_
    refine w_nil (xn_then (w_condF rfl (w_skip (xn_blk (xn_then (w_reg ?_))))))
    refine wl_mv (.tmp 6) (.int .i64 ((i : Nat) : Int)) (fun _ => rfl) e40_i rfl ?_
    refine wl_b .add 3 (.tmp 18) (.const (.int .i64 (1))) (.int .i64 ((i : Nat) : Int)) (.int .i64 (1)) (.int .i64 ((i + 1 : Nat) : Int)) (add1r (k := i) (by omega) _ _ _) ?_
    refine wl_m (.tmp 19) (.int .i64 ((i + 1 : Nat) : Int)) ?_
    refine w_nil ?_
    exact xn_loop (L.length - (i + 1)) (by omega) ⟨i + 1, rfl, by omega, e40_0, e40_1, e40_4, rfl, Q1, (fst_next hno (prs_n1 (by unfold prsC; simp [hf31]))), M⟩
  | false =>
   refine wl_call 32 [(.tmp 15)] _ [.slice pl L.length cl] (.bool false) rfl rfl (fun _ _ => by kernel_rfl) (wk (cB hf30 (sound_n _ (hL.mw M)))) rfl ?_
   intro u41 hq
   replace Q1 := Q1.mo hq
   replace M := M.trans hq
   clear hq
   refine wl_pick (.tmp 14) (.tmp 16) (.const (.bool false)) true (.bool false) (fun _ => rfl) rfl rfl rfl ?_
   refine w_nil (xn_then (w_condF rfl (w_exit (xx_then (xx_then (xx_blk (xn_then (w_seq (w_reg ?_)))))))))
   refine wl_build 25 [] [] (.agg #[.int .i64 0, .int .i64 0, .int .i64 0, .int .i64 0]) rfl rfl (by kernel_rfl) rfl ?_
   refine wl_st 25 (.tmp 4) (.tmp 47) k1 0 #[.int .i64 0, .int .i64 0, .int .i64 0, .int .i64 0] _ [.int .i64 0, .int .i64 0, .int .i64 0, .int .i64 0] Q1 rfl rfl e40_4 rfl rfl sz25 rfl rfl rfl ?_
   intro u42 hS Qn
   replace Q1 := Qn
   clear Qn
   replace M := hS.mo _ N_k1 M
   clear hS
   refine wl_m (.const (.bool false)) (.bool false) ?_
   refine w_nil (xn_then (w_ret ?_))
   exact w_ret2 _ _ (.agg #[.int .i64 0, .int .i64 0, .int .i64 0, .int .i64 0]) (.bool false) rfl ⟨k1, e40_4, (run_row Q1 25 0 4 _ rfl Tryd.underlying25 rfl sz25)⟩ rfl ⟨pr_ret (a := ro0) (prs_no (.inl hf30)) rfl rfl, M⟩
 ·skip
  have hid : decide (i < L.length) = false := decide_eq_false hil
  have hie : i = L.length := by omega
  refine w_seq (w_seq (w_reg ?_))
  refine wl_mv (.tmp 6) (.int .i64 ((i : Nat) : Int)) (fun _ => rfl) e40_i rfl ?_
  refine wl_mv (.tmp 0) (.slice pl L.length cl) (fun _ => rfl) e40_0 rfl ?_
  refine wl_val (.int .i64 ((L.length : Nat) : Int)) (len22 _ _ _ _ _ (by exact rfl) _ _ _ _ _ _) rfl ?_
  refine wl_b .lss 3 (.tmp 10) (.tmp 12) (.int .i64 ((i : Nat) : Int)) (.int .i64 ((L.length : Nat) : Int)) (.bool false) (ltN hid _ _ _) ?_
  refine wl_m (.tmp 13) (.bool false) ?_
  refine wl_skip rfl (wl_skip rfl ?_)
  refine wl_pick (.tmp 14) (.tmp 16) (.const (.bool false)) false (.bool false) (fun _ => rfl) rfl rfl rfl ?_
  refine w_nil (xn_then (w_condF rfl (w_exit (xx_then (xx_then (xx_blk (xn_then (w_seq (w_reg ?_)))))))))
  refine wl_build 25 [] [] (.agg #[.int .i64 0, .int .i64 0, .int .i64 0, .int .i64 0]) rfl rfl (by kernel_rfl) rfl ?_
  refine wl_st 25 (.tmp 4) (.tmp 47) k1 0 #[.int .i64 0, .int .i64 0, .int .i64 0, .int .i64 0] _ [.int .i64 0, .int .i64 0, .int .i64 0, .int .i64 0] Q1 rfl rfl e40_4 rfl rfl sz25 rfl rfl rfl ?_
  intro u41 hS Qn
  replace Q1 := Qn
  clear Qn
  replace M := hS.mo _ N_k1 M
  clear hS
  refine wl_m (.const (.bool false)) (.bool false) ?_
  refine w_nil (xn_then (w_ret ?_))
  exact w_ret2 _ _ (.agg #[.int .i64 0, .int .i64 0, .int .i64 0, .int .i64 0]) (.bool false) rfl ⟨k1, e40_4, (run_row Q1 25 0 4 _ rfl Tryd.underlying25 rfl sz25)⟩ rfl ⟨pr_ret (a := ro0) (prs_no (.inr (hie ▸ hno))) rfl rfl, M⟩
end Go.Proofs.YtnffhcjmpjajlaaDoor.V

namespace Go.Proofs.YtnffhcjmpjajlaaDoor.V
open Go.RowKit D
def prcC (l : List S5) (s : ByteArray) (i k : Nat) (nm : ByteArray) : Bool := mtB l i s && (decide (mtS l i s = catB ⟨#[46]⟩ nm) && (decide (ckC l ⟨mtR l i s, (k : Int)⟩ = 0) && decide (txC l ⟨mtR l i s, (k : Int)⟩ = s)))
def prcA (l : List S5) (s : ByteArray) (i : Nat) (y : S5) (k : Nat) : Option Ce := match y.items[k]? with
 | some z => if prcC l s i k z.nm then some ⟨mtR l i s, (k : Int)⟩ else none
 | none => none
def prcI (l : List S5) (s : ByteArray) (i : Nat) : Option Ce := match l[i]? with
 | some y => fstN (prcA l s i y) y.items.length
 | none => none
def prc (l : List S5) (s : ByteArray) : Option Ce := if snd l then fstN (prcI l s) l.length else none
def ce0 : Ce := ⟨ro0, 0⟩
theorem fst_all {α : Type} {f : Nat → Option α} (h : ∀ k, f k = none) : ∀ n, fstN f n = none
 | 0 => rfl
 | n + 1 => fst_next (fst_all h n) (h n)
theorem prcA_at {l : List S5} {s : ByteArray} {i k : Nat} {y : S5} {z : It} (hz : y.items[k]? = some z) : prcA l s i y k = if prcC l s i k z.nm then some ⟨mtR l i s, (k : Int)⟩ else none := by unfold prcA; rw [hz]
theorem prcI_at {l : List S5} {s : ByteArray} {i : Nat} {y : S5} (hy : l[i]? = some y) : prcI l s i = fstN (prcA l s i y) y.items.length := by unfold prcI; rw [hy]
theorem prcI_f {l : List S5} {s : ByteArray} {i : Nat} (h : mtB l i s = false) : prcI l s i = none := by
 unfold prcI
 split
 ·refine fst_all (fun k => ?_) _
  unfold prcA
  split
  ·unfold prcC; rw [h]; rfl
  ·rfl
 ·rfl
theorem prc_yes {l : List S5} {s : ByteArray} {i k : Nat} {y : S5} {z : It} (hs : snd l = true) (hy : l[i]? = some y) (h : fstN (prcI l s) i = none) (hz : y.items[k]? = some z) (g : fstN (prcA l s i y) k = none) (c : prcC l s i k z.nm = true) : prc l s = some ⟨mtR l i s, (k : Int)⟩ := by
 unfold prc; rw [if_pos hs]
 exact fst_hit h (by rw [prcI_at hy]; exact fst_hit g (by rw [prcA_at hz, if_pos c]) _ (lt_of_get hz)) _ (lt_of_get hy)
theorem prc_n1 {l : List S5} {s : ByteArray} {i k : Nat} {y : S5} {z : It} (hz : y.items[k]? = some z) (c : prcC l s i k z.nm = false) : prcA l s i y k = none := by rw [prcA_at hz, c]; rfl
theorem prc_no {l : List S5} {s : ByteArray} (h : snd l = false ∨ fstN (prcI l s) l.length = none) : prc l s = none := by
 unfold prc
 split
 next e => rcases h with h | h; rw [e] at h; cases h; exact h
 next => rfl
theorem pc_ret {l : List S5} {s : ByteArray} {o : Option Ce} {a : Ce} {f : Bool} (h : prc l s = o) (ha : a = o.getD ce0) (hf : f = o.isSome) : Ending.returned (.tuple #[a.v, .bool f]) = .returned (.tuple #[((prc l s).getD ce0).v, .bool (prc l s).isSome]) := by rw [h, ha, hf]
theorem sz46 {a : ByteArray} (h : a.size ≤ 140737488355328) : (⟨#[46]⟩ : ByteArray).size + a.size ≤ 9223372036854775807 := by rw [s46]; omega
set_option maxHeartbeats 1000000 in
theorem rprc_n {L : List S5} {pl : Option Addr} {cl : Nat} {s : ByteArray} (w : World) (hL : LL w pl L) (hTb : TB w) (hs : s.size ≤ 9223372036854775807) : Calls Tryd.prog 23 #[.slice pl L.length cl, .string s] w fun e9 w' => e9 = .returned (.tuple #[((prc L s).getD ce0).v, .bool (prc L s).isSome]) ∧ Mw w w' := by
 refine w_enter 73 Tryd.func23 Tryd.ntmps23 rfl rfl ?_
 have M : Mw w w := Mw.refl _
 refine w_seq (w_reg ?_)
 refine wl_alloc 27 #[.int .i64 0, .int .i64 0, .int .i64 0, .int .i64 0, .int .i64 0] rfl (fun _ => by kernel_rfl) rfl ?_
 intro k1 u1 hk hz hq Q1
 have N_k1 : w.heap.size ≤ k1 := by have := M.size; omega
 replace M := M.trans hq
 clear hk hz hq
 refine wl_m (.const (.bool false)) (.bool false) ?_
 refine w_nil (xn_then (w_seq (w_seq (w_reg ?_))))
 refine wl_m (.const (.int .i64 (0))) (.int .i64 (0)) ?_
 refine w_nil (xn_then (w_block ?_))
 have hz9 := hL.sl.1
 unfold maxLen at hz9
 refine w_loop (fun m l w1 => ∃ i : Nat, m = L.length - i ∧ i ≤ L.length ∧ look l 0 = .slice pl L.length cl ∧ look l 1 = .string s ∧ look l 4 = pt k1 0 ∧ look l 6 = .int .i64 ((i : Nat) : Int) ∧ At w1 k1 [.int .i64 0, .int .i64 0, .int .i64 0, .int .i64 0, .int .i64 0] ∧ (fstN (prcI L s) i = none) ∧ Mw w w1) _ ⟨0, rfl, Nat.zero_le _, rfl, rfl, rfl, rfl, Q1, rfl, M⟩ ?_
 clear Q1 M
 rintro m l40 wl40 ⟨i, rfl, hi, e40_0, e40_1, e40_4, e40_i, Q1, hno, M⟩
 by_cases hil : i < L.length
 ·skip
  have hid : decide (i < L.length) = true := decide_eq_true hil
  obtain ⟨y, hy⟩ := get_of_lt hil
  have hmy := List.mem_of_getElem? hy
  obtain ⟨bp, op, hpp, hRp⟩ := D.SL.rw hL.sl hy
  have hz8 := (hL.it y hmy).1
  unfold maxLen at hz8
  refine w_seq (w_seq (w_reg ?_))
  refine wl_mv (.tmp 6) (.int .i64 ((i : Nat) : Int)) (fun _ => rfl) e40_i rfl ?_
  refine wl_mv (.tmp 0) (.slice pl L.length cl) (fun _ => rfl) e40_0 rfl ?_
  refine wl_val (.int .i64 ((L.length : Nat) : Int)) (len22 _ _ _ _ _ (by exact rfl) _ _ _ _ _ _) rfl ?_
  refine wl_b .lss 3 (.tmp 12) (.tmp 14) (.int .i64 ((i : Nat) : Int)) (.int .i64 ((L.length : Nat) : Int)) (.bool true) (ltN hid _ _ _) ?_
  refine wl_m (.tmp 15) (.bool true) ?_
  refine wl_mv (.tmp 0) (.slice pl L.length cl) (fun _ => rfl) e40_0 rfl ?_
  cases hf30 : snd L with
  | true =>
   refine wl_call 32 [(.tmp 17)] _ [.slice pl L.length cl] (.bool true) rfl rfl (fun _ _ => by kernel_rfl) (wk (cB hf30 (sound_n _ (hL.mw M)))) rfl ?_
   intro u41 hq
   replace Q1 := Q1.mo hq
   replace M := M.trans hq
   clear hq
   refine wl_pick (.tmp 16) (.tmp 18) (.const (.bool false)) true (.bool true) (fun _ => rfl) rfl rfl rfl ?_
   refine w_nil (xn_then (w_condT rfl (w_skip (xn_then (w_seq (w_block (w_seq (w_reg ?_))))))))
   refine wl_mv (.tmp 0) (.slice pl L.length cl) (fun _ => rfl) e40_0 rfl ?_
   refine wl_mv (.tmp 6) (.int .i64 ((i : Nat) : Int)) (fun _ => rfl) e40_i rfl ?_
   refine wl_mv (.tmp 1) (.string s) (fun _ => rfl) e40_1 rfl ?_
   cases hf31 : mtB L ((i : Nat) : Int) s with
   | true =>
    refine wl_callx 37 [(.tmp 23), (.tmp 24), (.tmp 25)] _ [.slice pl L.length cl, .int .i64 ((i : Nat) : Int), .string s] rfl rfl (fun _ _ => by kernel_rfl) (match_t hf31 _ (hL.mw M) hf30 (by omega) (by omega) hs) rfl ?_
    rintro e9 u42 ⟨rfl, hq⟩
    refine ⟨_, rfl, ?_⟩
    replace Q1 := Q1.mo hq
    replace M := M.trans hq
    clear hq
    refine wl_m (.tmp 26) (.tuple #[.agg ((mtR L ((i : Nat) : Int) s).cells).toArray, .string (mtS L ((i : Nat) : Int) s), .bool true]) ?_
    refine wl_un (fun v => Instr.extract v 0) (.tmp 22) (.tuple #[.agg ((mtR L ((i : Nat) : Int) s).cells).toArray, .string (mtS L ((i : Nat) : Int) s), .bool true]) (.agg ((mtR L ((i : Nat) : Int) s).cells).toArray) (fun _ => rfl) rfl (by kernel_rfl) rfl ?_
    refine wl_un (fun v => Instr.extract v 1) (.tmp 22) (.tuple #[.agg ((mtR L ((i : Nat) : Int) s).cells).toArray, .string (mtS L ((i : Nat) : Int) s), .bool true]) (.string (mtS L ((i : Nat) : Int) s)) (fun _ => rfl) rfl (by kernel_rfl) rfl ?_
    refine wl_un (fun v => Instr.extract v 2) (.tmp 22) (.tuple #[.agg ((mtR L ((i : Nat) : Int) s).cells).toArray, .string (mtS L ((i : Nat) : Int) s), .bool true]) (.bool true) (fun _ => rfl) rfl (by kernel_rfl) rfl ?_
    refine wl_alloc 25 #[.int .i64 0, .int .i64 0, .int .i64 0, .int .i64 0] rfl (fun _ => by kernel_rfl) rfl ?_
    intro k2 u43 hk hz hq Q2
    have ne_k1_k2 : k1 ≠ k2 := by have := Q1.lt; omega
    have N_k2 : w.heap.size ≤ k2 := by have := M.size; omega
    replace Q1 := Q1.mo hq
    replace M := M.trans hq
    clear hk hz hq
    refine wl_st 25 (.tmp 7) (.tmp 27) k2 0 (((mtR L ((i : Nat) : Int) s).cells).toArray) _ ((mtR L ((i : Nat) : Int) s).cells) Q2 rfl rfl rfl rfl rfl sz25 rfl rfl rfl ?_
    intro u44 hS Qn
    replace Q2 := Qn
    clear Qn
    replace Q1 := hS.other _ _ ne_k1_k2 Q1
    replace M := hS.mo _ N_k2 M
    clear hS
    refine wl_m (.tmp 28) (.string (mtS L ((i : Nat) : Int) s)) ?_
    refine wl_m (.tmp 29) (.bool true) ?_
    refine w_nil (xn_then (w_seq (w_reg ?_)))
    refine wl_m (.const (.int .i64 (0))) (.int .i64 (0)) ?_
    refine w_nil (xn_then (w_block ?_))
    refine w_loop (fun m l w1 => ∃ k : Nat, m = y.items.length - k ∧ k ≤ y.items.length ∧ look l 0 = .slice pl L.length cl ∧ look l 1 = .string s ∧ look l 4 = pt k1 0 ∧ look l 6 = .int .i64 ((i : Nat) : Int) ∧ look l 7 = pt k2 0 ∧ look l 8 = .string (mtS L ((i : Nat) : Int) s) ∧ look l 9 = .bool true ∧ look l 10 = .int .i64 ((k : Nat) : Int) ∧ At w1 k1 [.int .i64 0, .int .i64 0, .int .i64 0, .int .i64 0, .int .i64 0] ∧ At w1 k2 ((mtR L ((i : Nat) : Int) s).cells) ∧ (fstN (prcA L s i y) k = none) ∧ Mw w w1) _ ⟨0, rfl, Nat.zero_le _, e40_0, e40_1, e40_4, e40_i, rfl, rfl, rfl, rfl, Q1, Q2, rfl, M⟩ ?_
    clear Q1 Q2 M
    rintro m l80 wl80 ⟨k, rfl, hk, e80_0, e80_1, e80_4, e80_6, e80_7, e80_8, e80_9, e80_i, Q1, Q2, hno2, M⟩
    by_cases hkl : k < y.items.length
    ·skip
     have hkd : decide (k < y.items.length) = true := decide_eq_true hkl
     obtain ⟨zz, hzz⟩ := get_of_lt hkl
     obtain ⟨bq, oq, hpq, hRq⟩ := D.SL.rw (hL.it y hmy) hzz
     have d1 := sz46 (hL.im y hmy zz (List.mem_of_getElem? hzz))
     refine w_seq (w_seq (w_reg ?_))
     refine wl_mv (.tmp 10) (.int .i64 ((k : Nat) : Int)) (fun _ => rfl) e80_i rfl ?_
     refine wl_mv (.tmp 0) (.slice pl L.length cl) (fun _ => rfl) e80_0 rfl ?_
     refine wl_mv (.tmp 6) (.int .i64 ((i : Nat) : Int)) (fun _ => rfl) e80_6 rfl ?_
     refine wl_bin (fun x y => Instr.indexAt 22 x y) (.tmp 31) (.tmp 32) (.slice pl L.length cl) (.int .i64 ((i : Nat) : Int)) (pt bp (op + i * 5)) (fun _ => rfl) rfl rfl (ix22 (i := i) hpp hil _) rfl ?_
     refine wl_f 65 4 (.tmp 33) (pt bp (op + i * 5)) (pt bp (op + i * 5 + 4)) ?_
     refine wl_l 42 (.tmp 34) (pt bp (op + i * 5 + 4)) (.slice y.pi y.items.length y.ci) (D.run_oneR (hRp.mw M).at' 42 4 rfl Tryd.underlying42 rfl) ?_
     refine wl_val (.int .i64 ((y.items.length : Nat) : Int)) (len42 _ _ _ _ _ (by exact rfl) _ _ _ _ _ _) rfl ?_
     refine wl_b .lss 3 (.tmp 30) (.tmp 36) (.int .i64 ((k : Nat) : Int)) (.int .i64 ((y.items.length : Nat) : Int)) (.bool true) (ltN hkd _ _ _) ?_
     refine wl_m (.tmp 37) (.bool true) ?_
     refine wl_mv (.tmp 9) (.bool true) (fun _ => rfl) e80_9 rfl ?_
     refine wl_pick (.tmp 38) (.tmp 39) (.const (.bool false)) true (.bool true) (fun _ => rfl) rfl rfl rfl ?_
     refine w_nil (xn_then (w_condT rfl (w_skip (xn_then (w_seq (w_block (w_seq (w_reg ?_))))))))
     refine wl_load 25 (.tmp 7) (pt k2 0) (.agg ((mtR L ((i : Nat) : Int) s).cells).toArray) rfl e80_7 (run_row Q2 25 0 4 ((mtR L ((i : Nat) : Int) s).cells) rfl Tryd.underlying25 rfl sz25) rfl ?_
     refine wl_mv (.tmp 10) (.int .i64 ((k : Nat) : Int)) (fun _ => rfl) e80_i rfl ?_
     refine wl_build 27 [(0, (.tmp 43)), (1, (.tmp 44))] [(0, .agg ((mtR L ((i : Nat) : Int) s).cells).toArray), (1, .int .i64 ((k : Nat) : Int))] (.agg #[.int .i64 (mtR L ((i : Nat) : Int) s).s, .int .i64 (mtR L ((i : Nat) : Int) s).a, .int .i64 (mtR L ((i : Nat) : Int) s).b, .int .i64 (mtR L ((i : Nat) : Int) s).c, .int .i64 ((k : Nat) : Int)]) rfl rfl (by kernel_rfl) rfl ?_
     refine wl_alloc 27 #[.int .i64 0, .int .i64 0, .int .i64 0, .int .i64 0, .int .i64 0] rfl (fun _ => by kernel_rfl) rfl ?_
     intro k3 u81 hk hz hq Q3
     have ne_k1_k3 : k1 ≠ k3 := by have := Q1.lt; omega
     have ne_k2_k3 : k2 ≠ k3 := by have := Q2.lt; omega
     have N_k3 : w.heap.size ≤ k3 := by have := M.size; omega
     replace Q1 := Q1.mo hq
     replace Q2 := Q2.mo hq
     replace M := M.trans hq
     clear hk hz hq
     refine wl_st 27 (.tmp 11) (.tmp 45) k3 0 #[.int .i64 (mtR L ((i : Nat) : Int) s).s, .int .i64 (mtR L ((i : Nat) : Int) s).a, .int .i64 (mtR L ((i : Nat) : Int) s).b, .int .i64 (mtR L ((i : Nat) : Int) s).c, .int .i64 ((k : Nat) : Int)] _ [.int .i64 (mtR L ((i : Nat) : Int) s).s, .int .i64 (mtR L ((i : Nat) : Int) s).a, .int .i64 (mtR L ((i : Nat) : Int) s).b, .int .i64 (mtR L ((i : Nat) : Int) s).c, .int .i64 ((k : Nat) : Int)] Q3 rfl rfl rfl rfl rfl sz27 rfl rfl rfl ?_
     intro u82 hS Qn
     replace Q3 := Qn
     clear Qn
     replace Q1 := hS.other _ _ ne_k1_k3 Q1
     replace Q2 := hS.other _ _ ne_k2_k3 Q2
     replace M := hS.mo _ N_k3 M
     clear hS
     refine w_nil (xn_then (w_seq (w_reg ?_)))
     refine wl_mv (.tmp 8) (.string (mtS L ((i : Nat) : Int) s)) (fun _ => rfl) e80_8 rfl ?_
     refine wl_mv (.tmp 0) (.slice pl L.length cl) (fun _ => rfl) e80_0 rfl ?_
     refine wl_mv (.tmp 6) (.int .i64 ((i : Nat) : Int)) (fun _ => rfl) e80_6 rfl ?_
     refine wl_bin (fun x y => Instr.indexAt 22 x y) (.tmp 47) (.tmp 48) (.slice pl L.length cl) (.int .i64 ((i : Nat) : Int)) (pt bp (op + i * 5)) (fun _ => rfl) rfl rfl (ix22 (i := i) hpp hil _) rfl ?_
     refine wl_f 65 4 (.tmp 49) (pt bp (op + i * 5)) (pt bp (op + i * 5 + 4)) ?_
     refine wl_l 42 (.tmp 50) (pt bp (op + i * 5 + 4)) (.slice y.pi y.items.length y.ci) (D.run_oneR (hRp.mw M).at' 42 4 rfl Tryd.underlying42 rfl) ?_
     refine wl_mv (.tmp 10) (.int .i64 ((k : Nat) : Int)) (fun _ => rfl) e80_i rfl ?_
     refine wl_bin (fun x y => Instr.indexAt 42 x y) (.tmp 51) (.tmp 52) (.slice y.pi y.items.length y.ci) (.int .i64 ((k : Nat) : Int)) (pt bq (oq + k * 23)) (fun _ => rfl) rfl rfl (ix42 (i := k) hpq hkl _) rfl ?_
     refine wl_f 79 0 (.tmp 53) (pt bq (oq + k * 23)) (pt bq (oq + k * 23)) ?_
     refine wl_l 9 (.tmp 54) (pt bq (oq + k * 23)) (.string zz.nm) (D.run_oneR (hRq.mw M).at' 9 0 rfl Tryd.underlying9 rfl) ?_
     refine wl_b .add 9 (.const (.string ⟨#[46]⟩)) (.tmp 55) (.string ⟨#[46]⟩) (.string zz.nm) (.string (catB ⟨#[46]⟩ zz.nm)) (catc d1 _ _ _) ?_
     cases hf60 : decide (mtS L ((i : Nat) : Int) s = catB ⟨#[46]⟩ zz.nm) with
     | true =>
      have hf60p := of_decide_eq_true hf60
      refine wl_b .eql 9 (.tmp 46) (.tmp 56) (.string (mtS L ((i : Nat) : Int) s)) (.string (catB ⟨#[46]⟩ zz.nm)) (.bool true) (s9 hf60 _ _ _) ?_
      refine wl_m (.tmp 57) (.bool true) ?_
      refine wl_mv (.tmp 0) (.slice pl L.length cl) (fun _ => rfl) e80_0 rfl ?_
      refine wl_l 27 (.tmp 11) (pt k3 0) (.agg #[.int .i64 (mtR L ((i : Nat) : Int) s).s, .int .i64 (mtR L ((i : Nat) : Int) s).a, .int .i64 (mtR L ((i : Nat) : Int) s).b, .int .i64 (mtR L ((i : Nat) : Int) s).c, .int .i64 ((k : Nat) : Int)]) (run_row Q3 27 0 5 _ rfl Tryd.underlying27 rfl sz27) ?_
      refine wl_call 13 [(.tmp 59), (.tmp 60)] _ [.slice pl L.length cl, .agg #[.int .i64 (mtR L ((i : Nat) : Int) s).s, .int .i64 (mtR L ((i : Nat) : Int) s).a, .int .i64 (mtR L ((i : Nat) : Int) s).b, .int .i64 (mtR L ((i : Nat) : Int) s).c, .int .i64 ((k : Nat) : Int)]] (.int .i64 (ckC L (⟨mtR L ((i : Nat) : Int) s, ((k : Nat) : Int)⟩ : Ce))) rfl rfl (fun _ _ => by kernel_rfl) (wk (rcc_n (c := (⟨mtR L ((i : Nat) : Int) s, ((k : Nat) : Int)⟩ : Ce)) _ (hL.mw M))) rfl ?_
      intro u83 hq
      replace Q1 := Q1.mo hq
      replace Q2 := Q2.mo hq
      replace Q3 := Q3.mo hq
      replace M := M.trans hq
      clear hq
      cases hf61 : decide (ckC L (⟨mtR L ((i : Nat) : Int) s, ((k : Nat) : Int)⟩ : Ce) = 0) with
      | true =>
       have hf61p := of_decide_eq_true hf61
       refine wl_b .eql 31 (.tmp 61) (.const (.int .i64 (0))) (.int .i64 (ckC L (⟨mtR L ((i : Nat) : Int) s, ((k : Nat) : Int)⟩ : Ce))) (.int .i64 (0)) (.bool true) (eq34 hf61 _ _ _) ?_
       refine wl_pick (.tmp 58) (.tmp 62) (.const (.bool false)) true (.bool true) (fun _ => rfl) rfl rfl rfl ?_
       refine wl_m (.tmp 63) (.bool true) ?_
       refine wl_mv (.tmp 0) (.slice pl L.length cl) (fun _ => rfl) e80_0 rfl ?_
       refine wl_l 27 (.tmp 11) (pt k3 0) (.agg #[.int .i64 (mtR L ((i : Nat) : Int) s).s, .int .i64 (mtR L ((i : Nat) : Int) s).a, .int .i64 (mtR L ((i : Nat) : Int) s).b, .int .i64 (mtR L ((i : Nat) : Int) s).c, .int .i64 ((k : Nat) : Int)]) (run_row Q3 27 0 5 _ rfl Tryd.underlying27 rfl sz27) ?_
       refine wl_call 19 [(.tmp 65), (.tmp 66)] _ [.slice pl L.length cl, .agg #[.int .i64 (mtR L ((i : Nat) : Int) s).s, .int .i64 (mtR L ((i : Nat) : Int) s).a, .int .i64 (mtR L ((i : Nat) : Int) s).b, .int .i64 (mtR L ((i : Nat) : Int) s).c, .int .i64 ((k : Nat) : Int)]] (.string (txC L (⟨mtR L ((i : Nat) : Int) s, ((k : Nat) : Int)⟩ : Ce))) rfl rfl (fun _ _ => by kernel_rfl) (rctx_n (c := (⟨mtR L ((i : Nat) : Int) s, ((k : Nat) : Int)⟩ : Ce)) _ (hL.mw M) (hTb.mw M)) rfl ?_
       intro u84 hq
       replace Q1 := Q1.mo hq
       replace Q2 := Q2.mo hq
       replace Q3 := Q3.mo hq
       replace M := M.trans hq
       clear hq
       refine wl_mv (.tmp 1) (.string s) (fun _ => rfl) e80_1 rfl ?_
       cases hf62 : decide (txC L (⟨mtR L ((i : Nat) : Int) s, ((k : Nat) : Int)⟩ : Ce) = s) with
       | true =>
        have hf62p := of_decide_eq_true hf62
        refine wl_b .eql 9 (.tmp 67) (.tmp 68) (.string (txC L (⟨mtR L ((i : Nat) : Int) s, ((k : Nat) : Int)⟩ : Ce))) (.string s) (.bool true) (s9 hf62 _ _ _) ?_
        refine wl_pick (.tmp 64) (.tmp 69) (.const (.bool false)) true (.bool true) (fun _ => rfl) rfl rfl rfl ?_
        refine w_nil (xn_then (w_condT rfl (w_seq (w_reg ?_))))
        refine wl_l 27 (.tmp 11) (pt k3 0) (.agg #[.int .i64 (mtR L ((i : Nat) : Int) s).s, .int .i64 (mtR L ((i : Nat) : Int) s).a, .int .i64 (mtR L ((i : Nat) : Int) s).b, .int .i64 (mtR L ((i : Nat) : Int) s).c, .int .i64 ((k : Nat) : Int)]) (run_row Q3 27 0 5 _ rfl Tryd.underlying27 rfl sz27) ?_
        refine wl_st 27 (.tmp 4) (.tmp 71) k1 0 #[.int .i64 (mtR L ((i : Nat) : Int) s).s, .int .i64 (mtR L ((i : Nat) : Int) s).a, .int .i64 (mtR L ((i : Nat) : Int) s).b, .int .i64 (mtR L ((i : Nat) : Int) s).c, .int .i64 ((k : Nat) : Int)] _ [.int .i64 (mtR L ((i : Nat) : Int) s).s, .int .i64 (mtR L ((i : Nat) : Int) s).a, .int .i64 (mtR L ((i : Nat) : Int) s).b, .int .i64 (mtR L ((i : Nat) : Int) s).c, .int .i64 ((k : Nat) : Int)] Q1 rfl rfl e80_4 rfl rfl sz27 rfl rfl rfl ?_
        intro u85 hS Qn
        replace Q1 := Qn
        clear Qn
        replace Q2 := hS.other _ _ ne_k1_k2.symm Q2
        replace Q3 := hS.other _ _ ne_k1_k3.symm Q3
        replace M := hS.mo _ N_k1 M
        clear hS
        refine wl_m (.const (.bool true)) (.bool true) ?_
        refine w_nil (xn_then (w_ret (xr_blk (xr_then (xr_then (xr_blk (xr_blk (xr_then (xr_then (xr_blk (xr_then ?_)))))))))))
        exact w_ret2 _ _ (.agg #[.int .i64 (mtR L ((i : Nat) : Int) s).s, .int .i64 (mtR L ((i : Nat) : Int) s).a, .int .i64 (mtR L ((i : Nat) : Int) s).b, .int .i64 (mtR L ((i : Nat) : Int) s).c, .int .i64 ((k : Nat) : Int)]) (.bool true) rfl ⟨k1, e80_4, (run_row Q1 27 0 5 _ rfl Tryd.underlying27 rfl sz27)⟩ rfl ⟨pc_ret (a := (⟨mtR L ((i : Nat) : Int) s, ((k : Nat) : Int)⟩ : Ce)) (prc_yes hf30 hy hno hzz hno2 (by unfold prcC; simp [hf31, hf60p, hf61p, hf62p])) rfl rfl, M⟩
       | false =>
        have hf62p := of_decide_eq_false hf62
        refine wl_b .eql 9 (.tmp 67) (.tmp 68) (.string (txC L (⟨mtR L ((i : Nat) : Int) s, ((k : Nat) : Int)⟩ : Ce))) (.string s) (.bool false) (s9 hf62 _ _ _) ?_
        refine wl_pick (.tmp 64) (.tmp 69) (.const (.bool false)) true (.bool false) (fun _ => rfl) rfl rfl rfl ?_
        refine w_nil (xn_then (w_condF rfl (w_skip (xn_blk (xn_then (w_reg ?_))))))
        refine wl_mv (.tmp 10) (.int .i64 ((k : Nat) : Int)) (fun _ => rfl) e80_i rfl ?_
        refine wl_b .add 3 (.tmp 41) (.const (.int .i64 (1))) (.int .i64 ((k : Nat) : Int)) (.int .i64 (1)) (.int .i64 ((k + 1 : Nat) : Int)) (add1r (k := k) (by omega) _ _ _) ?_
        refine wl_m (.tmp 42) (.int .i64 ((k + 1 : Nat) : Int)) ?_
        refine w_nil ?_
        exact xn_loop (y.items.length - (k + 1)) (by omega) ⟨k + 1, rfl, by omega, e80_0, e80_1, e80_4, e80_6, e80_7, e80_8, e80_9, rfl, Q1, Q2, (fst_next hno2 (prc_n1 hzz (by unfold prcC; simp [hf31, hf60p, hf61p, hf62p]))), M⟩
      | false =>
       have hf61p := of_decide_eq_false hf61
       refine wl_b .eql 31 (.tmp 61) (.const (.int .i64 (0))) (.int .i64 (ckC L (⟨mtR L ((i : Nat) : Int) s, ((k : Nat) : Int)⟩ : Ce))) (.int .i64 (0)) (.bool false) (eq34 hf61 _ _ _) ?_
       refine wl_pick (.tmp 58) (.tmp 62) (.const (.bool false)) true (.bool false) (fun _ => rfl) rfl rfl rfl ?_
       refine wl_m (.tmp 63) (.bool false) ?_
       refine wl_skip rfl (wl_skip rfl (wl_skip rfl (wl_skip rfl (wl_skip rfl ?_))))
       refine wl_pick (.tmp 64) (.tmp 69) (.const (.bool false)) false (.bool false) (fun _ => rfl) rfl rfl rfl ?_
       refine w_nil (xn_then (w_condF rfl (w_skip (xn_blk (xn_then (w_reg ?_))))))
       refine wl_mv (.tmp 10) (.int .i64 ((k : Nat) : Int)) (fun _ => rfl) e80_i rfl ?_
       refine wl_b .add 3 (.tmp 41) (.const (.int .i64 (1))) (.int .i64 ((k : Nat) : Int)) (.int .i64 (1)) (.int .i64 ((k + 1 : Nat) : Int)) (add1r (k := k) (by omega) _ _ _) ?_
       refine wl_m (.tmp 42) (.int .i64 ((k + 1 : Nat) : Int)) ?_
       refine w_nil ?_
       exact xn_loop (y.items.length - (k + 1)) (by omega) ⟨k + 1, rfl, by omega, e80_0, e80_1, e80_4, e80_6, e80_7, e80_8, e80_9, rfl, Q1, Q2, (fst_next hno2 (prc_n1 hzz (by unfold prcC; simp [hf31, hf60p, hf61p]))), M⟩
     | false =>
      have hf60p := of_decide_eq_false hf60
      refine wl_b .eql 9 (.tmp 46) (.tmp 56) (.string (mtS L ((i : Nat) : Int) s)) (.string (catB ⟨#[46]⟩ zz.nm)) (.bool false) (s9 hf60 _ _ _) ?_
      refine wl_m (.tmp 57) (.bool false) ?_
      refine wl_skip rfl (wl_skip rfl (wl_skip rfl (wl_skip rfl ?_)))
      refine wl_pick (.tmp 58) (.tmp 62) (.const (.bool false)) false (.bool false) (fun _ => rfl) rfl rfl rfl ?_
      refine wl_m (.tmp 63) (.bool false) ?_
      refine wl_skip rfl (wl_skip rfl (wl_skip rfl (wl_skip rfl (wl_skip rfl ?_))))
      refine wl_pick (.tmp 64) (.tmp 69) (.const (.bool false)) false (.bool false) (fun _ => rfl) rfl rfl rfl ?_
      refine w_nil (xn_then (w_condF rfl (w_skip (xn_blk (xn_then (w_reg ?_))))))
      refine wl_mv (.tmp 10) (.int .i64 ((k : Nat) : Int)) (fun _ => rfl) e80_i rfl ?_
      refine wl_b .add 3 (.tmp 41) (.const (.int .i64 (1))) (.int .i64 ((k : Nat) : Int)) (.int .i64 (1)) (.int .i64 ((k + 1 : Nat) : Int)) (add1r (k := k) (by omega) _ _ _) ?_
      refine wl_m (.tmp 42) (.int .i64 ((k + 1 : Nat) : Int)) ?_
      refine w_nil ?_
      exact xn_loop (y.items.length - (k + 1)) (by omega) ⟨k + 1, rfl, by omega, e80_0, e80_1, e80_4, e80_6, e80_7, e80_8, e80_9, rfl, Q1, Q2, (fst_next hno2 (prc_n1 hzz (by unfold prcC; simp [hf31, hf60p]))), M⟩
    ·skip
     have hkd : decide (k < y.items.length) = false := decide_eq_false hkl
     have hke : k = y.items.length := by omega
     refine w_seq (w_seq (w_reg ?_))
     refine wl_mv (.tmp 10) (.int .i64 ((k : Nat) : Int)) (fun _ => rfl) e80_i rfl ?_
     refine wl_mv (.tmp 0) (.slice pl L.length cl) (fun _ => rfl) e80_0 rfl ?_
     refine wl_mv (.tmp 6) (.int .i64 ((i : Nat) : Int)) (fun _ => rfl) e80_6 rfl ?_
     refine wl_bin (fun x y => Instr.indexAt 22 x y) (.tmp 31) (.tmp 32) (.slice pl L.length cl) (.int .i64 ((i : Nat) : Int)) (pt bp (op + i * 5)) (fun _ => rfl) rfl rfl (ix22 (i := i) hpp hil _) rfl ?_
     refine wl_f 65 4 (.tmp 33) (pt bp (op + i * 5)) (pt bp (op + i * 5 + 4)) ?_
     refine wl_l 42 (.tmp 34) (pt bp (op + i * 5 + 4)) (.slice y.pi y.items.length y.ci) (D.run_oneR (hRp.mw M).at' 42 4 rfl Tryd.underlying42 rfl) ?_
     refine wl_val (.int .i64 ((y.items.length : Nat) : Int)) (len42 _ _ _ _ _ (by exact rfl) _ _ _ _ _ _) rfl ?_
     refine wl_b .lss 3 (.tmp 30) (.tmp 36) (.int .i64 ((k : Nat) : Int)) (.int .i64 ((y.items.length : Nat) : Int)) (.bool false) (ltN hkd _ _ _) ?_
     refine wl_m (.tmp 37) (.bool false) ?_
     refine wl_skip rfl ?_
     refine wl_pick (.tmp 38) (.tmp 39) (.const (.bool false)) false (.bool false) (fun _ => rfl) rfl rfl rfl ?_
     refine w_nil (xn_then (w_condF rfl (w_exit (xx_then (xx_then (xx_blk (xn_blk (xn_then (w_reg ?_)))))))))
     refine wl_mv (.tmp 6) (.int .i64 ((i : Nat) : Int)) (fun _ => rfl) e80_6 rfl ?_
     refine wl_b .add 3 (.tmp 20) (.const (.int .i64 (1))) (.int .i64 ((i : Nat) : Int)) (.int .i64 (1)) (.int .i64 ((i + 1 : Nat) : Int)) (add1r (k := i) (by omega) _ _ _) ?_
     refine wl_m (.tmp 21) (.int .i64 ((i + 1 : Nat) : Int)) ?_
     refine w_nil ?_
     exact xn_loop (L.length - (i + 1)) (by omega) ⟨i + 1, rfl, by omega, e80_0, e80_1, e80_4, rfl, Q1, (fst_next hno (by rw [prcI_at hy, ← hke]; exact hno2)), M⟩
   | false =>
    refine wl_callx 37 [(.tmp 23), (.tmp 24), (.tmp 25)] _ [.slice pl L.length cl, .int .i64 ((i : Nat) : Int), .string s] rfl rfl (fun _ _ => by kernel_rfl) (match_f hf31 _ (hL.mw M) hf30 (by omega) (by omega) hs) rfl ?_
    rintro e9 u42 ⟨⟨r9, rfl⟩, hq⟩
    refine ⟨_, rfl, ?_⟩
    replace Q1 := Q1.mo hq
    replace M := M.trans hq
    clear hq
    refine wl_m (.tmp 26) (.tuple #[.agg (r9.cells).toArray, .string (mtS L ((i : Nat) : Int) s), .bool false]) ?_
    refine wl_un (fun v => Instr.extract v 0) (.tmp 22) (.tuple #[.agg (r9.cells).toArray, .string (mtS L ((i : Nat) : Int) s), .bool false]) (.agg (r9.cells).toArray) (fun _ => rfl) rfl (by kernel_rfl) rfl ?_
    refine wl_un (fun v => Instr.extract v 1) (.tmp 22) (.tuple #[.agg (r9.cells).toArray, .string (mtS L ((i : Nat) : Int) s), .bool false]) (.string (mtS L ((i : Nat) : Int) s)) (fun _ => rfl) rfl (by kernel_rfl) rfl ?_
    refine wl_un (fun v => Instr.extract v 2) (.tmp 22) (.tuple #[.agg (r9.cells).toArray, .string (mtS L ((i : Nat) : Int) s), .bool false]) (.bool false) (fun _ => rfl) rfl (by kernel_rfl) rfl ?_
    refine wl_alloc 25 #[.int .i64 0, .int .i64 0, .int .i64 0, .int .i64 0] rfl (fun _ => by kernel_rfl) rfl ?_
    intro k2 u43 hk hz hq Q2
    have ne_k1_k2 : k1 ≠ k2 := by have := Q1.lt; omega
    have N_k2 : w.heap.size ≤ k2 := by have := M.size; omega
    replace Q1 := Q1.mo hq
    replace M := M.trans hq
    clear hk hz hq
    refine wl_st 25 (.tmp 7) (.tmp 27) k2 0 ((r9.cells).toArray) _ (r9.cells) Q2 rfl rfl rfl rfl rfl sz25 rfl rfl rfl ?_
    intro u44 hS Qn
    replace Q2 := Qn
    clear Qn
    replace Q1 := hS.other _ _ ne_k1_k2 Q1
    replace M := hS.mo _ N_k2 M
    clear hS
    refine wl_m (.tmp 28) (.string (mtS L ((i : Nat) : Int) s)) ?_
    refine wl_m (.tmp 29) (.bool false) ?_
    refine w_nil (xn_then (w_seq (w_reg ?_)))
    refine wl_m (.const (.int .i64 (0))) (.int .i64 (0)) ?_
    refine w_nil (xn_then (w_block ?_))
    refine w_rounds 1 ?_
    refine w_seq (w_seq (w_reg ?_))
    refine wl_m (.tmp 10) (.int .i64 (0)) ?_
    refine wl_mv (.tmp 0) (.slice pl L.length cl) (fun _ => rfl) e40_0 rfl ?_
    refine wl_mv (.tmp 6) (.int .i64 ((i : Nat) : Int)) (fun _ => rfl) e40_i rfl ?_
    refine wl_bin (fun x y => Instr.indexAt 22 x y) (.tmp 31) (.tmp 32) (.slice pl L.length cl) (.int .i64 ((i : Nat) : Int)) (pt bp (op + i * 5)) (fun _ => rfl) rfl rfl (ix22 (i := i) hpp hil _) rfl ?_
    refine wl_f 65 4 (.tmp 33) (pt bp (op + i * 5)) (pt bp (op + i * 5 + 4)) ?_
    refine wl_l 42 (.tmp 34) (pt bp (op + i * 5 + 4)) (.slice y.pi y.items.length y.ci) (D.run_oneR (hRp.mw M).at' 42 4 rfl Tryd.underlying42 rfl) ?_
    refine wl_val (.int .i64 ((y.items.length : Nat) : Int)) (len42 _ _ _ _ _ (by exact rfl) _ _ _ _ _ _) rfl ?_
    cases hf32 : decide (0 < y.items.length) with
    | true =>
     have hf32p := of_decide_eq_true hf32
     refine wl_b .lss 3 (.tmp 30) (.tmp 36) (.int .i64 (0)) (.int .i64 ((y.items.length : Nat) : Int)) (.bool true) (ltN hf32 _ _ _) ?_
     refine wl_m (.tmp 37) (.bool true) ?_
     refine wl_m (.tmp 9) (.bool false) ?_
     refine wl_pick (.tmp 38) (.tmp 39) (.const (.bool false)) true (.bool false) (fun _ => rfl) rfl rfl rfl ?_
     refine w_nil (xn_then (w_condF rfl (w_exit (xx_then (xx_then (xx_blk (xn_blk (xn_then (w_reg ?_)))))))))
     refine wl_mv (.tmp 6) (.int .i64 ((i : Nat) : Int)) (fun _ => rfl) e40_i rfl ?_
     refine wl_b .add 3 (.tmp 20) (.const (.int .i64 (1))) (.int .i64 ((i : Nat) : Int)) (.int .i64 (1)) (.int .i64 ((i + 1 : Nat) : Int)) (add1r (k := i) (by omega) _ _ _) ?_
     refine wl_m (.tmp 21) (.int .i64 ((i + 1 : Nat) : Int)) ?_
     refine w_nil ?_
     exact xn_loop (L.length - (i + 1)) (by omega) ⟨i + 1, rfl, by omega, e40_0, e40_1, e40_4, rfl, Q1, (fst_next hno (prcI_f hf31)), M⟩
    | false =>
     have hf32p := of_decide_eq_false hf32
     refine wl_b .lss 3 (.tmp 30) (.tmp 36) (.int .i64 (0)) (.int .i64 ((y.items.length : Nat) : Int)) (.bool false) (ltN hf32 _ _ _) ?_
     refine wl_m (.tmp 37) (.bool false) ?_
     refine wl_skip rfl ?_
     refine wl_pick (.tmp 38) (.tmp 39) (.const (.bool false)) false (.bool false) (fun _ => rfl) rfl rfl rfl ?_
     refine w_nil (xn_then (w_condF rfl (w_exit (xx_then (xx_then (xx_blk (xn_blk (xn_then (w_reg ?_)))))))))
     refine wl_mv (.tmp 6) (.int .i64 ((i : Nat) : Int)) (fun _ => rfl) e40_i rfl ?_
     refine wl_b .add 3 (.tmp 20) (.const (.int .i64 (1))) (.int .i64 ((i : Nat) : Int)) (.int .i64 (1)) (.int .i64 ((i + 1 : Nat) : Int)) (add1r (k := i) (by omega) _ _ _) ?_
     refine wl_m (.tmp 21) (.int .i64 ((i + 1 : Nat) : Int)) ?_
     refine w_nil ?_
     exact xn_loop (L.length - (i + 1)) (by omega) ⟨i + 1, rfl, by omega, e40_0, e40_1, e40_4, rfl, Q1, (fst_next hno (prcI_f hf31)), M⟩
  | false =>
   refine wl_call 32 [(.tmp 17)] _ [.slice pl L.length cl] (.bool false) rfl rfl (fun _ _ => by kernel_rfl) (wk (cB hf30 (sound_n _ (hL.mw M)))) rfl ?_
   intro u41 hq
   replace Q1 := Q1.mo hq
   replace M := M.trans hq
   clear hq
   refine wl_pick (.tmp 16) (.tmp 18) (.const (.bool false)) true (.bool false) (fun _ => rfl) rfl rfl rfl ?_
   refine w_nil (xn_then (w_condF rfl (w_exit (xx_then (xx_then (xx_blk (xn_then (w_seq (w_reg ?_)))))))))
   refine wl_build 27 [] [] (.agg #[.int .i64 0, .int .i64 0, .int .i64 0, .int .i64 0, .int .i64 0]) rfl rfl (by kernel_rfl) rfl ?_
   refine wl_st 27 (.tmp 4) (.tmp 72) k1 0 #[.int .i64 0, .int .i64 0, .int .i64 0, .int .i64 0, .int .i64 0] _ [.int .i64 0, .int .i64 0, .int .i64 0, .int .i64 0, .int .i64 0] Q1 rfl rfl e40_4 rfl rfl sz27 rfl rfl rfl ?_
   intro u42 hS Qn
   replace Q1 := Qn
   clear Qn
   replace M := hS.mo _ N_k1 M
   clear hS
   refine wl_m (.const (.bool false)) (.bool false) ?_
   refine w_nil (xn_then (w_ret ?_))
   exact w_ret2 _ _ (.agg #[.int .i64 0, .int .i64 0, .int .i64 0, .int .i64 0, .int .i64 0]) (.bool false) rfl ⟨k1, e40_4, (run_row Q1 27 0 5 _ rfl Tryd.underlying27 rfl sz27)⟩ rfl ⟨pc_ret (a := ce0) (prc_no (.inl hf30)) rfl rfl, M⟩
 ·skip
  have hid : decide (i < L.length) = false := decide_eq_false hil
  have hie : i = L.length := by omega
  refine w_seq (w_seq (w_reg ?_))
  refine wl_mv (.tmp 6) (.int .i64 ((i : Nat) : Int)) (fun _ => rfl) e40_i rfl ?_
  refine wl_mv (.tmp 0) (.slice pl L.length cl) (fun _ => rfl) e40_0 rfl ?_
  refine wl_val (.int .i64 ((L.length : Nat) : Int)) (len22 _ _ _ _ _ (by exact rfl) _ _ _ _ _ _) rfl ?_
  refine wl_b .lss 3 (.tmp 12) (.tmp 14) (.int .i64 ((i : Nat) : Int)) (.int .i64 ((L.length : Nat) : Int)) (.bool false) (ltN hid _ _ _) ?_
  refine wl_m (.tmp 15) (.bool false) ?_
  refine wl_skip rfl (wl_skip rfl ?_)
  refine wl_pick (.tmp 16) (.tmp 18) (.const (.bool false)) false (.bool false) (fun _ => rfl) rfl rfl rfl ?_
  refine w_nil (xn_then (w_condF rfl (w_exit (xx_then (xx_then (xx_blk (xn_then (w_seq (w_reg ?_)))))))))
  refine wl_build 27 [] [] (.agg #[.int .i64 0, .int .i64 0, .int .i64 0, .int .i64 0, .int .i64 0]) rfl rfl (by kernel_rfl) rfl ?_
  refine wl_st 27 (.tmp 4) (.tmp 72) k1 0 #[.int .i64 0, .int .i64 0, .int .i64 0, .int .i64 0, .int .i64 0] _ [.int .i64 0, .int .i64 0, .int .i64 0, .int .i64 0, .int .i64 0] Q1 rfl rfl e40_4 rfl rfl sz27 rfl rfl rfl ?_
  intro u41 hS Qn
  replace Q1 := Qn
  clear Qn
  replace M := hS.mo _ N_k1 M
  clear hS
  refine wl_m (.const (.bool false)) (.bool false) ?_
  refine w_nil (xn_then (w_ret ?_))
  exact w_ret2 _ _ (.agg #[.int .i64 0, .int .i64 0, .int .i64 0, .int .i64 0, .int .i64 0]) (.bool false) rfl ⟨k1, e40_4, (run_row Q1 27 0 5 _ rfl Tryd.underlying27 rfl sz27)⟩ rfl ⟨pc_ret (a := ce0) (prc_no (.inr (hie ▸ hno))) rfl rfl, M⟩
end Go.Proofs.YtnffhcjmpjajlaaDoor.V

namespace Go.Proofs.YtnffhcjmpjajlaaDoor.V
open Go.RowKit D
theorem bgn_y {h u : ByteArray} : bgn (h ++ u) h = some u := by
 unfold bgn
 have hs : (h ++ u).size = h.size + u.size := ByteArray.size_append
 have h1 : (h ++ u).extract 0 h.size = h := by
  apply ba_ext; unfold bl; rw [ByteArray.data_extract, ByteArray.data_append, Array.toList_extract, Array.toList_append, List.extract_eq_take_drop]
  rw [List.drop_zero, Nat.sub_zero]; exact List.take_left' rfl
 have h2 : (h ++ u).extract h.size (h ++ u).size = u := by
  apply ba_ext; rw [bl_ext, bl_app, ← bl_len h, List.drop_left]
 rw [if_neg (by omega), if_pos h1, h2]
end Go.Proofs.YtnffhcjmpjajlaaDoor.V
namespace Go.Proofs.YtnffhcjmpjajlaaDoor.V
open Go.RowKit D
theorem mtw_c {l : List S5} {z : Nat} {y : S5} {s : ByteArray} (hs : snd l = true) (hy : l[z]? = some y) (h0 : ¬ z = 0) : mtc l (z : Int) s = mtw l (z : Int) s := by
 unfold mtc
 rw [if_neg (by rw [chn_up hs hy h0]; simp)]
 rfl
end Go.Proofs.YtnffhcjmpjajlaaDoor.V
