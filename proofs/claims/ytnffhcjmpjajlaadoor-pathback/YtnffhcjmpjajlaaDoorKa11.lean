/-
  A part of the proof.
-/
import Derived.Test.YtnffhcjmpjajlaaDoorKa10
import Derived.Test.YtnffhcjmpjajlaaDoorKa6
import Derived.Test.YtnffhcjmpjajlaaDoorKa5
import Derived.Test.YtnffhcjmpjajlaaDoorKa4
import Derived.Test.YtnffhcjmpjajlaaDoorKa3
import Derived.Test.YtnffhcjmpjajlaaDoorKa2
import Derived.Test.YtnffhcjmpjajlaaDoorKa1
import Derived.RegionTactic
import Derived.Test.YtnffhcjmpjajlaaDoorProg
import Derived.WalkKit
import Derived.WalkSpells
import Derived.Handy
import Derived.BigQuiet
import Derived.Deep.RegionHeld3
import Derived.Deep.MidRow
import Derived.BigCall
import Derived.ChangeKeysEq
import Derived.Shelf.Small.Bits
import Derived.Shelf.Strconv.Itoa0
import Derived.Shelf.Bits.Mul64
import Derived.Deep.CutRange
import Derived.Deep.CutBlock
import Derived.ScopeJumps
import Derived.WalkMore
import Derived.Laws.StructEq
import Derived.Lib.CutLaws
import Derived.Maps.OwnSet
import Derived.WalkArith
import Derived.StringKeys
import Derived.ProofKit
import Derived.OpenShut
import Derived.ChangeArms
import Derived.Deep.Slices
import Derived.ReadAgain
import Derived.WideKeyArgs
import Derived.Maps.AppendAt
import Derived.Test.YtnffhcjmpjajlaaDoorKa9
import Derived.Test.YtnffhcjmpjajlaaDoorKa7
import Derived.Shelf.Strconv.Itoa4
import Derived.Test.YtnffhcjmpjajlaaDoorKa8
import Derived.Lib.IndexBytes
import Derived.Lib.AppendIntMem
import Derived.Lib.ItoaLen
import Derived.Laws.MakeOwn
namespace Go.Proofs.YtnffhcjmpjajlaaDoor
open Go.RowKit D
theorem sz4 : (Tryd.prog.info? 4).map (·.size) = some 1 := by kernel_rfl
theorem ix84 {pa : Option Addr} {b off i n c : Nat} (hp : pa = some ⟨b, off, none⟩) (h : i < n) (w : World) : (Instr.indexAt 84 (.slice pa n c) (.int .i64 (i : Int))).run Tryd.prog w = .ok (pt b (off + i * 6)) w := by
 subst hp
 have e : (Instr.indexAt 84 (.slice (some ⟨b, off, none⟩) n c) (.int .i64 (i : Int))).run Tryd.prog w = .ok (.pointer (some ((⟨b, off, none⟩ : Addr).add (i * 6)))) w := by simp [go_sem, h]
 rw [e, Addr.add_mid]
theorem len84 (ρ : Operand → Value) (x : Operand) (p : Option Addr) (m c : Nat) (hx : ρ x = .slice p m c) (dst : Option Tmp) (type : TypeId) (pos : String) (after : Array Edge) (guard : Option (Nat × Bool)) (w : World) : (execOp ρ { dst, op := .call { callee := .builtin .len, args := #[x], argTypes := #[84] }, type, pos, after, guard }).run Tryd.prog w = .ok (.value (.int .i64 (m : Int))) w := by
 simp [go_sem, hx]
theorem sz87 : (Tryd.prog.info? 87).map (·.size) = some 6 := by kernel_rfl
structure Bg where
 r : Ro
 s : ByteArray
 b : Bool
def Bg.cells (p : Bg) : List Value := p.r.cells ++ [.string p.s, .bool p.b]
def bg0 : Bg := ⟨ro0, ⟨#[]⟩, false⟩
def fl (X : List Bg) : List Value := X.flatMap Bg.cells
theorem fl_len (X : List Bg) : (fl X).length = X.length * 6 := by
 induction X with
 | nil => rfl
 | cons a X ih => show (a.cells ++ fl X).length = _; rw [List.length_append, ih, List.length_cons, show a.cells.length = 6 from rfl]; omega
theorem fl_4 (p : Bg) (T : List Bg) (u : ByteArray) : fl (⟨p.r, u, p.b⟩ :: T) = (fl (p :: T)).take 4 ++ [.string u] ++ (fl (p :: T)).drop (4 + 1) := by simp [fl, Bg.cells, Ro.cells]
theorem fl_5 (p : Bg) (T : List Bg) (b : Bool) : fl (⟨p.r, p.s, b⟩ :: T) = (fl (p :: T)).take 5 ++ [.bool b] ++ (fl (p :: T)).drop (5 + 1) := by simp [fl, Bg.cells, Ro.cells]
theorem fl_set {b : Bg} : ∀ {X : List Bg} {n : Nat}, n < X.length → fl (X.set n b) = (fl X).take (n * 6) ++ b.cells ++ (fl X).drop (n * 6 + 6)
 | [], n, h => absurd h (Nat.not_lt_zero n)
 | a :: X, 0, _ => by
  show b.cells ++ fl X = (a.cells ++ fl X).take 0 ++ b.cells ++ (a.cells ++ fl X).drop (0 + 6)
  rw [List.take_zero, List.nil_append, List.drop_append_of_le_length (by show 0 + 6 ≤ 6; omega), List.drop_of_length_le (by show 6 ≤ 0 + 6; omega), List.nil_append]
 | a :: X, n + 1, h => by
  have ih := fl_set (b := b) (X := X) (n := n) (by rw [List.length_cons] at h; omega)
  show a.cells ++ fl (X.set n b) = (a.cells ++ fl X).take ((n + 1) * 6) ++ b.cells ++ (a.cells ++ fl X).drop ((n + 1) * 6 + 6)
  rw [ih, List.take_append, List.drop_append, show a.cells.length = 6 from rfl, show a.cells.take ((n + 1) * 6) = a.cells from List.take_of_length_le (by show 6 ≤ (n + 1) * 6; omega), show a.cells.drop ((n + 1) * 6 + 6) = [] from List.drop_of_length_le (by show 6 ≤ (n + 1) * 6 + 6; omega), show (n + 1) * 6 - 6 = n * 6 by omega, show (n + 1) * 6 + 6 - 6 = n * 6 + 6 by omega]
  simp only [List.append_assoc, List.nil_append]
theorem fl_rep : ∀ (N j : Nat), j < N * 6 → (fl (List.replicate N bg0))[j]? = bg0.cells[j % 6]?
 | 0, j, h => absurd h (by omega)
 | N + 1, j, h => by
  show (bg0.cells ++ fl (List.replicate N bg0))[j]? = _
  by_cases q : j < 6
  ·rw [List.getElem?_append_left (by exact q), Nat.mod_eq_of_lt q]
  ·rw [List.getElem?_append_right (by show 6 ≤ j; omega), show bg0.cells.length = 6 from rfl]
   rw [fl_rep N (j - 6) (by omega)]
   congr 1
   omega
theorem inf87 : ∃ i, Tryd.prog.info? 87 = some i ∧ i.zero = some (.agg bg0.cells.toArray) ∧ i.size = 6 ∧ i.bytes = 56 := by
 have h : (Tryd.prog.info? 87).map (fun i => (i.zero, i.size, i.bytes)) = some (some (.agg bg0.cells.toArray), 6, 56) := by kernel_rfl
 cases hi : Tryd.prog.info? 87 with
 | none => rw [hi] at h; cases h
 | some i =>
  rw [hi] at h
  simp at h
  exact ⟨i, rfl, h.1, h.2.1, h.2.2⟩
theorem made_fl (N : Nat) : madeCells (Value.agg bg0.cells.toArray).cells (N * 6) = (fl (List.replicate N bg0)).toArray := by
 apply Array.ext'
 apply List.ext_getElem?
 intro j
 show (madeCells bg0.cells.toArray (N * 6)).toList[j]? = (fl (List.replicate N bg0))[j]?
 by_cases q : j < N * 6
 ·rw [fl_rep N j q]
  have h6 : j % 6 < 6 := Nat.mod_lt _ (by omega)
  simp only [madeCells, Array.toList_map, List.getElem?_map, Array.toList_range, List.getElem?_range q, Option.map_some]
  rw [show bg0.cells.toArray.size = 6 from rfl]
  rw [List.getElem?_eq_getElem (show j % 6 < bg0.cells.length from h6)]
  congr 1
  rw [getElem!_pos bg0.cells.toArray (j % 6) h6]
  rfl
 ·rw [List.getElem?_eq_none (by rw [Array.length_toList, size_madeCells]; omega), List.getElem?_eq_none (by rw [fl_len, List.length_replicate]; omega)]
section
variable {o : Oper} {n : Nat} {l : List (Nat × Value)} {w : World} {ops : Array Oper} {rest : List Oper} {Q : Exit → Act → World → Prop}
theorem wl_mkB (x y : Operand) (N : Nat) (hN : N ≤ 100) (ho : o.op = .makeSlice 84 x y) (hx : evl n l x = .int .i64 ((N : Nat) : Int)) (hy : evl n l y = .int .i64 ((N : Nat) : Int)) (hg : wnt n l ops o = true)
  (hk : ∀ k w', w.heap.size = k → w'.heap.size = k + 1 → Mo w w' → At w' k (fl (List.replicate N bg0)) → WL Tryd.prog ops Q rest n (ext l o.dst (.slice (some ⟨k, 0, none⟩) N N)) w') : WL Tryd.prog ops Q (o :: rest) n l w := by
 obtain ⟨i, hi, hzz, hs, hby⟩ := inf87
 have hr : (Instr.makeSlice 84 (.int .i64 (N : Int)) (.int .i64 (N : Int))).run Tryd.prog w = .ok (.slice (some ⟨w.heap.size, 0, none⟩) N N) (w.alloc (.cells (fl (List.replicate N bg0)).toArray 87)) := by
  have h := run_make (P := Tryd.prog) w 84 87 i _ Tryd.underlying84 hi hzz .i64 .i64 (N : Int) (N : Int) (by omega) (Int.le_refl _) (by rw [hby]; omega) (by omega)
  simp only [Int.toNat_natCast, hs] at h
  rw [h, made_fl]
 refine ⟨l_step hg (o_val (.slice (some ⟨w.heap.size, 0, none⟩) N N) (w' := w.alloc (.cells (fl (List.replicate N bg0)).toArray 87)) ?_ (hk _ _ rfl (by simp) ((Mo.refl _).alloc _ _) (At.new w _ 87)).out)⟩
 simp [execOp, ho, hx, hy, hr]
end
theorem ix84n {k i n c : Nat} (h : i < n) (w : World) : (Instr.indexAt 84 (.slice (some ⟨k, 0, none⟩) n c) (.int .i64 (i : Int))).run Tryd.prog w = .ok (pt k (i * 6)) w := by
 have e := ix84 (pa := some ⟨k, 0, none⟩) (b := k) (off := 0) (c := c) rfl h w
 rw [Nat.zero_add] at e
 exact e
theorem ix84z {k n c : Nat} {z : Int} (h0 : 0 ≤ z) (h : z.toNat < n) (w : World) : (Instr.indexAt 84 (.slice (some ⟨k, 0, none⟩) n c) (.int .i64 z)).run Tryd.prog w = .ok (pt k (z.toNat * 6)) w := by
 have e := ix84n (k := k) (c := c) h w
 rw [show ((z.toNat : Nat) : Int) = z by omega] at e
 exact e
theorem ix840 {k n c : Nat} (h : 0 < n) (w : World) : (Instr.indexAt 84 (.slice (some ⟨k, 0, none⟩) n c) (.int .i64 0)).run Tryd.prog w = .ok (pt k 0) w := ix84n (k := k) (i := 0) h w
theorem rw_of {w : World} {k j : Nat} {X : List Bg} {p : Bg} (h : At w k (fl X)) (hp : X[j]? = some p) (hz : X.length ≤ 1000) : Rw w k (j * 6) p.cells := by
 obtain ⟨b, off, e, hR⟩ := D.SL.rw (SL.of_at (cells := Bg.cells) (n := 6) (L := X) (fun _ => rfl) (by unfold maxLen; omega) h) hp
 cases e
 rw [Nat.zero_add] at hR
 exact hR
def bqS (l : List S5) (s : ByteArray) (acc : List Bg) (n : Nat) : Bg := match l[n]? with
 | none => bg0
 | some x => if n = 0 then ⟨ro0, (bgn s ⟨#[47]⟩).getD s, bgB s ⟨#[47]⟩⟩ else match acc[x.pr.toNat]? with
  | none => bg0
  | some p => match cst (if x.pr = 0 then s else p.s) x.nm with
   | none => bg0
   | some c => ⟨udR x.dp p.r (n : Int) c.1, c.2, true⟩
def bqL (l : List S5) (s : ByteArray) : Nat → List Bg
 | 0 => []
 | n + 1 => bqL l s n ++ [bqS l s (bqL l s n) n]
def bqs (l : List S5) (s : ByteArray) : List Bg := if snd l then bqL l s l.length else []
theorem bqL_len (l : List S5) (s : ByteArray) : ∀ n, (bqL l s n).length = n
 | 0 => rfl
 | n + 1 => by rw [bqL, List.length_append, bqL_len l s n]; rfl
theorem bq_1 {l : List S5} {s : ByteArray} (h : 0 < l.length) : bqL l s 1 = [⟨ro0, (bgn s ⟨#[47]⟩).getD s, bgB s ⟨#[47]⟩⟩] := by
 obtain ⟨x, hx⟩ := get_of_lt h
 show [] ++ [bqS l s [] 0] = _
 unfold bqS
 rw [hx]
 rfl
theorem bqS_n {l : List S5} {s R : ByteArray} {acc : List Bg} {n : Nat} {y : S5} {g : Bg} (hy : l[n]? = some y) (h0 : ¬ n = 0) (hg : acc[y.pr.toNat]? = some g) (hR : (if y.pr = 0 then s else g.s) = R) (h : (cst R y.nm).isSome = false) : bqS l s acc n = bg0 := by
 unfold bqS
 rw [hy]
 show (if n = 0 then _ else _) = bg0
 rw [if_neg h0, hg]
 show (match cst (if y.pr = 0 then s else g.s) y.nm with | none => bg0 | some c => _) = bg0
 rw [hR]
 cases e : cst R y.nm with
 | none => rfl
 | some c => rw [e] at h; cases h
theorem bqS_y {l : List S5} {s R : ByteArray} {acc : List Bg} {n : Nat} {y : S5} {g : Bg} (hy : l[n]? = some y) (h0 : ¬ n = 0) (hg : acc[y.pr.toNat]? = some g) (hR : (if y.pr = 0 then s else g.s) = R) (h : (cst R y.nm).isSome = true) : bqS l s acc n = ⟨udR y.dp g.r (n : Int) (ciN (cst R y.nm)), ciS (cst R y.nm), true⟩ := by
 unfold bqS
 rw [hy]
 show (if n = 0 then _ else _) = _
 rw [if_neg h0, hg]
 show (match cst (if y.pr = 0 then s else g.s) y.nm with | none => bg0 | some c => _) = _
 rw [hR]
 cases e : cst R y.nm with
 | none => rw [e] at h; cases h
 | some c => rfl
theorem bq_skip {l : List S5} {s : ByteArray} {n N : Nat} (hn : n < N) (h : bqS l s (bqL l s n) n = bg0) : bqL l s n ++ List.replicate (N - n) bg0 = bqL l s (n + 1) ++ List.replicate (N - (n + 1)) bg0 := by
 rw [bqL, h, show N - n = N - (n + 1) + 1 by omega, List.replicate_succ, List.append_assoc]
 rfl
theorem bq_put {l : List S5} {s : ByteArray} {n N : Nat} {b : Bg} (hn : n < N) (h : bqS l s (bqL l s n) n = b) : (bqL l s n ++ List.replicate (N - n) bg0).set n b = bqL l s (n + 1) ++ List.replicate (N - (n + 1)) bg0 := by
 rw [bqL, h, List.set_append_right _ _ (by rw [bqL_len]; exact Nat.le_refl _), bqL_len, Nat.sub_self, show N - n = N - (n + 1) + 1 by omega, List.replicate_succ, List.append_assoc]
 rfl
theorem cid_sz {u r : ByteArray} {n : Int} (h : cid u = some (n, r)) : r.size ≤ u.size := by
 unfold cid at h
 split at h
 ·cases h
 ·split at h
  ·cases h
  ·split at h
   ·cases h; exact ex_sz _ _ _
   ·cases h
theorem ciS_sz (s nm : ByteArray) : (ciS (cst s nm)).size ≤ s.size := by
 unfold cst
 cases e : bgn s (V.catB (V.catB ⟨#[47]⟩ nm) ⟨#[58]⟩) with
 | none => exact Nat.zero_le _
 | some u =>
  rw [Option.bind_some]
  unfold ciS
  cases q : cid u with
  | none => exact Nat.zero_le _
  | some c => exact Nat.le_trans (cid_sz (n := c.1) q) (bgn_sz e)
theorem bqS_sz {l : List S5} {s : ByteArray} {acc : List Bg} {n : Nat} (ha : ∀ p ∈ acc, p.s.size ≤ s.size) : (bqS l s acc n).s.size ≤ s.size := by
 unfold bqS
 cases e : l[n]? with
 | none => exact Nat.zero_le _
 | some x =>
  dsimp only
  by_cases h0 : n = 0
  ·rw [if_pos h0]
   dsimp only
   cases e : bgn s ⟨#[47]⟩ with
   | none => exact Nat.le_refl _
   | some u => exact bgn_sz e
  ·rw [if_neg h0]
   cases hp : acc[x.pr.toNat]? with
   | none => exact Nat.zero_le _
   | some p =>
    dsimp only
    have q := ciS_sz (if x.pr = 0 then s else p.s) x.nm
    have hp' := ha p (List.mem_of_getElem? hp)
    cases hc : cst (if x.pr = 0 then s else p.s) x.nm with
    | none => exact Nat.zero_le _
    | some c =>
     rw [hc] at q
     refine Nat.le_trans q ?_
     split
     ·exact Nat.le_refl _
     ·exact hp'
theorem bqL_sz (l : List S5) (s : ByteArray) : ∀ n, ∀ p ∈ bqL l s n, p.s.size ≤ s.size
 | 0, p, h => by cases h
 | n + 1, p, h => by
  rw [bqL] at h
  rcases List.mem_append.1 h with h | h
  ·exact bqL_sz l s n p h
  ·rw [List.mem_singleton.1 h]; exact bqS_sz (bqL_sz l s n)
set_option maxHeartbeats 1000000 in
theorem pbg_n {L : List S5} {pl : Option Addr} {cl : Nat} {s : ByteArray} (w : World) (hL : LL w pl L) (hcl : L.length ≤ cl) (hs : s.size ≤ 9223372036854775807) (hN : L.length ≤ 100) : Calls Tryd.prog 36 #[.slice pl L.length cl, .string s] w fun e9 w' => ∃ pa ca, e9 = .returned (.slice pa (bqs L s).length ca) ∧ SL w' 6 Bg.cells pa (bqs L s) ∧ (∀ a, pa = some a → w.heap.size ≤ a.block ∧ a.block < w'.heap.size) ∧ Mo w w' := by
 refine w_enter 80 Tryd.func36 Tryd.ntmps36 rfl rfl ?_
 have M : Mo w w := Mo.refl _
 refine w_seq (w_reg ?_)
 refine wl_m (.const (.slice none 0 0)) (.slice none 0 0) ?_
 refine w_nil (xn_then (w_seq (w_seq (w_reg ?_))))
 refine wl_m (.tmp 0) (.slice pl L.length cl) ?_
 refine wl_val (.int .i64 ((L.length : Nat) : Int)) (len22 _ _ _ _ _ (by exact rfl) _ _ _ _ _ _) rfl ?_
 cases hf0 : decide (((L.length : Nat) : Int) = 0) with
 | true =>
  have hf0p := of_decide_eq_true hf0
  refine wl_b .eql 3 (.tmp 12) (.const (.int .i64 (0))) (.int .i64 ((L.length : Nat) : Int)) (.int .i64 (0)) (.bool true) (eq3 hf0 _ _ _) ?_
  refine wl_m (.tmp 13) (.bool true) ?_
  refine wl_skip rfl (wl_skip rfl (wl_skip rfl ?_))
  refine wl_pick (.tmp 14) (.const (.bool true)) (.tmp 17) true (.bool true) (fun _ => rfl) rfl rfl rfl ?_
  refine w_nil (xn_then (w_condT rfl (w_seq (w_reg ?_))))
  refine wl_m (.const (.slice none 0 0)) (.slice none 0 0) ?_
  refine w_nil (xn_then (w_ret (xr_then ?_)))
  exact w_ret1 _ (.slice none 0 0) rfl rfl ⟨none, 0, by rw [show bqs L s = [] from (by unfold bqs; rw [show L.length = 0 by omega]; split <;> rfl)]; rfl, by rw [show bqs L s = [] from (by unfold bqs; rw [show L.length = 0 by omega]; split <;> rfl)]; exact ⟨Nat.zero_le _, fun _ _ e => by cases e⟩, (fun a e => by cases e), M⟩
 | false =>
  have hf0p := of_decide_eq_false hf0
  refine wl_b .eql 3 (.tmp 12) (.const (.int .i64 (0))) (.int .i64 ((L.length : Nat) : Int)) (.int .i64 (0)) (.bool false) (eq3 hf0 _ _ _) ?_
  refine wl_m (.tmp 13) (.bool false) ?_
  refine wl_m (.tmp 0) (.slice pl L.length cl) ?_
  cases hf1 : snd L with
  | true =>
   refine wl_call 30 [(.tmp 15)] _ [.slice pl L.length cl] (.bool true) rfl rfl (fun _ _ => by kernel_rfl) (cB hf1 (psnd_n _ (hL.mo M) hcl)) rfl ?_
   intro u1 hq
   replace M := M.trans hq
   clear hq
   refine wl_un (fun v => Op.unary .not v) (.tmp 16) (.bool true) (.bool false) (fun _ => rfl) rfl (by kernel_rfl) rfl ?_
   refine wl_pick (.tmp 14) (.const (.bool true)) (.tmp 17) false (.bool false) (fun _ => rfl) rfl rfl rfl ?_
   refine w_nil (xn_then (w_condF rfl (w_skip (xn_then (w_seq (w_reg ?_))))))
   refine wl_m (.tmp 0) (.slice pl L.length cl) ?_
   refine wl_val (.int .i64 ((L.length : Nat) : Int)) (len22 _ _ _ _ _ (by exact rfl) _ _ _ _ _ _) rfl ?_
   refine wl_mkB (.tmp 20) (.tmp 20) L.length hN rfl rfl rfl rfl ?_
   intro ko u2 hk hz hq QO
   have N_ko : w.heap.size ≤ ko := by have := M.size; omega
   replace M := M.trans hq
   clear hk hz hq
   have hrep : List.replicate L.length bg0 = bg0 :: List.replicate (L.length - 1) bg0 := by rw [← List.replicate_succ, show L.length - 1 + 1 = L.length by omega]
   rw [hrep] at QO
   refine wl_m (.tmp 21) (.slice (some ⟨ko, 0, none⟩) L.length L.length) ?_
   refine w_nil (xn_then (w_seq (w_reg ?_)))
   refine wl_m (.tmp 5) (.slice (some ⟨ko, 0, none⟩) L.length L.length) ?_
   refine wl_m (.tmp 5) (.slice (some ⟨ko, 0, none⟩) L.length L.length) ?_
   refine wl_m (.tmp 1) (.string s) ?_
   refine wl_call 38 [(.tmp 25), (.const (.string ⟨#[47]⟩))] _ [.string s, .string ⟨#[47]⟩] (.tuple #[.string ((bgn s ⟨#[47]⟩).getD s), .bool ((bgB s ⟨#[47]⟩))]) rfl rfl (fun _ _ => by kernel_rfl) (cpx_n _) rfl ?_
   intro u3 hq
   replace QO := QO.mo hq
   replace M := M.trans hq
   clear hq
   refine wl_m (.tmp 26) (.tuple #[.string ((bgn s ⟨#[47]⟩).getD s), .bool ((bgB s ⟨#[47]⟩))]) ?_
   refine wl_un (fun v => Instr.extract v 0) (.tmp 22) (.tuple #[.string ((bgn s ⟨#[47]⟩).getD s), .bool ((bgB s ⟨#[47]⟩))]) (.string ((bgn s ⟨#[47]⟩).getD s)) (fun _ => rfl) rfl (by kernel_rfl) rfl ?_
   refine wl_un (fun v => Instr.extract v 1) (.tmp 22) (.tuple #[.string ((bgn s ⟨#[47]⟩).getD s), .bool ((bgB s ⟨#[47]⟩))]) (.bool ((bgB s ⟨#[47]⟩))) (fun _ => rfl) rfl (by kernel_rfl) rfl ?_
   refine wl_bin (fun x y => Instr.indexAt 84 x y) (.tmp 23) (.const (.int .i64 (0))) (.slice (some ⟨ko, 0, none⟩) L.length L.length) (.int .i64 (0)) (pt ko 0) (fun _ => rfl) rfl rfl (ix840 (by omega) _) rfl ?_
   refine wl_f 87 1 (.tmp 29) (pt ko 0) (pt ko 4) ?_
   refine wl_stm1 9 (.tmp 30) (.tmp 27) ko 4 (.string ((bgn s ⟨#[47]⟩).getD s)) (fl (bg0 :: List.replicate (L.length - 1) bg0)) (fl (⟨ro0, (bgn s ⟨#[47]⟩).getD s, false⟩ :: List.replicate (L.length - 1) bg0)) QO rfl rfl rfl rfl (by rw [Nat.blt_eq, fl_len, List.length_cons]; omega) sz9 rfl rfl (fl_4 bg0 _ _) rfl ?_
   intro u4 hS9 hm9 Qn
   replace QO := Qn
   clear Qn hm9
   replace M := hS9.mo _ N_ko M
   clear hS9
   refine wl_bin (fun x y => Instr.indexAt 84 x y) (.tmp 24) (.const (.int .i64 (0))) (.slice (some ⟨ko, 0, none⟩) L.length L.length) (.int .i64 (0)) (pt ko 0) (fun _ => rfl) rfl rfl (ix840 (by omega) _) rfl ?_
   refine wl_f 87 2 (.tmp 31) (pt ko 0) (pt ko 5) ?_
   refine wl_stm1 4 (.tmp 32) (.tmp 28) ko 5 (.bool ((bgB s ⟨#[47]⟩))) (fl (⟨ro0, (bgn s ⟨#[47]⟩).getD s, false⟩ :: List.replicate (L.length - 1) bg0)) (fl (⟨ro0, (bgn s ⟨#[47]⟩).getD s, bgB s ⟨#[47]⟩⟩ :: List.replicate (L.length - 1) bg0)) QO rfl rfl rfl rfl (by rw [Nat.blt_eq, fl_len, List.length_cons]; omega) sz4 rfl rfl (fl_5 ⟨ro0, (bgn s ⟨#[47]⟩).getD s, false⟩ _ _) rfl ?_
   intro u5 hS9 hm9 Qn
   replace QO := Qn
   clear Qn hm9
   replace M := hS9.mo _ N_ko M
   clear hS9
   refine w_nil (xn_then (w_seq (w_seq (w_reg ?_))))
   refine wl_m (.const (.int .i64 (1))) (.int .i64 (1)) ?_
   refine w_nil (xn_then (w_block ?_))
   have hsn := hf1
   refine w_loop (fun m l9 w1 => ∃ n : Nat, m = L.length - n ∧ 1 ≤ n ∧ n ≤ L.length ∧ look l9 0 = .slice pl L.length cl ∧ look l9 1 = .string s ∧ look l9 5 = .slice (some ⟨ko, 0, none⟩) L.length L.length ∧ look l9 6 = .int .i64 ((n : Nat) : Int) ∧ At w1 ko (fl (bqL L s n ++ List.replicate (L.length - n) bg0)) ∧ Mo w w1) _ ⟨1, rfl, Nat.le_refl _, by omega, rfl, rfl, rfl, rfl, (by rw [bq_1 (by omega)]; exact QO), M⟩ ?_
   clear M QO hrep
   rintro m l9 wl ⟨n, rfl, hn1, hn, e0, e1, e5, e6, QO, M⟩
   by_cases hnl : n < L.length
   ·skip
    have hnd : decide (n < L.length) = true := decide_eq_true hnl
    obtain ⟨y, hy⟩ := get_of_lt hnl
    have hmy := List.mem_of_getElem? hy
    obtain ⟨bp, op, hpp, hRp⟩ := D.SL.rw hL.sl hy
    obtain ⟨pp, hpp9, hpp0, hpp1, hpd, hd2, hd4⟩ := pr_at hsn hy (by omega)
    have hny := hL.nm y hmy
    obtain ⟨g, hg⟩ := get_of_lt (show y.pr.toNat < (bqL L s n).length by rw [bqL_len]; omega)
    have hgX : (bqL L s n ++ List.replicate (L.length - n) bg0)[y.pr.toNat]? = some g := by rw [List.getElem?_append_left (by rw [bqL_len]; omega)]; exact hg
    have hgs : g.s.size ≤ 9223372036854775807 := Nat.le_trans (bqL_sz L s n g (List.mem_of_getElem? hg)) hs
    refine w_seq (w_seq (w_reg ?_))
    refine wl_mv (.tmp 6) (.int .i64 ((n : Nat) : Int)) (fun _ => rfl) e6 rfl ?_
    refine wl_mv (.tmp 0) (.slice pl L.length cl) (fun _ => rfl) e0 rfl ?_
    refine wl_val (.int .i64 ((L.length : Nat) : Int)) (len22 _ _ _ _ _ (by exact rfl) _ _ _ _ _ _) rfl ?_
    refine wl_b .lss 3 (.tmp 33) (.tmp 35) (.int .i64 ((n : Nat) : Int)) (.int .i64 ((L.length : Nat) : Int)) (.bool true) (ltN hnd _ _ _) ?_
    refine w_nil (xn_then (w_condT rfl (w_skip (xn_then (w_seq (w_block (w_seq (w_reg ?_))))))))
    refine wl_mv (.tmp 5) (.slice (some ⟨ko, 0, none⟩) L.length L.length) (fun _ => rfl) e5 rfl ?_
    refine wl_mv (.tmp 0) (.slice pl L.length cl) (fun _ => rfl) e0 rfl ?_
    refine wl_mv (.tmp 6) (.int .i64 ((n : Nat) : Int)) (fun _ => rfl) e6 rfl ?_
    refine wl_bin (fun x y => Instr.indexAt 22 x y) (.tmp 40) (.tmp 41) (.slice pl L.length cl) (.int .i64 ((n : Nat) : Int)) (pt bp (op + n * 5)) (fun _ => rfl) rfl rfl (ix22 (i := n) hpp hnl _) rfl ?_
    refine wl_f 65 0 (.tmp 42) (pt bp (op + n * 5)) (pt bp (op + n * 5)) ?_
    refine wl_l 3 (.tmp 43) (pt bp (op + n * 5)) (.int .i64 (y.pr)) (D.run_oneR (hRp.mo M).at' 3 0 rfl Tryd.underlying3 rfl) ?_
    have hRg := rwn (rw_of QO hgX (by rw [List.length_append, bqL_len, List.length_replicate]; omega))
    refine wl_bin (fun x y => Instr.indexAt 84 x y) (.tmp 39) (.tmp 44) (.slice (some ⟨ko, 0, none⟩) L.length L.length) (.int .i64 (y.pr)) (pt ko (y.pr.toNat * 6)) (fun _ => rfl) rfl rfl (ix84z (by omega) (by omega) _) rfl ?_
    refine wl_l 87 (.tmp 45) (pt ko (y.pr.toNat * 6)) (.agg (g.cells).toArray) (D.run_partR (hRg.mo M).at' 87 0 6 (g.cells) rfl Tryd.underlying87 rfl sz87) ?_
    refine wl_alloc 87 #[.int .i64 0, .int .i64 0, .int .i64 0, .int .i64 0, .string ⟨#[]⟩, .bool false] rfl (fun _ => by kernel_rfl) rfl ?_
    intro k1 u41 hk hz hq Q1
    have ne_ko_k1 : ko ≠ k1 := by have := QO.lt; omega
    have N_k1 : w.heap.size ≤ k1 := by have := M.size; omega
    replace QO := QO.mo hq
    replace M := M.trans hq
    clear hk hz hq
    refine wl_st 87 (.tmp 7) (.tmp 46) k1 0 ((g.cells).toArray) _ (g.cells) Q1 rfl rfl rfl rfl rfl sz87 rfl rfl rfl ?_
    intro u42 hS Qn
    replace Q1 := Qn
    clear Qn
    replace QO := hS.other _ _ ne_ko_k1 QO
    replace M := hS.mo _ N_k1 M
    clear hS
    refine w_nil (xn_then (w_seq (w_seq (w_reg ?_))))
    refine wl_mv (.tmp 0) (.slice pl L.length cl) (fun _ => rfl) e0 rfl ?_
    refine wl_mv (.tmp 6) (.int .i64 ((n : Nat) : Int)) (fun _ => rfl) e6 rfl ?_
    refine wl_bin (fun x y => Instr.indexAt 22 x y) (.tmp 47) (.tmp 48) (.slice pl L.length cl) (.int .i64 ((n : Nat) : Int)) (pt bp (op + n * 5)) (fun _ => rfl) rfl rfl (ix22 (i := n) hpp hnl _) rfl ?_
    refine wl_f 65 0 (.tmp 49) (pt bp (op + n * 5)) (pt bp (op + n * 5)) ?_
    refine wl_l 3 (.tmp 50) (pt bp (op + n * 5)) (.int .i64 (y.pr)) (D.run_oneR (hRp.mo M).at' 3 0 rfl Tryd.underlying3 rfl) ?_
    cases hf30 : decide (y.pr = 0) with
    | true =>
     have hf30p := of_decide_eq_true hf30
     refine wl_b .eql 3 (.tmp 51) (.const (.int .i64 (0))) (.int .i64 (y.pr)) (.int .i64 (0)) (.bool true) (eq3 hf30 _ _ _) ?_
     refine w_nil (xn_then (w_condT rfl (w_reg ?_)))
     refine wl_mv (.tmp 1) (.string s) (fun _ => rfl) e1 rfl ?_
     refine wl_f 87 1 (.tmp 7) (pt k1 0) (pt k1 4) ?_
     refine wl_st1 9 (.tmp 54) (.tmp 53) k1 4 (.string s) (g.cells) [.int .i64 g.r.s, .int .i64 g.r.a, .int .i64 g.r.b, .int .i64 g.r.c, .string s, .bool g.b] Q1 rfl rfl rfl rfl rfl sz9 rfl rfl rfl rfl ?_
     intro u43 hS Qn
     replace Q1 := Qn
     clear Qn
     replace QO := hS.other _ _ ne_ko_k1 QO
     replace M := hS.mo _ N_k1 M
     clear hS
     refine w_nil (xn_then (w_seq ?_))
     cases hf31 : (cst s y.nm).isSome with
     | true =>
      refine w_any 14 [.inl (pt k1 4), .inl (.string s), .inl (.slice pl L.length cl), .inl (.int .i64 ((n : Nat) : Int)), .inl (pt bp (op + n * 5)), .inl (pt bp (op + n * 5 + 2)), .inl (.string y.nm), .inl (.tuple #[.int .i64 (ciN (cst s y.nm)), .string (ciS (cst s y.nm)), .bool true]), .inl (.tuple #[.int .i64 (ciN (cst s y.nm)), .string (ciS (cst s y.nm)), .bool true]), .inl (.int .i64 (ciN (cst s y.nm))), .inl (.string (ciS (cst s y.nm))), .inl (.bool true), .inl (.int .i64 (ciN (cst s y.nm))), .inl (.string (ciS (cst s y.nm)))] [] (by kernel_rfl) (by kernel_rfl) (by kernel_rfl) (by kernel_rfl) rfl (by kernel_rfl) (by kernel_rfl) late_nil ?_ ?_ ?_
      ·exact Ds.none rfl
      ·refine ea_cons ?_ (ea_cons ?_ (ea_cons ?_ (ea_cons ?_ (ea_cons ?_ (ea_cons ?_ (ea_cons ?_ (ea_cons ?_ (ea_cons ?_ (ea_cons ?_ (ea_cons ?_ (ea_cons ?_ (ea_cons ?_ (ea_cons ?_ (ea_nil))))))))))))))
       ·exact og_eq _ rfl (fun f wf hq hd K hK => go_run rfl (wo_un (fun v => Instr.fieldAt 87 v 1) (.tmp 7) (pt k1 0) (pt k1 4) (fun _ => rfl) rfl (by kernel_rfl) (hK _ (Mo.refl _))))
       ·exact og_eq _ rfl (fun f wf hq hd K hK => have Q1 := Q1.mo hq; go_run rfl (wo_load 9 (.tmp 56) (pt k1 4) (.string s) rfl (hd 0 rfl) (run_one Q1 9 4 rfl Tryd.underlying9 rfl) (hK _ (Mo.refl _))))
       ·exact og_eq _ rfl (fun f wf hq hd K hK => go_run rfl (wo_mv (.tmp 0) (.slice pl L.length cl) (fun _ => rfl) e0 (hK _ (Mo.refl _))))
       ·exact og_eq _ rfl (fun f wf hq hd K hK => go_run rfl (wo_mv (.tmp 6) (.int .i64 ((n : Nat) : Int)) (fun _ => rfl) e6 (hK _ (Mo.refl _))))
       ·exact og_eq _ rfl (fun f wf hq hd K hK => go_run rfl (wo_bin (fun x y => Instr.indexAt 22 x y) (.tmp 58) (.tmp 59) (.slice pl L.length cl) (.int .i64 ((n : Nat) : Int)) (pt bp (op + n * 5)) (fun _ => rfl) (hd 2 rfl) (hd 3 rfl) (ix22 (i := n) hpp hnl _) (hK _ (Mo.refl _))))
       ·exact og_eq _ rfl (fun f wf hq hd K hK => go_run rfl (wo_un (fun v => Instr.fieldAt 65 v 2) (.tmp 60) (pt bp (op + n * 5)) (pt bp (op + n * 5 + 2)) (fun _ => rfl) (hd 4 rfl) (by kernel_rfl) (hK _ (Mo.refl _))))
       ·exact og_eq _ rfl (fun f wf hq hd K hK => go_run rfl (wo_load 9 (.tmp 61) (pt bp (op + n * 5 + 2)) (.string y.nm) rfl (hd 5 rfl) (D.run_oneR (hRp.mo (M.trans hq)).at' 9 2 rfl Tryd.underlying9 rfl) (hK _ (Mo.refl _))))
       ·exact og_eq _ rfl (fun f wf hq hd K hK => go_run rfl (wo_call 53 [(.tmp 57), (.tmp 62)] _ [.string s, .string y.nm] (.tuple #[.int .i64 (ciN (cst s y.nm)), .string (ciS (cst s y.nm)), .bool true]) rfl (li2 (hd 1 rfl) (hd 6 rfl)) (fun _ _ => by kernel_rfl) (cR (by rw [hf31]) (cst_n (s := s) _ hs hny)) hK))
       ·exact og_eq _ rfl (fun f wf hq hd K hK => go_run rfl (wo_mv (.tmp 63) (.tuple #[.int .i64 (ciN (cst s y.nm)), .string (ciS (cst s y.nm)), .bool true]) (fun _ => rfl) (hd 7 rfl) (hK _ (Mo.refl _))))
       ·exact og_eq _ rfl (fun f wf hq hd K hK => go_run rfl (wo_un (fun v => Instr.extract v 0) (.tmp 55) (.tuple #[.int .i64 (ciN (cst s y.nm)), .string (ciS (cst s y.nm)), .bool true]) (.int .i64 (ciN (cst s y.nm))) (fun _ => rfl) (hd 8 rfl) (by kernel_rfl) (hK _ (Mo.refl _))))
       ·exact og_eq _ rfl (fun f wf hq hd K hK => go_run rfl (wo_un (fun v => Instr.extract v 1) (.tmp 55) (.tuple #[.int .i64 (ciN (cst s y.nm)), .string (ciS (cst s y.nm)), .bool true]) (.string (ciS (cst s y.nm))) (fun _ => rfl) (hd 8 rfl) (by kernel_rfl) (hK _ (Mo.refl _))))
       ·exact og_eq _ rfl (fun f wf hq hd K hK => go_run rfl (wo_un (fun v => Instr.extract v 2) (.tmp 55) (.tuple #[.int .i64 (ciN (cst s y.nm)), .string (ciS (cst s y.nm)), .bool true]) (.bool true) (fun _ => rfl) (hd 8 rfl) (by kernel_rfl) (hK _ (Mo.refl _))))
       ·exact og_eq _ rfl (fun f wf hq hd K hK => go_run rfl (wo_mv (.tmp 64) (.int .i64 (ciN (cst s y.nm))) (fun _ => rfl) (hd 9 rfl) (hK _ (Mo.refl _))))
       ·exact og_eq _ rfl (fun f wf hq hd K hK => go_run rfl (wo_mv (.tmp 65) (.string (ciS (cst s y.nm))) (fun _ => rfl) (hd 10 rfl) (hK _ (Mo.refl _))))
      intro kf44 u44 hq hR hne
      replace QO := QO.mo hq
      replace Q1 := Q1.mo hq
      replace M := M.trans hq
      clear hq hR hne
      refine wl_m (.tmp 66) (.bool true) ?_
      refine w_nil (xn_then (w_seq (w_reg ?_)))
      refine wl_m (.tmp 10) (.bool true) ?_
      refine w_nil (xn_then (w_condT rfl (w_reg ?_)))
      refine wl_mv (.tmp 5) (.slice (some ⟨ko, 0, none⟩) L.length L.length) (fun _ => rfl) e5 rfl ?_
      refine wl_mv (.tmp 6) (.int .i64 ((n : Nat) : Int)) (fun _ => rfl) e6 rfl ?_
      refine wl_mv (.tmp 0) (.slice pl L.length cl) (fun _ => rfl) e0 rfl ?_
      refine wl_f 87 0 (.tmp 7) (pt k1 0) (pt k1 0) ?_
      refine wl_l 25 (.tmp 71) (pt k1 0) (.agg #[.int .i64 g.r.s, .int .i64 g.r.a, .int .i64 g.r.b, .int .i64 g.r.c]) (run_row Q1 25 0 4 _ rfl Tryd.underlying25 rfl sz25) ?_
      refine wl_mv (.tmp 6) (.int .i64 ((n : Nat) : Int)) (fun _ => rfl) e6 rfl ?_
      refine wl_m (.tmp 8) (.int .i64 (ciN (cst s y.nm))) ?_
      refine wl_call 49 [(.tmp 70), (.tmp 72), (.tmp 73), (.tmp 74)] _ [.slice pl L.length cl, .agg #[.int .i64 g.r.s, .int .i64 g.r.a, .int .i64 g.r.b, .int .i64 g.r.c], .int .i64 ((n : Nat) : Int), .int .i64 (ciN (cst s y.nm))] (.agg ((udR y.dp (⟨g.r.s, g.r.a, g.r.b, g.r.c⟩ : Ro) ((n : Nat) : Int) (ciN (cst s y.nm))).cells).toArray) rfl rfl (fun _ _ => by kernel_rfl) (pud_n (y := y) (r := (⟨g.r.s, g.r.a, g.r.b, g.r.c⟩ : Ro)) _ (hL.mo M) (by omega) (by rw [Int.toNat_natCast]; exact hy) hd2 hd4) rfl ?_
      intro u45 hq
      replace QO := QO.mo hq
      replace Q1 := Q1.mo hq
      replace M := M.trans hq
      clear hq
      refine wl_m (.tmp 9) (.string (ciS (cst s y.nm))) ?_
      refine wl_build 87 [(0, (.tmp 75)), (1, (.tmp 76)), (2, (.const (.bool true)))] [(0, .agg ((udR y.dp (⟨g.r.s, g.r.a, g.r.b, g.r.c⟩ : Ro) ((n : Nat) : Int) (ciN (cst s y.nm))).cells).toArray), (1, .string (ciS (cst s y.nm))), (2, .bool true)] (.agg #[.int .i64 (udR y.dp (⟨g.r.s, g.r.a, g.r.b, g.r.c⟩ : Ro) ((n : Nat) : Int) (ciN (cst s y.nm))).s, .int .i64 (udR y.dp (⟨g.r.s, g.r.a, g.r.b, g.r.c⟩ : Ro) ((n : Nat) : Int) (ciN (cst s y.nm))).a, .int .i64 (udR y.dp (⟨g.r.s, g.r.a, g.r.b, g.r.c⟩ : Ro) ((n : Nat) : Int) (ciN (cst s y.nm))).b, .int .i64 (udR y.dp (⟨g.r.s, g.r.a, g.r.b, g.r.c⟩ : Ro) ((n : Nat) : Int) (ciN (cst s y.nm))).c, .string (ciS (cst s y.nm)), .bool true]) rfl rfl (by kernel_rfl) rfl ?_
      refine wl_bin (fun x y => Instr.indexAt 84 x y) (.tmp 68) (.tmp 69) (.slice (some ⟨ko, 0, none⟩) L.length L.length) (.int .i64 ((n : Nat) : Int)) (pt ko (n * 6)) (fun _ => rfl) rfl rfl (ix84n (by omega) _) rfl ?_
      refine wl_stm 87 (.tmp 78) (.tmp 77) ko (n * 6) #[.int .i64 (udR y.dp (⟨g.r.s, g.r.a, g.r.b, g.r.c⟩ : Ro) ((n : Nat) : Int) (ciN (cst s y.nm))).s, .int .i64 (udR y.dp (⟨g.r.s, g.r.a, g.r.b, g.r.c⟩ : Ro) ((n : Nat) : Int) (ciN (cst s y.nm))).a, .int .i64 (udR y.dp (⟨g.r.s, g.r.a, g.r.b, g.r.c⟩ : Ro) ((n : Nat) : Int) (ciN (cst s y.nm))).b, .int .i64 (udR y.dp (⟨g.r.s, g.r.a, g.r.b, g.r.c⟩ : Ro) ((n : Nat) : Int) (ciN (cst s y.nm))).c, .string (ciS (cst s y.nm)), .bool true] (fl (bqL L s n ++ List.replicate (L.length - n) bg0)) (fl ((bqL L s n ++ List.replicate (L.length - n) bg0).set n (⟨(udR y.dp (⟨g.r.s, g.r.a, g.r.b, g.r.c⟩ : Ro) ((n : Nat) : Int) (ciN (cst s y.nm))), ciS (cst s y.nm), true⟩ : Bg))) QO rfl rfl rfl rfl (by rw [Nat.ble_eq, fl_len, List.length_append, bqL_len, List.length_replicate]; show n * 6 + 6 ≤ _; omega) sz87 rfl (fl_set (b := (⟨(udR y.dp (⟨g.r.s, g.r.a, g.r.b, g.r.c⟩ : Ro) ((n : Nat) : Int) (ciN (cst s y.nm))), ciS (cst s y.nm), true⟩ : Bg)) (by rw [List.length_append, bqL_len, List.length_replicate]; omega)) rfl ?_
      intro u46 hS9 hm9 Qn
      replace QO := Qn
      clear Qn hm9
      replace Q1 := hS9.other _ _ ne_ko_k1.symm Q1
      replace M := hS9.mo _ N_ko M
      clear hS9
      refine w_nil (xn_blk (xn_then (w_reg ?_)))
      refine wl_mv (.tmp 6) (.int .i64 ((n : Nat) : Int)) (fun _ => rfl) e6 rfl ?_
      refine wl_b .add 3 (.tmp 37) (.const (.int .i64 (1))) (.int .i64 ((n : Nat) : Int)) (.int .i64 (1)) (.int .i64 ((n + 1 : Nat) : Int)) (add1r (k := n) (by omega) _ _ _) ?_
      refine wl_m (.tmp 38) (.int .i64 ((n + 1 : Nat) : Int)) ?_
      refine w_nil ?_
      exact xn_loop (L.length - (n + 1)) (by omega) ⟨n + 1, rfl, by omega, by omega, e0, e1, e5, rfl, (by rw [← bq_put (N := L.length) hnl (bqS_y hy (by omega) hg (if_pos hf30p) hf31)]; exact QO), M⟩
     | false =>
      refine w_any 14 [.inl (pt k1 4), .inl (.string s), .inl (.slice pl L.length cl), .inl (.int .i64 ((n : Nat) : Int)), .inl (pt bp (op + n * 5)), .inl (pt bp (op + n * 5 + 2)), .inl (.string y.nm), .inl (.tuple #[.int .i64 (ciN (cst s y.nm)), .string (ciS (cst s y.nm)), .bool false]), .inl (.tuple #[.int .i64 (ciN (cst s y.nm)), .string (ciS (cst s y.nm)), .bool false]), .inl (.int .i64 (ciN (cst s y.nm))), .inl (.string (ciS (cst s y.nm))), .inl (.bool false), .inl (.int .i64 (ciN (cst s y.nm))), .inl (.string (ciS (cst s y.nm)))] [] (by kernel_rfl) (by kernel_rfl) (by kernel_rfl) (by kernel_rfl) rfl (by kernel_rfl) (by kernel_rfl) late_nil ?_ ?_ ?_
      ·exact Ds.none rfl
      ·refine ea_cons ?_ (ea_cons ?_ (ea_cons ?_ (ea_cons ?_ (ea_cons ?_ (ea_cons ?_ (ea_cons ?_ (ea_cons ?_ (ea_cons ?_ (ea_cons ?_ (ea_cons ?_ (ea_cons ?_ (ea_cons ?_ (ea_cons ?_ (ea_nil))))))))))))))
       ·exact og_eq _ rfl (fun f wf hq hd K hK => go_run rfl (wo_un (fun v => Instr.fieldAt 87 v 1) (.tmp 7) (pt k1 0) (pt k1 4) (fun _ => rfl) rfl (by kernel_rfl) (hK _ (Mo.refl _))))
       ·exact og_eq _ rfl (fun f wf hq hd K hK => have Q1 := Q1.mo hq; go_run rfl (wo_load 9 (.tmp 56) (pt k1 4) (.string s) rfl (hd 0 rfl) (run_one Q1 9 4 rfl Tryd.underlying9 rfl) (hK _ (Mo.refl _))))
       ·exact og_eq _ rfl (fun f wf hq hd K hK => go_run rfl (wo_mv (.tmp 0) (.slice pl L.length cl) (fun _ => rfl) e0 (hK _ (Mo.refl _))))
       ·exact og_eq _ rfl (fun f wf hq hd K hK => go_run rfl (wo_mv (.tmp 6) (.int .i64 ((n : Nat) : Int)) (fun _ => rfl) e6 (hK _ (Mo.refl _))))
       ·exact og_eq _ rfl (fun f wf hq hd K hK => go_run rfl (wo_bin (fun x y => Instr.indexAt 22 x y) (.tmp 58) (.tmp 59) (.slice pl L.length cl) (.int .i64 ((n : Nat) : Int)) (pt bp (op + n * 5)) (fun _ => rfl) (hd 2 rfl) (hd 3 rfl) (ix22 (i := n) hpp hnl _) (hK _ (Mo.refl _))))
       ·exact og_eq _ rfl (fun f wf hq hd K hK => go_run rfl (wo_un (fun v => Instr.fieldAt 65 v 2) (.tmp 60) (pt bp (op + n * 5)) (pt bp (op + n * 5 + 2)) (fun _ => rfl) (hd 4 rfl) (by kernel_rfl) (hK _ (Mo.refl _))))
       ·exact og_eq _ rfl (fun f wf hq hd K hK => go_run rfl (wo_load 9 (.tmp 61) (pt bp (op + n * 5 + 2)) (.string y.nm) rfl (hd 5 rfl) (D.run_oneR (hRp.mo (M.trans hq)).at' 9 2 rfl Tryd.underlying9 rfl) (hK _ (Mo.refl _))))
       ·exact og_eq _ rfl (fun f wf hq hd K hK => go_run rfl (wo_call 53 [(.tmp 57), (.tmp 62)] _ [.string s, .string y.nm] (.tuple #[.int .i64 (ciN (cst s y.nm)), .string (ciS (cst s y.nm)), .bool false]) rfl (li2 (hd 1 rfl) (hd 6 rfl)) (fun _ _ => by kernel_rfl) (cR (by rw [hf31]) (cst_n (s := s) _ hs hny)) hK))
       ·exact og_eq _ rfl (fun f wf hq hd K hK => go_run rfl (wo_mv (.tmp 63) (.tuple #[.int .i64 (ciN (cst s y.nm)), .string (ciS (cst s y.nm)), .bool false]) (fun _ => rfl) (hd 7 rfl) (hK _ (Mo.refl _))))
       ·exact og_eq _ rfl (fun f wf hq hd K hK => go_run rfl (wo_un (fun v => Instr.extract v 0) (.tmp 55) (.tuple #[.int .i64 (ciN (cst s y.nm)), .string (ciS (cst s y.nm)), .bool false]) (.int .i64 (ciN (cst s y.nm))) (fun _ => rfl) (hd 8 rfl) (by kernel_rfl) (hK _ (Mo.refl _))))
       ·exact og_eq _ rfl (fun f wf hq hd K hK => go_run rfl (wo_un (fun v => Instr.extract v 1) (.tmp 55) (.tuple #[.int .i64 (ciN (cst s y.nm)), .string (ciS (cst s y.nm)), .bool false]) (.string (ciS (cst s y.nm))) (fun _ => rfl) (hd 8 rfl) (by kernel_rfl) (hK _ (Mo.refl _))))
       ·exact og_eq _ rfl (fun f wf hq hd K hK => go_run rfl (wo_un (fun v => Instr.extract v 2) (.tmp 55) (.tuple #[.int .i64 (ciN (cst s y.nm)), .string (ciS (cst s y.nm)), .bool false]) (.bool false) (fun _ => rfl) (hd 8 rfl) (by kernel_rfl) (hK _ (Mo.refl _))))
       ·exact og_eq _ rfl (fun f wf hq hd K hK => go_run rfl (wo_mv (.tmp 64) (.int .i64 (ciN (cst s y.nm))) (fun _ => rfl) (hd 9 rfl) (hK _ (Mo.refl _))))
       ·exact og_eq _ rfl (fun f wf hq hd K hK => go_run rfl (wo_mv (.tmp 65) (.string (ciS (cst s y.nm))) (fun _ => rfl) (hd 10 rfl) (hK _ (Mo.refl _))))
      intro kf44 u44 hq hR hne
      replace QO := QO.mo hq
      replace Q1 := Q1.mo hq
      replace M := M.trans hq
      clear hq hR hne
      refine wl_m (.tmp 66) (.bool false) ?_
      refine w_nil (xn_then (w_seq (w_reg ?_)))
      refine wl_m (.tmp 10) (.bool false) ?_
      refine w_nil (xn_then (w_condF rfl (w_skip (xn_blk (xn_then (w_reg ?_))))))
      refine wl_mv (.tmp 6) (.int .i64 ((n : Nat) : Int)) (fun _ => rfl) e6 rfl ?_
      refine wl_b .add 3 (.tmp 37) (.const (.int .i64 (1))) (.int .i64 ((n : Nat) : Int)) (.int .i64 (1)) (.int .i64 ((n + 1 : Nat) : Int)) (add1r (k := n) (by omega) _ _ _) ?_
      refine wl_m (.tmp 38) (.int .i64 ((n + 1 : Nat) : Int)) ?_
      refine w_nil ?_
      exact xn_loop (L.length - (n + 1)) (by omega) ⟨n + 1, rfl, by omega, by omega, e0, e1, e5, rfl, (by rw [← bq_skip (N := L.length) hnl (bqS_n hy (by omega) hg (if_pos hf30p) hf31)]; exact QO), M⟩
    | false =>
     have hf30p := of_decide_eq_false hf30
     refine wl_b .eql 3 (.tmp 51) (.const (.int .i64 (0))) (.int .i64 (y.pr)) (.int .i64 (0)) (.bool false) (eq3 hf30 _ _ _) ?_
     refine w_nil (xn_then (w_condF rfl (w_skip (xn_then (w_seq ?_)))))
     cases hf31 : (cst g.s y.nm).isSome with
     | true =>
      refine w_any 14 [.inl (pt k1 4), .inl (.string g.s), .inl (.slice pl L.length cl), .inl (.int .i64 ((n : Nat) : Int)), .inl (pt bp (op + n * 5)), .inl (pt bp (op + n * 5 + 2)), .inl (.string y.nm), .inl (.tuple #[.int .i64 (ciN (cst g.s y.nm)), .string (ciS (cst g.s y.nm)), .bool true]), .inl (.tuple #[.int .i64 (ciN (cst g.s y.nm)), .string (ciS (cst g.s y.nm)), .bool true]), .inl (.int .i64 (ciN (cst g.s y.nm))), .inl (.string (ciS (cst g.s y.nm))), .inl (.bool true), .inl (.int .i64 (ciN (cst g.s y.nm))), .inl (.string (ciS (cst g.s y.nm)))] [] (by kernel_rfl) (by kernel_rfl) (by kernel_rfl) (by kernel_rfl) rfl (by kernel_rfl) (by kernel_rfl) late_nil ?_ ?_ ?_
      ·exact Ds.none rfl
      ·refine ea_cons ?_ (ea_cons ?_ (ea_cons ?_ (ea_cons ?_ (ea_cons ?_ (ea_cons ?_ (ea_cons ?_ (ea_cons ?_ (ea_cons ?_ (ea_cons ?_ (ea_cons ?_ (ea_cons ?_ (ea_cons ?_ (ea_cons ?_ (ea_nil))))))))))))))
       ·exact og_eq _ rfl (fun f wf hq hd K hK => go_run rfl (wo_un (fun v => Instr.fieldAt 87 v 1) (.tmp 7) (pt k1 0) (pt k1 4) (fun _ => rfl) rfl (by kernel_rfl) (hK _ (Mo.refl _))))
       ·exact og_eq _ rfl (fun f wf hq hd K hK => have Q1 := Q1.mo hq; go_run rfl (wo_load 9 (.tmp 56) (pt k1 4) (.string g.s) rfl (hd 0 rfl) (run_one Q1 9 4 rfl Tryd.underlying9 rfl) (hK _ (Mo.refl _))))
       ·exact og_eq _ rfl (fun f wf hq hd K hK => go_run rfl (wo_mv (.tmp 0) (.slice pl L.length cl) (fun _ => rfl) e0 (hK _ (Mo.refl _))))
       ·exact og_eq _ rfl (fun f wf hq hd K hK => go_run rfl (wo_mv (.tmp 6) (.int .i64 ((n : Nat) : Int)) (fun _ => rfl) e6 (hK _ (Mo.refl _))))
       ·exact og_eq _ rfl (fun f wf hq hd K hK => go_run rfl (wo_bin (fun x y => Instr.indexAt 22 x y) (.tmp 58) (.tmp 59) (.slice pl L.length cl) (.int .i64 ((n : Nat) : Int)) (pt bp (op + n * 5)) (fun _ => rfl) (hd 2 rfl) (hd 3 rfl) (ix22 (i := n) hpp hnl _) (hK _ (Mo.refl _))))
       ·exact og_eq _ rfl (fun f wf hq hd K hK => go_run rfl (wo_un (fun v => Instr.fieldAt 65 v 2) (.tmp 60) (pt bp (op + n * 5)) (pt bp (op + n * 5 + 2)) (fun _ => rfl) (hd 4 rfl) (by kernel_rfl) (hK _ (Mo.refl _))))
       ·exact og_eq _ rfl (fun f wf hq hd K hK => go_run rfl (wo_load 9 (.tmp 61) (pt bp (op + n * 5 + 2)) (.string y.nm) rfl (hd 5 rfl) (D.run_oneR (hRp.mo (M.trans hq)).at' 9 2 rfl Tryd.underlying9 rfl) (hK _ (Mo.refl _))))
       ·exact og_eq _ rfl (fun f wf hq hd K hK => go_run rfl (wo_call 53 [(.tmp 57), (.tmp 62)] _ [.string g.s, .string y.nm] (.tuple #[.int .i64 (ciN (cst g.s y.nm)), .string (ciS (cst g.s y.nm)), .bool true]) rfl (li2 (hd 1 rfl) (hd 6 rfl)) (fun _ _ => by kernel_rfl) (cR (by rw [hf31]) (cst_n (s := g.s) _ hgs hny)) hK))
       ·exact og_eq _ rfl (fun f wf hq hd K hK => go_run rfl (wo_mv (.tmp 63) (.tuple #[.int .i64 (ciN (cst g.s y.nm)), .string (ciS (cst g.s y.nm)), .bool true]) (fun _ => rfl) (hd 7 rfl) (hK _ (Mo.refl _))))
       ·exact og_eq _ rfl (fun f wf hq hd K hK => go_run rfl (wo_un (fun v => Instr.extract v 0) (.tmp 55) (.tuple #[.int .i64 (ciN (cst g.s y.nm)), .string (ciS (cst g.s y.nm)), .bool true]) (.int .i64 (ciN (cst g.s y.nm))) (fun _ => rfl) (hd 8 rfl) (by kernel_rfl) (hK _ (Mo.refl _))))
       ·exact og_eq _ rfl (fun f wf hq hd K hK => go_run rfl (wo_un (fun v => Instr.extract v 1) (.tmp 55) (.tuple #[.int .i64 (ciN (cst g.s y.nm)), .string (ciS (cst g.s y.nm)), .bool true]) (.string (ciS (cst g.s y.nm))) (fun _ => rfl) (hd 8 rfl) (by kernel_rfl) (hK _ (Mo.refl _))))
       ·exact og_eq _ rfl (fun f wf hq hd K hK => go_run rfl (wo_un (fun v => Instr.extract v 2) (.tmp 55) (.tuple #[.int .i64 (ciN (cst g.s y.nm)), .string (ciS (cst g.s y.nm)), .bool true]) (.bool true) (fun _ => rfl) (hd 8 rfl) (by kernel_rfl) (hK _ (Mo.refl _))))
       ·exact og_eq _ rfl (fun f wf hq hd K hK => go_run rfl (wo_mv (.tmp 64) (.int .i64 (ciN (cst g.s y.nm))) (fun _ => rfl) (hd 9 rfl) (hK _ (Mo.refl _))))
       ·exact og_eq _ rfl (fun f wf hq hd K hK => go_run rfl (wo_mv (.tmp 65) (.string (ciS (cst g.s y.nm))) (fun _ => rfl) (hd 10 rfl) (hK _ (Mo.refl _))))
      intro kf43 u43 hq hR hne
      replace QO := QO.mo hq
      replace Q1 := Q1.mo hq
      replace M := M.trans hq
      clear hq hR hne
      refine wl_m (.tmp 66) (.bool true) ?_
      refine w_nil (xn_then (w_seq (w_reg ?_)))
      refine wl_m (.tmp 10) (.bool true) ?_
      refine w_nil (xn_then (w_condT rfl (w_reg ?_)))
      refine wl_mv (.tmp 5) (.slice (some ⟨ko, 0, none⟩) L.length L.length) (fun _ => rfl) e5 rfl ?_
      refine wl_mv (.tmp 6) (.int .i64 ((n : Nat) : Int)) (fun _ => rfl) e6 rfl ?_
      refine wl_mv (.tmp 0) (.slice pl L.length cl) (fun _ => rfl) e0 rfl ?_
      refine wl_f 87 0 (.tmp 7) (pt k1 0) (pt k1 0) ?_
      refine wl_l 25 (.tmp 71) (pt k1 0) (.agg #[.int .i64 g.r.s, .int .i64 g.r.a, .int .i64 g.r.b, .int .i64 g.r.c]) (run_row Q1 25 0 4 _ rfl Tryd.underlying25 rfl sz25) ?_
      refine wl_mv (.tmp 6) (.int .i64 ((n : Nat) : Int)) (fun _ => rfl) e6 rfl ?_
      refine wl_m (.tmp 8) (.int .i64 (ciN (cst g.s y.nm))) ?_
      refine wl_call 49 [(.tmp 70), (.tmp 72), (.tmp 73), (.tmp 74)] _ [.slice pl L.length cl, .agg #[.int .i64 g.r.s, .int .i64 g.r.a, .int .i64 g.r.b, .int .i64 g.r.c], .int .i64 ((n : Nat) : Int), .int .i64 (ciN (cst g.s y.nm))] (.agg ((udR y.dp (⟨g.r.s, g.r.a, g.r.b, g.r.c⟩ : Ro) ((n : Nat) : Int) (ciN (cst g.s y.nm))).cells).toArray) rfl rfl (fun _ _ => by kernel_rfl) (pud_n (y := y) (r := (⟨g.r.s, g.r.a, g.r.b, g.r.c⟩ : Ro)) _ (hL.mo M) (by omega) (by rw [Int.toNat_natCast]; exact hy) hd2 hd4) rfl ?_
      intro u44 hq
      replace QO := QO.mo hq
      replace Q1 := Q1.mo hq
      replace M := M.trans hq
      clear hq
      refine wl_m (.tmp 9) (.string (ciS (cst g.s y.nm))) ?_
      refine wl_build 87 [(0, (.tmp 75)), (1, (.tmp 76)), (2, (.const (.bool true)))] [(0, .agg ((udR y.dp (⟨g.r.s, g.r.a, g.r.b, g.r.c⟩ : Ro) ((n : Nat) : Int) (ciN (cst g.s y.nm))).cells).toArray), (1, .string (ciS (cst g.s y.nm))), (2, .bool true)] (.agg #[.int .i64 (udR y.dp (⟨g.r.s, g.r.a, g.r.b, g.r.c⟩ : Ro) ((n : Nat) : Int) (ciN (cst g.s y.nm))).s, .int .i64 (udR y.dp (⟨g.r.s, g.r.a, g.r.b, g.r.c⟩ : Ro) ((n : Nat) : Int) (ciN (cst g.s y.nm))).a, .int .i64 (udR y.dp (⟨g.r.s, g.r.a, g.r.b, g.r.c⟩ : Ro) ((n : Nat) : Int) (ciN (cst g.s y.nm))).b, .int .i64 (udR y.dp (⟨g.r.s, g.r.a, g.r.b, g.r.c⟩ : Ro) ((n : Nat) : Int) (ciN (cst g.s y.nm))).c, .string (ciS (cst g.s y.nm)), .bool true]) rfl rfl (by kernel_rfl) rfl ?_
      refine wl_bin (fun x y => Instr.indexAt 84 x y) (.tmp 68) (.tmp 69) (.slice (some ⟨ko, 0, none⟩) L.length L.length) (.int .i64 ((n : Nat) : Int)) (pt ko (n * 6)) (fun _ => rfl) rfl rfl (ix84n (by omega) _) rfl ?_
      refine wl_stm 87 (.tmp 78) (.tmp 77) ko (n * 6) #[.int .i64 (udR y.dp (⟨g.r.s, g.r.a, g.r.b, g.r.c⟩ : Ro) ((n : Nat) : Int) (ciN (cst g.s y.nm))).s, .int .i64 (udR y.dp (⟨g.r.s, g.r.a, g.r.b, g.r.c⟩ : Ro) ((n : Nat) : Int) (ciN (cst g.s y.nm))).a, .int .i64 (udR y.dp (⟨g.r.s, g.r.a, g.r.b, g.r.c⟩ : Ro) ((n : Nat) : Int) (ciN (cst g.s y.nm))).b, .int .i64 (udR y.dp (⟨g.r.s, g.r.a, g.r.b, g.r.c⟩ : Ro) ((n : Nat) : Int) (ciN (cst g.s y.nm))).c, .string (ciS (cst g.s y.nm)), .bool true] (fl (bqL L s n ++ List.replicate (L.length - n) bg0)) (fl ((bqL L s n ++ List.replicate (L.length - n) bg0).set n (⟨(udR y.dp (⟨g.r.s, g.r.a, g.r.b, g.r.c⟩ : Ro) ((n : Nat) : Int) (ciN (cst g.s y.nm))), ciS (cst g.s y.nm), true⟩ : Bg))) QO rfl rfl rfl rfl (by rw [Nat.ble_eq, fl_len, List.length_append, bqL_len, List.length_replicate]; show n * 6 + 6 ≤ _; omega) sz87 rfl (fl_set (b := (⟨(udR y.dp (⟨g.r.s, g.r.a, g.r.b, g.r.c⟩ : Ro) ((n : Nat) : Int) (ciN (cst g.s y.nm))), ciS (cst g.s y.nm), true⟩ : Bg)) (by rw [List.length_append, bqL_len, List.length_replicate]; omega)) rfl ?_
      intro u45 hS9 hm9 Qn
      replace QO := Qn
      clear Qn hm9
      replace Q1 := hS9.other _ _ ne_ko_k1.symm Q1
      replace M := hS9.mo _ N_ko M
      clear hS9
      refine w_nil (xn_blk (xn_then (w_reg ?_)))
      refine wl_mv (.tmp 6) (.int .i64 ((n : Nat) : Int)) (fun _ => rfl) e6 rfl ?_
      refine wl_b .add 3 (.tmp 37) (.const (.int .i64 (1))) (.int .i64 ((n : Nat) : Int)) (.int .i64 (1)) (.int .i64 ((n + 1 : Nat) : Int)) (add1r (k := n) (by omega) _ _ _) ?_
      refine wl_m (.tmp 38) (.int .i64 ((n + 1 : Nat) : Int)) ?_
      refine w_nil ?_
      exact xn_loop (L.length - (n + 1)) (by omega) ⟨n + 1, rfl, by omega, by omega, e0, e1, e5, rfl, (by rw [← bq_put (N := L.length) hnl (bqS_y hy (by omega) hg (if_neg hf30p) hf31)]; exact QO), M⟩
     | false =>
      refine w_any 14 [.inl (pt k1 4), .inl (.string g.s), .inl (.slice pl L.length cl), .inl (.int .i64 ((n : Nat) : Int)), .inl (pt bp (op + n * 5)), .inl (pt bp (op + n * 5 + 2)), .inl (.string y.nm), .inl (.tuple #[.int .i64 (ciN (cst g.s y.nm)), .string (ciS (cst g.s y.nm)), .bool false]), .inl (.tuple #[.int .i64 (ciN (cst g.s y.nm)), .string (ciS (cst g.s y.nm)), .bool false]), .inl (.int .i64 (ciN (cst g.s y.nm))), .inl (.string (ciS (cst g.s y.nm))), .inl (.bool false), .inl (.int .i64 (ciN (cst g.s y.nm))), .inl (.string (ciS (cst g.s y.nm)))] [] (by kernel_rfl) (by kernel_rfl) (by kernel_rfl) (by kernel_rfl) rfl (by kernel_rfl) (by kernel_rfl) late_nil ?_ ?_ ?_
      ·exact Ds.none rfl
      ·refine ea_cons ?_ (ea_cons ?_ (ea_cons ?_ (ea_cons ?_ (ea_cons ?_ (ea_cons ?_ (ea_cons ?_ (ea_cons ?_ (ea_cons ?_ (ea_cons ?_ (ea_cons ?_ (ea_cons ?_ (ea_cons ?_ (ea_cons ?_ (ea_nil))))))))))))))
       ·exact og_eq _ rfl (fun f wf hq hd K hK => go_run rfl (wo_un (fun v => Instr.fieldAt 87 v 1) (.tmp 7) (pt k1 0) (pt k1 4) (fun _ => rfl) rfl (by kernel_rfl) (hK _ (Mo.refl _))))
       ·exact og_eq _ rfl (fun f wf hq hd K hK => have Q1 := Q1.mo hq; go_run rfl (wo_load 9 (.tmp 56) (pt k1 4) (.string g.s) rfl (hd 0 rfl) (run_one Q1 9 4 rfl Tryd.underlying9 rfl) (hK _ (Mo.refl _))))
       ·exact og_eq _ rfl (fun f wf hq hd K hK => go_run rfl (wo_mv (.tmp 0) (.slice pl L.length cl) (fun _ => rfl) e0 (hK _ (Mo.refl _))))
       ·exact og_eq _ rfl (fun f wf hq hd K hK => go_run rfl (wo_mv (.tmp 6) (.int .i64 ((n : Nat) : Int)) (fun _ => rfl) e6 (hK _ (Mo.refl _))))
       ·exact og_eq _ rfl (fun f wf hq hd K hK => go_run rfl (wo_bin (fun x y => Instr.indexAt 22 x y) (.tmp 58) (.tmp 59) (.slice pl L.length cl) (.int .i64 ((n : Nat) : Int)) (pt bp (op + n * 5)) (fun _ => rfl) (hd 2 rfl) (hd 3 rfl) (ix22 (i := n) hpp hnl _) (hK _ (Mo.refl _))))
       ·exact og_eq _ rfl (fun f wf hq hd K hK => go_run rfl (wo_un (fun v => Instr.fieldAt 65 v 2) (.tmp 60) (pt bp (op + n * 5)) (pt bp (op + n * 5 + 2)) (fun _ => rfl) (hd 4 rfl) (by kernel_rfl) (hK _ (Mo.refl _))))
       ·exact og_eq _ rfl (fun f wf hq hd K hK => go_run rfl (wo_load 9 (.tmp 61) (pt bp (op + n * 5 + 2)) (.string y.nm) rfl (hd 5 rfl) (D.run_oneR (hRp.mo (M.trans hq)).at' 9 2 rfl Tryd.underlying9 rfl) (hK _ (Mo.refl _))))
       ·exact og_eq _ rfl (fun f wf hq hd K hK => go_run rfl (wo_call 53 [(.tmp 57), (.tmp 62)] _ [.string g.s, .string y.nm] (.tuple #[.int .i64 (ciN (cst g.s y.nm)), .string (ciS (cst g.s y.nm)), .bool false]) rfl (li2 (hd 1 rfl) (hd 6 rfl)) (fun _ _ => by kernel_rfl) (cR (by rw [hf31]) (cst_n (s := g.s) _ hgs hny)) hK))
       ·exact og_eq _ rfl (fun f wf hq hd K hK => go_run rfl (wo_mv (.tmp 63) (.tuple #[.int .i64 (ciN (cst g.s y.nm)), .string (ciS (cst g.s y.nm)), .bool false]) (fun _ => rfl) (hd 7 rfl) (hK _ (Mo.refl _))))
       ·exact og_eq _ rfl (fun f wf hq hd K hK => go_run rfl (wo_un (fun v => Instr.extract v 0) (.tmp 55) (.tuple #[.int .i64 (ciN (cst g.s y.nm)), .string (ciS (cst g.s y.nm)), .bool false]) (.int .i64 (ciN (cst g.s y.nm))) (fun _ => rfl) (hd 8 rfl) (by kernel_rfl) (hK _ (Mo.refl _))))
       ·exact og_eq _ rfl (fun f wf hq hd K hK => go_run rfl (wo_un (fun v => Instr.extract v 1) (.tmp 55) (.tuple #[.int .i64 (ciN (cst g.s y.nm)), .string (ciS (cst g.s y.nm)), .bool false]) (.string (ciS (cst g.s y.nm))) (fun _ => rfl) (hd 8 rfl) (by kernel_rfl) (hK _ (Mo.refl _))))
       ·exact og_eq _ rfl (fun f wf hq hd K hK => go_run rfl (wo_un (fun v => Instr.extract v 2) (.tmp 55) (.tuple #[.int .i64 (ciN (cst g.s y.nm)), .string (ciS (cst g.s y.nm)), .bool false]) (.bool false) (fun _ => rfl) (hd 8 rfl) (by kernel_rfl) (hK _ (Mo.refl _))))
       ·exact og_eq _ rfl (fun f wf hq hd K hK => go_run rfl (wo_mv (.tmp 64) (.int .i64 (ciN (cst g.s y.nm))) (fun _ => rfl) (hd 9 rfl) (hK _ (Mo.refl _))))
       ·exact og_eq _ rfl (fun f wf hq hd K hK => go_run rfl (wo_mv (.tmp 65) (.string (ciS (cst g.s y.nm))) (fun _ => rfl) (hd 10 rfl) (hK _ (Mo.refl _))))
      intro kf43 u43 hq hR hne
      replace QO := QO.mo hq
      replace Q1 := Q1.mo hq
      replace M := M.trans hq
      clear hq hR hne
      refine wl_m (.tmp 66) (.bool false) ?_
      refine w_nil (xn_then (w_seq (w_reg ?_)))
      refine wl_m (.tmp 10) (.bool false) ?_
      refine w_nil (xn_then (w_condF rfl (w_skip (xn_blk (xn_then (w_reg ?_))))))
      refine wl_mv (.tmp 6) (.int .i64 ((n : Nat) : Int)) (fun _ => rfl) e6 rfl ?_
      refine wl_b .add 3 (.tmp 37) (.const (.int .i64 (1))) (.int .i64 ((n : Nat) : Int)) (.int .i64 (1)) (.int .i64 ((n + 1 : Nat) : Int)) (add1r (k := n) (by omega) _ _ _) ?_
      refine wl_m (.tmp 38) (.int .i64 ((n + 1 : Nat) : Int)) ?_
      refine w_nil ?_
      exact xn_loop (L.length - (n + 1)) (by omega) ⟨n + 1, rfl, by omega, by omega, e0, e1, e5, rfl, (by rw [← bq_skip (N := L.length) hnl (bqS_n hy (by omega) hg (if_neg hf30p) hf31)]; exact QO), M⟩
   ·skip
    have hnd : decide (n < L.length) = false := decide_eq_false hnl
    have hne : n = L.length := by omega
    refine w_seq (w_seq (w_reg ?_))
    refine wl_mv (.tmp 6) (.int .i64 ((n : Nat) : Int)) (fun _ => rfl) e6 rfl ?_
    refine wl_mv (.tmp 0) (.slice pl L.length cl) (fun _ => rfl) e0 rfl ?_
    refine wl_val (.int .i64 ((L.length : Nat) : Int)) (len22 _ _ _ _ _ (by exact rfl) _ _ _ _ _ _) rfl ?_
    refine wl_b .lss 3 (.tmp 33) (.tmp 35) (.int .i64 ((n : Nat) : Int)) (.int .i64 ((L.length : Nat) : Int)) (.bool false) (ltN hnd _ _ _) ?_
    refine w_nil (xn_then (w_condF rfl (w_exit (xx_then (xx_then (xx_blk (xn_then (w_seq (w_reg ?_)))))))))
    refine wl_mv (.tmp 5) (.slice (some ⟨ko, 0, none⟩) L.length L.length) (fun _ => rfl) e5 rfl ?_
    refine wl_m (.tmp 79) (.slice (some ⟨ko, 0, none⟩) L.length L.length) ?_
    refine w_nil (xn_then (w_ret ?_))
    exact w_ret1 _ (.slice (some ⟨ko, 0, none⟩) L.length L.length) rfl rfl ⟨some ⟨ko, 0, none⟩, L.length, by have e9 : bqs L s = bqL L s L.length := (by unfold bqs; rw [if_pos hsn]); rw [e9, bqL_len], by have e9 : bqs L s = bqL L s L.length := (by unfold bqs; rw [if_pos hsn]); rw [e9]; rw [hne, Nat.sub_self, List.replicate_zero, List.append_nil] at QO; exact SL.of_at (cells := Bg.cells) (L := bqL L s L.length) (fun _ => rfl) (by rw [bqL_len L s L.length]; unfold maxLen; omega) QO, (fun a e => by cases e; exact ⟨N_ko, QO.lt⟩), M⟩
  | false =>
   refine wl_call 30 [(.tmp 15)] _ [.slice pl L.length cl] (.bool false) rfl rfl (fun _ _ => by kernel_rfl) (cB hf1 (psnd_n _ (hL.mo M) hcl)) rfl ?_
   intro u1 hq
   replace M := M.trans hq
   clear hq
   refine wl_un (fun v => Op.unary .not v) (.tmp 16) (.bool false) (.bool true) (fun _ => rfl) rfl (by kernel_rfl) rfl ?_
   refine wl_pick (.tmp 14) (.const (.bool true)) (.tmp 17) false (.bool true) (fun _ => rfl) rfl rfl rfl ?_
   refine w_nil (xn_then (w_condT rfl (w_seq (w_reg ?_))))
   refine wl_m (.const (.slice none 0 0)) (.slice none 0 0) ?_
   refine w_nil (xn_then (w_ret (xr_then ?_)))
   exact w_ret1 _ (.slice none 0 0) rfl rfl ⟨none, 0, by rw [show bqs L s = [] from (by unfold bqs; rw [hf1]; rfl)]; rfl, by rw [show bqs L s = [] from (by unfold bqs; rw [hf1]; rfl)]; exact ⟨Nat.zero_le _, fun _ _ e => by cases e⟩, (fun a e => by cases e), M⟩
end Go.Proofs.YtnffhcjmpjajlaaDoor
