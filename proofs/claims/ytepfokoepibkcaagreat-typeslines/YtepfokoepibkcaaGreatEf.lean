/-
  Operations that read, write and make blocks.
-/
import Derived.Test.YtepfokoepibkcaaGreatEe
import Derived.Laws.BytesString
namespace Go.Proofs.YtepfokoepibkcaaGreat
namespace E
open Go.CheckFast (force force_eq)
theorem drop'_eq : ∀ (n : Nat) (l : List Value), drop' n l = l.drop n
  | 0, _ => rfl
  | _ + 1, [] => rfl
  | n + 1, _ :: l => by simp only [drop', drop'_eq n l, List.drop_succ_cons]
theorem take'_some : ∀ {n : Nat} {l r : List Value}, take' n l = some r → r = l.take n ∧ r.length = n
  | 0, _, _, e => by cases e; exact ⟨by simp, rfl⟩
  | n + 1, [], _, e => by cases e
  | n + 1, x :: l, r, e => by
    simp only [take'] at e
    cases h : take' n l with
    | none => rw [h] at e; cases e
    | some r' =>
      rw [h] at e
      cases e
      obtain ⟨h1, h2⟩ := take'_some h
      exact ⟨by rw [h1]; rfl, by simp [h2]⟩
theorem lay'_some : ∀ {us l r : List Value}, lay' us l = some r → r = us ++ l.drop us.length ∧ us.length ≤ l.length
  | [], _, _, e => by cases e; exact ⟨rfl, Nat.zero_le _⟩
  | u :: us, [], _, e => by cases e
  | u :: us, x :: l, r, e => by
    simp only [lay'] at e
    cases h : lay' us l with
    | none => rw [h] at e; cases e
    | some r' =>
      rw [h] at e
      cases e
      obtain ⟨h1, h2⟩ := lay'_some h
      exact ⟨by rw [h1]; rfl, by simpa using h2⟩
theorem over_some : ∀ {n : Nat} {us l r : List Value}, over n us l = some r → r = l.take n ++ us ++ l.drop (n + us.length) ∧ n + us.length ≤ l.length
  | 0, _, _, _, e => by
    obtain ⟨h1, h2⟩ := lay'_some e
    exact ⟨by simpa using h1, by omega⟩
  | n + 1, _, [], _, e => by cases e
  | n + 1, us, x :: l, r, e => by
    simp only [over] at e
    cases h : over n us l with
    | none => rw [h] at e; cases e
    | some r' =>
      rw [h] at e
      cases e
      obtain ⟨h1, h2⟩ := over_some h
      refine ⟨?_, by simp; omega⟩
      rw [h1, show n + 1 + us.length = (n + us.length) + 1 by omega]
      rfl
theorem allOne_mem : ∀ {l : List Value}, allOne l = true → ∀ v ∈ l, one v = true
  | [], _, _, h => by cases h
  | x :: l, e, v, h => by
    simp only [allOne] at e
    obtain ⟨h1, h2⟩ : one x = true ∧ allOne l = true := by cases hx : one x <;> rw [hx] at e <;> first | cases e | exact ⟨rfl, e⟩
    rcases List.mem_cons.1 h with rfl | h
    · exact h1
    · exact allOne_mem h2 v h
theorem one_rel {k : K} {v u : Value} (h : VX k v u) (h1 : one v = true) : u.oneCell' = true ∧ u.cells = #[u] := by
  cases v with
  | agg _ => cases h1
  | tuple _ => cases h1
  | chan _ => cases h1
  | func f a c => obtain ⟨a', c', e, _⟩ := h.func_inv; rw [e]; exact ⟨rfl, rfl⟩
  | pointer a => cases a with
    | none => rw [show u = .pointer none from h.v0 trivial]; exact ⟨rfl, rfl⟩
    | some a => obtain ⟨_, b, z, _, e⟩ := h.ptr_inv; rw [e]; exact ⟨rfl, rfl⟩
  | slice a n c => cases a with
    | none => rw [h.nilslc_inv]; exact ⟨rfl, rfl⟩
    | some a => obtain ⟨_, b, z, c, _, e, _⟩ := h.slc_inv; rw [e]; exact ⟨rfl, rfl⟩
  | map a => cases a with
    | none => rw [show u = .map none from h.v0 trivial]; exact ⟨rfl, rfl⟩
    | some a => exact (h.v0 trivial : False).elim
  | iface t v => exact (h.v0 trivial : False).elim
  | bool b => rw [h.bool_inv]; exact ⟨rfl, rfl⟩
  | int a b => rw [h.int_inv]; exact ⟨rfl, rfl⟩
  | string b => rw [h.str_inv]; exact ⟨rfl, rfl⟩
  | float a b => rw [show u = .float a b from h.v0 trivial]; exact ⟨rfl, rfl⟩
  | complex a b c => rw [show u = .complex a b c from h.v0 trivial]; exact ⟨rfl, rfl⟩
  | nilFunc => rw [show u = .nilFunc from h.v0 trivial]; exact ⟨rfl, rfl⟩
  | nilIface => rw [show u = .nilIface from h.v0 trivial]; exact ⟨rfl, rfl⟩
theorem ones_rel {k : K} : ∀ {l m : List Value}, LR (VX k) l m → allOne l = true → ∀ u ∈ m, u.oneCell' = true
  | [], _, e, _, u, hu => by rw [e] at hu; cases hu
  | x :: xs, _, ⟨y, ys, e, r, q⟩, ho, u, hu => by
    subst e
    simp only [allOne] at ho
    obtain ⟨h1, h2⟩ : one x = true ∧ allOne xs = true := by cases hx : one x <;> rw [hx] at ho <;> first | cases ho | exact ⟨rfl, ho⟩
    rcases List.mem_cons.1 hu with rfl | hu
    · exact (one_rel r h1).1
    · exact ones_rel q h2 u hu
theorem cells_rel {k : K} {v u : Value} (h : VX k v u) (ho : allOne v.cells.toList = true) : LR (VX k) v.cells.toList u.cells.toList ∧ ∀ c ∈ u.cells.toList, c.oneCell' = true := by
  have key : (∀ cs, v ≠ .agg cs) → LR (VX k) v.cells.toList u.cells.toList := fun hv => by
    have hc : v.cells = #[v] := by cases v <;> first | rfl | exact absurd rfl (hv _)
    rw [hc] at ho ⊢
    have h1 : one v = true := allOne_mem ho v (by simp)
    rw [(one_rel h h1).2]
    exact ⟨u, [], rfl, h, rfl⟩
  have h2 : LR (VX k) v.cells.toList u.cells.toList := by
    cases v with
    | agg cs => obtain ⟨us, e, l⟩ := h.agg_inv; rw [e]; simpa [Value.cells] using l
    | _ => exact key (fun cs => by simp)
  exact ⟨h2, ones_rel h2 ho⟩
theorem zok_rel {k : K} {z : Value} (h : zok z = true) : LR (VX k) z.cells.toList z.cells.toList := cokL_vx h
/-! A block of the world. -/
theorem cell_of {W : World} {b : Nat} {cs : List Value} {ty : TypeId} (h : W.heap[b]? = some (.cells cs.toArray ty (0, 0))) (o : Nat) : W.cell? ⟨b, o, none⟩ = cs[o]? := by
  simp [World.cell?, h]
theorem fz_of {W : World} {b : Nat} {cs : List Value} {ty : TypeId} (h : W.heap[b]? = some (.cells cs.toArray ty (0, 0))) (o : Nat) : W.frozen? ⟨b, o, none⟩ = false := by
  simp [World.frozen?, h]
theorem heap_setCells_other {W : World} {b c : Nat} (hc : c ≠ b) : ∀ (l : List Value) (o : Nat), (W.setCells b o l).heap[c]? = W.heap[c]? := by
  intro l
  induction l generalizing W with
  | nil => intro o; rfl
  | cons v l ih =>
    intro o
    rw [World.setCells, ih]
    simp only [World.setCell, Array.getElem?_modify]
    rw [if_neg (Ne.symm hc)]
theorem heap_setCells {b : Nat} {ty : TypeId} : ∀ (l : List Value) (o : Nat) (W : World) (cs : List Value), W.heap[b]? = some (.cells cs.toArray ty (0, 0)) → o + l.length ≤ cs.length →
    (W.setCells b o l).heap[b]? = some (.cells (cs.take o ++ l ++ cs.drop (o + l.length)).toArray ty (0, 0))
  | [], o, W, cs, h, _ => by simpa [World.setCells] using h
  | v :: l, o, W, cs, h, hl => by
    have h1 : (W.setCell ⟨b, o, none⟩ v).heap[b]? = some (.cells (cs.set o v).toArray ty (0, 0)) := by
      simp [World.setCell, Array.getElem?_modify, h]
    rw [World.setCells, heap_setCells l (o + 1) _ (cs.set o v) h1 (by simp at hl ⊢; omega)]
    have ho : o < cs.length := by simp at hl; omega
    have e1 : (cs.set o v).take (o + 1) = cs.take o ++ [v] := by
      rw [List.take_add_one, List.take_set_of_le (Nat.le_refl _)]
      simp [ho]
    have e2 : (cs.set o v).drop (o + 1 + l.length) = cs.drop (o + (v :: l).length) := by
      rw [List.drop_set_of_lt (by omega)]
      congr 1
      simp; omega
    rw [e1, e2]
    simp
theorem size_setCells (b : Nat) : ∀ (l : List Value) (o : Nat) (W : World), (W.setCells b o l).heap.size = W.heap.size
  | [], _, _ => rfl
  | v :: r, o, W => by rw [World.setCells, size_setCells b r]; simp [World.setCell]
theorem rest_setCells (b : Nat) : ∀ (l : List Value) (o : Nat) (W : World), (W.setCells b o l).os = W.os ∧ (W.setCells b o l).tape = W.tape ∧ (W.setCells b o l).output = W.output
  | [], _, _ => ⟨rfl, rfl, rfl⟩
  | v :: r, o, W => by rw [World.setCells]; exact rest_setCells b r (o + 1) _
/-! What reads, writes and makes. -/
theorem Ss.read (h : HT) (n r : Nat) : Ss h n h n r 0 := ⟨Nat.le_refl _, fun h => h, fun _ _ => rfl, fun _ h => absurd h tb_zero, fun _ h => absurd h tb_zero, fun _ _ h => h⟩
theorem Sd.read {h : HT} {n r : Nat} {k : K} {W : World} (H : HR k h W r) : Sd h n h n r 0 k W k W :=
  ⟨fun _ _ h => h, fun _ _ => rfl, H.sub (fun i hi => (tb_or.1 hi).resolve_right tb_zero), fun _ _ _ => rfl, fun _ _ _ h1 h2 => absurd h2 (by omega), Nat.le_refl _, rfl, rfl, rfl, fun _ => rfl⟩
/-- A new number for a block, new or one that was let go. -/
def upk (k : K) (n B Z : Nat) : K := fun i => if i = n then some (B, Z) else k i
section
variable {h h' : HT} {n r w : Nat} {cs : List Value}
theorem Ss.new (hn : tb w n) (hd : ∀ i, i ≠ n → hget h' i = hget h i ∨ (tb w i ∧ hget h' i = none)) (hw : ∀ i, tb w i → i = n ∨ (tb r i ∧ i < n)) : Ss h n h' (n + 1) r w where
  le := Nat.le_succ n
  nn := fun nn i hi => by
    rcases hd i (by omega) with e | e
    · rw [e]; exact nn i (by omega)
    · exact e.2
  same := fun i hi => by
    rcases hd i (fun e => hi (e ▸ hn)) with e | e
    · exact e
    · exact absurd e.1 hi
  old := fun i hi hlt => by
    rcases hw i hi with e | e
    · omega
    · exact e.1
  lt := fun i hi => by
    rcases hw i hi with e | e
    · omega
    · omega
  back := fun i hi ⟨cs, hl⟩ => by
    rcases hd i (by omega) with e | e
    · exact ⟨cs, by rw [← e]; exact hl⟩
    · rw [e.2] at hl; cases hl
theorem Sd.new {k : K} {W W' : World} {B : Nat} {us sp : List Value} {ty : TypeId} (nn : ∀ i, n ≤ i → hget h i = none) (hcs : hget h' n = some cs)
    (hd : ∀ i, i ≠ n → hget h' i = hget h i ∨ (tb w i ∧ hget h' i = none)) (hw : ∀ i, tb w i → i = n ∨ (tb r i ∧ i < n)) (hk : k n = none) (H : HR k h W r)
    (hB : W.heap.size ≤ B ∨ ∃ j z', tb w j ∧ j < n ∧ live h j ∧ ¬ live h' j ∧ k j = some (B, z')) (hW : W'.heap[B]? = some (.cells (us ++ sp).toArray ty (0, 0))) (hl : LR (VX k) cs us)
    (hf : ∀ b, b ≠ B → b < W.heap.size → W'.heap[b]? = W.heap[b]?) (hz : W.heap.size ≤ W'.heap.size) (h1 : W'.os = W.os) (h2 : W'.tape = W.tape) (h3 : W'.output = W.output) (h4 : ∀ a, W'.frozen? a = W.frozen? a) :
    Sd h n h' (n + 1) r w k W (upk k n B (us.length + sp.length)) W' := by
  have hext : ∀ i p, k i = some p → upk k n B (us.length + sp.length) i = some p := fun i p hp => by
    unfold upk
    rw [if_neg (fun e => by rw [e, hk] at hp; cases hp)]
    exact hp
  have hne : ∀ i, i ≠ n → upk k n B (us.length + sp.length) i = k i := fun i hi => if_neg hi
  have hself : upk k n B (us.length + sp.length) n = some (B, us.length + sp.length) := if_pos rfl
  -- old ones that live
  have old : ∀ i, i ≠ n → tb (Nat.lor r w) i → live h' i → tb r i ∧ live h i ∧ hget h' i = hget h i := fun i hi ht ⟨c, hl⟩ => by
    rcases hd i hi with e | e
    · refine ⟨?_, ⟨c, by rw [← e]; exact hl⟩, e⟩
      rcases tb_or.1 ht with ht | ht
      · exact ht
      · rcases hw i ht with e | e
        · exact absurd e hi
        · exact e.1
    · rw [e.2] at hl; cases hl
  have apart : ∀ i, i ≠ n → tb (Nat.lor r w) i → live h' i → ∀ b z, k i = some (b, z) → b ≠ B := fun i hi ht hl b z hb e => by
    obtain ⟨a1, a2, a3⟩ := old i hi ht hl
    rcases hB with hB | ⟨j, z', b1, b2, b3, b4, b5⟩
    · obtain ⟨b', z'', e1, e2⟩ := (H.rep i a1).lt a2
      rw [hb] at e1; cases e1
      omega
    · have hj : tb r j := by
        rcases hw j b1 with e | e
        · omega
        · exact e.1
      exact H.inj i j a1 hj a2 b3 (fun e => b4 (e ▸ hl)) b z B z' hb b5 e
  refine ⟨hext, fun i hi => hne i (by omega), ⟨fun i ht c hc => ?_, fun i j hi hj li lj hij b z b' z' ki kj => ?_⟩, fun b hb hj => ?_, fun i b z hi hi2 hl hki => ?_, hz, h1, h2, h3, h4⟩
  · by_cases e : i = n
    · subst e
      rw [hcs] at hc; cases hc
      exact ⟨B, us, sp, ty, hself, hW, LX.mono hext hl⟩
    · obtain ⟨a1, a2, a3⟩ := old i e ht ⟨c, hc⟩
      rw [a3] at hc
      obtain ⟨b, vs, sp', ty', e1, e2, e3⟩ := H.rep i a1 c hc
      refine ⟨b, vs, sp', ty', hext _ _ e1, ?_, LX.mono hext e3⟩
      rw [hf b (apart i e ht ⟨c, by rw [a3]; exact hc⟩ b _ e1) (Array.getElem?_eq_some_iff.1 e2).1, e2]
  · by_cases e : i = n
    · subst e
      rw [hself] at ki; cases ki
      rw [hne j (Ne.symm hij)] at kj
      exact fun e => apart j (Ne.symm hij) hj lj b' z' kj e.symm
    · rw [hne i e] at ki
      by_cases e' : j = n
      · subst e'
        rw [hself] at kj; cases kj
        exact apart i e hi li b z ki
      · rw [hne j e'] at kj
        obtain ⟨a1, a2, _⟩ := old i e hi li
        obtain ⟨c1, c2, _⟩ := old j e' hj lj
        exact H.inj i j a1 c1 a2 c2 hij b z b' z' ki kj
  · refine hf b (fun e => ?_) hb
    rcases hB with hB | ⟨j, z', b1, b2, b3, b4, b5⟩
    · omega
    · exact hj j z' b1 b3 (by rw [e]; exact b5)
  · have : i = n := by omega
    subst this
    rw [hself] at hki; cases hki
    exact hB
end
/-- Other cells in a block that lives. -/
theorem Sd.write {h : HT} {n i : Nat} {k : K} {W W' : World} {cs cs' : List Value} {B Z : Nat} {us sp : List Value} {ty : TypeId} (hi : i < 4096) (hcs : hget h i = some cs) (hk : k i = some (B, Z))
    (hW : W'.heap[B]? = some (.cells (us ++ sp).toArray ty (0, 0))) (hZ : us.length + sp.length = Z) (hl : LR (VX k) cs' us)
    (hf : ∀ b, b ≠ B → b < W.heap.size → W'.heap[b]? = W.heap[b]?) (hz : W.heap.size ≤ W'.heap.size) (h1 : W'.os = W.os) (h2 : W'.tape = W.tape) (h3 : W'.output = W.output) (h4 : ∀ a, W'.frozen? a = W.frozen? a) :
    Sd h n (hs12 h i (some cs')) n (bit i) (bit i) k W k W' := by
  refine ⟨fun _ _ h => h, fun _ _ => rfl, ⟨fun j hj c hc => ?_, fun a b ha hb _ _ hab => ?_⟩, fun b hb hj => hf b (fun e => hj i Z (tb_bit.2 rfl) ⟨cs, hcs⟩ (by rw [e]; exact hk)) hb, fun _ _ _ h1 h2 => absurd h2 (by omega), hz, h1, h2, h3, h4⟩
  · have : i = j := by rcases tb_or.1 hj with h | h <;> exact tb_bit.1 h
    subst this
    rw [hget_same _ hi] at hc
    cases hc
    exact ⟨B, us, sp, ty, by rw [hk, hZ], hW, hl⟩
  · have e1 : i = a := by rcases tb_or.1 ha with h | h <;> exact tb_bit.1 h
    have e2 : i = b := by rcases tb_or.1 hb with h | h <;> exact tb_bit.1 h
    exact absurd (e1.symm.trans e2) hab
theorem Ss.write {h : HT} {n i : Nat} {cs cs' : List Value} (nn : ∀ i, n ≤ i → hget h i = none) (hi : i < 4096) (hcs : hget h i = some cs) : Ss h n (hs12 h i (some cs')) n (bit i) (bit i) := by
  have hin : i < n := by
    rcases Nat.lt_or_ge i n with h' | h'
    · exact h'
    · rw [nn i h'] at hcs; cases hcs
  refine ⟨Nat.le_refl _, fun nn j hj => ?_, fun j hj => hget_ne _ hi (fun e => hj (tb_bit.2 e)), fun j hj _ => hj, fun j hj => by rw [← tb_bit.1 hj]; exact hin, fun j hj hl => ?_⟩
  · rw [hget_ne _ hi (by omega)]; exact nn j hj
  · by_cases e : i = j
    · subst e; exact ⟨cs, hcs⟩
    · obtain ⟨c, hc⟩ := hl
      rw [hget_ne _ hi e] at hc; exact ⟨c, hc⟩
end E
end Go.Proofs.YtepfokoepibkcaaGreat
