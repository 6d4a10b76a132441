/-
  The trees' laws; when a value that was reckoned stands for a value of the run.
-/
import Derived.Test.YtepfokoepibkcaaGreatEa
namespace Go.Proofs.YtepfokoepibkcaaGreat
namespace E
open Go.CheckFast (force force_eq)
structure TLaw {α β : Type} (n : Nat) (g : α → Nat → β) (s : α → Nat → β → α) : Prop where
  same : ∀ p t v, t < n → g (s p t v) t = v
  other : ∀ p t u v, t < n → u < n → t ≠ u → g (s p t v) u = g p u
theorem gS_eq {α β : Type} (g : α → Nat → β) (p : α × α) (t : Nat) : gS g p t = if t % 2 = 0 then g p.1 (t / 2) else g p.2 (t / 2) := by
  unfold gS
  show Nat.casesOn (motive := fun _ => β) (t % 2) (g p.1 (t / 2)) (fun _ => g p.2 (t / 2)) = _
  cases h : t % 2 with
  | zero => rfl
  | succ n => rw [if_neg (by omega)]
theorem sS_eq {α β : Type} (s : α → Nat → β → α) (p : α × α) (t : Nat) (v : β) : sS s p t v = if t % 2 = 0 then (s p.1 (t / 2) v, p.2) else (p.1, s p.2 (t / 2) v) := by
  unfold sS
  show Nat.casesOn (motive := fun _ => α × α) (t % 2) (s p.1 (t / 2) v, p.2) (fun _ => (p.1, s p.2 (t / 2) v)) = _
  cases h : t % 2 with
  | zero => rfl
  | succ n => rw [if_neg (by omega)]
theorem TLaw.up {α β : Type} {n : Nat} {g : α → Nat → β} {s : α → Nat → β → α} (h : TLaw n g s) : TLaw (2 * n) (gS g) (sS s) where
  same := fun p t v ht => by
    rw [gS_eq, sS_eq]
    by_cases e : t % 2 = 0
    · simp only [e, if_true]; exact h.same _ _ _ (by omega)
    · simp only [e, if_false]; exact h.same _ _ _ (by omega)
  other := fun p t u v ht hu hne => by
    rw [gS_eq, sS_eq, gS_eq]
    by_cases e : t % 2 = 0 <;> by_cases e' : u % 2 = 0
    · simp only [e, e', if_true]; exact h.other _ _ _ _ (by omega) (by omega) (by omega)
    · simp only [e, e', if_true, if_false]
    · simp only [e, e', if_true, if_false]
    · simp only [e, e', if_false]; exact h.other _ _ _ _ (by omega) (by omega) (by omega)
theorem fl0 : TLaw 1 fg0 fs0 := ⟨fun _ _ _ _ => rfl, fun _ t u _ ht hu hne => absurd (show t = u by omega) hne⟩
theorem hl0 : TLaw 1 hg0 hs0 := ⟨fun _ _ _ _ => rfl, fun _ t u _ ht hu hne => absurd (show t = u by omega) hne⟩
theorem fl5 : TLaw 32 fg5 fs5 := fl0.up.up.up.up.up
theorem fl8 : TLaw 256 fg8 fs8 := fl5.up.up.up
theorem hl12 : TLaw 4096 hg12 hs12 := hl0.up.up.up.up.up.up.up.up.up.up.up.up
theorem gS_const {α β : Type} {g : α → Nat → β} {e : α} {v : β} (h : ∀ t, g e t = v) (t : Nat) : gS g (e, e) t = v := by
  rw [gS_eq]; split <;> exact h _
theorem fe5_get : ∀ t, fg5 fe5 t = undef := gS_const (gS_const (gS_const (gS_const (gS_const fun _ => rfl))))
theorem fe8_get : ∀ t, fg8 fe8 t = undef := gS_const (gS_const (gS_const fe5_get))
theorem he12_get : ∀ t, hg12 he12 t = none := gS_const (gS_const (gS_const (gS_const (gS_const (gS_const (gS_const (gS_const (gS_const (gS_const (gS_const (gS_const fun _ => rfl)))))))))))
theorem blt_t {a b : Nat} (h : a < b) : Nat.blt a b = true := by rw [Nat.blt_eq]; exact h
theorem blt_f {a b : Nat} (h : ¬ a < b) : Nat.blt a b = false := by
  cases e : Nat.blt a b with
  | false => rfl
  | true => rw [Nat.blt_eq] at e; exact absurd e h
theorem fget_new (m t : Nat) : fget ⟨m, fe5, fe8⟩ t = undef := by
  unfold fget
  cases Nat.blt t 32 with
  | true => exact fe5_get t
  | false => cases Nat.blt t 256 with
    | true => exact fe8_get t
    | false => rfl
theorem fput_m (f : FT) (t : Nat) (v : Value) : (fput f t v).m = f.m := by
  unfold fput; cases Nat.blt t f.m <;> cases Nat.blt t 32 <;> rfl
theorem fget_out {f : FT} (t : Nat) (ht : 256 ≤ t) : fget f t = undef := by
  unfold fget; rw [blt_f (show ¬ t < 32 by omega), blt_f (show ¬ t < 256 by omega)]; rfl
theorem fget_same {f : FT} {t : Nat} (v : Value) (hm : f.m ≤ 256) (ht : t < f.m) : fget (fput f t v) t = v := by
  unfold fget fput
  rw [blt_t ht]
  by_cases h : t < 32
  · rw [blt_t h]; exact fl5.same _ _ _ h
  · rw [blt_f h, blt_t (show t < 256 by omega)]; exact fl8.same _ _ _ (by omega)
theorem fget_ne {f : FT} {t u : Nat} (v : Value) (hm : f.m ≤ 256) (h : t ≠ u) : fget (fput f t v) u = fget f u := by
  unfold fput
  by_cases ht : t < f.m
  · rw [blt_t ht]
    unfold fget
    by_cases h3 : t < 32 <;> by_cases h4 : u < 32
    · rw [blt_t h3, blt_t h4]; exact fl5.other _ _ _ _ h3 h4 h
    · rw [blt_t h3, blt_f h4]; rfl
    · rw [blt_f h3, blt_t h4]; rfl
    · rw [blt_f h3, blt_f h4]
      by_cases h5 : u < 256
      · rw [blt_t h5]; exact fl8.other _ _ _ _ (by omega) h5 h
      · rw [blt_f h5]; rfl
  · rw [blt_f ht]; rfl
theorem hget_same {h : HT} {i : Nat} (c : Option (List Value)) (hi : i < 4096) : hget (hs12 h i c) i = c := by
  unfold hget; rw [blt_t hi]; exact hl12.same _ _ _ hi
theorem hget_ne {h : HT} {i j : Nat} (c : Option (List Value)) (hi : i < 4096) (hj : i ≠ j) : hget (hs12 h i c) j = hget h j := by
  unfold hget
  by_cases h2 : j < 4096
  · rw [blt_t h2]; exact hl12.other _ _ _ _ hi h2 hj
  · rw [blt_f h2]; rfl
theorem hget_new (i : Nat) : hget he12 i = none := by
  unfold hget; cases Nat.blt i 4096 with
  | true => exact he12_get i
  | false => rfl
theorem hget_lt {h : HT} {i : Nat} {c : List Value} (e : hget h i = some c) : i < 4096 := by
  unfold hget at e
  by_cases h2 : i < 4096
  · exact h2
  · rw [blt_f h2] at e; cases e
/-! Values. -/
/-- Own numbers of blocks, where they lie, and how many cells they have. -/
abbrev K := Nat → Option (Nat × Nat)
def V0 (k : K) (v u : Value) : Prop := match v with
  | .pointer (some a) => a.spot = none ∧ ∃ b z, k a.block = some (b, z) ∧ u = .pointer (some ⟨b, a.off, none⟩)
  | .slice (some a) n e => a.spot = none ∧ ∃ b z c, k a.block = some (b, z) ∧ u = .slice (some ⟨b, a.off, none⟩) n c ∧ n ≤ c ∧ a.off + c * e ≤ z
  | .chan (some _) => True
  | .agg _ => False
  | .tuple _ => False
  | .func _ _ _ => False
  | .iface _ _ => False
  | .map (some _) => False
  | v => u = v
def LR (R : Value → Value → Prop) : List Value → List Value → Prop
  | [], l => l = []
  | x :: xs, l => ∃ y ys, l = y :: ys ∧ R x y ∧ LR R xs ys
def VR (k : K) : Nat → Value → Value → Prop
  | 0 => V0 k
  | d + 1 => fun v u => match v with
    | .agg cs => ∃ us : Array Value, u = .agg us ∧ LR (VR k d) cs.toList us.toList
    | .tuple cs => ∃ us : Array Value, u = .tuple us ∧ LR (VR k d) cs.toList us.toList
    | .func f a c => ∃ a' c' : Array Value, u = .func f a' c' ∧ LR (VR k d) a.toList a'.toList ∧ LR (VR k d) c.toList c'.toList
    | v => V0 k v u
def VX (k : K) (v u : Value) : Prop := ∃ d, VR k d v u
theorem LR.mono {R S : Value → Value → Prop} (h : ∀ v u, R v u → S v u) : ∀ l m, LR R l m → LR S l m
  | [], _, e => e
  | _ :: xs, _, ⟨y, ys, e, r, q⟩ => ⟨y, ys, e, h _ _ r, LR.mono h xs ys q⟩
theorem VR.up {k : K} : ∀ d v u, VR k d v u → VR k (d + 1) v u
  | 0, v, u, h => by
    cases v <;> first | exact h | exact (h : False).elim
  | d + 1, v, u, h => by
    cases v with
    | agg cs => obtain ⟨us, e, l⟩ := h; exact ⟨us, e, LR.mono (VR.up d) _ _ l⟩
    | tuple cs => obtain ⟨us, e, l⟩ := h; exact ⟨us, e, LR.mono (VR.up d) _ _ l⟩
    | func f a c => obtain ⟨us, us', e, l, l'⟩ := h; exact ⟨us, us', e, LR.mono (VR.up d) _ _ l, LR.mono (VR.up d) _ _ l'⟩
    | _ => exact h
theorem VR.le {k : K} {d e : Nat} (h : d ≤ e) {v u : Value} (r : VR k d v u) : VR k e v u := by
  induction h with
  | refl => exact r
  | step _ ih => exact VR.up _ _ _ ih
theorem V0.mono {k k' : K} (h : ∀ i p, k i = some p → k' i = some p) {v u : Value} (r : V0 k v u) : V0 k' v u := by
  cases v with
  | pointer a => cases a with
    | none => exact r
    | some a => obtain ⟨s, b, z, e, r⟩ := r; exact ⟨s, b, z, h _ _ e, r⟩
  | slice a n c => cases a with
    | none => exact r
    | some a => obtain ⟨s, b, z, c, e, r⟩ := r; exact ⟨s, b, z, c, h _ _ e, r⟩
  | chan a => cases a <;> exact r
  | map a => cases a <;> exact r
  | _ => exact r
theorem VR.mono {k k' : K} (h : ∀ i p, k i = some p → k' i = some p) : ∀ d v u, VR k d v u → VR k' d v u
  | 0, _, _, r => V0.mono h r
  | d + 1, v, u, r => by
    cases v with
    | agg cs => obtain ⟨us, e, l⟩ := r; exact ⟨us, e, LR.mono (VR.mono h d) _ _ l⟩
    | tuple cs => obtain ⟨us, e, l⟩ := r; exact ⟨us, e, LR.mono (VR.mono h d) _ _ l⟩
    | func f a c => obtain ⟨us, us', e, l, l'⟩ := r; exact ⟨us, us', e, LR.mono (VR.mono h d) _ _ l, LR.mono (VR.mono h d) _ _ l'⟩
    | pointer a => exact V0.mono (v := .pointer a) h r
    | slice a n c => exact V0.mono (v := .slice a n c) h r
    | chan a => exact V0.mono (v := .chan a) h r
    | map a => exact V0.mono (v := .map a) h r
    | _ => exact r
theorem VX.mono {k k' : K} (h : ∀ i p, k i = some p → k' i = some p) {v u : Value} (r : VX k v u) : VX k' v u := ⟨r.choose, VR.mono h _ _ _ r.choose_spec⟩
theorem LX.mono {k k' : K} (h : ∀ i p, k i = some p → k' i = some p) {l m : List Value} (r : LR (VX k) l m) : LR (VX k') l m := LR.mono (fun _ _ => VX.mono h) _ _ r
/-- One depth for all. -/
theorem LR.deep {k : K} : ∀ l m, LR (VX k) l m → ∃ d, LR (VR k d) l m
  | [], _, e => ⟨0, e⟩
  | x :: xs, _, ⟨y, ys, e, ⟨d, r⟩, q⟩ => by
    obtain ⟨d', q'⟩ := LR.deep xs ys q
    exact ⟨max d d', y, ys, e, VR.le (by omega) r, LR.mono (fun _ _ => VR.le (by omega)) _ _ q'⟩
theorem LR.flat {k : K} {d : Nat} {l m : List Value} (h : LR (VR k d) l m) : LR (VX k) l m := LR.mono (fun _ _ r => ⟨d, r⟩) _ _ h
theorem VX.agg {k : K} {cs us : List Value} (h : LR (VX k) cs us) : VX k (.agg cs.toArray) (.agg us.toArray) := by
  obtain ⟨d, h⟩ := LR.deep _ _ h; exact ⟨d + 1, _, rfl, by simpa using h⟩
theorem VX.tuple {k : K} {cs us : List Value} (h : LR (VX k) cs us) : VX k (.tuple cs.toArray) (.tuple us.toArray) := by
  obtain ⟨d, h⟩ := LR.deep _ _ h; exact ⟨d + 1, _, rfl, by simpa using h⟩
theorem VX.func {k : K} {f : Fn} {cs us : List Value} (h : LR (VX k) cs us) : VX k (.func f #[] cs.toArray) (.func f #[] us.toArray) := by
  obtain ⟨d, h⟩ := LR.deep _ _ h; exact ⟨d + 1, _, _, rfl, by simp [LR], by simpa using h⟩
theorem VX.agg_inv {k : K} {cs : Array Value} {u : Value} (h : VX k (.agg cs) u) : ∃ us : List Value, u = .agg us.toArray ∧ LR (VX k) cs.toList us := by
  obtain ⟨d, h⟩ := h
  cases d with
  | zero => exact (h : False).elim
  | succ d => obtain ⟨us, e, l⟩ := h; exact ⟨us.toList, by simpa using e, l.flat⟩
theorem VX.tuple_inv {k : K} {cs : Array Value} {u : Value} (h : VX k (.tuple cs) u) : ∃ us : List Value, u = .tuple us.toArray ∧ LR (VX k) cs.toList us := by
  obtain ⟨d, h⟩ := h
  cases d with
  | zero => exact (h : False).elim
  | succ d => obtain ⟨us, e, l⟩ := h; exact ⟨us.toList, by simpa using e, l.flat⟩
theorem VX.func_inv {k : K} {f : Fn} {a c : Array Value} {u : Value} (h : VX k (.func f a c) u) : ∃ a' c' : List Value, u = .func f a'.toArray c'.toArray ∧ LR (VX k) a.toList a' ∧ LR (VX k) c.toList c' := by
  obtain ⟨d, h⟩ := h
  cases d with
  | zero => exact (h : False).elim
  | succ d => obtain ⟨us, us', e, l, l'⟩ := h; exact ⟨us.toList, us'.toList, by simpa using e, l.flat, l'.flat⟩
/-- Values without parts. -/
theorem VX.v0 {k : K} {v u : Value} (h : VX k v u) (hv : match v with | .agg _ => False | .tuple _ => False | .func _ _ _ => False | _ => True) : V0 k v u := by
  obtain ⟨d, h⟩ := h
  cases d with
  | zero => exact h
  | succ d => cases v <;> first | exact hv.elim | exact h
theorem VX.of0 {k : K} {v u : Value} (h : V0 k v u) : VX k v u := ⟨0, h⟩
theorem VX.ptr_inv {k : K} {a : Addr} {u : Value} (h : VX k (.pointer (some a)) u) : a.spot = none ∧ ∃ b z, k a.block = some (b, z) ∧ u = .pointer (some ⟨b, a.off, none⟩) := h.v0 trivial
theorem VX.slc_inv {k : K} {a : Addr} {n e : Nat} {u : Value} (h : VX k (.slice (some a) n e) u) : a.spot = none ∧ ∃ b z c, k a.block = some (b, z) ∧ u = .slice (some ⟨b, a.off, none⟩) n c ∧ n ≤ c ∧ a.off + c * e ≤ z := h.v0 trivial
theorem VX.int_inv {k : K} {a : IntKind} {b : Int} {u : Value} (h : VX k (.int a b) u) : u = .int a b := h.v0 trivial
theorem VX.bool_inv {k : K} {b : Bool} {u : Value} (h : VX k (.bool b) u) : u = .bool b := h.v0 trivial
theorem VX.str_inv {k : K} {b : ByteArray} {u : Value} (h : VX k (.string b) u) : u = .string b := h.v0 trivial
theorem VX.nilslc_inv {k : K} {n c : Nat} {u : Value} (h : VX k (.slice none n c) u) : u = .slice none n c := h.v0 trivial
theorem flat1_eq {k : K} {v u : Value} (h : VX k v u) (hf : flat1 v = true) : u = v := by
  cases v <;> first | exact h.int_inv | exact h.bool_inv | exact h.str_inv | cases hf
theorem flatL_eq {k : K} : ∀ {l m : List Value}, LR (VX k) l m → l.all flat1 = true → m = l
  | [], _, e, _ => e
  | x :: xs, _, ⟨y, ys, e, r, q⟩, hf => by
    simp only [List.all_cons, Bool.and_eq_true] at hf
    rw [e, flat1_eq r hf.1, flatL_eq q hf.2]
theorem flat_eq {k : K} {v u : Value} (h : VX k v u) (hf : flat v = true) : u = v := by
  cases v with
  | agg cs =>
    obtain ⟨us, e, l⟩ := h.agg_inv
    rw [e, flatL_eq l hf]
  | _ => exact flat1_eq h hf
theorem flat1_vx {k : K} {v : Value} (hf : flat1 v = true) : VX k v v := by
  cases v <;> first | exact VX.of0 rfl | cases hf
theorem cok1_vx {k : K} {v : Value} (hf : cok1 v = true) : VX k v v := by
  cases v with
  | pointer a => cases a <;> first | exact VX.of0 rfl | cases hf
  | slice a _ _ => cases a <;> first | exact VX.of0 rfl | cases hf
  | map a => cases a <;> first | exact VX.of0 rfl | cases hf
  | _ => first | exact VX.of0 rfl | cases hf
theorem cokL_vx {k : K} : ∀ {l : List Value}, l.all cok1 = true → LR (VX k) l l
  | [], _ => rfl
  | x :: xs, hf => by
    simp only [List.all_cons, Bool.and_eq_true] at hf
    exact ⟨x, xs, rfl, cok1_vx hf.1, cokL_vx hf.2⟩
theorem cok_vx {k : K} {v : Value} (hf : cok v = true) : VX k v v := by
  cases v with
  | agg cs => have := VX.agg (cokL_vx (k := k) (l := cs.toList) hf); simpa using this
  | _ => exact cok1_vx hf
theorem unk_vx {k : K} {u : Value} : VX k unk u := VX.of0 trivial
theorem undef_vx {k : K} : VX k undef undef := VX.tuple (cs := []) (us := []) rfl
end E
end Go.Proofs.YtepfokoepibkcaaGreat
