/-
  Memory that was reckoned against memory of the run; one thing done behind another.
-/
import Derived.Test.YtepfokoepibkcaaGreatEb
namespace Go.Proofs.YtepfokoepibkcaaGreat
namespace E
open Go.CheckFast (force force_eq)
def tb (m i : Nat) : Prop := m.testBit i = true
theorem tb_or {a b i : Nat} : tb (Nat.lor a b) i ↔ tb a i ∨ tb b i := by
  unfold tb
  show (a ||| b).testBit i = true ↔ _
  rw [Nat.testBit_or, Bool.or_eq_true]
theorem tb_zero {i : Nat} : ¬ tb 0 i := by unfold tb; simp
theorem tb_bit {i j : Nat} : tb (bit i) j ↔ i = j := by
  unfold tb bit
  show (1 <<< i).testBit j = true ↔ _
  rw [Nat.one_shiftLeft, Nat.testBit_two_pow]
  simp
def live (h : HT) (i : Nat) : Prop := ∃ cs, hget h i = some cs
theorem not_live {h : HT} {i : Nat} (e : hget h i = none) : ¬ live h i := fun ⟨cs, h'⟩ => by rw [e] at h'; cases h'
/-- A block lies there. -/
def Rp (k : K) (h : HT) (W : World) (i : Nat) : Prop := ∀ cs, hget h i = some cs → ∃ b us sp ty, k i = some (b, us.length + sp.length) ∧ W.heap[b]? = some (.cells (us ++ sp).toArray ty (0, 0)) ∧ LR (VX k) cs us
structure HR (k : K) (h : HT) (W : World) (m : Nat) : Prop where
  rep : ∀ i, tb m i → Rp k h W i
  inj : ∀ i j, tb m i → tb m j → live h i → live h j → i ≠ j → ∀ b z b' z', k i = some (b, z) → k j = some (b', z') → b ≠ b'
theorem HR.sub {k : K} {h : HT} {W : World} {m m' : Nat} (H : HR k h W m) (s : ∀ i, tb m' i → tb m i) : HR k h W m' :=
  ⟨fun i hi => H.rep i (s i hi), fun i j hi hj => H.inj i j (s i hi) (s j hj)⟩
theorem HR.none {k : K} {h : HT} {W : World} : HR k h W 0 := ⟨fun _ h => absurd h tb_zero, fun _ _ h => absurd h tb_zero⟩
theorem Rp.lt {k : K} {h : HT} {W : World} {i : Nat} (r : Rp k h W i) (l : live h i) : ∃ b z, k i = some (b, z) ∧ b < W.heap.size := by
  obtain ⟨cs, e⟩ := l
  obtain ⟨b, us, sp, ty, h1, h2, _⟩ := r cs e
  exact ⟨b, _, h1, (Array.getElem?_eq_some_iff.1 h2).1⟩
/-- What is done, by itself. -/
structure Ss (h : HT) (n : Nat) (h' : HT) (n' r w : Nat) : Prop where
  le : n ≤ n'
  nn : (∀ i, n ≤ i → hget h i = Option.none) → ∀ i, n' ≤ i → hget h' i = Option.none
  same : ∀ i, ¬ tb w i → hget h' i = hget h i
  old : ∀ i, tb w i → i < n → tb r i
  lt : ∀ i, tb w i → i < n'
  back : ∀ i, i < n → live h' i → live h i
/-- What is done to a world. -/
structure Sd (h : HT) (n : Nat) (h' : HT) (n' r w : Nat) (k : K) (W : World) (k' : K) (W' : World) : Prop where
  ext : ∀ i p, k i = some p → k' i = some p
  dom : ∀ i, i < n ∨ n' ≤ i → k' i = k i
  rep : HR k' h' W' (Nat.lor r w)
  frm : ∀ b, b < W.heap.size → (∀ j z, tb w j → live h j → k j ≠ some (b, z)) → W'.heap[b]? = W.heap[b]?
  fresh : ∀ i b z, n ≤ i → i < n' → live h' i → k' i = some (b, z) → W.heap.size ≤ b ∨ ∃ j z', tb w j ∧ j < n ∧ live h j ∧ ¬ live h' j ∧ k j = some (b, z')
  size : W.heap.size ≤ W'.heap.size
  os : W'.os = W.os
  tape : W'.tape = W.tape
  output : W'.output = W.output
  fz : ∀ a, W'.frozen? a = W.frozen? a
theorem Ss.refl (h : HT) (n : Nat) : Ss h n h n 0 0 := ⟨Nat.le_refl _, fun h => h, fun _ _ => rfl, fun _ h => absurd h tb_zero, fun _ h => absurd h tb_zero, fun _ _ h => h⟩
theorem Sd.refl (h : HT) (n : Nat) (k : K) (W : World) : Sd h n h n 0 0 k W k W :=
  ⟨fun _ _ h => h, fun _ _ => rfl, HR.none, fun _ _ _ => rfl, fun _ _ _ h1 h2 => absurd h2 (by omega), Nat.le_refl _, rfl, rfl, rfl, fun _ => rfl⟩
theorem Ss.trans {h h1 h2 : HT} {n n1 n2 r1 w1 r2 w2 : Nat} (s : Ss h n h1 n1 r1 w1) (t : Ss h1 n1 h2 n2 r2 w2) : Ss h n h2 n2 (Nat.lor r1 r2) (Nat.lor w1 w2) where
  le := Nat.le_trans s.le t.le
  nn := fun h => t.nn (s.nn h)
  same := fun i hi => by rw [tb_or] at hi; rw [t.same i (fun h => hi (Or.inr h)), s.same i (fun h => hi (Or.inl h))]
  old := fun i hi hn => by
    rw [tb_or] at hi ⊢
    rcases hi with hi | hi
    · exact Or.inl (s.old i hi hn)
    · exact Or.inr (t.old i hi (Nat.lt_of_lt_of_le hn s.le))
  lt := fun i hi => by
    rw [tb_or] at hi
    rcases hi with hi | hi
    · exact Nat.lt_of_lt_of_le (s.lt i hi) t.le
    · exact t.lt i hi
  back := fun i hi hl => s.back i hi (t.back i (Nat.lt_of_lt_of_le hi s.le) hl)
section
variable {h h1 h2 : HT} {n n1 n2 r1 w1 r2 w2 x : Nat} {k k1 k2 : K} {W W1 W2 : World}
/-- Blocks that were not looked at stay beside those that were. -/
theorem Sd.next (s : Ss h n h1 n1 r1 w1) (d : Sd h n h1 n1 r1 w1 k W k1 W1) (nn : ∀ i, n ≤ i → hget h i = Option.none) (H : HR k h W (Nat.lor r1 x)) : HR k1 h1 W1 (Nat.lor (Nat.lor r1 w1) x) := by
  have lo : ∀ j, live h j → j < n := fun j hl => by
    rcases Nat.lt_or_ge j n with h' | h'
    · exact h'
    · exact absurd hl (not_live (nn j h'))
  have lo1 : ∀ j, live h1 j → j < n1 := fun j hl => by
    rcases Nat.lt_or_ge j n1 with h' | h'
    · exact h'
    · exact absurd hl (not_live (s.nn nn j h'))
  -- one that was not looked at, against one that was
  have mix : ∀ i j, ¬ tb (Nat.lor r1 w1) i → tb x i → (tb (Nat.lor r1 w1) j ∨ tb x j) → live h1 i → live h1 j → i ≠ j → ∀ b z b' z', k1 i = some (b, z) → k1 j = some (b', z') → b ≠ b' := by
    intro i j hi hxi hj li lj hne b z b' z' ki kj
    have hiw : ¬ tb w1 i := fun h => hi (tb_or.2 (Or.inr h))
    have li0 : live h i := by obtain ⟨cs, e⟩ := li; exact ⟨cs, by rw [← s.same i hiw]; exact e⟩
    have hin := lo i li0
    have ki0 : k i = some (b, z) := by rw [← d.dom i (Or.inl hin)]; exact ki
    rcases Nat.lt_or_ge j n with hjn | hjn
    · have lj0 := s.back j hjn lj
      have kj0 : k j = some (b', z') := by rw [← d.dom j (Or.inl hjn)]; exact kj
      refine H.inj i j (tb_or.2 (Or.inr hxi)) ?_ li0 lj0 hne b z b' z' ki0 kj0
      rcases hj with hj | hj
      · rcases tb_or.1 hj with hj | hj
        · exact tb_or.2 (Or.inl hj)
        · exact tb_or.2 (Or.inl (s.old j hj hjn))
      · exact tb_or.2 (Or.inr hj)
    · rcases d.fresh j b' z' hjn (lo1 j lj) lj kj with hb | ⟨j0, z0, hw0, hn0, hl0, _, hk0⟩
      · obtain ⟨b2, z2, e2, hlt⟩ := (H.rep i (tb_or.2 (Or.inr hxi))).lt li0
        rw [ki0] at e2; cases e2
        omega
      · exact H.inj i j0 (tb_or.2 (Or.inr hxi)) (tb_or.2 (Or.inl (s.old j0 hw0 hn0))) li0 hl0 (fun e => hiw (e ▸ hw0)) b z b' z0 ki0 hk0
  refine ⟨fun i hi => ?_, fun i j hi hj li lj hne b z b' z' ki kj => ?_⟩
  · by_cases hin : tb (Nat.lor r1 w1) i
    · exact d.rep.rep i hin
    · have hxi : tb x i := (tb_or.1 hi).resolve_left hin
      have hiw : ¬ tb w1 i := fun h => hin (tb_or.2 (Or.inr h))
      intro cs e
      rw [s.same i hiw] at e
      obtain ⟨b, us, sp, ty, e1, e2, e3⟩ := H.rep i (tb_or.2 (Or.inr hxi)) cs e
      refine ⟨b, us, sp, ty, d.ext _ _ e1, ?_, LX.mono d.ext e3⟩
      rw [d.frm b (Array.getElem?_eq_some_iff.1 e2).1 (fun j z hj hl hk => ?_), e2]
      exact H.inj i j (tb_or.2 (Or.inr hxi)) (tb_or.2 (Or.inl (s.old j hj (lo j hl)))) ⟨cs, e⟩ hl (fun e => hiw (e ▸ hj)) _ _ _ _ e1 hk rfl
  · by_cases hi' : tb (Nat.lor r1 w1) i
    · by_cases hj' : tb (Nat.lor r1 w1) j
      · exact d.rep.inj i j hi' hj' li lj hne b z b' z' ki kj
      · exact fun e => mix j i hj' ((tb_or.1 hj).resolve_left hj') (Or.inl hi') lj li (Ne.symm hne) b' z' b z kj ki e.symm
    · exact mix i j hi' ((tb_or.1 hi).resolve_left hi') (tb_or.1 hj) li lj hne b z b' z' ki kj
theorem Sd.trans (s : Ss h n h1 n1 r1 w1) (d : Sd h n h1 n1 r1 w1 k W k1 W1) (t : Ss h1 n1 h2 n2 r2 w2) (e : Sd h1 n1 h2 n2 r2 w2 k1 W1 k2 W2) (nn : ∀ i, n ≤ i → hget h i = Option.none) (H : HR k h W (Nat.lor r1 r2)) :
    Sd h n h2 n2 (Nat.lor r1 r2) (Nat.lor w1 w2) k W k2 W2 where
  ext := fun i p hp => e.ext i p (d.ext i p hp)
  dom := fun i hi => by
    have := s.le; have := t.le
    rw [e.dom i (by omega), d.dom i (by omega)]
  rep := by
    have H1 := Sd.next s d nn H
    have H2 := Sd.next (x := Nat.lor r1 w1) t e (s.nn nn) (H1.sub fun i hi => by rw [tb_or] at hi ⊢; exact hi.symm)
    refine H2.sub fun i hi => ?_
    simp only [tb_or] at hi ⊢
    rcases hi with (h | h) | (h | h)
    · exact Or.inr (Or.inl h)
    · exact Or.inl (Or.inl h)
    · exact Or.inr (Or.inr h)
    · exact Or.inl (Or.inr h)
  frm := fun b hb hj => by
    rw [e.frm b (Nat.lt_of_lt_of_le hb d.size) (fun j z hw hl hk => ?_), d.frm b hb (fun j z hw hl => hj j z (tb_or.2 (Or.inl hw)) hl)]
    rcases Nat.lt_or_ge j n with hjn | hjn
    · exact hj j z (tb_or.2 (Or.inr hw)) (s.back j hjn hl) (by rw [← d.dom j (Or.inl hjn)]; exact hk)
    · have hj1 : j < n1 := by
        rcases Nat.lt_or_ge j n1 with h' | h'
        · exact h'
        · exact absurd hl (not_live (s.nn nn j h'))
      rcases d.fresh j b z hjn hj1 hl hk with h' | ⟨j0, z0, a1, a2, a3, _, a5⟩
      · omega
      · exact hj j0 z0 (tb_or.2 (Or.inl a1)) a3 a5
  fresh := fun i b z hi hi2 hl hk => by
    rcases Nat.lt_or_ge i n1 with h1' | h1'
    · have hk1 : k1 i = some (b, z) := by rw [← e.dom i (Or.inl h1')]; exact hk
      rcases d.fresh i b z hi h1' (t.back i h1' hl) hk1 with h' | ⟨j0, z0, a1, a2, a3, a4, a5⟩
      · exact Or.inl h'
      · exact Or.inr ⟨j0, z0, tb_or.2 (Or.inl a1), a2, a3, fun h => a4 (t.back j0 (Nat.lt_of_lt_of_le a2 s.le) h), a5⟩
    · rcases e.fresh i b z h1' hi2 hl hk with h' | ⟨j, z', b1, b2, b3, b4, b5⟩
      · exact Or.inl (Nat.le_trans d.size h')
      · rcases Nat.lt_or_ge j n with hjn | hjn
        · exact Or.inr ⟨j, z', tb_or.2 (Or.inr b1), hjn, s.back j hjn b3, b4, by rw [← d.dom j (Or.inl hjn)]; exact b5⟩
        · rcases d.fresh j b z' hjn b2 b3 b5 with h' | ⟨j0, z0, a1, a2, a3, a4, a5⟩
          · exact Or.inl h'
          · exact Or.inr ⟨j0, z0, tb_or.2 (Or.inl a1), a2, a3, fun h => a4 (t.back j0 (Nat.lt_of_lt_of_le a2 s.le) h), a5⟩
  size := Nat.le_trans d.size e.size
  os := e.os.trans d.os
  tape := e.tape.trans d.tape
  output := e.output.trans d.output
  fz := fun a => (e.fz a).trans (d.fz a)
end
end E
end Go.Proofs.YtepfokoepibkcaaGreat
