/-
  scope: what is taken stays taken with a field more.
-/
import Derived.Test.YtbanldffohopiaaT2
namespace Go.Proofs.Ytbanldffohopiaa
open Go.RowKit D
theorem or_n {α : Type} {a b : Option α} (h : a.or b = none) : a = none ∧ b = none := by
  cases a with
  | none => exact ⟨rfl, h⟩
  | some x => cases h
theorem ad_of (d : Df) (pi : Option Addr) (ci : Nat) (nm : ByteArray) : Ad (fla d) (fla (dadd d pi ci nm)) nm := by
  obtain ⟨R, h1, h2⟩ := fla_add d pi ci nm
  rw [h1, h2]
  refine ⟨by simp, by simp, fun i hi => ?_, rt5 d.rt, rt5 (dadd d pi ci nm).rt, rfl, rfl, rfl, rfl, rfl, rfl, rfl⟩
  obtain ⟨j, rfl⟩ : ∃ j, i = j + 1 := ⟨i - 1, by omega⟩
  rfl
theorem chk_n {d : Df} (h : chk d = none) : whE d (fla d) = 0 ∧ tbR d.tb = none ∧ seR (tbA d.tb d.tb.length) (fla d) = none ∧ foR (fla d) (alF d) = none ∧ pgR (fla d) (alF d) d.pg = none := by
  unfold chk at h
  obtain ⟨h1, h⟩ := or_n h
  obtain ⟨h2, h⟩ := or_n h
  obtain ⟨h3, h⟩ := or_n h
  obtain ⟨h4, h5⟩ := or_n h
  exact ⟨er_n h1, h2, h3, h4, h5⟩
theorem tms_add {L L' : List S5} {nm : ByteArray} (h : Ad L L' nm) : tms L' = tms L := by
  unfold tms
  rw [h.len]
  congr 1
  rw [Bool.eq_iff_iff, List.any_eq_true, List.any_eq_true]
  obtain ⟨x, x', h1, h2, _, h4, _⟩ := h.z
  constructor
  · rintro ⟨y, hy, hd⟩
    obtain ⟨i, hi⟩ := List.getElem?_of_mem hy
    rcases Nat.eq_zero_or_pos i with rfl | hp
    · rw [h2] at hi; cases hi
      exact ⟨x, List.mem_of_getElem? h1, by rw [← h4]; exact hd⟩
    · rw [h.get i hp] at hi
      exact ⟨y, List.mem_of_getElem? hi, hd⟩
  · rintro ⟨y, hy, hd⟩
    obtain ⟨i, hi⟩ := List.getElem?_of_mem hy
    rcases Nat.eq_zero_or_pos i with rfl | hp
    · rw [h1] at hi; cases hi
      exact ⟨x', List.mem_of_getElem? h2, by rw [h4]; exact hd⟩
    · rw [← h.get i hp] at hi
      exact ⟨y, List.mem_of_getElem? hi, hd⟩
section
variable {L L' : List S5} {nm : ByteArray} {T : List (ByteArray × Int)}
/-- Behind the root all is as it was. -/
theorem se_rest (h : Ad L L' nm) (hf : frs L nm = true) {n : Nat} (hn : 0 < n) : seG T L' n = seG T L n := by
  cases hx : L[n]? with
  | none => unfold seG; rw [h.get n hn, hx]; rfl
  | some x =>
    have hx' : L'[n]? = some x := by rw [h.get n hn]; exact hx
    have hfr := frs_of hf hx
    have e1 : seE L' ⟨T, stI L' n 0, stK L' n⟩ n x = seE L ⟨T, stI L n 0, stK L n⟩ n x := by
      unfold seE nsE
      rw [h.stKE n, h.tknE hn hfr.1]
    rw [seG_of hx, seG_of hx', e1]
    congr 1
    have e2 : ∀ i, ixG L' n i = ixG L n i := fun i => by
      cases hy : x.items[i]? with
      | none => unfold ixG; rw [itO_of hx, itO_of hx', hy]; rfl
      | some y =>
        rw [ixG_of hx hy, ixG_of hx' hy]
        unfold itE
        rw [h.tknE hn (hfr.2 i y hy)]
    rw [show ixG L' n = ixG L n from funext e2]
theorem anc_0 {L : List S5} {x : S5} (hx : L[0]? = some x) (hw : Wf L) : anc L 0 = [0] := by
  obtain ⟨R, hR, hU⟩ := anc_step hw hx
  have h1 := (hw 0 x hx).1
  rcases hU with ⟨_, rfl⟩ | ⟨k, hk, _⟩
  · exact hR
  · omega
theorem ix_root (h : Ad L L' nm) (hw : Wf L) {i : Nat} (hi : i < (itO L 0).length) : ixG L' 0 i = ixG L 0 i := by
  obtain ⟨x, x', h1, h2, h3, _, h5, _, h7⟩ := h.z
  rw [itO_of h1] at hi
  obtain ⟨y, hy⟩ := get_of_lt hi
  have hy' : x'.items[i]? = some y := by rw [h7, List.getElem?_append_left hi]; exact hy
  rw [ixG_of h1 hy, ixG_of h2 hy']
  unfold itE tkn
  rw [← h.ancE 0, anc_0 h1 hw]
  have e : stI L' 0 i 0 = stI L 0 i 0 := by
    rw [stI_self, stI_self, h.it0, itA_pre _ (by rw [itO_of h1]; omega)]
  simp only [List.any_cons, List.any_nil, h.nmE 0, e]
theorem ix_new (h : Ad L L' nm) (hw : Wf L) (hf : frs L nm = true) : ixG L' 0 (itO L 0).length = er (plc 3 0 (itO L 0).length 0 0) (if may nm then 0 else 90) := by
  obtain ⟨x, x', h1, h2, h3, _, h5, _, h7⟩ := h.z
  have hfr := frs_of hf h1
  have hy' : x'.items[(itO L 0).length]? = some (lIt nm) := by rw [h7, itO_of h1]; simp
  rw [ixG_of h2 hy']
  have e : tkn L' (stI L' 0 (itO L 0).length) 0 nm = false := by
    unfold tkn
    rw [← h.ancE 0, anc_0 h1 hw, List.any_cons, List.any_nil, Bool.or_false, ← h.nmE 0, nmO_of h1, stI_self, h.it0, itA_pre _ (Nat.le_refl _), itA_any, List.take_length, decide_eq_false (fun e => hfr.1 e.symm), itO_of h1]
    rw [Bool.false_or, List.any_eq_false]
    intro y hy
    obtain ⟨i, hi⟩ := List.getElem?_of_mem hy
    have := hfr.2 i y hi
    simpa using fun e => this e.symm
  unfold itE
  rw [show (lIt nm).nm = nm from rfl, e]
  rfl
theorem se_root (h : Ad L L' nm) (hw : Wf L) (hf : frs L nm = true) (hl : (itO L 0).length < 64) (hs : seG T L 0 = none) : seG T L' 0 = er (plc 3 0 (itO L 0).length 0 0) (if may nm then 0 else 90) := by
  obtain ⟨x, x', h1, h2, h3, _, h5, h6, h7⟩ := h.z
  rw [seG_of h1] at hs
  obtain ⟨hs1, hs2⟩ := or_n hs
  have hs1 := er_n hs1
  have e1 : seE L' ⟨T, stI L' 0 0, stK L' 0⟩ 0 x' = 0 := by
    by_cases h8 : x.nm = ⟨#[]⟩
    · have n1 : nsE L ⟨T, stI L 0 0, stK L 0⟩ 0 x = 0 := by unfold nsE; rw [if_pos rfl, if_pos h8]
      have n2 : nsE L' ⟨T, stI L' 0 0, stK L' 0⟩ 0 x' = 0 := by unfold nsE; rw [if_pos rfl, h5, if_pos h8]
      unfold seE at hs1 ⊢
      rw [if_pos n1] at hs1
      rw [if_pos n2]
      by_cases h9 : (decide (64 < x.items.length) || !rmE 0 x) = true
      · rw [if_pos h9] at hs1; cases hs1
      · rw [if_neg]
        intro h10
        apply h9
        have hm : rmE 0 x' = rmE 0 x := by unfold rmE; rw [h6]
        have hz : ¬ 64 < x'.items.length := by rw [h7]; rw [itO_of h1] at hl; simp; omega
        rw [hm, decide_eq_false hz, Bool.false_or] at h10
        rw [h10, Bool.or_true]
    · have n1 : nsE L ⟨T, stI L 0 0, stK L 0⟩ 0 x = 90 := by unfold nsE; rw [if_pos rfl, if_neg h8]
      unfold seE at hs1
      rw [n1] at hs1
      cases hs1
  rw [seG_of h2, er_0 e1, Option.none_or]
  have hle : x'.items.length = (itO L 0).length + 1 := by rw [h7, itO_of h1]; simp
  have hpre : ∀ j, j < (itO L 0).length → ixG L' 0 j = none := fun j hj => by
    rw [ix_root h hw hj]
    exact fs_inv hs2 j (by rw [itO_of h1] at hj; exact hj)
  have hnew := ix_new h hw hf
  rw [hle]
  cases hm : may nm with
  | true =>
    rw [hm] at hnew
    rw [show er (plc 3 0 (itO L 0).length 0 0) (if true = true then (0 : Int) else 90) = none from er_0 rfl] at hnew ⊢
    exact fs_none (fs_step hpre hnew)
  | false =>
    rw [hm] at hnew
    rw [← hnew]
    have e : er (plc 3 0 (itO L 0).length 0 0) (if false = true then (0 : Int) else 90) = some (plc 3 0 (itO L 0).length 0 0, 90) := er_1 (by decide)
    rw [e] at hnew
    rw [fs_hit hpre hnew (Nat.lt_succ_self _), hnew]
end
theorem fo_stay {L L' : List S5} {nm : ByteArray} (h : Ad L L' nm) {A A' : Al} (hk : ∀ s x, kno L A s x = true → kno L' A' s x = true) (hs : foR L A = none) : foR L' A' = none := by
  unfold foR at hs ⊢
  rw [h.len]
  refine fs_none (fun n hn => ?_)
  have h1 := fs_inv hs n hn
  unfold foS at h1 ⊢
  have key : ∀ i, foG L A n i = none → foG L' A' n i = none ∨ itO L' n ≠ itO L n := fun i hi => by
    by_cases hit : itO L' n = itO L n
    · left
      unfold foG at hi ⊢
      rw [hit]
      cases hy : (itO L n)[i]? with
      | none => rfl
      | some y =>
        rw [hy] at hi
        change (if _ then _ else _) = _ at hi
        show (if _ then _ else _) = _
        split at hi
        · cases hi
        · rename_i hc
          rw [if_neg]
          intro hc2
          apply hc
          simp only [Bool.and_eq_true] at hc2 ⊢
          refine ⟨hc2.1, ?_⟩
          cases q : lck (kno L A n) y.ex with
          | true => rfl
          | false => rw [lck_mono (hk n) y.ex q] at hc2; cases hc2.2
    · exact Or.inr hit
  rcases Nat.eq_zero_or_pos n with rfl | hp
  · rw [h.it0]
    refine fs_none (fun i hi => ?_)
    rw [List.length_append, List.length_singleton] at hi
    unfold foG
    rw [h.it0]
    rcases Nat.lt_or_ge i (itO L 0).length with q | q
    · rw [List.getElem?_append_left q]
      have h2 := fs_inv h1 i q
      unfold foG at h2
      cases hy : (itO L 0)[i]? with
      | none => rfl
      | some y =>
        rw [hy] at h2
        change (if _ then _ else _) = _ at h2
        show (if _ then _ else _) = _
        split at h2
        · cases h2
        · rename_i hc
          rw [if_neg]
          intro hc2
          apply hc
          simp only [Bool.and_eq_true] at hc2 ⊢
          refine ⟨hc2.1, ?_⟩
          cases q2 : lck (kno L A 0) y.ex with
          | true => rfl
          | false => rw [lck_mono (hk 0) y.ex q2] at hc2; cases hc2.2
    · rw [show i = (itO L 0).length by omega]
      simp [lIt]
  · rw [h.itOE hp]
    refine fs_none (fun i hi => ?_)
    rcases key i (fs_inv h1 i hi) with q | q
    · exact q
    · exact absurd (h.itOE hp) q
theorem pg_stay {L L' : List S5} {A A' : Al} {l : List Pg} (hk : ∀ x, kno L A 0 x = true → kno L' A' 0 x = true) (hI : ∀ q, (lk (A.I 0) q).getD 0 = 1 → (lk (A'.I 0) q).getD 0 = 1) (hK : A'.K 0 = A.K 0) (hs : pgR L A l = none) : pgR L' A' l = none := by
  unfold pgR at hs ⊢
  refine fs_none (fun n hn => ?_)
  obtain ⟨x, hx⟩ := get_of_lt hn
  have h1 := fs_inv hs n hn
  rw [pgG_of hx] at h1 ⊢
  have h1 := er_n h1
  refine er_0 ?_
  unfold pgF at h1 ⊢
  split at h1
  · rename_i h2
    have h3 : pgE L' A' (pgA l n) x = 0 := by
      unfold pgE at h2 ⊢
      split at h2
      · rename_i a1
        rw [if_pos a1]
        split at h2
        · cases h2
        · rename_i a2
          rw [if_neg a2]
          split at h2
          · cases h2
          · rename_i a3
            rw [if_neg a3]
            split at h2
            · cases h2
            · rename_i a4
              rw [if_neg]
              rw [lck_mono hk x.wh (by simpa using a4)]
              decide
      · cases h2
    rw [if_pos h3]
    unfold shR at h1 ⊢
    have h4 : (List.range x.its.length).findSome? (shG A n (pgS l n) x.its) = none := by
      cases q : (List.range x.its.length).findSome? (shG A n (pgS l n) x.its) with
      | none => rfl
      | some e =>
        obtain ⟨j, _, hj⟩ := List.exists_of_findSome?_eq_some q
        rw [q] at h1
        unfold shG at hj
        cases hy : x.its[j]? with
        | none => rw [hy] at hj; cases hj
        | some u =>
          rw [hy] at hj
          change (if _ then _ else _) = _ at hj
          split at hj
          · cases hj
          · rename_i hne; cases hj; exact absurd h1 hne
    rw [fs_none (fun j hj => ?_)]
    · rfl
    · obtain ⟨u, hu⟩ := get_of_lt hj
      have h5 := fs_inv h4 j hj
      rw [shG_of hu] at h5 ⊢
      split at h5
      · rename_i h6
        rw [if_pos]
        unfold shE at h6 ⊢
        split at h6
        · cases h6
        · rename_i h7
          split at h6
          · cases h6
          · rename_i h8
            rw [if_neg, if_neg h8]
            intro h9
            apply h7
            simp only [Bool.and_eq_true, Bool.not_eq_true', decide_eq_false_iff_not] at h9 ⊢
            rw [hK] at h9
            exact ⟨fun e => h9.1 (hI u e), h9.2⟩
      · cases h5
  · rename_i h2; exact absurd h1 h2
/-- What is taken is taken with a field more of nobody's name, or its name may not be. -/
theorem stays (d : Df) (pi : Option Addr) (ci : Nat) (nm : ByteArray) (h : chk d = none) (hl : d.rt.items.length < 64) (hf : frs (fla d) nm = true) : chk (dadd d pi ci nm) = none ∨ ∃ k s i t p, chk (dadd d pi ci nm) = some (plc k s i t p, 90) := by
  obtain ⟨h1, h2, h3, h4, h5⟩ := chk_n h
  have ha := ad_of d pi ci nm
  have hw := fla_wf d
  have hN := fla_pos d
  have hi0 : (itO (fla d) 0).length < 64 := by
    obtain ⟨R, e, _⟩ := fla_add d pi ci nm
    rw [itO_of (x := rt5 d.rt) (by rw [e]; rfl)]; exact hl
  have g1 : whE (dadd d pi ci nm) (fla (dadd d pi ci nm)) = 0 := by
    unfold whE at h1 ⊢
    rw [tms_add ha]; exact h1
  have g2 : tbR (dadd d pi ci nm).tb = none := h2
  have hs0 := fs_inv h3 0 hN
  have r0 := se_root ha hw hf hi0 hs0
  have hlen := ha.len
  cases hm : may nm with
  | false =>
    right
    rw [hm] at r0
    refine ⟨3, 0, (itO (fla d) 0).length, 0, 0, ?_⟩
    have g3 : seR (tbA d.tb d.tb.length) (fla (dadd d pi ci nm)) = some (plc 3 0 (itO (fla d) 0).length 0 0, 90) := fs_hit (n := 0) (fun j hj => by omega) (by rw [r0]; exact er_1 (by decide)) (by omega)
    unfold chk
    rw [er_0 g1, Option.none_or, g2, Option.none_or, show tbA (dadd d pi ci nm).tb (dadd d pi ci nm).tb.length = tbA d.tb d.tb.length from rfl, g3]; rfl
  | true =>
    left
    rw [hm] at r0
    have g3 : seR (tbA d.tb d.tb.length) (fla (dadd d pi ci nm)) = none := by
      unfold seR
      rw [hlen]
      refine fs_none (fun n hn => ?_)
      rcases Nat.eq_zero_or_pos n with rfl | hp
      · rw [r0]; exact er_0 rfl
      · rw [se_rest ha hf hp]; exact fs_inv h3 n hn
    have hkn : ∀ s x, kno (fla d) (alF d) s x = true → kno (fla (dadd d pi ci nm)) (alF (dadd d pi ci nm)) s x = true := fun s x hk => by
      unfold alF at hk ⊢
      rw [hlen]
      exact ha.knoE hN x hk
    have g4 : foR (fla (dadd d pi ci nm)) (alF (dadd d pi ci nm)) = none := fo_stay ha hkn h4
    have g5 : pgR (fla (dadd d pi ci nm)) (alF (dadd d pi ci nm)) d.pg = none := by
      refine pg_stay (hkn 0) (fun q hq => ?_) ?_ h5
      · show (lk (stI (fla (dadd d pi ci nm)) (fla (dadd d pi ci nm)).length 0 0) q).getD 0 = 1
        rw [hlen, ha.stI0 hN, lk_cons]
        split
        · rfl
        · exact hq
      · show stK (fla (dadd d pi ci nm)) (fla (dadd d pi ci nm)).length 0 = stK (fla d) (fla d).length 0
        rw [hlen, ha.stKE]
    unfold chk
    rw [er_0 g1, Option.none_or, g2, Option.none_or, show tbA (dadd d pi ci nm).tb (dadd d pi ci nm).tb.length = tbA d.tb d.tb.length from rfl, g3, Option.none_or, g4, Option.none_or]
    exact g5
end Go.Proofs.Ytbanldffohopiaa
