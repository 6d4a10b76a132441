/-
  A kind stays where there is more at the ends.
-/
import Derived.Test.YtepfokoepibkcaaS2
namespace Go.Proofs.Ytepfokoepibkcaa
open Go.RowKit D
theorem fold_par {f : List S5 → Se → List S5} : ∀ (l : List Se) (b b' : List S5), (∀ k ∈ l, ∀ a a' : List S5, a.length = a'.length → ∃ t, f a k = a ++ t ∧ f a' k = a' ++ t) → b.length = b'.length → ∃ t, l.foldl f b = b ++ t ∧ l.foldl f b' = b' ++ t
  | [], b, b', _, _ => ⟨[], by simp, by simp⟩
  | k :: l, b, b', h, hl => by
    obtain ⟨t1, e1, e1'⟩ := h k (List.mem_cons_self ..) b b' hl
    obtain ⟨t2, e2, e2'⟩ := fold_par l (b ++ t1) (b' ++ t1) (fun k hk => h k (List.mem_cons_of_mem _ hk)) (by simp [hl])
    refine ⟨t1 ++ t2, ?_, ?_⟩
    · rw [List.foldl_cons, e1, e2, List.append_assoc]
    · rw [List.foldl_cons, e1', e2', List.append_assoc]
theorem flt_par : ∀ (s : Se) (acc acc' : List S5) (p dp : Int), acc.length = acc'.length → ∃ t, flt s acc p dp = acc ++ t ∧ flt s acc' p dp = acc' ++ t := by
  refine Se.ind2 ?_
  intro s ih acc acc' p dp hl
  rw [flt_eq, flt_eq, ← hl]
  by_cases hc : 64 ≤ acc.length ∨ 16 < dp
  · rw [if_pos hc, if_pos hc]; exact ⟨[], by simp, by simp⟩
  · rw [if_neg hc, if_neg hc]
    obtain ⟨t, e, e'⟩ := fold_par (f := fun a k => flt k a acc.length (dp + 1)) s.kids (acc ++ [⟨p, dp, s.nm, s.mx, s.pi, s.ci, s.items⟩]) (acc' ++ [⟨p, dp, s.nm, s.mx, s.pi, s.ci, s.items⟩]) (fun k hk a a' h => ih k hk a a' _ _ h) (by simp [hl])
    exact ⟨[⟨p, dp, s.nm, s.mx, s.pi, s.ci, s.items⟩] ++ t, by rw [e, List.append_assoc], by rw [e', List.append_assoc]⟩
def rt5 (s : Se) : S5 := ⟨-1, 1, s.nm, s.mx, s.pi, s.ci, s.items⟩
/-- A field of text, named so. -/
def tIt (nm : ByteArray) : It := ⟨nm, 1, 3, 0, false, 0, .mk 0 0 ⟨#[]⟩ ⟨#[]⟩ ⟨0, ⟨false, 0, 0, 0, 0, 0⟩, false, ⟨#[]⟩, 0⟩ 0 0 none 0 []⟩
/-- A section without anything. -/
def uSe (nu : ByteArray) : Se := .mk nu 0 none 0 [] none 0 []
/-- A definition with more at its ends. -/
def dmo (d : Df) (nm : ByteArray) (pi : Option Addr) (ci : Nat) (pk : Option Addr) (ck : Nat) (K : List Se) (pt : Option Addr) (ct : Nat) (T : List Tb) : Df := ⟨d.nm, .mk d.rt.nm d.rt.mx pi ci (d.rt.items ++ [tIt nm]) pk ck K, pt, ct, T, d.pp, d.cp, d.pg⟩
theorem fla_eq (x : Df) : fla x = x.rt.kids.foldl (fun a k => flt k a ([] : List S5).length (1 + 1)) [rt5 x.rt] := by
  unfold fla
  rw [flt_eq, if_neg (by simp)]; rfl
theorem fla_sh (d : Df) (nm : ByteArray) (pi : Option Addr) (ci : Nat) (pk : Option Addr) (ck : Nat) (K : List Se) (pt : Option Addr) (ct : Nat) (T : List Tb) (hK : K = d.rt.kids ∨ K = d.rt.kids ++ [uSe (und nm)]) : ∃ t E, fla d = rt5 d.rt :: t ∧ fla (dmo d nm pi ci pk ck K pt ct T) = rt5 (dmo d nm pi ci pk ck K pt ct T).rt :: (t ++ E) ∧ ∀ e ∈ E, e.nm = und nm ∧ e.items = [] := by
  obtain ⟨t, e1, e2⟩ := fold_par (f := fun a k => flt k a ([] : List S5).length (1 + 1)) d.rt.kids [rt5 d.rt] [rt5 (dmo d nm pi ci pk ck K pt ct T).rt] (fun k _ a a' h => flt_par k a a' _ _ h) rfl
  rcases hK with rfl | rfl
  · refine ⟨t, [], ?_, ?_, fun e he => by cases he⟩
    · rw [fla_eq, e1]; rfl
    · rw [fla_eq]; show d.rt.kids.foldl _ _ = _; rw [e2, List.append_nil]; rfl
  · have hl : fla (dmo d nm pi ci pk ck (d.rt.kids ++ [uSe (und nm)]) pt ct T) = flt (uSe (und nm)) ([rt5 (dmo d nm pi ci pk ck (d.rt.kids ++ [uSe (und nm)]) pt ct T).rt] ++ t) ([] : List S5).length (1 + 1) := by
      rw [fla_eq]; show (d.rt.kids ++ [uSe (und nm)]).foldl _ _ = _
      rw [List.foldl_append, e2]; rfl
    rw [flt_eq] at hl
    by_cases hc : 64 ≤ ([rt5 (dmo d nm pi ci pk ck (d.rt.kids ++ [uSe (und nm)]) pt ct T).rt] ++ t).length ∨ (16 : Int) < 1 + 1
    · rw [if_pos hc] at hl
      exact ⟨t, [], by rw [fla_eq, e1]; rfl, by rw [hl, List.append_nil]; rfl, fun e he => by cases he⟩
    · rw [if_neg hc] at hl
      refine ⟨t, [⟨0, 1 + 1, und nm, 0, none, 0, []⟩], by rw [fla_eq, e1]; rfl, ?_, fun e he => ?_⟩
      · rw [hl]; rfl
      · simp at he; rw [he]; exact ⟨rfl, rfl⟩
theorem fla_more (d : Df) (nm : ByteArray) (pi : Option Addr) (ci : Nat) (pk : Option Addr) (ck : Nat) (K : List Se) (pt : Option Addr) (ct : Nat) (T : List Tb) (hK : K = d.rt.kids ∨ K = d.rt.kids ++ [uSe (und nm)]) : Mor nm (und nm) (fla d) (fla (dmo d nm pi ci pk ck K pt ct T)) := by
  obtain ⟨t, E, e1, e2, hE⟩ := fla_sh d nm pi ci pk ck K pt ct T hK
  refine ⟨rt5 d.rt, rt5 (dmo d nm pi ci pk ck K pt ct T).rt, t, E, e1, e2, rfl, rfl, rfl, ?_, fun e he => (hE e he).1⟩
  show (d.rt.items ++ [tIt nm]).map kI = d.rt.items.map kI ++ _
  rw [List.map_append]; rfl
theorem fb_more (d : Df) (nm : ByteArray) (pi : Option Addr) (ci : Nat) (pk : Option Addr) (ck : Nat) (K : List Se) (pt : Option Addr) (ct : Nat) (T : List Tb) (hK : K = d.rt.kids ∨ K = d.rt.kids ++ [uSe (und nm)]) (hB : FB d) (hz : d.rt.items.length < 4000000) : FB (dmo d nm pi ci pk ck K pt ct T) := by
  obtain ⟨t, E, e1, e2, hE⟩ := fla_sh d nm pi ci pk ck K pt ct T hK
  intro x hx
  rw [e2] at hx
  rcases List.mem_cons.1 hx with rfl | hx
  · have h := hB (rt5 d.rt) (by rw [e1]; exact List.mem_cons_self ..)
    refine ⟨?_, fun y hy => ?_⟩
    · show (d.rt.items ++ [tIt nm]).length ≤ _; simp; omega
    · have hy' : y ∈ d.rt.items ++ [tIt nm] := hy
      rcases List.mem_append.1 hy' with q | q
      · exact h.2 y q
      · simp at q; subst q; exact .mk (show 0 * 176 ≤ 140737488351232 by decide) (fun o ho => by cases ho)
  · rcases List.mem_append.1 hx with q | q
    · exact hB x (by rw [e1]; exact List.mem_cons_of_mem _ q)
    · have := (hE x q).2
      rw [this]; exact ⟨by simp, fun y hy => by cases hy⟩
theorem sl_nil {w : World} {n : Nat} {α : Type} {cells : α → List Value} {pa : Option Addr} : SL w n cells pa [] := ⟨by simp [maxLen], fun i o e => by simp at e⟩
theorem ld_more {d : Df} {nm : ByteArray} {pi : Option Addr} {ci : Nat} {pk : Option Addr} {ck : Nat} {K : List Se} {pt : Option Addr} {ct : Nat} {w u : World} (hD : LDf w d) (k : Kp w u) (hK : K = d.rt.kids ∨ K = d.rt.kids ++ [uSe (und nm)]) (h1 : SL u 23 It.cells pi (d.rt.items ++ [tIt nm])) (h3 : SL u 4 Se.cells pk K) (h2 : SL u 2 Tb.cells pt (d.tb ++ [(⟨nm, none, 0, []⟩ : Tb)])) : LDf u (dmo d nm pi ci pk ck K pt ct (d.tb ++ [(⟨nm, none, 0, []⟩ : Tb)])) := by
  refine ⟨.mk h1 (fun y hy => ?_) h3 (fun s hs => ?_), h2, fun b hb => ?_, hD.pg.kp k, fun o ho => (hD.wh o ho).kp k, fun o ho => (hD.it o ho).kp k, hD.iz⟩
  · have hy' : y ∈ d.rt.items ++ [tIt nm] := hy
    rcases List.mem_append.1 hy' with q | q
    · exact (hD.rt.ex y q).kp k
    · simp at q; subst q; exact .mk (show 0 ≤ maxLen from Nat.zero_le _) (show 0 ≤ maxLen from Nat.zero_le _) sl_nil (fun o ho => by cases ho)
  · have hs' : s ∈ K := hs
    have old : ∀ s ∈ d.rt.kids, LSe u s := fun s q => (hD.rt.kr s q).kp k
    rcases hK with rfl | rfl
    · exact old s hs'
    · rcases List.mem_append.1 hs' with q | q
      · exact old s q
      · simp at q; subst q; exact .mk sl_nil (fun o ho => by cases ho) sl_nil (fun o ho => by cases ho)
  · have hb' : b ∈ d.tb ++ [(⟨nm, none, 0, []⟩ : Tb)] := hb
    rcases List.mem_append.1 hb' with q | q
    · exact (hD.st b q).kp k
    · simp at q; subst q; exact sl_nil
theorem nrd_of {nm : ByteArray} {x : Ex} (h1 : (rds x).any (fun q : Rd => decide (q.2 = nm) || decide (q.1 = nm)) = false) (h2 : (rds x).any (fun q : Rd => decide (q.1 = und nm)) = false) : Nrd nm (und nm) x := fun r hr => by
  obtain ⟨y, hy, e⟩ := List.any_eq_true.1 hr
  have e2 : y = r := of_decide_eq_true e
  subst e2
  have q1 := List.any_eq_false.1 h1 y hy
  have q2 := List.any_eq_false.1 h2 y hy
  simp only [Bool.or_eq_true, decide_eq_true_eq, not_or] at q1
  exact ⟨q1.1, q1.2, fun e3 => q2 (decide_eq_true e3)⟩
theorem tb_more {d : Df} {nm : ByteArray} {pi : Option Addr} {ci : Nat} {pk : Option Addr} {ck : Nat} {K : List Se} {pt : Option Addr} {ct : Nat} {b : Tb} (q : ByteArray) (h : (tbF d q).isSome = true) : (tbF (dmo d nm pi ci pk ck K pt ct (d.tb ++ [b])) q).isSome = true := by
  obtain ⟨k, hk⟩ := Option.isSome_iff_exists.1 h
  show ((d.tb ++ [b]).findIdx? _).isSome = true
  rw [fi_app hk]; rfl
theorem fla_ne (d : Df) : 0 < (fla d).length := fla_pos d
/-- A kind stays where there is more at the ends. -/
theorem knd_more {d : Df} {nm : ByteArray} {pi : Option Addr} {ci : Nat} {pk : Option Addr} {ck : Nat} {K : List Se} {pt : Option Addr} {ct : Nat} {b : Tb} {x : Ex} (hK : K = d.rt.kids ∨ K = d.rt.kids ++ [uSe (und nm)]) (hN : Nrd nm (und nm) x) (he : (knd d 0 x).2 = 0) : knd (dmo d nm pi ci pk ck K pt ct (d.tb ++ [b])) 0 x = knd d 0 x := by
  rw [show (0 : Int) = ((0 : Nat) : Int) from rfl, knd_of (fla_ne d)] at he
  rw [show (0 : Int) = ((0 : Nat) : Int) from rfl, knd_of (fla_ne d), knd_of (fla_ne _)]
  exact kdK_more (fla_more d nm pi ci pk ck K pt ct _ hK) (fun q h => tb_more q h) hN he
end Go.Proofs.Ytepfokoepibkcaa
