/-
  The document's list under way.
-/
import Derived.Test.YtepfokoepibkcaaRu
namespace Go.Proofs.Ytepfokoepibkcaa
open Go.RowKit D
/-- A list of one's own in the document's Reads; k1: the block of its argument. -/
structure RO (w : World) (N k1 : Nat) (pv : Option Addr) (cv : Nat) (O : List Rd) : Prop where
  own : w.ownsRow N 42 2 (.slice pv O.length cv) O.length (O.flatMap rdc)
  nk : ∀ k, Value.ownBlock (.slice pv O.length cv) = some k → k ≠ k1
theorem RO.mo {w w' : World} {N k1 : Nat} {pv : Option Addr} {cv : Nat} {O : List Rd} (h : RO w N k1 pv cv O) (m : Mo w w') : RO w' N k1 pv cv O := ⟨own_mo h.own m, h.nk⟩
theorem RO.nil (w : World) (N k1 : Nat) : RO w N k1 none 0 [] := ⟨⟨rfl, Or.inl ⟨rfl, rfl⟩⟩, fun k e => by cases e⟩
theorem RO.sl {w : World} {N k1 : Nat} {pv : Option Addr} {cv : Nat} {O : List Rd} (h : RO w N k1 pv cv O) (hz : O.length < 4000001) : SL w 2 rdc pv O := own_sl (cells := rdc) (fun _ => rfl) (by unfold maxLen; omega) h.own
/-- A list that a call has made, apart from one's own. -/
structure RL (w : World) (pl : Option Addr) (cl : Nat) (R : List Rd) (v : Value) : Prop where
  own : ∃ N, w.ownsRow N 42 2 (.slice pl R.length cl) R.length (R.flatMap rdc)
  ap : ∀ k, Value.ownBlock (.slice pl R.length cl) = some k → v.ownBlock ≠ some k
theorem RL.mo {w w' : World} {pl : Option Addr} {cl : Nat} {R : List Rd} {v : Value} (h : RL w pl cl R v) (m : Mo w w') : RL w' pl cl R v := by
  obtain ⟨N, h1⟩ := h.own
  exact ⟨⟨N, own_mo h1 m⟩, h.ap⟩
theorem RL.sl {w : World} {pl : Option Addr} {cl : Nat} {R : List Rd} {v : Value} (h : RL w pl cl R v) (hz : R.length < 4000001) : SL w 2 rdc pl R := by
  obtain ⟨N, h1⟩ := h.own
  exact own_sl (cells := rdc) (fun _ => rfl) (by unfold maxLen; omega) h1
theorem RL.made {u w' : World} {N k1 : Nat} {pv pl : Option Addr} {cv cl : Nat} {O R : List Rd} (h : RO u N k1 pv cv O) (hl : w'.ownsRow u.heap.size 42 2 (.slice pl R.length cl) R.length (R.flatMap rdc)) : RL w' pl cl R (.slice pv O.length cv) :=
  ⟨⟨_, hl⟩, fun k e e2 => by have := (own_lt hl e).2; have := (own_lt h.own e2).1; omega⟩
theorem RL.app {w w' : World} {pl : Option Addr} {cl : Nat} {R : List Rd} {v v' : Value} (h : RL w pl cl R v) (m : Mk (fun j => v.ownBlock = some j) w w') (hv : v'.ownBlock = v.ownBlock ∨ v'.ownBlock = some w.heap.size) : RL w' pl cl R v' := by
  obtain ⟨N, h1⟩ := h.own
  refine ⟨⟨N, own_mk h1 m (fun k e e2 => h.ap k e e2)⟩, fun k e e2 => ?_⟩
  rcases hv with q | q
  · exact h.ap k e (q ▸ e2)
  · rw [q] at e2; cases e2; have := (own_lt h1 e).1; omega
section
variable {o : Oper} {n : Nat} {l : List (Nat × Value)} {w : World} {ops : Array Oper} {rest : List Oper} {Q : Exit → Act → World → Prop}
theorem wl_ap (s x : Operand) {N k1 : Nat} {pv : Option Addr} {cv : Nat} {O : List Rd} {r : Rd} (kb : Nat) (ho : o.op = .call { callee := .builtin .append, args := #[s, x], argTypes := #[40, 40] }) (hs : evl n l s = .slice pv O.length cv) (hx : evl n l x = .slice (some ⟨kb, 0, none⟩) 1 1)
    (h : RO w N k1 pv cv O) (hA : At w kb (rdc r)) (hz : O.length < 4000000) (hN : N ≤ w.heap.size) (hk1 : k1 < w.heap.size) (hg : wnt n l ops o = true)
    (hk : ∀ pv2 cv2 w', RO w' N k1 pv2 cv2 (O ++ [r]) → (∀ a : World, a.heap.size = N → Mo a w → Mo a w') → Mk (fun j => Value.ownBlock (.slice pv O.length cv) = some j) w w' → (Value.ownBlock (.slice pv2 (O ++ [r]).length cv2) = Value.ownBlock (.slice pv O.length cv) ∨ Value.ownBlock (.slice pv2 (O ++ [r]).length cv2) = some w.heap.size) → WL Try.prog ops Q rest n (ext l o.dst (.slice pv2 (O ++ [r]).length cv2)) w') : WL Try.prog ops Q (o :: rest) n l w := by
  refine wl_app Try.underlying40 inf42 rfl (by decide) s x N (.slice pv O.length cv) O.length (O.flatMap rdc) kb 1 1 (rdc r) ho hs hx h.own rfl hA (by simp [Value.oneCell']) (by decide) (by unfold maxLen; omega) (by omega) hN hg ?_
  intro v2 w' hw m hv
  have e : (O ++ [r]).length = O.length + 1 := by simp
  have e2 : (O ++ [r]).flatMap rdc = O.flatMap rdc ++ rdc r := by simp
  obtain ⟨pv2, cv2, rfl, _⟩ := own_form hw
  rw [← e] at hv hw ⊢
  rw [← e2] at hw
  refine hk pv2 cv2 w' ⟨hw, fun k e3 => ?_⟩ (fun a ha q => m.mo q (fun k e3 => by have := (own_lt h.own e3).2; omega)) m hv
  rcases hv with q | q
  · exact h.nk k (q ▸ e3)
  · rw [q] at e3; cases e3; omega
end
theorem has_take1 {O : List Rd} {m : Nat} {y r : Rd} (h : O[m]? = some y) : hasR (O.take (m + 1)) r = (hasR (O.take m) r || decide (y = r)) := by
  unfold hasR
  rw [List.take_add_one, h, List.any_append]
  simp
theorem rb {x a : Ex} {B i j : Nat} (h : nd x ≤ B) (ha : x.args[i]? = some a) (hj : j < (rds a).length) : (((rds a).take j).foldl ins ((x.args.take i).foldl (fun o a => (rds a).foldl ins o) (ownR x.k x.nm x.se))).length < B := by
  have h0 := ownR_len x.k x.nm x.se
  have key : ∀ (l : List Ex) (q : List Rd) (b : Nat), q.length ≤ b → (l.foldl (fun o a => (rds a).foldl ins o) q).length ≤ l.foldl (fun n a => n + nd a) b := by
    intro l
    induction l with
    | nil => intro q b h; exact h
    | cons c l il => intro q b h; exact il _ _ (by have := insl_len (rds c) q; have := rds_len c; show ((rds c).foldl ins q).length ≤ b + nd c; omega)
  have h1 := key (x.args.take i) _ 1 h0
  have h2 := sum_take x.args i a 1 ha
  rw [← nd_eq] at h2
  have h3 := insl_len ((rds a).take j) ((x.args.take i).foldl (fun o a => (rds a).foldl ins o) (ownR x.k x.nm x.se))
  have h4 := rds_len a
  rw [List.length_take] at h3
  omega
end Go.Proofs.Ytepfokoepibkcaa
