/-
  limb.isDigits, whatever the text: the walk.
-/
import Derived.Test.YtpfmccfogkgakaaNum
namespace Go.Proofs.Ytpfmccfogkgakaa
open Go.RowKit
/-- Is a byte a digit? -/
def isD (c : UInt8) : Bool := decide (48 ≤ (c.toNat : Int)) && decide ((c.toNat : Int) ≤ 57)
/-- Digits, with no 0 ahead of others. -/
def digs (l : List UInt8) : Bool := !(l.isEmpty) && !(decide (1 < l.length) && (l.headD 0 == 48)) && l.all isD
theorem take_snoc' (s : ByteArray) (k : Nat) (h : k < s.size) : s.data.toList.take (k + 1) = s.data.toList.take k ++ [s[k]] := by
  rw [List.take_succ_eq_append_getElem (by simpa using h)]; rfl
set_option maxHeartbeats 1000000 in
theorem isd_yes (s : ByteArray) (w : World) (hs : s.size ≤ maxLen) (h0 : s.toList.isEmpty = false) (hd : Hid (∀ (k : Nat) (h : k < s.size), 48 ≤ (s[k].toNat : Int) ∧ (s[k].toNat : Int) ≤ 57)) (hp : 0 < s.size) (hz : s.size = 1 ∨ ((s[0].toNat : Int) == 48) = false) :
    Calls Try.prog 43 #[.string s] w fun e w' => e = .returned (.bool true) ∧ w' = w := by
  unfold maxLen at hs
  rcases hz with hz | hz
  · have h1 : ¬ (1 < (s.size : Int)) := by omega
    clear hz
    go_enter Try.func43, Try.ntmps43
    go_wp2
    go_loop [18] (fun i => ∃ k : Nat, k ≤ s.size ∧ i = .int .i64 k) (fun i => s.size - (intOf i).toNat)
    case atStart => exact ⟨0, Nat.zero_le _, rfl⟩
    case round =>
      obtain ⟨k, hk, rfl⟩ := hrel
      by_cases hlt : k < s.size
      · obtain ⟨b1, b2⟩ := hd.out k hlt
        go_wp2
        go_round
        case rel => exact ⟨k + 1, by omega, by go_num⟩
        case measure => simp [intOf]; omega
      · go_wp2
        go_ret
        exact ⟨rfl, rfl⟩
  · by_cases h1 : 1 < (s.size : Int)
    all_goals
      go_enter Try.func43, Try.ntmps43
      go_wp2
      go_loop [18] (fun i => ∃ k : Nat, k ≤ s.size ∧ i = .int .i64 k) (fun i => s.size - (intOf i).toNat)
      case atStart => exact ⟨0, Nat.zero_le _, rfl⟩
      case round =>
        obtain ⟨k, hk, rfl⟩ := hrel
        by_cases hlt : k < s.size
        · obtain ⟨b1, b2⟩ := hd.out k hlt
          go_wp2
          go_round
          case rel => exact ⟨k + 1, by omega, by go_num⟩
          case measure => simp [intOf]; omega
        · go_wp2
          go_ret
          exact ⟨rfl, rfl⟩
end Go.Proofs.Ytpfmccfogkgakaa
