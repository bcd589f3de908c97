/- Contracts of IsIdentifier, in the program and in its model. -/
import Derived.Test.YtpcdlehicdepaaaProg
import Derived.Test.YtpcdlehicdepaaaMem
import Derived.WalkKit
import Derived.WalkSpells
import Derived.WalkLawsBesides
import Derived.Lib.Hide
import Derived.Laws.RangeAny
import Derived.Laws.RangeString
namespace Go.Proofs.Ytpcdlehicdepaaa
open Go.RowKit

/-- what a call that answers a bool leaves: the answer is yes just where p holds; nothing that was there has turned -/
def BoolOut (p : Prop) (w : World) (e : Ending) (w' : World) : Prop := ∃ b : Bool, e = .returned (.bool b) ∧ (b = true ↔ p) ∧ Below w.heap.size w w'
def GoodAt (i : Nat) (c : Nat) : Prop := (97 ≤ c ∧ c ≤ 122) ∨ (i ≠ 0 ∧ 48 ≤ c ∧ c ≤ 57)
def Ident (s : ByteArray) : Prop := 1 ≤ s.size ∧ s.size ≤ 8 ∧ ∀ i (h : i < s.size), GoodAt i (s[i]'h).toNat
theorem below_iter (w : World) (s : ByteArray) (p : Nat) : Below w.heap.size w (w.iter s p) := by
  unfold World.iter
  exact (Below.refl _ _).alloc (Nat.le_refl _) _
def UpTo (s : ByteArray) (k : Nat) : Prop := ∀ i (h : i < s.size), i < k → GoodAt i (s[i]'h).toNat
theorem upTo_step {s : ByteArray} {k : Nat} (h : UpTo s k) (hk : k < s.size) (g : GoodAt k (s[k]'hk).toNat) : UpTo s (k + 1) := fun i hi hlt => by
  rcases Nat.lt_or_ge i k with hh | hh
  · exact h i hi hh
  · obtain rfl : i = k := by omega
    exact g
theorem not_ident {s : ByteArray} {k : Nat} (hk : k < s.size) (g : ¬ GoodAt k (s[k]'hk).toNat) : (false = true ↔ Ident s) := ⟨(fun h => by cases h), fun h => absurd (h.2.2 k hk) g⟩
theorem good_cases (k c : Nat) : (97 ≤ c ∧ c ≤ 122) ∨ ((c < 97 ∨ 122 < c) ∧ k ≠ 0 ∧ 48 ≤ c ∧ c ≤ 57) ∨ ((c < 97 ∨ 122 < c) ∧ k = 0) ∨ ((c < 97 ∨ 122 < c) ∧ k ≠ 0 ∧ (c < 48 ∨ 57 < c)) := by omega

set_option maxHeartbeats 1000000 in
theorem sIdent_any (s : ByteArray) (w : World) (hs : s.size ≤ 1048576) :
    Calls Try.prog 52 #[.string s] w (BoolOut (Ident s) w) := by
  go_enter Try.func52, Try.ntmps52
  go_wp2
  go_loop [3] (fun i => ∃ k : Nat, k ≤ s.size ∧ i = .int .i64 k ∧ UpTo s k) (fun i => s.size - (intOf i).toNat)
  case atStart => exact ⟨0, Nat.zero_le _, rfl, fun i h h0 => by omega⟩
  case round =>
    obtain ⟨k, hk, rfl, hg⟩ := hrel
    have HG := Lib.hid hg
    clear hg
    by_cases hlt : k < s.size
    · rcases good_cases k (s[k]'hlt).toNat with h | ⟨h1, h⟩ | ⟨h1, h⟩ | ⟨h1, h⟩
      · go_wp2
        go_round
        case rel => exact ⟨k + 1, by omega, by go_num, upTo_step HG.out hlt (by unfold GoodAt; omega)⟩
        case measure => simp [intOf]; omega
      · have hk0 : ((k : Int) == 0) = false := by simp; omega
        have b1 : decide ((97 : Int) ≤ ((s[k]'hlt).toNat : Int)) = false := decide_eq_false (by omega)
        have b2 : decide (((s[k]'hlt).toNat : Int) < 48) = false := decide_eq_false (by omega)
        have b3 : decide ((57 : Int) < ((s[k]'hlt).toNat : Int)) = false := decide_eq_false (by omega)
        clear h1
        · go_wp2
          go_round
          case rel => exact ⟨k + 1, by omega, by go_num, upTo_step HG.out hlt (by unfold GoodAt; omega)⟩
          case measure => simp [intOf]; omega
      · subst h
        rcases h1 with h1 | h1
        · have b1 : decide ((97 : Int) ≤ ((s[0]'hlt).toNat : Int)) = false := decide_eq_false (by omega)
          go_wp2
          go_ret
          exact ⟨false, rfl, not_ident hlt (by unfold GoodAt; omega), Below.refl _ _⟩
        · have b1 : decide ((97 : Int) ≤ ((s[0]'hlt).toNat : Int)) = true := decide_eq_true (by omega)
          have b2 : decide (((s[0]'hlt).toNat : Int) ≤ 122) = false := decide_eq_false (by omega)
          go_wp2
          go_ret
          exact ⟨false, rfl, not_ident hlt (by unfold GoodAt; omega), Below.refl _ _⟩
      · have hk0 : ((k : Int) == 0) = false := by simp; omega
        rcases h1 with h1 | h1 <;> rcases h.2 with h2 | h2
        · have b1 : decide ((97 : Int) ≤ ((s[k]'hlt).toNat : Int)) = false := decide_eq_false (by omega)
          have b2 : decide (((s[k]'hlt).toNat : Int) < 48) = true := decide_eq_true (by omega)
          go_wp2
          go_ret
          exact ⟨false, rfl, not_ident hlt (by unfold GoodAt; omega), Below.refl _ _⟩
        · have b1 : decide ((97 : Int) ≤ ((s[k]'hlt).toNat : Int)) = false := decide_eq_false (by omega)
          have b2 : decide (((s[k]'hlt).toNat : Int) < 48) = false := decide_eq_false (by omega)
          have b3 : decide ((57 : Int) < ((s[k]'hlt).toNat : Int)) = true := decide_eq_true (by omega)
          go_wp2
          go_ret
          exact ⟨false, rfl, not_ident hlt (by unfold GoodAt; omega), Below.refl _ _⟩
        · exfalso; omega
        · have b1 : decide ((97 : Int) ≤ ((s[k]'hlt).toNat : Int)) = true := decide_eq_true (by omega)
          have b2 : decide (((s[k]'hlt).toNat : Int) ≤ 122) = false := decide_eq_false (by omega)
          have b3 : decide (((s[k]'hlt).toNat : Int) < 48) = false := decide_eq_false (by omega)
          have b4 : decide ((57 : Int) < ((s[k]'hlt).toNat : Int)) = true := decide_eq_true (by omega)
          go_wp2
          go_ret
          exact ⟨false, rfl, not_ident hlt (by unfold GoodAt; omega), Below.refl _ _⟩
    · by_cases h1 : (1 : Int) ≤ s.size
      · by_cases h8 : (s.size : Int) ≤ 8
        · go_wp2
          go_ret
          exact ⟨_, rfl, ⟨fun _ => ⟨by omega, by omega, fun i h => HG.out i h (by omega)⟩, fun _ => rfl⟩, Below.refl _ _⟩
        · go_wp2
          go_ret
          exact ⟨_, rfl, ⟨(fun h => by cases h), fun h => by have := h.2.1; omega⟩, Below.refl _ _⟩
      · go_wp2
        go_ret
        exact ⟨_, rfl, ⟨(fun h => by cases h), fun h => by have := h.1; omega⟩, Below.refl _ _⟩

set_option maxHeartbeats 1000000 in
theorem ident_any (s : ByteArray) (w : World) (hs : s.size ≤ 1048576) :
    Calls Try.prog 58 #[.string s] w (BoolOut (Ident s) w) := by
  by_cases h1 : (s.size : Int) < 1
  · go_enter Try.func58, Try.ntmps58
    go_wp2
    go_ret
    exact ⟨_, rfl, ⟨(fun h => by cases h), fun h => by have := h.1; omega⟩, Below.refl _ _⟩
  · by_cases h8 : 8 < (s.size : Int)
    · go_enter Try.func58, Try.ntmps58
      go_wp2
      go_ret
      exact ⟨_, rfl, ⟨(fun h => by cases h), fun h => by have := h.2.1; omega⟩, Below.refl _ _⟩
    · go_enter Try.func58, Try.ntmps58
      go_wp2
      go_loopw [3] (fun _ wr => ∃ pos : Nat, pos ≤ s.size ∧ wr = w.iter s pos ∧ UpTo s pos) (fun _ wr => s.size - wr.iterPos w.heap.size)
      case atStart => exact ⟨0, Nat.zero_le _, rfl, fun i h h0 => by omega⟩
      case round =>
        obtain ⟨pos, hk, rfl, hg⟩ := hrel
        have HG := Lib.hid hg
        clear hg
        by_cases hlt : pos < s.size
        · by_cases ha : (s[pos]'hlt).toNat < 128
          · rcases good_cases pos (s[pos]'hlt).toNat with h | ⟨h1, h⟩ | ⟨h1, h⟩ | ⟨h1, h⟩
            · have hnx : ∀ ty, (Instr.next (.pointer (some ⟨w.heap.size, 0, none⟩)) true ty).run Try.prog (w.iter s pos) = _ := fun ty => run_next_ascii w s pos ty hlt ha
              go_wp2
              go_roundw
              case rel => exact ⟨pos + 1, by omega, rfl, upTo_step HG.out hlt (by unfold GoodAt; omega)⟩
              case measure => simp; omega
            · have hnx : ∀ ty, (Instr.next (.pointer (some ⟨w.heap.size, 0, none⟩)) true ty).run Try.prog (w.iter s pos) = _ := fun ty => run_next_ascii w s pos ty hlt ha
              have hk0 : ((pos : Int) == 0) = false := by simp; omega
              have b1 : decide ((97 : Int) ≤ ((s[pos]'hlt).toNat : Int)) = false := decide_eq_false (by omega)
              have b2 : decide ((48 : Int) ≤ ((s[pos]'hlt).toNat : Int)) = true := decide_eq_true (by omega)
              have b3 : decide (((s[pos]'hlt).toNat : Int) ≤ 57) = true := decide_eq_true (by omega)
              clear h1
              · go_wp2
                go_roundw
                case rel => exact ⟨pos + 1, by omega, rfl, upTo_step HG.out hlt (by unfold GoodAt; omega)⟩
                case measure => simp; omega
            · subst h
              have hnx : ∀ ty, (Instr.next (.pointer (some ⟨w.heap.size, 0, none⟩)) true ty).run Try.prog (w.iter s 0) = _ := fun ty => run_next_ascii w s 0 ty hlt ha
              rcases h1 with h1 | h1
              · have b1 : decide ((97 : Int) ≤ ((s[0]'hlt).toNat : Int)) = false := decide_eq_false (by omega)
                go_wp2
                go_ret
                exact ⟨false, rfl, not_ident hlt (by unfold GoodAt; omega), below_iter _ _ _⟩
              · have b1 : decide ((97 : Int) ≤ ((s[0]'hlt).toNat : Int)) = true := decide_eq_true (by omega)
                have b2 : decide (((s[0]'hlt).toNat : Int) ≤ 122) = false := decide_eq_false (by omega)
                go_wp2
                go_ret
                exact ⟨false, rfl, not_ident hlt (by unfold GoodAt; omega), below_iter _ _ _⟩
            · have hnx : ∀ ty, (Instr.next (.pointer (some ⟨w.heap.size, 0, none⟩)) true ty).run Try.prog (w.iter s pos) = _ := fun ty => run_next_ascii w s pos ty hlt ha
              have hk0 : ((pos : Int) == 0) = false := by simp; omega
              rcases h1 with h1 | h1 <;> rcases h.2 with h2 | h2
              · have b1 : decide ((97 : Int) ≤ ((s[pos]'hlt).toNat : Int)) = false := decide_eq_false (by omega)
                have b2 : decide ((48 : Int) ≤ ((s[pos]'hlt).toNat : Int)) = false := decide_eq_false (by omega)
                go_wp2
                go_ret
                exact ⟨false, rfl, not_ident hlt (by unfold GoodAt; omega), below_iter _ _ _⟩
              · have b1 : decide ((97 : Int) ≤ ((s[pos]'hlt).toNat : Int)) = false := decide_eq_false (by omega)
                have b2 : decide ((48 : Int) ≤ ((s[pos]'hlt).toNat : Int)) = true := decide_eq_true (by omega)
                have b3 : decide (((s[pos]'hlt).toNat : Int) ≤ 57) = false := decide_eq_false (by omega)
                go_wp2
                go_ret
                exact ⟨false, rfl, not_ident hlt (by unfold GoodAt; omega), below_iter _ _ _⟩
              · exfalso; omega
              · have b1 : decide ((97 : Int) ≤ ((s[pos]'hlt).toNat : Int)) = true := decide_eq_true (by omega)
                have b2 : decide (((s[pos]'hlt).toNat : Int) ≤ 122) = false := decide_eq_false (by omega)
                have b3 : decide ((48 : Int) ≤ ((s[pos]'hlt).toNat : Int)) = true := decide_eq_true (by omega)
                have b4 : decide (((s[pos]'hlt).toNat : Int) ≤ 57) = false := decide_eq_false (by omega)
                go_wp2
                go_ret
                exact ⟨false, rfl, not_ident hlt (by unfold GoodAt; omega), below_iter _ _ _⟩
          · have hh := (decode_high s pos hlt (by omega)).1
            by_cases h0 : pos = 0
            · subst h0
              have hnx : ∀ ty, (Instr.next (.pointer (some ⟨w.heap.size, 0, none⟩)) true ty).run Try.prog (w.iter s 0) = _ := fun ty => run_next_any w s 0 ty hlt
              have b1 : decide ((97 : Int) ≤ ((Utf8.decode s 0).1 : Int)) = true := decide_eq_true (by omega)
              have b2 : decide (((Utf8.decode s 0).1 : Int) ≤ 122) = false := decide_eq_false (by omega)
              have b3 : decide ((48 : Int) ≤ ((Utf8.decode s 0).1 : Int)) = true := decide_eq_true (by omega)
              have b4 : decide (((Utf8.decode s 0).1 : Int) ≤ 57) = false := decide_eq_false (by omega)
              go_wp2
              go_ret
              exact ⟨false, rfl, not_ident hlt (by unfold GoodAt; omega), below_iter _ _ _⟩
            · have hnx : ∀ ty, (Instr.next (.pointer (some ⟨w.heap.size, 0, none⟩)) true ty).run Try.prog (w.iter s pos) = _ := fun ty => run_next_any w s pos ty hlt
              have b1 : decide ((97 : Int) ≤ ((Utf8.decode s pos).1 : Int)) = true := decide_eq_true (by omega)
              have b2 : decide (((Utf8.decode s pos).1 : Int) ≤ 122) = false := decide_eq_false (by omega)
              have b3 : decide ((48 : Int) ≤ ((Utf8.decode s pos).1 : Int)) = true := decide_eq_true (by omega)
              have b4 : decide (((Utf8.decode s pos).1 : Int) ≤ 57) = false := decide_eq_false (by omega)
              have hk0 : ((pos : Int) == 0) = false := by simp; omega
              go_wp2
              go_ret
              exact ⟨false, rfl, not_ident hlt (by unfold GoodAt; omega), below_iter _ _ _⟩
        · have hnx : ∀ ty, (Instr.next (.pointer (some ⟨w.heap.size, 0, none⟩)) true ty).run Try.prog (w.iter s pos) = _ := fun ty => run_next_end w s pos ty hlt
          go_wp2
          go_ret
          exact ⟨_, rfl, ⟨fun _ => ⟨by omega, by omega, fun i h => HG.out i h (by omega)⟩, fun _ => rfl⟩, below_iter _ _ _⟩

end Go.Proofs.Ytpcdlehicdepaaa
