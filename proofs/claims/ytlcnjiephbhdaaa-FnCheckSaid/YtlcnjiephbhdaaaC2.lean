/- Merged texts: Ident Pn Qa Qb Qc Qd Qe. -/
import Derived.Test.YtlcnjiephbhdaaaProg
import Derived.Test.YtlcnjiephbhdaaaC0
import Derived.Test.YtlcnjiephbhdaaaC1
import Derived.Test.YtlcnjiephbhdaaaShelf
import Derived.WalkKit
import Derived.WalkSpells
import Derived.WalkLawsBesides
import Derived.Lib.Hide
import Derived.Laws.RangeAny
import Derived.Laws.RangeString
import Derived.Deep.RegionHeld3
import Derived.Deep.QuietTactic
import Derived.BigQuiet
import Derived.Handy
import Derived.Deep.DeepCutAuto
import Derived.OwnWalk
import Derived.Lib.OwnBridge
namespace Go.Proofs.Ytlcnjiephbhdaaa
section
open Go.RowKit

/-- what a call that answers a bool leaves: the answer is yes just where p holds; nothing that was there has turned -/
def BoolOut (p : Prop) (w : World) (e : Ending) (w' : World) : Prop := ∃ b : Bool, e = .returned (.bool b) ∧ (b = true ↔ p) ∧ Below w.heap.size w w'
def GoodAt (i : Nat) (c : Nat) : Prop := (97 ≤ c ∧ c ≤ 122) ∨ (i ≠ 0 ∧ 48 ≤ c ∧ c ≤ 57)
def Ident (s : ByteArray) : Prop := 1 ≤ s.size ∧ s.size ≤ 8 ∧ ∀ i (h : i < s.size), GoodAt i (s[i]'h).toNat
theorem below_iter (w : World) (s : ByteArray) (p : Nat) : Below w.heap.size w (w.iter s p) := by
  unfold World.iter
  exact (Below.refl _ _).alloc (Nat.le_refl _) _
def UpTo (s : ByteArray) (k : Nat) : Prop := ∀ i (h : i < s.size), i < k → GoodAt i (s[i]'h).toNat
theorem upTo_step {s : ByteArray} {k : Nat} (h : UpTo s k) (hk : k < s.size) (g : GoodAt k (s[k]'hk).toNat) : UpTo s (k + 1) := fun i hi hlt => by
  rcases Nat.lt_or_ge i k with hh | hh
  · exact h i hi hh
  · obtain rfl : i = k := by omega
    exact g
theorem not_ident {s : ByteArray} {k : Nat} (hk : k < s.size) (g : ¬ GoodAt k (s[k]'hk).toNat) : (false = true ↔ Ident s) := ⟨(fun h => by cases h), fun h => absurd (h.2.2 k hk) g⟩
theorem good_cases (k c : Nat) : (97 ≤ c ∧ c ≤ 122) ∨ ((c < 97 ∨ 122 < c) ∧ k ≠ 0 ∧ 48 ≤ c ∧ c ≤ 57) ∨ ((c < 97 ∨ 122 < c) ∧ k = 0) ∨ ((c < 97 ∨ 122 < c) ∧ k ≠ 0 ∧ (c < 48 ∨ 57 < c)) := by omega

set_option maxHeartbeats 1000000 in
theorem sIdent_any (s : ByteArray) (w : World) (hs : s.size ≤ 1048576) :
    Calls Try.prog 58 #[.string s] w (BoolOut (Ident s) w) := by
  go_enter Try.func58, Try.ntmps58
  go_wp2
  go_loop [3] (fun i => ∃ k : Nat, k ≤ s.size ∧ i = .int .i64 k ∧ UpTo s k) (fun i => s.size - (intOf i).toNat)
  case atStart => exact ⟨0, Nat.zero_le _, rfl, fun i h h0 => by omega⟩
  case round =>
    obtain ⟨k, hk, rfl, hg⟩ := hrel
    have HG := Lib.hid hg
    clear hg
    by_cases hlt : k < s.size
    · rcases good_cases k (s[k]'hlt).toNat with h | ⟨h1, h⟩ | ⟨h1, h⟩ | ⟨h1, h⟩
      · go_wp2
        go_round
        case rel => exact ⟨k + 1, by omega, by go_num, upTo_step HG.out hlt (by unfold GoodAt; omega)⟩
        case measure => simp [intOf]; omega
      · have hk0 : ((k : Int) == 0) = false := by simp; omega
        have b1 : decide ((97 : Int) ≤ ((s[k]'hlt).toNat : Int)) = false := decide_eq_false (by omega)
        have b2 : decide (((s[k]'hlt).toNat : Int) < 48) = false := decide_eq_false (by omega)
        have b3 : decide ((57 : Int) < ((s[k]'hlt).toNat : Int)) = false := decide_eq_false (by omega)
        clear h1
        · go_wp2
          go_round
          case rel => exact ⟨k + 1, by omega, by go_num, upTo_step HG.out hlt (by unfold GoodAt; omega)⟩
          case measure => simp [intOf]; omega
      · subst h
        rcases h1 with h1 | h1
        · have b1 : decide ((97 : Int) ≤ ((s[0]'hlt).toNat : Int)) = false := decide_eq_false (by omega)
          go_wp2
          go_ret
          exact ⟨false, rfl, not_ident hlt (by unfold GoodAt; omega), Below.refl _ _⟩
        · have b1 : decide ((97 : Int) ≤ ((s[0]'hlt).toNat : Int)) = true := decide_eq_true (by omega)
          have b2 : decide (((s[0]'hlt).toNat : Int) ≤ 122) = false := decide_eq_false (by omega)
          go_wp2
          go_ret
          exact ⟨false, rfl, not_ident hlt (by unfold GoodAt; omega), Below.refl _ _⟩
      · have hk0 : ((k : Int) == 0) = false := by simp; omega
        rcases h1 with h1 | h1 <;> rcases h.2 with h2 | h2
        · have b1 : decide ((97 : Int) ≤ ((s[k]'hlt).toNat : Int)) = false := decide_eq_false (by omega)
          have b2 : decide (((s[k]'hlt).toNat : Int) < 48) = true := decide_eq_true (by omega)
          go_wp2
          go_ret
          exact ⟨false, rfl, not_ident hlt (by unfold GoodAt; omega), Below.refl _ _⟩
        · have b1 : decide ((97 : Int) ≤ ((s[k]'hlt).toNat : Int)) = false := decide_eq_false (by omega)
          have b2 : decide (((s[k]'hlt).toNat : Int) < 48) = false := decide_eq_false (by omega)
          have b3 : decide ((57 : Int) < ((s[k]'hlt).toNat : Int)) = true := decide_eq_true (by omega)
          go_wp2
          go_ret
          exact ⟨false, rfl, not_ident hlt (by unfold GoodAt; omega), Below.refl _ _⟩
        · exfalso; omega
        · have b1 : decide ((97 : Int) ≤ ((s[k]'hlt).toNat : Int)) = true := decide_eq_true (by omega)
          have b2 : decide (((s[k]'hlt).toNat : Int) ≤ 122) = false := decide_eq_false (by omega)
          have b3 : decide (((s[k]'hlt).toNat : Int) < 48) = false := decide_eq_false (by omega)
          have b4 : decide ((57 : Int) < ((s[k]'hlt).toNat : Int)) = true := decide_eq_true (by omega)
          go_wp2
          go_ret
          exact ⟨false, rfl, not_ident hlt (by unfold GoodAt; omega), Below.refl _ _⟩
    · by_cases h1 : (1 : Int) ≤ s.size
      · by_cases h8 : (s.size : Int) ≤ 8
        · go_wp2
          go_ret
          exact ⟨_, rfl, ⟨fun _ => ⟨by omega, by omega, fun i h => HG.out i h (by omega)⟩, fun _ => rfl⟩, Below.refl _ _⟩
        · go_wp2
          go_ret
          exact ⟨_, rfl, ⟨(fun h => by cases h), fun h => by have := h.2.1; omega⟩, Below.refl _ _⟩
      · go_wp2
        go_ret
        exact ⟨_, rfl, ⟨(fun h => by cases h), fun h => by have := h.1; omega⟩, Below.refl _ _⟩

set_option maxHeartbeats 1000000 in
theorem ident_any (s : ByteArray) (w : World) (hs : s.size ≤ 1048576) :
    Calls Try.prog 27 #[.string s] w (BoolOut (Ident s) w) := by
  by_cases h1 : (s.size : Int) < 1
  · go_enter Try.func27, Try.ntmps27
    go_wp2
    go_ret
    exact ⟨_, rfl, ⟨(fun h => by cases h), fun h => by have := h.1; omega⟩, Below.refl _ _⟩
  · by_cases h8 : 8 < (s.size : Int)
    · go_enter Try.func27, Try.ntmps27
      go_wp2
      go_ret
      exact ⟨_, rfl, ⟨(fun h => by cases h), fun h => by have := h.2.1; omega⟩, Below.refl _ _⟩
    · go_enter Try.func27, Try.ntmps27
      go_wp2
      go_loopw [3] (fun _ wr => ∃ pos : Nat, pos ≤ s.size ∧ wr = w.iter s pos ∧ UpTo s pos) (fun _ wr => s.size - wr.iterPos w.heap.size)
      case atStart => exact ⟨0, Nat.zero_le _, rfl, fun i h h0 => by omega⟩
      case round =>
        obtain ⟨pos, hk, rfl, hg⟩ := hrel
        have HG := Lib.hid hg
        clear hg
        by_cases hlt : pos < s.size
        · by_cases ha : (s[pos]'hlt).toNat < 128
          · rcases good_cases pos (s[pos]'hlt).toNat with h | ⟨h1, h⟩ | ⟨h1, h⟩ | ⟨h1, h⟩
            · have hnx : ∀ ty, (Instr.next (.pointer (some ⟨w.heap.size, 0, none⟩)) true ty).run Try.prog (w.iter s pos) = _ := fun ty => run_next_ascii w s pos ty hlt ha
              go_wp2
              go_roundw
              case rel => exact ⟨pos + 1, by omega, rfl, upTo_step HG.out hlt (by unfold GoodAt; omega)⟩
              case measure => simp; omega
            · have hnx : ∀ ty, (Instr.next (.pointer (some ⟨w.heap.size, 0, none⟩)) true ty).run Try.prog (w.iter s pos) = _ := fun ty => run_next_ascii w s pos ty hlt ha
              have hk0 : ((pos : Int) == 0) = false := by simp; omega
              have b1 : decide ((97 : Int) ≤ ((s[pos]'hlt).toNat : Int)) = false := decide_eq_false (by omega)
              have b2 : decide ((48 : Int) ≤ ((s[pos]'hlt).toNat : Int)) = true := decide_eq_true (by omega)
              have b3 : decide (((s[pos]'hlt).toNat : Int) ≤ 57) = true := decide_eq_true (by omega)
              clear h1
              · go_wp2
                go_roundw
                case rel => exact ⟨pos + 1, by omega, rfl, upTo_step HG.out hlt (by unfold GoodAt; omega)⟩
                case measure => simp; omega
            · subst h
              have hnx : ∀ ty, (Instr.next (.pointer (some ⟨w.heap.size, 0, none⟩)) true ty).run Try.prog (w.iter s 0) = _ := fun ty => run_next_ascii w s 0 ty hlt ha
              rcases h1 with h1 | h1
              · have b1 : decide ((97 : Int) ≤ ((s[0]'hlt).toNat : Int)) = false := decide_eq_false (by omega)
                go_wp2
                go_ret
                exact ⟨false, rfl, not_ident hlt (by unfold GoodAt; omega), below_iter _ _ _⟩
              · have b1 : decide ((97 : Int) ≤ ((s[0]'hlt).toNat : Int)) = true := decide_eq_true (by omega)
                have b2 : decide (((s[0]'hlt).toNat : Int) ≤ 122) = false := decide_eq_false (by omega)
                go_wp2
                go_ret
                exact ⟨false, rfl, not_ident hlt (by unfold GoodAt; omega), below_iter _ _ _⟩
            · have hnx : ∀ ty, (Instr.next (.pointer (some ⟨w.heap.size, 0, none⟩)) true ty).run Try.prog (w.iter s pos) = _ := fun ty => run_next_ascii w s pos ty hlt ha
              have hk0 : ((pos : Int) == 0) = false := by simp; omega
              rcases h1 with h1 | h1 <;> rcases h.2 with h2 | h2
              · have b1 : decide ((97 : Int) ≤ ((s[pos]'hlt).toNat : Int)) = false := decide_eq_false (by omega)
                have b2 : decide ((48 : Int) ≤ ((s[pos]'hlt).toNat : Int)) = false := decide_eq_false (by omega)
                go_wp2
                go_ret
                exact ⟨false, rfl, not_ident hlt (by unfold GoodAt; omega), below_iter _ _ _⟩
              · have b1 : decide ((97 : Int) ≤ ((s[pos]'hlt).toNat : Int)) = false := decide_eq_false (by omega)
                have b2 : decide ((48 : Int) ≤ ((s[pos]'hlt).toNat : Int)) = true := decide_eq_true (by omega)
                have b3 : decide (((s[pos]'hlt).toNat : Int) ≤ 57) = false := decide_eq_false (by omega)
                go_wp2
                go_ret
                exact ⟨false, rfl, not_ident hlt (by unfold GoodAt; omega), below_iter _ _ _⟩
              · exfalso; omega
              · have b1 : decide ((97 : Int) ≤ ((s[pos]'hlt).toNat : Int)) = true := decide_eq_true (by omega)
                have b2 : decide (((s[pos]'hlt).toNat : Int) ≤ 122) = false := decide_eq_false (by omega)
                have b3 : decide ((48 : Int) ≤ ((s[pos]'hlt).toNat : Int)) = true := decide_eq_true (by omega)
                have b4 : decide (((s[pos]'hlt).toNat : Int) ≤ 57) = false := decide_eq_false (by omega)
                go_wp2
                go_ret
                exact ⟨false, rfl, not_ident hlt (by unfold GoodAt; omega), below_iter _ _ _⟩
          · have hh := (decode_high s pos hlt (by omega)).1
            by_cases h0 : pos = 0
            · subst h0
              have hnx : ∀ ty, (Instr.next (.pointer (some ⟨w.heap.size, 0, none⟩)) true ty).run Try.prog (w.iter s 0) = _ := fun ty => run_next_any w s 0 ty hlt
              have b1 : decide ((97 : Int) ≤ ((Utf8.decode s 0).1 : Int)) = true := decide_eq_true (by omega)
              have b2 : decide (((Utf8.decode s 0).1 : Int) ≤ 122) = false := decide_eq_false (by omega)
              have b3 : decide ((48 : Int) ≤ ((Utf8.decode s 0).1 : Int)) = true := decide_eq_true (by omega)
              have b4 : decide (((Utf8.decode s 0).1 : Int) ≤ 57) = false := decide_eq_false (by omega)
              go_wp2
              go_ret
              exact ⟨false, rfl, not_ident hlt (by unfold GoodAt; omega), below_iter _ _ _⟩
            · have hnx : ∀ ty, (Instr.next (.pointer (some ⟨w.heap.size, 0, none⟩)) true ty).run Try.prog (w.iter s pos) = _ := fun ty => run_next_any w s pos ty hlt
              have b1 : decide ((97 : Int) ≤ ((Utf8.decode s pos).1 : Int)) = true := decide_eq_true (by omega)
              have b2 : decide (((Utf8.decode s pos).1 : Int) ≤ 122) = false := decide_eq_false (by omega)
              have b3 : decide ((48 : Int) ≤ ((Utf8.decode s pos).1 : Int)) = true := decide_eq_true (by omega)
              have b4 : decide (((Utf8.decode s pos).1 : Int) ≤ 57) = false := decide_eq_false (by omega)
              have hk0 : ((pos : Int) == 0) = false := by simp; omega
              go_wp2
              go_ret
              exact ⟨false, rfl, not_ident hlt (by unfold GoodAt; omega), below_iter _ _ _⟩
        · have hnx : ∀ ty, (Instr.next (.pointer (some ⟨w.heap.size, 0, none⟩)) true ty).run Try.prog (w.iter s pos) = _ := fun ty => run_next_end w s pos ty hlt
          go_wp2
          go_ret
          exact ⟨_, rfl, ⟨fun _ => ⟨by omega, by omega, fun i h => HG.out i h (by omega)⟩, fun _ => rfl⟩, below_iter _ _ _⟩
end

section

def rtsZ (ys : List As) : List Int := ys.map (·.2)
/-- the numbers below n -/
def upZ (n : Nat) : List Int := (List.range n).map Int.ofNat
theorem upZ_len (n : Nat) : (upZ n).length = n := by simp [upZ]
theorem upZ_at (n k : Nat) (h : k < (upZ n).length) : (upZ n)[k] = (k : Int) := by simp [upZ]
theorem upZ_up (n : Nat) : List.Pairwise (fun a b : Int => decide (a ≤ b) = true) (upZ n) := by
  rw [List.pairwise_iff_getElem]
  intro i j hi hj hij
  rw [upZ_at, upZ_at]
  simp
  omega
theorem upZ_mem (n : Nat) (a : Int) : a ∈ upZ n ↔ 0 ≤ a ∧ a < n := by
  unfold upZ
  rw [List.mem_map]
  constructor
  · rintro ⟨k, hk, rfl⟩
    rw [List.mem_range] at hk
    simp
    omega
  · rintro ⟨h0, h1⟩
    exact ⟨a.toNat, by rw [List.mem_range]; omega, by show ((a.toNat : Nat) : Int) = a; omega⟩
theorem upZ_nodup (n : Nat) : (upZ n).Nodup := by
  unfold upZ List.Nodup
  rw [List.pairwise_map]
  refine List.Pairwise.imp ?_ (List.nodup_range (n := n))
  intro a b h e
  exact h (Int.ofNat.inj e)
theorem upZ_count (n : Nat) (a : Int) : (upZ n).count a = if 0 ≤ a ∧ a < n then 1 else 0 := by
  by_cases h : 0 ≤ a ∧ a < n
  · rw [if_pos h]
    have hm := (upZ_mem n a).2 h
    have h1 := List.count_pos_iff.2 hm
    have h2 := List.nodup_iff_count.1 (upZ_nodup n) a
    omega
  · rw [if_neg h]
    exact List.count_eq_zero.2 fun hm => h ((upZ_mem n a).1 hm)
abbrev srt (l : List Int) : List Int := l.mergeSort (fun x y => decide (x ≤ y))
theorem srt_len (l : List Int) : (srt l).length = l.length := (List.mergeSort_perm l _).length_eq
theorem srt_perm (l : List Int) (n : Nat) : l.Perm (upZ n) ↔ srt l = upZ n := by
  constructor
  · intro h
    refine List.Perm.eq_of_pairwise (le := fun a b : Int => decide (a ≤ b) = true) ?_ ?_ (upZ_up n) ((List.mergeSort_perm l _).trans h)
    · intro a b _ _ h1 h2
      simp at h1 h2
      omega
    · refine List.pairwise_mergeSort ?_ ?_ l
      · intro a b c h1 h2
        simp at h1 h2 ⊢
        omega
      · intro a b
        simp
        omega
  · intro h
    rw [← h]
    exact (List.mergeSort_perm l _).symm
/-- each of n numbers once -/
theorem perm_of_srt {l : List Int} {n : Nat} (h : ∀ k (hk : k < (srt l).length), (srt l)[k] = (k : Int)) (hn : l.length = n) : l.Perm (upZ n) := by
  rw [srt_perm]
  refine List.ext_getElem (by rw [srt_len, upZ_len, hn]) fun k h1 h2 => ?_
  rw [h k h1, upZ_at]
theorem not_perm_at {l : List Int} {n k : Nat} (hk : k < (srt l).length) (h : (srt l)[k] ≠ (k : Int)) : ¬ l.Perm (upZ n) := fun hp => by
  have e := (srt_perm l n).1 hp
  apply h
  have hk2 : k < (upZ n).length := by rw [← e]; exact hk
  have : (srt l)[k] = (upZ n)[k] := by congr 1
  rw [this, upZ_at]
theorem perm_len {l : List Int} {n : Nat} (h : l.Perm (upZ n)) : l.length = n := by rw [h.length_eq, upZ_len]
theorem perm_counts {l : List Int} {n : Nat} (hin : ∀ a ∈ l, 0 ≤ a ∧ a < (n : Int)) (hc : ∀ k, k < n → l.count (k : Int) = 1) : l.Perm (upZ n) := by
  rw [List.perm_iff_count]
  intro a
  rw [upZ_count]
  by_cases h : 0 ≤ a ∧ a < (n : Int)
  · rw [if_pos h]
    have := hc a.toNat (by omega)
    rw [show ((a.toNat : Nat) : Int) = a by omega] at this
    exact this
  · rw [if_neg h]
    exact List.count_eq_zero.2 fun hm => h (hin a hm)
theorem counts_perm {l : List Int} {n : Nat} (h : l.Perm (upZ n)) {k : Nat} (hk : k < n) : l.count (k : Int) = 1 := by
  rw [h.count_eq, upZ_count, if_pos (by omega)]
/-- the arguments of all nodes; all references of a program -/
def argsL (xs : List Nd) : List Int := xs.flatMap (·.2.2.2)
def refsP (xs : List Nd) (ys : List As) : List Int := rtsZ ys ++ argsL xs
theorem args_step (xs : List Nd) (k : Nat) (h : k < xs.length) : argsL (xs.take (k + 1)) = argsL (xs.take k) ++ (xs[k]).2.2.2 := by
  unfold argsL
  rw [List.take_succ_eq_append_getElem h, List.flatMap_append]
  simp
def shapeN (v : Nd) : Prop :=
  (v.1 = 1 ∧ v.2.1 = ⟨#[]⟩ ∧ 0 ≤ v.2.2.1 ∧ v.2.2.1 ≤ 2559999 ∧ v.2.2.2.length = 0) ∨
  (v.1 = 2 ∧ Ident v.2.1 ∧ v.2.2.1 = 0 ∧ v.2.2.2.length = 0) ∨
  (v.1 = 3 ∧ v.2.1 = ⟨#[]⟩ ∧ v.2.2.1 = 0 ∧ v.2.2.2.length = 1) ∨
  (4 ≤ v.1 ∧ v.1 ≤ 7 ∧ v.2.1 = ⟨#[]⟩ ∧ v.2.2.1 = 0 ∧ v.2.2.2.length = 2) ∨
  (v.1 = 8 ∧ Ident v.2.1 ∧ v.2.2.1 = 0 ∧ v.2.2.2.length ≤ 3)
def argsIn (i : Nat) (l : List Int) : Prop := ∀ a ∈ l, 0 ≤ a ∧ a ≤ (i : Int) - 1
def okN (i : Nat) (v : Nd) : Prop := shapeN v ∧ argsIn i v.2.2.2
/-- a program that can be written -/
def okPr (xs : List Nd) (ys : List As) : Prop :=
  xs.length ≤ 60 ∧ (∀ i (h : i < xs.length), okN i xs[i]) ∧ (∀ j (h : j < ys.length), Ident (ys[j]).1) ∧ (refsP xs ys).Perm (upZ xs.length)
theorem okPr_root {xs : List Nd} {ys : List As} (h : okPr xs ys) {j : Nat} (hj : j < ys.length) : 0 ≤ (ys[j]).2 ∧ (ys[j]).2 < xs.length := by
  refine (upZ_mem _ _).1 (h.2.2.2.mem_iff.1 ?_)
  unfold refsP rtsZ
  exact List.mem_append_left _ (List.mem_map.2 ⟨ys[j], List.getElem_mem hj, rfl⟩)
theorem refs_in {xs : List Nd} {ys : List As} (h1 : ∀ i (h : i < xs.length), argsIn i (xs[i]).2.2.2) (h2 : ∀ j (h : j < ys.length), 0 ≤ (ys[j]).2 ∧ (ys[j]).2 < xs.length) : ∀ a ∈ refsP xs ys, 0 ≤ a ∧ a < (xs.length : Int) := by
  intro a ha
  unfold refsP rtsZ argsL at ha
  rcases List.mem_append.1 ha with ha | ha
  · obtain ⟨y, hy, rfl⟩ := List.mem_map.1 ha
    obtain ⟨j, hj, rfl⟩ := List.getElem_of_mem hy
    exact h2 j hj
  · obtain ⟨x, hx, ha⟩ := List.mem_flatMap.1 ha
    obtain ⟨i, hi, rfl⟩ := List.getElem_of_mem hx
    have := h1 i hi a ha
    omega
theorem args_len (xs : List Nd) : ∀ m, (∀ x ∈ xs, x.2.2.2.length ≤ m) → (argsL xs).length ≤ xs.length * m := by
  induction xs with
  | nil => intro m _; simp [argsL]
  | cons x xs ih =>
    intro m h
    have h1 := h x (by simp)
    have h2 := ih m (fun y hy => h y (by simp [hy]))
    unfold argsL at h2 ⊢
    simp only [List.flatMap_cons, List.length_append, List.length_cons, Nat.add_mul]
    omega
end

section
open Go.RowKit

/-- n lies from lo to hi -/
def inQ (lo hi n : Int) : Bool := decide (lo ≤ n) && decide (n ≤ hi)
theorem inQ_iff (lo hi n : Int) : inQ lo hi n = true ↔ lo ≤ n ∧ n ≤ hi := by simp [inQ]
theorem inQ_not {lo hi n : Int} (h : inQ lo hi n = false) : ¬ (lo ≤ n ∧ n ≤ hi) := fun k => by rw [(inQ_iff ..).2 k] at h; cases h
section
variable {v : Nd}
theorem shape_1 (h : v.1 = 1) : shapeN v ↔ v.2.1 = ⟨#[]⟩ ∧ 0 ≤ v.2.2.1 ∧ v.2.2.1 ≤ 2559999 ∧ v.2.2.2.length = 0 := by
  unfold shapeN
  constructor
  · rintro (⟨_, k⟩ | ⟨e, _⟩ | ⟨e, _⟩ | ⟨e, e2, _⟩ | ⟨e, _⟩)
    · exact k
    all_goals omega
  · exact fun k => .inl ⟨h, k⟩
theorem shape_2 (h : v.1 = 2) : shapeN v ↔ Ident v.2.1 ∧ v.2.2.1 = 0 ∧ v.2.2.2.length = 0 := by
  unfold shapeN
  constructor
  · rintro (⟨e, _⟩ | ⟨_, k⟩ | ⟨e, _⟩ | ⟨e, e2, _⟩ | ⟨e, _⟩)
    · omega
    · exact k
    all_goals omega
  · exact fun k => .inr (.inl ⟨h, k⟩)
theorem shape_3 (h : v.1 = 3) : shapeN v ↔ v.2.1 = ⟨#[]⟩ ∧ v.2.2.1 = 0 ∧ v.2.2.2.length = 1 := by
  unfold shapeN
  constructor
  · rintro (⟨e, _⟩ | ⟨e, _⟩ | ⟨_, k⟩ | ⟨e, e2, _⟩ | ⟨e, _⟩)
    · omega
    · omega
    · exact k
    all_goals omega
  · exact fun k => .inr (.inr (.inl ⟨h, k⟩))
theorem shape_4 (h : 4 ≤ v.1 ∧ v.1 ≤ 7) : shapeN v ↔ v.2.1 = ⟨#[]⟩ ∧ v.2.2.1 = 0 ∧ v.2.2.2.length = 2 := by
  unfold shapeN
  constructor
  · rintro (⟨e, _⟩ | ⟨e, _⟩ | ⟨e, _⟩ | ⟨_, _, k⟩ | ⟨e, _⟩)
    · omega
    · omega
    · omega
    · exact k
    · omega
  · exact fun k => .inr (.inr (.inr (.inl ⟨h.1, h.2, k⟩)))
theorem shape_8 (h : v.1 = 8) : shapeN v ↔ Ident v.2.1 ∧ v.2.2.1 = 0 ∧ v.2.2.2.length ≤ 3 := by
  unfold shapeN
  constructor
  · rintro (⟨e, _⟩ | ⟨e, _⟩ | ⟨e, _⟩ | ⟨e, e2, _⟩ | ⟨_, k⟩)
    · omega
    · omega
    · omega
    · omega
    · exact k
  · exact fun k => .inr (.inr (.inr (.inr ⟨h, k⟩)))
theorem shape_no (h : v.1 < 1 ∨ 8 < v.1) : ¬ shapeN v := by
  unfold shapeN
  rintro (⟨e, _⟩ | ⟨e, _⟩ | ⟨e, _⟩ | ⟨e, e2, _⟩ | ⟨e, _⟩) <;> omega
end
theorem nil_iff (s : ByteArray) : (s.toList == []) = decide (s = ⟨#[]⟩) := by
  by_cases h : s = ⟨#[]⟩
  · subst h
    simp [ByteArray.toList_eq]
  · rw [decide_eq_false h]
    simp only [beq_eq_false_iff_ne, ne_eq]
    intro e
    apply h
    apply ByteArray.ext
    rw [ByteArray.toList_eq] at e
    exact Array.toList_eq_nil_iff.1 e
/-- a call that answers whether p holds, and leaves all as it was -/
def BoolAt (p : Prop) (w : World) (e : Ending) (w' : World) : Prop := ∃ b : Bool, e = .returned (.bool b) ∧ (b = true ↔ p) ∧ w = w'
theorem iffF {p : Prop} (h : ¬ p) : (false = true ↔ p) := ⟨(fun e => by cases e), fun k => absurd k h⟩
theorem iffT {p : Prop} (h : p) : (true = true ↔ p) := ⟨fun _ => h, fun _ => rfl⟩

set_option maxHeartbeats 2000000 in
theorem isWithinQ (n lo hi : Int) (w : World) :
    Calls Try.prog 19 #[.int .i64 n, .int .i64 lo, .int .i64 hi] w (fun x w' => x = .returned (.bool (inQ lo hi n)) ∧ w = w') := by
  by_cases h0 : lo ≤ n
  · by_cases h1 : n ≤ hi
    all_goals
      have b0 : decide (lo ≤ n) = true := decide_eq_true h0
      have e : inQ lo hi n = decide (n ≤ hi) := by unfold inQ; simp [h0]
      rw [e]
      first
        | have b1 : decide (n ≤ hi) = true := decide_eq_true h1
        | have b1 : decide (n ≤ hi) = false := decide_eq_false h1
      rw [b1]
      clear e
      go_enter Try.func19, Try.ntmps19
      go_wp2
      go_ret
      exact ⟨rfl, rfl⟩
  · have b0 : decide (lo ≤ n) = false := decide_eq_false h0
    have e : inQ lo hi n = false := by unfold inQ; simp [h0]
    rw [e]
    clear e
    go_enter Try.func19, Try.ntmps19
    go_wp2
    go_ret
    exact ⟨rfl, rfl⟩

set_option maxHeartbeats 2000000 in
theorem l01InQ (n lo hi : Int) (w : World) :
    Calls Try.prog 59 #[.int .i64 n, .int .i64 lo, .int .i64 hi] w (fun x w' => x = .returned (.bool (inQ lo hi n)) ∧ w = w') := by
  by_cases h0 : lo ≤ n
  · by_cases h1 : n ≤ hi
    all_goals
      have b0 : decide (lo ≤ n) = true := decide_eq_true h0
      have e : inQ lo hi n = decide (n ≤ hi) := by unfold inQ; simp [h0]
      rw [e]
      first
        | have b1 : decide (n ≤ hi) = true := decide_eq_true h1
        | have b1 : decide (n ≤ hi) = false := decide_eq_false h1
      rw [b1]
      clear e
      go_enter Try.func59, Try.ntmps59
      go_wp2
      go_ret
      exact ⟨rfl, rfl⟩
  · have b0 : decide (lo ≤ n) = false := decide_eq_false h0
    have e : inQ lo hi n = false := by unfold inQ; simp [h0]
    rw [e]
    clear e
    go_enter Try.func59, Try.ntmps59
    go_wp2
    go_ret
    exact ⟨rfl, rfl⟩

set_option maxHeartbeats 2000000 in
theorem areWithin_any (A : Option Addr) (c : Nat) (xs : List Int) (lo hi : Int) (w : World) (B : Nat) (hR : Row I64 w B A xs) (hl : xs.length ≤ 1099511627776) :
    Calls Try.prog 26 #[.slice A xs.length c, .int .i64 lo, .int .i64 hi] w (BoolAt (∀ a ∈ xs, lo ≤ a ∧ a ≤ hi) w) := by
  go_enter Try.func26, Try.ntmps26
  go_wp2
  go_loop [11] (fun i => ∃ k : Nat, k ≤ xs.length ∧ i = .int .i64 k ∧ ∀ j (h : j < xs.length), j < k → lo ≤ xs[j] ∧ xs[j] ≤ hi) (fun i => xs.length - (intOf i).toNat)
  case atStart => exact ⟨0, Nat.zero_le _, rfl, fun j _ h => by omega⟩
  case round =>
    obtain ⟨k, hk, rfl, hin⟩ := hrel
    by_cases hlt : k < xs.length
    · obtain ⟨b, o, rfl, hbl, c0⟩ := hR.at hlt
      obtain ⟨v, hv⟩ : ∃ v, v = xs[k] := ⟨_, rfl⟩
      have hlt' : (k : Int) < (xs.length : Int) := by omega
      have hge' : (0 : Int) ≤ (k : Int) := by omega
      rw [← hv] at c0
      have HV := Lib.hid hv
      have HIN := Lib.hid hin
      clear hv hin hR
      go_wp2_with fail
      refine (isWithinQ _ _ _ _).mono ?_
      rintro e w1 ⟨rfl, rfl⟩
      cases hb : inQ lo hi v with
      | true =>
        have hvv := (inQ_iff ..).1 hb
        have HST : Hid (∀ j (h : j < xs.length), j < k + 1 → lo ≤ xs[j] ∧ xs[j] ≤ hi) := Lib.hid fun j h hj => by
          rcases Nat.lt_or_ge j k with h1 | h1
          · exact HIN.out j h h1
          · obtain rfl : j = k := by omega
            rw [← HV.out]
            exact hvv
        clear hb hvv
        go_wp2_with fail
        go_round
        case rel => exact ⟨k + 1, by omega, by go_num, HST.out⟩
        case measure => simp [intOf]; omega
      | false =>
        have HZ : Hid (¬ ∀ a ∈ xs, lo ≤ a ∧ a ≤ hi) := Lib.hid fun h => inQ_not hb (by rw [HV.out]; exact h _ (List.getElem_mem hlt))
        clear hb
        go_wp2_with fail
        go_ret
        exact ⟨false, rfl, iffF HZ.out, rfl⟩
    · have HZ : Hid (∀ a ∈ xs, lo ≤ a ∧ a ≤ hi) := Lib.hid fun a ha => by
        obtain ⟨j, hj, rfl⟩ := List.getElem_of_mem ha
        exact hin j hj (by omega)
      clear hin hR
      go_wp2
      go_ret
      exact ⟨true, rfl, iffT HZ.out, rfl⟩

set_option maxRecDepth 100000 in
set_option maxHeartbeats 8000000 in
theorem isValidNode_any (v0 v2 : Int) (s : ByteArray) (A : Option Addr) (c : Nat) (xs : List Int) (w : World) (hs : s.size ≤ 1048576) (hl : xs.length ≤ 1099511627776) :
    Calls Try.prog 25 #[.agg #[.int .i64 v0, .string s, .int .i64 v2, .slice A xs.length c]] w (BoolOut (shapeN (v0, s, v2, xs)) w) := by
  obtain ⟨n, hn⟩ : ∃ n, n = xs.length := ⟨_, rfl⟩
  have HID := Lib.hid (fun W => ident_any s W hs)
  have HN := Lib.hid hn
  rw [← hn] at hl ⊢
  clear hn
  obtain ⟨E, hE⟩ : ∃ E : Bool, E = decide (s = ⟨#[]⟩) := ⟨_, rfl⟩
  have hE1 : (s.toList == []) = E := by rw [hE]; exact nil_iff s
  have hE2 : E = true ↔ s = ⟨#[]⟩ := by rw [hE]; simp
  clear hE
  have HE2 := Lib.hid hE2
  clear hE2
  go_enter Try.func25, Try.ntmps25
  go_upto_region 1 with fail
  obtain ⟨W1, hW1⟩ : ∃ W, W = w.alloc (.cells #[.int .i64 v0, .string s, .int .i64 v2, .slice A n c] 44) := ⟨_, rfl⟩
  have M := Mbox.new w #[.int .i64 v0, .string s, .int .i64 v2, .slice A n c] 44
  have hB : Below w.heap.size w (w.alloc (.cells #[.int .i64 v0, .string s, .int .i64 v2, .slice A n c] 44)) := by go_grown
  rw [← hW1] at M hB ⊢
  have hsz : w.heap.size ≤ W1.heap.size := hB.size
  have m1 := M.c 1
  have m2 := M.c 2
  have HM := Lib.hid M
  have HB := Lib.hid hB
  clear hW1 M hB
  go_cut [3] (fun y wx => Mbox wx w.heap.size [.int .i64 v0, .string s, .int .i64 v2, .slice A n c] ∧ Below w.heap.size w wx ∧ ∃ b : Bool, y = .bool b ∧ (b = true ↔ Ident s ∧ v2 = 0))
  case first =>
    go_wp2_with fail
    refine (HID.out _).mono ?_
    rintro e w2 ⟨b, rfl, hb, hbl⟩
    have M2 := HM.out.later hbl
    have HB2 := Lib.hid (HB.out.trans (hbl.mono hsz))
    have m1 := M2.c 1
    have m2 := M2.c 2
    have HM2 := Lib.hid M2
    have HBB := Lib.hid hb
    clear M2 hbl hb HM HB
    cases b with
    | false =>
      go_wp2_with fail
      go_meet
      exact ⟨HM2.out, HB2.out, false, rfl, iffF fun h => by have := HBB.out.2 h.1; cases this⟩
    | true =>
      have HI := Lib.hid (HBB.out.1 rfl)
      clear HBB
      by_cases h0 : v2 = 0
      · have b0 : (v2 == 0) = true := by simp [h0]
        have H0 := Lib.hid h0
        clear h0
        go_wp2_with fail
        go_meet
        exact ⟨HM2.out, HB2.out, true, rfl, iffT ⟨HI.out, H0.out⟩⟩
      · have b0 : (v2 == 0) = false := by simp [h0]
        have H0 := Lib.hid h0
        clear h0
        go_wp2_with fail
        go_meet
        exact ⟨HM2.out, HB2.out, false, rfl, iffF fun h => H0.out h.2⟩
  case rest =>
    clear m1 m2 HM HB hsz
    obtain ⟨M, hB, nm, rfl, hnm⟩ := hcut
    have hsz : w.heap.size ≤ wc.heap.size := hB.size
    have m1 := M.c 1
    have m2 := M.c 2
    have HM := Lib.hid M
    have HB := Lib.hid hB
    have HNM := Lib.hid hnm
    clear M hB hnm
    go_upto_region 2 with fail
    go_cut [4] (fun y wx => Mbox wx w.heap.size [.int .i64 v0, .string s, .int .i64 v2, .slice A n c] ∧ Below w.heap.size w wx ∧ ∃ b : Bool, y = .bool b ∧ (b = true ↔ s = ⟨#[]⟩ ∧ v2 = 0))
    case first =>
      cases E with
      | false =>
        go_wp2_with fail
        go_meet
        exact ⟨HM.out, HB.out, false, rfl, iffF fun h => by have := HE2.out.2 h.1; cases this⟩
      | true =>
        have HI := Lib.hid (HE2.out.1 rfl)
        by_cases h0 : v2 = 0
        · have b0 : (v2 == 0) = true := by simp [h0]
          have H0 := Lib.hid h0
          clear h0
          go_wp2_with fail
          go_meet
          exact ⟨HM.out, HB.out, true, rfl, iffT ⟨HI.out, H0.out⟩⟩
        · have b0 : (v2 == 0) = false := by simp [h0]
          have H0 := Lib.hid h0
          clear h0
          go_wp2_with fail
          go_meet
          exact ⟨HM.out, HB.out, false, rfl, iffF fun h => H0.out h.2⟩
    case rest =>
      clear m1 m2 HM HB hsz
      obtain ⟨M, hB, pl, rfl, hpl⟩ := hcut
      have m0 := M.c 0
      have m1 := M.c 1
      have m2 := M.c 2
      have m3 := M.c 3
      have HB := Lib.hid hB
      have HPL := Lib.hid hpl
      clear M hB hpl
      by_cases q1 : v0 = 1
      · have HSH := Lib.hid (shape_1 (v := (v0, s, v2, xs)) q1)
        have o1 : (v0 == 1) = true := by simp; omega
        clear q1
        cases E with
        | false =>
          have HZ : Hid (¬ shapeN (v0, s, v2, xs)) := Lib.hid fun h => by have := HE2.out.2 (HSH.out.1 h).1; cases this
          go_wp2_with fail
          go_ret
          exact ⟨false, rfl, iffF HZ.out, HB.out⟩
        | true =>
          have HI := Lib.hid (HE2.out.1 rfl)
          go_wp2_with fail
          refine (isWithinQ _ _ _ _).mono ?_
          rintro e w3 ⟨rfl, rfl⟩
          cases hq : inQ 0 2559999 v2 with
          | false =>
            have HZ : Hid (¬ shapeN (v0, s, v2, xs)) := Lib.hid fun h => inQ_not hq ⟨(HSH.out.1 h).2.1, (HSH.out.1 h).2.2.1⟩
            clear hq
            go_wp2_with fail
            go_ret
            exact ⟨false, rfl, iffF HZ.out, HB.out⟩
          | true =>
            have HQ := Lib.hid ((inQ_iff ..).1 hq)
            clear hq
            by_cases hc : n = 0
            · have bc : ((n : Int) == 0) = true := by simp; omega
              have HZ : Hid (shapeN (v0, s, v2, xs)) := Lib.hid (HSH.out.2 ⟨HI.out, HQ.out.1, HQ.out.2, HN.out ▸ hc⟩)
              go_wp2_with fail
              go_ret
              exact ⟨true, rfl, iffT HZ.out, HB.out⟩
            · have bc : ((n : Int) == 0) = false := by simp; omega
              have HZ : Hid (¬ shapeN (v0, s, v2, xs)) := Lib.hid fun h => hc (HN.out ▸ (HSH.out.1 h).2.2.2)
              go_wp2_with fail
              go_ret
              exact ⟨false, rfl, iffF HZ.out, HB.out⟩
      · by_cases q2 : v0 = 2
        · clear hE1
          have o1 : (v0 == 1) = false := by simp; omega
          have o2 : (v0 == 2) = true := by simp; omega
          have HSH := Lib.hid (shape_2 (v := (v0, s, v2, xs)) q2)
          clear q2
          cases nm with
          | false =>
            have HZ : Hid (¬ shapeN (v0, s, v2, xs)) := Lib.hid fun h => by have := HNM.out.2 ⟨(HSH.out.1 h).1, (HSH.out.1 h).2.1⟩; cases this
            go_wp2_with fail
            go_ret
            exact ⟨false, rfl, iffF HZ.out, HB.out⟩
          | true =>
            have HF := Lib.hid (HNM.out.1 rfl)
            by_cases hc : n = 0
            · have bc : ((n : Int) == 0) = true := by simp; omega
              have HZ : Hid (shapeN (v0, s, v2, xs)) := Lib.hid (HSH.out.2 ⟨HF.out.1, HF.out.2, HN.out ▸ hc⟩)
              go_wp2_with fail
              go_ret
              exact ⟨true, rfl, iffT HZ.out, HB.out⟩
            · have bc : ((n : Int) == 0) = false := by simp; omega
              have HZ : Hid (¬ shapeN (v0, s, v2, xs)) := Lib.hid fun h => hc (HN.out ▸ (HSH.out.1 h).2.2)
              go_wp2_with fail
              go_ret
              exact ⟨false, rfl, iffF HZ.out, HB.out⟩
        · by_cases q3 : v0 = 3
          · clear hE1
            have o1 : (v0 == 1) = false := by simp; omega
            have o2 : (v0 == 2) = false := by simp; omega
            have o3 : (v0 == 3) = true := by simp; omega
            have HSH := Lib.hid (shape_3 (v := (v0, s, v2, xs)) q3)
            clear q3
            cases pl with
            | false =>
              have HZ : Hid (¬ shapeN (v0, s, v2, xs)) := Lib.hid fun h => by have := HPL.out.2 ⟨(HSH.out.1 h).1, (HSH.out.1 h).2.1⟩; cases this
              go_wp2_with fail
              go_ret
              exact ⟨false, rfl, iffF HZ.out, HB.out⟩
            | true =>
              have HF := Lib.hid (HPL.out.1 rfl)
              by_cases hc : n = 1
              · have bc : ((n : Int) == 1) = true := by simp; omega
                have HZ : Hid (shapeN (v0, s, v2, xs)) := Lib.hid (HSH.out.2 ⟨HF.out.1, HF.out.2, HN.out ▸ hc⟩)
                go_wp2_with fail
                go_ret
                exact ⟨true, rfl, iffT HZ.out, HB.out⟩
              · have bc : ((n : Int) == 1) = false := by simp; omega
                have HZ : Hid (¬ shapeN (v0, s, v2, xs)) := Lib.hid fun h => hc (HN.out ▸ (HSH.out.1 h).2.2)
                go_wp2_with fail
                go_ret
                exact ⟨false, rfl, iffF HZ.out, HB.out⟩
          · by_cases q4 : 4 ≤ v0 ∧ v0 ≤ 7
            · clear hE1
              have q4' : v0 = 4 ∨ v0 = 5 ∨ v0 = 6 ∨ v0 = 7 := by omega
              have HSH0 := Lib.hid (shape_4 (v := (v0, s, v2, xs)) q4)
              rcases q4' with q5 | q5 | q5 | q5
              · have o1 : (v0 == 1) = false := by simp; omega
                have o2 : (v0 == 2) = false := by simp; omega
                have o3 : (v0 == 3) = false := by simp; omega
                have o4 : (v0 == 4) = true := by simp; omega
                have HSH := Lib.hid (HSH0.out)
                clear q5
                cases pl with
                | false =>
                  have HZ : Hid (¬ shapeN (v0, s, v2, xs)) := Lib.hid fun h => by have := HPL.out.2 ⟨(HSH.out.1 h).1, (HSH.out.1 h).2.1⟩; cases this
                  go_wp2_with fail
                  go_ret
                  exact ⟨false, rfl, iffF HZ.out, HB.out⟩
                | true =>
                  have HF := Lib.hid (HPL.out.1 rfl)
                  by_cases hc : n = 2
                  · have bc : ((n : Int) == 2) = true := by simp; omega
                    have HZ : Hid (shapeN (v0, s, v2, xs)) := Lib.hid (HSH.out.2 ⟨HF.out.1, HF.out.2, HN.out ▸ hc⟩)
                    go_wp2_with fail
                    go_ret
                    exact ⟨true, rfl, iffT HZ.out, HB.out⟩
                  · have bc : ((n : Int) == 2) = false := by simp; omega
                    have HZ : Hid (¬ shapeN (v0, s, v2, xs)) := Lib.hid fun h => hc (HN.out ▸ (HSH.out.1 h).2.2)
                    go_wp2_with fail
                    go_ret
                    exact ⟨false, rfl, iffF HZ.out, HB.out⟩
              · have o1 : (v0 == 1) = false := by simp; omega
                have o2 : (v0 == 2) = false := by simp; omega
                have o3 : (v0 == 3) = false := by simp; omega
                have o4 : (v0 == 4) = false := by simp; omega
                have o5 : (v0 == 5) = true := by simp; omega
                have HSH := Lib.hid (HSH0.out)
                clear q5
                cases pl with
                | false =>
                  have HZ : Hid (¬ shapeN (v0, s, v2, xs)) := Lib.hid fun h => by have := HPL.out.2 ⟨(HSH.out.1 h).1, (HSH.out.1 h).2.1⟩; cases this
                  go_wp2_with fail
                  go_ret
                  exact ⟨false, rfl, iffF HZ.out, HB.out⟩
                | true =>
                  have HF := Lib.hid (HPL.out.1 rfl)
                  by_cases hc : n = 2
                  · have bc : ((n : Int) == 2) = true := by simp; omega
                    have HZ : Hid (shapeN (v0, s, v2, xs)) := Lib.hid (HSH.out.2 ⟨HF.out.1, HF.out.2, HN.out ▸ hc⟩)
                    go_wp2_with fail
                    go_ret
                    exact ⟨true, rfl, iffT HZ.out, HB.out⟩
                  · have bc : ((n : Int) == 2) = false := by simp; omega
                    have HZ : Hid (¬ shapeN (v0, s, v2, xs)) := Lib.hid fun h => hc (HN.out ▸ (HSH.out.1 h).2.2)
                    go_wp2_with fail
                    go_ret
                    exact ⟨false, rfl, iffF HZ.out, HB.out⟩
              · have o1 : (v0 == 1) = false := by simp; omega
                have o2 : (v0 == 2) = false := by simp; omega
                have o3 : (v0 == 3) = false := by simp; omega
                have o4 : (v0 == 4) = false := by simp; omega
                have o5 : (v0 == 5) = false := by simp; omega
                have o6 : (v0 == 6) = true := by simp; omega
                have HSH := Lib.hid (HSH0.out)
                clear q5
                cases pl with
                | false =>
                  have HZ : Hid (¬ shapeN (v0, s, v2, xs)) := Lib.hid fun h => by have := HPL.out.2 ⟨(HSH.out.1 h).1, (HSH.out.1 h).2.1⟩; cases this
                  go_wp2_with fail
                  go_ret
                  exact ⟨false, rfl, iffF HZ.out, HB.out⟩
                | true =>
                  have HF := Lib.hid (HPL.out.1 rfl)
                  by_cases hc : n = 2
                  · have bc : ((n : Int) == 2) = true := by simp; omega
                    have HZ : Hid (shapeN (v0, s, v2, xs)) := Lib.hid (HSH.out.2 ⟨HF.out.1, HF.out.2, HN.out ▸ hc⟩)
                    go_wp2_with fail
                    go_ret
                    exact ⟨true, rfl, iffT HZ.out, HB.out⟩
                  · have bc : ((n : Int) == 2) = false := by simp; omega
                    have HZ : Hid (¬ shapeN (v0, s, v2, xs)) := Lib.hid fun h => hc (HN.out ▸ (HSH.out.1 h).2.2)
                    go_wp2_with fail
                    go_ret
                    exact ⟨false, rfl, iffF HZ.out, HB.out⟩
              · have o1 : (v0 == 1) = false := by simp; omega
                have o2 : (v0 == 2) = false := by simp; omega
                have o3 : (v0 == 3) = false := by simp; omega
                have o4 : (v0 == 4) = false := by simp; omega
                have o5 : (v0 == 5) = false := by simp; omega
                have o6 : (v0 == 6) = false := by simp; omega
                have o7 : (v0 == 7) = true := by simp; omega
                have HSH := Lib.hid (HSH0.out)
                clear q5
                cases pl with
                | false =>
                  have HZ : Hid (¬ shapeN (v0, s, v2, xs)) := Lib.hid fun h => by have := HPL.out.2 ⟨(HSH.out.1 h).1, (HSH.out.1 h).2.1⟩; cases this
                  go_wp2_with fail
                  go_ret
                  exact ⟨false, rfl, iffF HZ.out, HB.out⟩
                | true =>
                  have HF := Lib.hid (HPL.out.1 rfl)
                  by_cases hc : n = 2
                  · have bc : ((n : Int) == 2) = true := by simp; omega
                    have HZ : Hid (shapeN (v0, s, v2, xs)) := Lib.hid (HSH.out.2 ⟨HF.out.1, HF.out.2, HN.out ▸ hc⟩)
                    go_wp2_with fail
                    go_ret
                    exact ⟨true, rfl, iffT HZ.out, HB.out⟩
                  · have bc : ((n : Int) == 2) = false := by simp; omega
                    have HZ : Hid (¬ shapeN (v0, s, v2, xs)) := Lib.hid fun h => hc (HN.out ▸ (HSH.out.1 h).2.2)
                    go_wp2_with fail
                    go_ret
                    exact ⟨false, rfl, iffF HZ.out, HB.out⟩
            · by_cases q8 : v0 = 8
              · clear hE1
                have o1 : (v0 == 1) = false := by simp; omega
                have o2 : (v0 == 2) = false := by simp; omega
                have o3 : (v0 == 3) = false := by simp; omega
                have o4 : (v0 == 4) = false := by simp; omega
                have o5 : (v0 == 5) = false := by simp; omega
                have o6 : (v0 == 6) = false := by simp; omega
                have o7 : (v0 == 7) = false := by simp; omega
                have o8 : (v0 == 8) = true := by simp; omega
                have HSH := Lib.hid (shape_8 (v := (v0, s, v2, xs)) q8)
                clear q8
                cases nm with
                | false =>
                  have HZ : Hid (¬ shapeN (v0, s, v2, xs)) := Lib.hid fun h => by have := HNM.out.2 ⟨(HSH.out.1 h).1, (HSH.out.1 h).2.1⟩; cases this
                  go_wp2_with fail
                  go_ret
                  exact ⟨false, rfl, iffF HZ.out, HB.out⟩
                | true =>
                  have HF := Lib.hid (HNM.out.1 rfl)
                  by_cases hc : n ≤ 3
                  · have bc : decide ((n : Int) ≤ 3) = true := decide_eq_true (by omega)
                    have HZ : Hid (shapeN (v0, s, v2, xs)) := Lib.hid (HSH.out.2 ⟨HF.out.1, HF.out.2, HN.out ▸ hc⟩)
                    go_wp2_with fail
                    go_ret
                    exact ⟨true, rfl, iffT HZ.out, HB.out⟩
                  · have bc : decide ((n : Int) ≤ 3) = false := decide_eq_false (by omega)
                    have HZ : Hid (¬ shapeN (v0, s, v2, xs)) := Lib.hid fun h => hc (HN.out ▸ (HSH.out.1 h).2.2)
                    go_wp2_with fail
                    go_ret
                    exact ⟨false, rfl, iffF HZ.out, HB.out⟩
              · clear hE1
                have HZ : Hid (¬ shapeN (v0, s, v2, xs)) := Lib.hid (shape_no (v := (v0, s, v2, xs)) (show v0 < 1 ∨ 8 < v0 by omega))
                have o1 : (v0 == 1) = false := by simp; omega
                have o2 : (v0 == 2) = false := by simp; omega
                have o3 : (v0 == 3) = false := by simp; omega
                have o4 : (v0 == 4) = false := by simp; omega
                have o5 : (v0 == 5) = false := by simp; omega
                have o6 : (v0 == 6) = false := by simp; omega
                have o7 : (v0 == 7) = false := by simp; omega
                have o8 : (v0 == 8) = false := by simp; omega
                go_wp2_with fail
                go_ret
                exact ⟨false, rfl, iffF HZ.out, HB.out⟩
end

section
open Go.RowKit

set_option maxRecDepth 100000 in
set_option maxHeartbeats 8000000 in
theorem sNode_any (i : Nat) (v0 v2 : Int) (s : ByteArray) (A : Option Addr) (c : Nat) (xs : List Int) (w : World) (hR : Row I64 w w.heap.size A xs) (hs : s.size ≤ 1048576) (hl : xs.length ≤ 1099511627776) (hi : i ≤ 1099511627776) :
    Calls Try.prog 57 #[.agg #[.int .i64 v0, .string s, .int .i64 v2, .slice A xs.length c], .int .i64 i] w (BoolOut (okN i (v0, s, v2, xs)) w) := by
  obtain ⟨n, hn⟩ : ∃ n, n = xs.length := ⟨_, rfl⟩
  have HID := Lib.hid (fun W => sIdent_any s W hs)
  have HN := Lib.hid hn
  rw [← hn] at hl ⊢
  clear hn
  obtain ⟨E, hE⟩ : ∃ E : Bool, E = decide (s = ⟨#[]⟩) := ⟨_, rfl⟩
  have hE1 : (s.toList == []) = E := by rw [hE]; exact nil_iff s
  have hE2 : E = true ↔ s = ⟨#[]⟩ := by rw [hE]; simp
  clear hE
  have HE2 := Lib.hid hE2
  clear hE2
  obtain ⟨W1, hW1⟩ : ∃ W, W = w.alloc (.cells #[.int .i64 v0, .string s, .int .i64 v2, .slice A n c] 44) := ⟨_, rfl⟩
  have M := Mbox.new w #[.int .i64 v0, .string s, .int .i64 v2, .slice A n c] 44
  have hB : Below w.heap.size w (w.alloc (.cells #[.int .i64 v0, .string s, .int .i64 v2, .slice A n c] 44)) := by go_grown
  have hR1 := hR.alloc (Nat.le_refl _) (.cells #[.int .i64 v0, .string s, .int .i64 v2, .slice A n c] 44)
  rw [← hW1] at M hB hR1
  have HM := Lib.hid M
  have HB := Lib.hid hB
  have HR := Lib.hid hR1
  have hi1 : (0 : Int) ≤ (i : Int) := by omega
  have hi2 : (i : Int) ≤ 1099511627776 := by omega
  clear M hB hR hR1
  go_enter Try.func57, Try.ntmps57
  go_upto_region 1 with fail
  rw [← hW1]
  clear hW1
  have m3 := HM.out.c 3
  go_wp2
  go_loop [11] (fun q => ∃ k : Nat, k ≤ n ∧ q = .int .i64 k ∧ ∀ j (h : j < xs.length), j < k → 0 ≤ xs[j] ∧ xs[j] ≤ (i : Int) - 1) (fun q => n - (intOf q).toNat)
  case atStart => exact ⟨0, Nat.zero_le _, rfl, fun j _ h => by omega⟩
  case round =>
    clear m3
    obtain ⟨k, hk, rfl, hin⟩ := hrel
    by_cases hlt : k < n
    · obtain ⟨b, o, rfl, hbl, c0⟩ := HR.out.at (show k < xs.length by rw [← HN.out]; exact hlt)
      obtain ⟨v, hv⟩ : ∃ v, v = xs[k]'(show k < xs.length by rw [← HN.out]; exact hlt) := ⟨_, rfl⟩
      have hlt' : (k : Int) < (n : Int) := by omega
      have hge' : (0 : Int) ≤ (k : Int) := by omega
      rw [← hv] at c0
      have HV := Lib.hid hv
      have HIN := Lib.hid hin
      clear hv hin hE1
      go_wp2_with fail
      refine (l01InQ _ _ _ _).mono ?_
      rintro e w1 ⟨rfl, rfl⟩
      cases hb : inQ 0 ((i : Int) - 1) v with
      | true =>
        have hvv := (inQ_iff ..).1 hb
        have HST : Hid (∀ j (h : j < xs.length), j < k + 1 → 0 ≤ xs[j] ∧ xs[j] ≤ (i : Int) - 1) := Lib.hid fun j h hj => by
          rcases Nat.lt_or_ge j k with h1 | h1
          · exact HIN.out j h h1
          · obtain rfl : j = k := by omega
            rw [← HV.out]
            exact hvv
        clear hb hvv
        go_wp2_with fail
        go_round
        case rel => exact ⟨k + 1, by omega, by go_num, HST.out⟩
        case measure => simp [intOf]; omega
      | false =>
        have HZ : Hid (¬ okN i (v0, s, v2, xs)) := Lib.hid fun h => inQ_not hb (by rw [HV.out]; exact h.2 _ (List.getElem_mem _))
        clear hb
        go_wp2_with fail
        go_ret
        exact ⟨false, rfl, iffF HZ.out, HB.out⟩
    · have HAR : Hid (argsIn i xs) := Lib.hid fun a ha => by
        obtain ⟨j, hj, rfl⟩ := List.getElem_of_mem ha
        exact hin j hj (by have := HN.out; omega)
      clear hin
      have m0 := HM.out.c 0
      have m1 := HM.out.c 1
      have m2 := HM.out.c 2
      have m3 := HM.out.c 3
      have hge' : ¬ (k : Int) < (n : Int) := by omega
      by_cases q2 : v0 = 2
      · clear hE1
        have HSH := Lib.hid (shape_2 (v := (v0, s, v2, xs)) q2)
        have o2 : (v0 == 2) = true := by simp; omega
        have o1 : (v0 == 1) = false := by simp; omega
        clear q2
        go_wp2_with fail
        refine (HID.out _).mono ?_
        rintro e w2 ⟨b, rfl, hb, hbl⟩
        have M2 := HM.out.later hbl
        have HB := Lib.hid (HB.out.trans (hbl.mono HB.out.size))
        have m0 := M2.c 0
        have m1 := M2.c 1
        have m2 := M2.c 2
        have m3 := M2.c 3
        have HBB := Lib.hid hb
        clear M2 hbl hb HM
        cases b with
        | false =>
          have HZ : Hid (¬ okN i (v0, s, v2, xs)) := Lib.hid fun h => by have := HBB.out.2 (HSH.out.1 h.1).1; cases this
          go_wp2_with fail
          go_ret
          exact ⟨false, rfl, iffF HZ.out, HB.out⟩
        | true =>
          have HI := Lib.hid (HBB.out.1 rfl)
          clear HBB
          by_cases h0 : v2 = 0
          · have b0 : (v2 != 0) = false := by simp [h0]
            have H0 := Lib.hid h0
            clear h0
            by_cases hc : n = 0
            · have bc : ((n : Int) == 0) = true := by simp; omega
              have HZ : Hid (okN i (v0, s, v2, xs)) := Lib.hid ⟨HSH.out.2 ⟨HI.out, H0.out, HN.out ▸ hc⟩, HAR.out⟩
              go_wp2_with fail
              go_ret
              exact ⟨true, rfl, iffT HZ.out, HB.out⟩
            · have bc : ((n : Int) == 0) = false := by simp; omega
              have HZ : Hid (¬ okN i (v0, s, v2, xs)) := Lib.hid fun h => hc (HN.out ▸ (HSH.out.1 h.1).2.2)
              go_wp2_with fail
              go_ret
              exact ⟨false, rfl, iffF HZ.out, HB.out⟩
          · have b0 : (v2 != 0) = true := by simp [h0]
            have HZ : Hid (¬ okN i (v0, s, v2, xs)) := Lib.hid fun h => h0 (HSH.out.1 h.1).2.1
            clear h0
            go_wp2_with fail
            go_ret
            exact ⟨false, rfl, iffF HZ.out, HB.out⟩
      · by_cases q8 : v0 = 8
        · clear hE1
          have HSH := Lib.hid (shape_8 (v := (v0, s, v2, xs)) q8)
          have o2 : (v0 == 2) = false := by simp; omega
          have o8 : (v0 == 8) = true := by simp; omega
          have o1 : (v0 == 1) = false := by simp; omega
          have o3 : (v0 == 3) = false := by simp; omega
          clear q8
          go_wp2_with fail
          refine (HID.out _).mono ?_
          rintro e w2 ⟨b, rfl, hb, hbl⟩
          have M2 := HM.out.later hbl
          have HB := Lib.hid (HB.out.trans (hbl.mono HB.out.size))
          have m0 := M2.c 0
          have m1 := M2.c 1
          have m2 := M2.c 2
          have m3 := M2.c 3
          have HBB := Lib.hid hb
          clear M2 hbl hb HM
          cases b with
          | false =>
            have HZ : Hid (¬ okN i (v0, s, v2, xs)) := Lib.hid fun h => by have := HBB.out.2 (HSH.out.1 h.1).1; cases this
            go_wp2_with fail
            go_ret
            exact ⟨false, rfl, iffF HZ.out, HB.out⟩
          | true =>
            have HI := Lib.hid (HBB.out.1 rfl)
            clear HBB
            by_cases h0 : v2 = 0
            · have b0 : (v2 != 0) = false := by simp [h0]
              have H0 := Lib.hid h0
              clear h0
              by_cases hc : n ≤ 3
              · have bc : decide ((n : Int) ≤ 3) = true := decide_eq_true (by omega)
                have HZ : Hid (okN i (v0, s, v2, xs)) := Lib.hid ⟨HSH.out.2 ⟨HI.out, H0.out, HN.out ▸ hc⟩, HAR.out⟩
                go_wp2_with fail
                go_ret
                exact ⟨true, rfl, iffT HZ.out, HB.out⟩
              · have bc : decide ((n : Int) ≤ 3) = false := decide_eq_false (by omega)
                have HZ : Hid (¬ okN i (v0, s, v2, xs)) := Lib.hid fun h => hc (HN.out ▸ (HSH.out.1 h.1).2.2)
                go_wp2_with fail
                go_ret
                exact ⟨false, rfl, iffF HZ.out, HB.out⟩
            · have b0 : (v2 != 0) = true := by simp [h0]
              have HZ : Hid (¬ okN i (v0, s, v2, xs)) := Lib.hid fun h => h0 (HSH.out.1 h.1).2.1
              clear h0
              go_wp2_with fail
              go_ret
              exact ⟨false, rfl, iffF HZ.out, HB.out⟩
        · have o2 : (v0 == 2) = false := by simp; omega
          have o8 : (v0 == 8) = false := by simp; omega
          cases E with
          | false =>
            have HZ : Hid (¬ okN i (v0, s, v2, xs)) := Lib.hid fun h => by
              have hne : s ≠ ⟨#[]⟩ := fun e => by have := HE2.out.2 e; cases this
              rcases h.1 with ⟨_, e, _⟩ | ⟨e, _⟩ | ⟨_, e, _⟩ | ⟨_, _, e, _⟩ | ⟨e, _⟩
              · exact hne e
              · exact q2 e
              · exact hne e
              · exact hne e
              · exact q8 e
            go_wp2_with fail
            go_ret
            exact ⟨false, rfl, iffF HZ.out, HB.out⟩
          | true =>
            have HI := Lib.hid (HE2.out.1 rfl)
            by_cases q1 : v0 = 1
            · have HSH := Lib.hid (shape_1 (v := (v0, s, v2, xs)) q1)
              have o1 : (v0 == 1) = true := by simp; omega
              clear q1
              go_wp2_with fail
              refine (l01InQ _ _ _ _).mono ?_
              rintro e w3 ⟨rfl, rfl⟩
              cases hq : inQ 0 2559999 v2 with
              | false =>
                have HZ : Hid (¬ okN i (v0, s, v2, xs)) := Lib.hid fun h => inQ_not hq ⟨(HSH.out.1 h.1).2.1, (HSH.out.1 h.1).2.2.1⟩
                clear hq
                go_wp2_with fail
                go_ret
                exact ⟨false, rfl, iffF HZ.out, HB.out⟩
              | true =>
                have HQ := Lib.hid ((inQ_iff ..).1 hq)
                clear hq
                by_cases hc : n = 0
                · have bc : ((n : Int) == 0) = true := by simp; omega
                  have HZ : Hid (okN i (v0, s, v2, xs)) := Lib.hid ⟨HSH.out.2 ⟨HI.out, HQ.out.1, HQ.out.2, HN.out ▸ hc⟩, HAR.out⟩
                  go_wp2_with fail
                  go_ret
                  exact ⟨true, rfl, iffT HZ.out, HB.out⟩
                · have bc : ((n : Int) == 0) = false := by simp; omega
                  have HZ : Hid (¬ okN i (v0, s, v2, xs)) := Lib.hid fun h => hc (HN.out ▸ (HSH.out.1 h.1).2.2.2)
                  go_wp2_with fail
                  go_ret
                  exact ⟨false, rfl, iffF HZ.out, HB.out⟩
            · have o1 : (v0 == 1) = false := by simp; omega
              by_cases q3 : v0 = 3
              · have HSH := Lib.hid (shape_3 (v := (v0, s, v2, xs)) q3)
                have o3 : (v0 == 3) = true := by simp; omega
                clear q3
                by_cases h0 : v2 = 0
                · have b0 : (v2 != 0) = false := by simp [h0]
                  have H0 := Lib.hid h0
                  clear h0
                  by_cases hc : n = 1
                  · have bc : ((n : Int) == 1) = true := by simp; omega
                    have HZ : Hid (okN i (v0, s, v2, xs)) := Lib.hid ⟨HSH.out.2 ⟨HI.out, H0.out, HN.out ▸ hc⟩, HAR.out⟩
                    go_wp2_with fail
                    go_ret
                    exact ⟨true, rfl, iffT HZ.out, HB.out⟩
                  · have bc : ((n : Int) == 1) = false := by simp; omega
                    have HZ : Hid (¬ okN i (v0, s, v2, xs)) := Lib.hid fun h => hc (HN.out ▸ (HSH.out.1 h.1).2.2)
                    go_wp2_with fail
                    go_ret
                    exact ⟨false, rfl, iffF HZ.out, HB.out⟩
                · have b0 : (v2 != 0) = true := by simp [h0]
                  have HZ : Hid (¬ okN i (v0, s, v2, xs)) := Lib.hid fun h => h0 (HSH.out.1 h.1).2.1
                  clear h0
                  go_wp2_with fail
                  go_ret
                  exact ⟨false, rfl, iffF HZ.out, HB.out⟩
              · have o3 : (v0 == 3) = false := by simp; omega
                have HQS := Lib.hid (And.intro q1 (And.intro q2 (And.intro q3 q8)))
                clear q1 q2 q3 q8
                by_cases h0 : v2 = 0
                · have b0 : (v2 != 0) = false := by simp [h0]
                  have H0 := Lib.hid h0
                  clear h0
                  go_wp2_with fail
                  refine (l01InQ _ _ _ _).mono ?_
                  rintro e w3 ⟨rfl, rfl⟩
                  cases hq : inQ 4 7 v0 with
                  | false =>
                    have HZ : Hid (¬ okN i (v0, s, v2, xs)) := Lib.hid fun h => by
                      have hn := inQ_not hq
                      have hq4 := HQS.out
                      rcases h.1 with ⟨e, _⟩ | ⟨e, _⟩ | ⟨e, _⟩ | ⟨e, e2, _⟩ | ⟨e, _⟩
                      · exact hq4.1 e
                      · exact hq4.2.1 e
                      · exact hq4.2.2.1 e
                      · exact hn ⟨e, e2⟩
                      · exact hq4.2.2.2 e
                    clear hq
                    go_wp2_with fail
                    go_ret
                    exact ⟨false, rfl, iffF HZ.out, HB.out⟩
                  | true =>
                    have HSH := Lib.hid (shape_4 (v := (v0, s, v2, xs)) ((inQ_iff ..).1 hq))
                    clear hq
                    by_cases hc : n = 2
                    · have bc : ((n : Int) == 2) = true := by simp; omega
                      have HZ : Hid (okN i (v0, s, v2, xs)) := Lib.hid ⟨HSH.out.2 ⟨HI.out, H0.out, HN.out ▸ hc⟩, HAR.out⟩
                      go_wp2_with fail
                      go_ret
                      exact ⟨true, rfl, iffT HZ.out, HB.out⟩
                    · have bc : ((n : Int) == 2) = false := by simp; omega
                      have HZ : Hid (¬ okN i (v0, s, v2, xs)) := Lib.hid fun h => hc (HN.out ▸ (HSH.out.1 h.1).2.2)
                      go_wp2_with fail
                      go_ret
                      exact ⟨false, rfl, iffF HZ.out, HB.out⟩
                · have b0 : (v2 != 0) = true := by simp [h0]
                  have HZ : Hid (¬ okN i (v0, s, v2, xs)) := Lib.hid fun h => by
                    have hq4 := HQS.out
                    rcases h.1 with ⟨e, _⟩ | ⟨e, _⟩ | ⟨e, _⟩ | ⟨_, _, _, e, _⟩ | ⟨e, _⟩
                    · exact hq4.1 e
                    · exact hq4.2.1 e
                    · exact hq4.2.2.1 e
                    · exact h0 e
                    · exact hq4.2.2.2 e
                  clear h0
                  go_wp2_with fail
                  go_ret
                  exact ⟨false, rfl, iffF HZ.out, HB.out⟩
end

section
open Go.RowKit Go.Sort

theorem run_append_none' {P : Program} {w : World} (t ty e : TypeId) (i : TypeInfo) (ht : P.underlying t = some (.slice e)) (hi : P.info? e = some i) {base size : Nat} {v : Value} {n c : Nat} {xs : List Value} (hown : w.ownsRow base e size v n xs) :
    (Builtin.append_ #[t, t] ty #[v, .slice none 0 c]).run P w = .ok v w := by
  rcases hown.2 with ⟨rfl, rfl⟩ | ⟨g, cap, cur, rfl, _, _, hnc, _, _, _⟩
  · simp [Builtin.append_, run_underlying ht, sizeOf, typeInfo, hi, Builtin.lenOf, Builtin.firstCells]
  · simp [Builtin.append_, run_underlying ht, sizeOf, typeInfo, hi, Builtin.lenOf, Builtin.firstCells, loadCells, storeCells, hnc]
/-- append of a slice of integers that is read, nil let in -/
theorem wp_append_rd {P : Program} {w : World} {o : Oper} {a : Act} {K : Act → World → Prop} {Q : Exit → Act → World → Prop} (s x : Operand) (t : TypeId)
    (ho : o.op = .call { callee := .builtin .append, args := #[s, x], argTypes := #[t, t] })
    (base : Nat) (e : TypeId) (z : Value) (bytes : Nat) (ht : P.underlying t = some (.slice e)) (hinfo : (P.info? e).map (fun i => (i.zero, i.size, i.bytes)) = some (some z, 1, bytes)) (hzs : z.cells.size = 1)
    (v : Value) (n : Nat) (xs : List Value) (hs : a.eval s = v) (hown : w.ownsRow base e 1 v n xs)
    (B : Nat) (A : Option Addr) (c : Nat) (us : List Int) (hx : a.eval x = .slice A us.length c) (hr : Row I64 w B A us)
    (h63 : n + us.length ≤ maxLen) (hbytes : (n + us.length) * bytes ≤ 140737488355328) (hbase : base ≤ w.heap.size)
    (h : ∀ v' w', w'.ownsRow base e 1 v' (n + us.length) (xs ++ us.map I64) → w.grownBy w' v.ownBlock → K (a.put o.dst v') w') : o.wp P a w K Q := by
  obtain ⟨i0, hi, hz0, hz1, hz2⟩ := info_parts hinfo
  cases A with
  | none =>
    have hn : us = [] := by
      cases us with
      | nil => rfl
      | cons u us =>
        obtain ⟨b, o, e, _⟩ := hr.at (k := 0) (by simp)
        cases e
    subst hn
    have hr := run_append_none' (w := w) t o.type e i0 ht hi (c := c) hown
    unfold Oper.wp execOp
    rw [List.length_nil] at hx
    simp only [ho, resolve, invoke, builtin, Sem.run_bind, Sem.run_pure, Result.andThen_ok, List.map_toArray, List.map_cons, List.map_nil, hs, hx, hr]
    exact h v w (by rw [List.length_nil, Nat.add_zero, List.map_nil, List.append_nil]; exact hown) (gb_refl _ _)
  | some ad =>
    refine wp_append_own _ s x t ho base e i0 z 1 bytes ht hi hz0 hz1 hz2 hzs (by omega) v n xs hs hown ad us.length c (us.map I64) hx (by simp) (fun j u hj => ?_) (fun u hu => by obtain ⟨y, _, rfl⟩ := List.mem_map.1 hu; rfl) h63 hbytes hbase fun v' w' h2 h3 _ => h v' w' h2 h3
    rw [List.getElem?_map] at hj
    obtain ⟨y, hy, rfl⟩ := Option.map_eq_some_iff.1 hj
    obtain ⟨hj1, rfl⟩ := List.getElem?_eq_some_iff.1 hy
    obtain ⟨b, q, e, _, hc⟩ := hr.at hj1
    injection e with e
    subst e
    have ea : (⟨b, q, none⟩ : Addr).add j = ⟨b, q + j, none⟩ := by unfold Addr.add; split <;> simp_all
    rw [ea]
    exact hc
theorem wpList_append_rd {P : Program} {w : World} {ops : Array Oper} {rest : List Oper} {o : Oper} {a : Act} {Q : Exit → Act → World → Prop} (hgd : o.guard = none) (s x : Operand) (t : TypeId)
    (ho : o.op = .call { callee := .builtin .append, args := #[s, x], argTypes := #[t, t] })
    (base : Nat) (e : TypeId) (z : Value) (bytes : Nat) (ht : P.underlying t = some (.slice e)) (hinfo : (P.info? e).map (fun i => (i.zero, i.size, i.bytes)) = some (some z, 1, bytes)) (hzs : z.cells.size = 1)
    (v : Value) (n : Nat) (xs : List Value) (hs : a.eval s = v) (hown : w.ownsRow base e 1 v n xs)
    (B : Nat) (A : Option Addr) (c : Nat) (us : List Int) (hx : a.eval x = .slice A us.length c) (hr : Row I64 w B A us)
    (h63 : n + us.length ≤ maxLen) (hbytes : (n + us.length) * bytes ≤ 140737488355328) (hbase : base ≤ w.heap.size)
    (h : ∀ v' w', w'.ownsRow base e 1 v' (n + us.length) (xs ++ us.map I64) → w.grownBy w' v.ownBlock → wpList P ops Q rest (a.put o.dst v') w') : wpList P ops Q (o :: rest) a w :=
  wpList_plain hgd fun _ hK => wp_append_rd s x t ho base e z bytes ht hinfo hzs v n xs hs hown B A c us hx hr h63 hbytes hbase fun v' w' h2 h3 => hK _ _ (h v' w' h2 h3)
theorem args_take (xs : List Nd) (k : Nat) : (argsL (xs.take k)).length ≤ (argsL xs).length := by
  unfold argsL
  induction xs generalizing k with
  | nil => simp
  | cons x xs ih =>
    cases k with
    | zero => simp
    | succ k =>
      have := ih k
      simp only [List.take_succ_cons, List.flatMap_cons, List.length_append]
      omega

theorem sortInts_any (base : Nat) (A : Option Addr) (cap : Nat) (zs : List Int) (w : World) (ho : w.ownsRow base 3 1 (.slice A zs.length cap) zs.length (zs.map I64)) (hm : zs.length ≤ 1099511627776) :
    Calls Try.prog 50 #[.slice A zs.length cap] w fun e w' => e = .returned (.tuple #[]) ∧ w'.ownsRow base 3 1 (.slice A zs.length cap) zs.length ((srt zs).map I64) ∧ w.grownBy w' (Value.slice A zs.length cap).ownBlock := by
  by_cases h0 : zs.length = 0
  · have e : zs = [] := List.eq_nil_of_length_eq_zero h0
    subst e
    refine (Try.slices_Sort_int_none A cap w).mono ?_
    rintro e w' ⟨rfl, rfl⟩
    exact ⟨rfl, by simpa [srt] using ho, gb_refl _ _⟩
  · obtain ⟨g, cap1, e1, _, _, _, _, _, hH⟩ := Lib.holds_of_ownsRow ho (fun e => by injection e with _ e _; exact h0 e)
    injection e1 with e1 _ e3
    subst e1
    subst e3
    refine (Try.slices_Sort_int g 0 cap zs w hH (ho.lt g rfl).2 (by omega)).mono ?_
    rintro e w' ⟨rfl, n, os, hw⟩
    have hgr : w.grownBy w' (some g) := by
      rw [hw]
      refine ⟨rfl, rfl, rfl, by simp [grow, putRow, mapBlock, Sort.ahead], fun k hk hne => ?_⟩
      rw [heap_grow_old _ _ (by simpa [putRow, mapBlock, Sort.ahead] using hk)]
      have : g ≠ k := fun e => hne (by rw [e])
      simp [putRow, mapBlock, Sort.ahead, Array.getElem?_modify, this]
    refine ⟨rfl, ?_, hgr⟩
    have h := Lib.ownsRow_putRow (q := n) (k := zs.length) ho (ys := srt zs) (srt_len zs) (Nat.le_refl _)
    rw [List.take_of_length_le (Nat.le_of_eq (srt_len zs))] at h
    rw [hw]
    refine h.kept (row := none) ⟨rfl, rfl, rfl, by simp [grow], fun k hk _ => ?_⟩ (.inr (by simp [Value.ownBlock]))
    exact heap_grow_old _ _ hk

set_option maxRecDepth 100000 in
set_option maxHeartbeats 8000000 in
theorem eachOnce_any (A A' : Option Addr) (c c' : Nat) (xs : List Nd) (ys : List As) (w : World) (hR : ProgIn w w.heap.size A A' xs ys) (hl : xs.length ≤ 1099511627776) (hz : ys.length + (argsL xs).length ≤ 1099511627776) :
    Calls Try.prog 28 #[pgv A A' xs.length c ys.length c'] w (BoolOut ((refsP xs ys).Perm (upZ xs.length)) w) := by
  obtain ⟨W1, hW1⟩ : ∃ W, W = w.alloc (.cells #[.slice A xs.length c, .slice A' ys.length c'] 26) := ⟨_, rfl⟩
  have M := Mbox.new w #[.slice A xs.length c, .slice A' ys.length c'] 26
  have hB : Below w.heap.size w (w.alloc (.cells #[.slice A xs.length c, .slice A' ys.length c'] 26)) := by go_grown
  have hR1 := (hR.alloc (Nat.le_refl _) (.cells #[.slice A xs.length c, .slice A' ys.length c'] 26)).more (B' := (w.alloc (.cells #[.slice A xs.length c, .slice A' ys.length c'] 26)).heap.size) (by simp)
  rw [← hW1] at M hB hR1
  have HM := Lib.hid M
  have HB := Lib.hid hB
  have HR := Lib.hid hR1
  clear M hB hR hR1
  have HRT := Lib.hid (roots_any A A' c c' xs ys W1 HR.out (by omega))
  go_enter Try.func28, Try.ntmps28
  go_upto_region 1 with fail
  rw [← hW1]
  clear hW1
  have m0 := HM.out.c 0
  have m1 := HM.out.c 1
  go_wp2_with fail
  refine HRT.out.mono ?_
  rintro e w2 ⟨A3, c3, rfl, ho3, hb3⟩
  have HO3 := Lib.hid ho3
  have HB3 := Lib.hid hb3
  have m0 := (HM.out.later hb3).c 0
  have m1 := (HM.out.later hb3).c 1
  clear ho3 hb3 HRT
  go_wp2_with fail
  go_loopw [3, 13] (fun v i wr => ∃ k : Nat, k ≤ xs.length ∧ i = .int .i64 k ∧ wr.ownsRow W1.heap.size 3 1 v (rtsL ys ++ argsL (xs.take k)).length ((rtsL ys ++ argsL (xs.take k)).map I64) ∧ Below W1.heap.size W1 wr) (fun _ i _ => xs.length - (intOf i).toNat)
  case atStart => exact ⟨0, Nat.zero_le _, rfl, by simpa [argsL] using HO3.out, HB3.out⟩
  case round =>
    clear m0 m1 HO3 HB3
    obtain ⟨k, hk, rfl, hown, hb⟩ := hrel
    by_cases hlt : k < xs.length
    · have hst := args_step xs k hlt
      have hle := args_take xs (k + 1)
      have hrl : (rtsL ys).length = ys.length := rts_len ys
      obtain ⟨b, o, rfl, hbl, a, ca, c0, c1, c2, c3, hca1, hca2, hrow⟩ := HR.out.1.at hlt
      have c0 := (hb.cell (p := ⟨b, o + k * 4, none⟩) hbl).trans c0
      have c1 := (hb.cell (p := ⟨b, o + k * 4 + 1, none⟩) hbl).trans c1
      have c2 := (hb.cell (p := ⟨b, o + k * 4 + 2, none⟩) hbl).trans c2
      have c3 := (hb.cell (p := ⟨b, o + k * 4 + 3, none⟩) hbl).trans c3
      have hrow := hrow.below hb
      obtain ⟨v, hv⟩ : ∃ v, v = xs[k] := ⟨_, rfl⟩
      have HV := Lib.hid hv
      rw [← hv] at c0 c1 c2 c3 hrow hca1 hst
      obtain ⟨ps, hps⟩ : ∃ ps, ps = rtsL ys ++ argsL (xs.take k) := ⟨_, rfl⟩
      have hst2 : rtsL ys ++ argsL (xs.take (k + 1)) = ps ++ v.2.2.2 := by rw [hst, hps, List.append_assoc]
      have hlen : ps.length + v.2.2.2.length ≤ 1099511627776 := by
        rw [← List.length_append, ← hst2, List.length_append]
        omega
      rw [← hps] at hown
      obtain ⟨v0, v1, v2, v3⟩ := v
      dsimp only at c0 c1 c2 c3 hrow hca1 hst2 hlen
      have HB := Lib.hid HB.out
      have HBW := Lib.hid hb
      have HST := Lib.hid hst2
      have hlt' : (k : Int) < (xs.length : Int) := by omega
      have hge' : (0 : Int) ≤ (k : Int) := by omega
      have hO1 := hown.alloc (.cells #[.int .i64 v0, .string v1, .int .i64 v2, .slice a v3.length ca] 44)
      have hB1 := hb.alloc hb.size (.cells #[.int .i64 v0, .string v1, .int .i64 v2, .slice a v3.length ca] 44)
      have hr1 := (hrow.below (show Below W1.heap.size wr (wr.alloc (.cells #[.int .i64 v0, .string v1, .int .i64 v2, .slice a v3.length ca] 44)) from (Below.refl _ _).alloc hb.size _))
      clear hst hst2 hps hv hb hown hrow hle HV hrl
      go_upto_region 5 with fail
      obtain ⟨W2, hW2⟩ : ∃ W, W = wr.alloc (.cells #[.int .i64 v0, .string v1, .int .i64 v2, .slice a v3.length ca] 44) := ⟨_, rfl⟩
      have M2 := Mbox.new wr #[.int .i64 v0, .string v1, .int .i64 v2, .slice a v3.length ca] 44
      rw [← hW2] at M2 hO1 hB1 hr1 ⊢
      have m3 := M2.c 3
      have HO1 := Lib.hid hO1
      have HB1 := Lib.hid hB1
      have HR1 := Lib.hid hr1
      have hs1 : W1.heap.size ≤ W2.heap.size := hB1.size
      clear hW2 M2 c0 c1 c2 c3 hO1 hB1 hr1
      go_wp2_with (at_builtin; refine wpList_append_rd rfl _ _ 42 rfl W1.heap.size 3 (.int .i64 0) 8 Try.underlying42 infoInt rfl _ ps.length (ps.map I64) (by rfl) HO1.out _ a ca v3 (by rfl) HR1.out (by unfold maxLen; omega) (by omega) hs1 ?_)
      intro v' w4 ho4 hg4
      have hb4 : Below W1.heap.size W1 w4 := HB1.out.grown hg4 hs1 (own_block HO1.out)
      have HO4 : Hid (w4.ownsRow W1.heap.size 3 1 v' (ps ++ v3).length ((ps ++ v3).map I64)) := Lib.hid (by rw [List.length_append, List.map_append]; exact ho4)
      have HB4 := Lib.hid hb4
      clear ho4 hg4 hb4 HO1 HB1 HR1
      go_wp2_with fail
      go_roundw
      case rel => exact ⟨k + 1, by omega, by go_num, by rw [HST.out]; exact HO4.out, HB4.out⟩
      case measure => simp [intOf]; omega
    · obtain rfl : k = xs.length := by omega
      rw [List.take_length] at hown
      have hxn : (rtsL ys ++ argsL xs).length ≤ 1099511627776 := by rw [List.length_append, rts_len]; omega
      obtain ⟨L, hL⟩ : ∃ L, L = rtsL ys ++ argsL xs := ⟨_, rfl⟩
      have HL : Hid (L = refsP xs ys) := Lib.hid hL
      rw [← hL] at hown hxn
      obtain ⟨A4, c4, rfl⟩ := own_shape hown
      have hso := sortInts_any W1.heap.size A4 c4 L wr hown hxn
      have HOW := Lib.hid hown
      have HBW := Lib.hid hb
      have HSO := Lib.hid hso
      have hge' : ¬ ((xs.length : Nat) : Int) < ((xs.length : Nat) : Int) := by omega
      clear hso hL hown hb
      go_wp2_with fail
      refine HSO.out.mono ?_
      rintro e w5 ⟨rfl, ho5, hg5⟩
      have hb5 : Below W1.heap.size W1 w5 := HBW.out.grown hg5 HBW.out.size (own_block HOW.out)
      have R5 : Row I64 w5 w5.heap.size A4 (srt L) := by
        have h := ho5
        rw [← srt_len L] at h
        exact Row.of_own h
      have m0 := (HM.out.later hb5).c 0
      have HR5 := Lib.hid R5
      have HB5 : Hid (Below w.heap.size w w5) := Lib.hid (HB.out.trans (hb5.mono HB.out.size))
      have hsl := srt_len L
      obtain ⟨T, hT⟩ : ∃ T, T = srt L := ⟨_, rfl⟩
      rw [← hT] at HR5 hsl
      have HT := Lib.hid hT
      clear ho5 hg5 hb5 R5 hT HSO HOW HBW
      go_wp2_with fail
      go_loop [26] (fun i => ∃ k : Nat, k ≤ L.length ∧ i = .int .i64 k ∧ ∀ j (h : j < T.length), j < k → T[j] = (j : Int)) (fun i => L.length - (intOf i).toNat)
      case atStart => exact ⟨0, Nat.zero_le _, rfl, fun j _ h => by omega⟩
      case round =>
        obtain ⟨k, hk, rfl, hin⟩ := hrel
        by_cases hlt2 : k < L.length
        · have hltT : k < T.length := by omega
          obtain ⟨b, o, rfl, hbl, t0⟩ := HR5.out.at hltT
          obtain ⟨v, hv⟩ : ∃ v, v = T[k] := ⟨_, rfl⟩
          rw [← hv] at t0
          have HV := Lib.hid hv
          have HIN := Lib.hid hin
          have hlt' : (k : Int) < (L.length : Int) := by omega
          have hge2 : (0 : Int) ≤ (k : Int) := by omega
          clear hv hin m0
          by_cases hvk : v = (k : Int)
          · have b0 : (v != (k : Int)) = false := by simp [hvk]
            have HST : Hid (∀ j (h : j < T.length), j < k + 1 → T[j] = (j : Int)) := Lib.hid fun j h hj => by
              rcases Nat.lt_or_ge j k with h1 | h1
              · exact HIN.out j h h1
              · obtain rfl : j = k := by omega
                rw [← HV.out]
                exact hvk
            clear hvk
            go_wp2_with fail
            go_round
            case rel => exact ⟨k + 1, by omega, by go_num, HST.out⟩
            case measure => simp [intOf]; omega
          · have b0 : (v != (k : Int)) = true := by simp [hvk]
            have HZ : Hid (¬ (refsP xs ys).Perm (upZ xs.length)) := Lib.hid (by
              rw [← HL.out]
              refine not_perm_at (k := k) (by rw [← HT.out]; exact hltT) ?_
              simp only [← HT.out]
              rw [← HV.out]
              exact hvk)
            clear hvk
            go_wp2_with fail
            go_ret
            exact ⟨false, rfl, iffF HZ.out, HB5.out⟩
        · have HIN := Lib.hid hin
          clear hin
          have hge2 : ¬ (k : Int) < (L.length : Int) := by omega
          by_cases hxl : L.length = xs.length
          · have b0 : ((L.length : Int) == (xs.length : Int)) = true := by simp; omega
            have HZ : Hid ((refsP xs ys).Perm (upZ xs.length)) := Lib.hid (by
              rw [← HL.out]
              refine perm_of_srt (fun j hj => ?_) hxl
              have := HIN.out j (by rw [HT.out]; exact hj) (by rw [srt_len] at hj; omega)
              simp only [HT.out] at this
              exact this)
            clear hxl
            go_wp2_with fail
            go_ret
            exact ⟨true, rfl, iffT HZ.out, HB5.out⟩
          · have b0 : ((L.length : Int) == (xs.length : Int)) = false := by simp; omega
            have HZ : Hid (¬ (refsP xs ys).Perm (upZ xs.length)) := Lib.hid fun h => hxl (by rw [HL.out]; exact perm_len h)
            clear hxl
            go_wp2_with fail
            go_ret
            exact ⟨false, rfl, iffF HZ.out, HB5.out⟩

set_option maxRecDepth 100000 in
set_option maxHeartbeats 8000000 in
theorem isValidProg_any (A A' : Option Addr) (c c' : Nat) (xs : List Nd) (ys : List As) (w : World) (hR : ProgIn w w.heap.size A A' xs ys) (hl : xs.length ≤ 1048576) (hl2 : ys.length ≤ 1048576) (hz : ys.length + (argsL xs).length ≤ 1099511627776) (hx : ∀ x ∈ xs, x.2.1.size ≤ 1048576 ∧ x.2.2.2.length ≤ 1048576) (hy : ∀ y ∈ ys, y.1.size ≤ 1048576) :
    Calls Try.prog 12 #[pgv A A' xs.length c ys.length c'] w (BoolOut (okPr xs ys) w) := by
  have HX := Lib.hid hx
  have HY := Lib.hid hy
  have hE : ∀ W, ProgIn W W.heap.size A A' xs ys → Calls Try.prog 28 #[pgv A A' xs.length c ys.length c'] W (BoolOut ((refsP xs ys).Perm (upZ xs.length)) W) := fun W h => eachOnce_any A A' c c' xs ys W h (by omega) hz
  have HE := Lib.hid hE
  clear hx hy hE hz
  obtain ⟨W1, hW1⟩ : ∃ W, W = w.alloc (.cells #[.slice A xs.length c, .slice A' ys.length c'] 26) := ⟨_, rfl⟩
  have M := Mbox.new w #[.slice A xs.length c, .slice A' ys.length c'] 26
  have hB : Below w.heap.size w (w.alloc (.cells #[.slice A xs.length c, .slice A' ys.length c'] 26)) := by go_grown
  have hR1 := (hR.alloc (Nat.le_refl _) (.cells #[.slice A xs.length c, .slice A' ys.length c'] 26)).more (B' := (w.alloc (.cells #[.slice A xs.length c, .slice A' ys.length c'] 26)).heap.size) (by simp)
  rw [← hW1] at M hB hR1
  have HM := Lib.hid M
  have HB := Lib.hid hB
  have HR := Lib.hid hR1
  clear M hB hR hR1
  go_enter Try.func12, Try.ntmps12
  go_upto_region 1 with fail
  rw [← hW1]
  clear hW1
  have m0 := HM.out.c 0
  have m1 := HM.out.c 1
  by_cases h60 : 60 < xs.length
  · have hgt : (60 : Int) < (xs.length : Int) := by omega
    have HZ : Hid (¬ okPr xs ys) := Lib.hid fun h => by have := h.1; omega
    clear h60
    go_wp2_with fail
    go_ret
    exact ⟨false, rfl, iffF HZ.out, HB.out⟩
  · have hgt : ¬ (60 : Int) < (xs.length : Int) := by omega
    go_wp2_with fail
    go_loopw [14] (fun i wr => ∃ k : Nat, k ≤ xs.length ∧ i = .int .i64 k ∧ (∀ j (h : j < xs.length), j < k → okN j xs[j]) ∧ Below W1.heap.size W1 wr) (fun i _ => xs.length - (intOf i).toNat)
    case atStart => exact ⟨0, Nat.zero_le _, rfl, fun j _ h => by omega, Below.refl _ _⟩
    case round =>
      clear m0 m1 hgt
      obtain ⟨k, hk, rfl, hin, hb⟩ := hrel
      by_cases hlt : k < xs.length
      · obtain ⟨b, o, rfl, hbl, a, ca, c0, c1, c2, c3, hca1, hca2, hrow⟩ := HR.out.1.at hlt
        have c0 := (hb.cell (p := ⟨b, o + k * 4, none⟩) hbl).trans c0
        have c1 := (hb.cell (p := ⟨b, o + k * 4 + 1, none⟩) hbl).trans c1
        have c2 := (hb.cell (p := ⟨b, o + k * 4 + 2, none⟩) hbl).trans c2
        have c3 := (hb.cell (p := ⟨b, o + k * 4 + 3, none⟩) hbl).trans c3
        have hrow := hrow.below hb
        obtain ⟨v, hv⟩ : ∃ v, v = xs[k] := ⟨_, rfl⟩
        have HV := Lib.hid hv
        have hxv := HX.out _ (List.getElem_mem hlt)
        rw [← hv] at c0 c1 c2 c3 hrow hca1 hxv
        obtain ⟨v0, v1, v2, v3⟩ := v
        dsimp only at c0 c1 c2 c3 hrow hca1 hxv
        have hlt' : (k : Int) < (xs.length : Int) := by omega
        have hge' : (0 : Int) ≤ (k : Int) := by omega
        have hkb : (k : Int) ≤ 60 := by omega
        have HIN := Lib.hid hin
        have HB1 := Lib.hid (hb.alloc hb.size (.cells #[.int .i64 v0, .string v1, .int .i64 v2, .slice a v3.length ca] 44))
        have HR1 := Lib.hid (hrow.below (show Below W1.heap.size wr (wr.alloc (.cells #[.int .i64 v0, .string v1, .int .i64 v2, .slice a v3.length ca] 44)) from (Below.refl _ _).alloc hb.size _))
        clear hv hb hin hrow
        go_upto_region 6 with fail
        obtain ⟨W2, hW2⟩ : ∃ W, W = wr.alloc (.cells #[.int .i64 v0, .string v1, .int .i64 v2, .slice a v3.length ca] 44) := ⟨_, rfl⟩
        have M2 := Mbox.new wr #[.int .i64 v0, .string v1, .int .i64 v2, .slice a v3.length ca] 44
        rw [← hW2] at M2 HB1 HR1 ⊢
        have n0 := M2.c 0
        have n1 := M2.c 1
        have n2 := M2.c 2
        have n3 := M2.c 3
        have HM2 := Lib.hid M2
        have hiv := Lib.hid (isValidNode_any v0 v2 v1 a ca v3 W2 hxv.1 (by omega))
        have hs1 : W1.heap.size ≤ W2.heap.size := HB1.out.size
        clear hW2 M2 c0 c1 c2 c3
        go_wp2_with fail
        refine hiv.out.mono ?_
        rintro e w3 ⟨q, rfl, hq, hb3⟩
        have M3 := HM2.out.later hb3
        have n3 := M3.c 3
        have HB3 := Lib.hid (HB1.out.trans (hb3.mono hs1))
        have HR3 := Lib.hid (HR1.out.below (hb3.mono hs1))
        have HQ := Lib.hid hq
        clear hq hb3 M3 hiv n0 n1 n2 HR1 HB1 HM2
        cases q with
        | false =>
          have HZ : Hid (¬ okPr xs ys) := Lib.hid fun h => by
            have h1 := (h.2.1 k hlt).1
            rw [← HV.out] at h1
            have := HQ.out.2 h1
            cases this
          go_wp2_with fail
          go_ret
          exact ⟨false, rfl, iffF HZ.out, HB.out.trans (HB3.out.mono HB.out.size)⟩
        | true =>
          have HSH := Lib.hid (HQ.out.1 rfl)
          have haw := Lib.hid (areWithin_any a ca v3 0 ((k : Int) - 1) w3 _ HR3.out (by omega))
          clear HQ
          go_wp2_with fail
          refine haw.out.mono ?_
          rintro e w4 ⟨q, rfl, hq, rfl⟩
          have HQ := Lib.hid hq
          clear hq haw
          cases q with
          | false =>
            have HZ : Hid (¬ okPr xs ys) := Lib.hid fun h => by
              have h1 := (h.2.1 k hlt).2
              rw [← HV.out] at h1
              have := HQ.out.2 h1
              cases this
            go_wp2_with fail
            go_ret
            exact ⟨false, rfl, iffF HZ.out, HB.out.trans (HB3.out.mono HB.out.size)⟩
          | true =>
            have HST : Hid (∀ j (h : j < xs.length), j < k + 1 → okN j xs[j]) := Lib.hid fun j h hj => by
              rcases Nat.lt_or_ge j k with h1 | h1
              · exact HIN.out j h h1
              · obtain rfl : j = k := by omega
                rw [← HV.out]
                exact ⟨HSH.out, HQ.out.1 rfl⟩
            go_wp2_with fail
            go_roundw
            case rel => exact ⟨k + 1, by omega, by go_num, HST.out, HB3.out⟩
            case measure => simp [intOf]; omega
      · have HIN : Hid (∀ j (h : j < xs.length), okN j xs[j]) := Lib.hid fun j h => hin j h (by omega)
        have HBW := Lib.hid hb
        have m0 := (HM.out.later hb).c 0
        have m1 := (HM.out.later hb).c 1
        have hge' : ¬ (k : Int) < (xs.length : Int) := by omega
        obtain ⟨zk, hzk⟩ : ∃ zk : Int, zk = (k : Int) := ⟨_, rfl⟩
        rw [← hzk] at hge' ⊢
        clear hin hb hzk hk hlt
        go_wp2_with fail
        go_loopw [34] (fun i wr => ∃ k : Nat, k ≤ ys.length ∧ i = .int .i64 k ∧ (∀ j (h : j < ys.length), j < k → Ident (ys[j]).1) ∧ Below W1.heap.size W1 wr) (fun i _ => ys.length - (intOf i).toNat)
        case atStart => exact ⟨0, Nat.zero_le _, rfl, fun j _ h => by omega, HBW.out⟩
        case round =>
          clear m0 m1 HBW hge'
          obtain ⟨k, hk, rfl, hin, hb⟩ := hrel
          by_cases hlt : k < ys.length
          · obtain ⟨b, o, rfl, hbl, hc⟩ := HR.out.2.at hlt
            obtain ⟨c0, c1⟩ := asg_at hc
            have c0 := (hb.cell (p := ⟨b, o + k * 2, none⟩) hbl).trans c0
            have c1 := (hb.cell (p := ⟨b, o + k * 2 + 1, none⟩) hbl).trans c1
            obtain ⟨v, hv⟩ : ∃ v, v = ys[k] := ⟨_, rfl⟩
            have HV := Lib.hid hv
            have hxv := HY.out _ (List.getElem_mem hlt)
            rw [← hv] at c0 c1 hxv
            obtain ⟨v0, v1⟩ := v
            dsimp only at c0 c1 hxv
            have HIN2 := Lib.hid hin
            have hlt' : (k : Int) < (ys.length : Int) := by omega
            have hge2 : (0 : Int) ≤ (k : Int) := by omega
            have hs2 : W1.heap.size ≤ wr.heap.size := hb.size
            have HBW := Lib.hid hb
            clear hv hc hin hb
            go_upto_region 12 with fail
            obtain ⟨W2, hW2⟩ : ∃ W, W = wr.alloc (.cells #[.string v0, .int .i64 v1] 33) := ⟨_, rfl⟩
            have M2 := Mbox.new wr #[.string v0, .int .i64 v1] 33
            have hB2 := HBW.out.alloc HBW.out.size (.cells #[.string v0, .int .i64 v1] 33)
            rw [← hW2] at M2 hB2 ⊢
            have n0 := M2.c 0
            have HB2 := Lib.hid hB2
            have hs3 : W1.heap.size ≤ W2.heap.size := hB2.size
            have hid2 := Lib.hid (ident_any v0 W2 hxv)
            clear hW2 M2 c0 c1 hB2
            go_wp2_with fail
            refine hid2.out.mono ?_
            rintro e w3 ⟨q, rfl, hq, hb3⟩
            have HB3 := Lib.hid (HB2.out.trans (hb3.mono hs3))
            have HQ := Lib.hid hq
            clear hq hb3 hid2 n0
            cases q with
            | false =>
              have HZ : Hid (¬ okPr xs ys) := Lib.hid fun h => by
                have h1 := h.2.2.1 k hlt
                rw [← HV.out] at h1
                have := HQ.out.2 h1
                cases this
              go_wp2_with fail
              go_ret
              exact ⟨false, rfl, iffF HZ.out, HB.out.trans (HB3.out.mono HB.out.size)⟩
            | true =>
              have HST : Hid (∀ j (h : j < ys.length), j < k + 1 → Ident (ys[j]).1) := Lib.hid fun j h hj => by
                rcases Nat.lt_or_ge j k with h1 | h1
                · exact HIN2.out j h h1
                · obtain rfl : j = k := by omega
                  rw [← HV.out]
                  exact HQ.out.1 rfl
              go_wp2_with fail
              go_roundw
              case rel => exact ⟨k + 1, by omega, by go_num, HST.out, HB3.out⟩
              case measure => simp [intOf]; omega
          · have HIY : Hid (∀ j (h : j < ys.length), Ident (ys[j]).1) := Lib.hid fun j h => hin j h (by omega)
            have HBW := Lib.hid hb
            have m0 := (HM.out.later hb).c 0
            have m1 := (HM.out.later hb).c 1
            have hge2 : ¬ (k : Int) < (ys.length : Int) := by omega
            have hee := Lib.hid (HE.out wr (HR.out.later hb))
            clear hin hb
            go_wp2_with fail
            refine hee.out.mono ?_
            rintro e w5 ⟨q, rfl, hq, hb5⟩
            have HZ : Hid (q = true ↔ okPr xs ys) := Lib.hid ⟨fun e => ⟨by omega, HIN.out, HIY.out, hq.1 e⟩, fun h => hq.2 h.2.2.2⟩
            have HB5 := Lib.hid (HB.out.trans ((HBW.out.trans (hb5.mono HBW.out.size)).mono HB.out.size))
            clear hq hb5
            go_wp2_with fail
            go_ret
            exact ⟨q, rfl, HZ.out, HB5.out⟩
end

section
open Go.RowKit

/-- how often each of the numbers below n stands in a list -/
def cntL (n : Nat) (l : List Int) : List Int := (List.range n).map fun (k : Nat) => ((l.count (k : Int) : Nat) : Int)
theorem cntL_len (n : Nat) (l : List Int) : (cntL n l).length = n := by simp [cntL]
theorem cntL_at (n : Nat) (l : List Int) (k : Nat) (h : k < (cntL n l).length) : (cntL n l)[k] = ((l.count (k : Int) : Nat) : Int) := by simp [cntL]
theorem cntL_nil (n : Nat) : cntL n [] = List.replicate n 0 := by
  refine List.ext_getElem (by simp [cntL_len]) fun k h1 h2 => ?_
  rw [cntL_at]
  simp
theorem cntL_step (n : Nat) (l : List Int) (m : Nat) : (cntL n l).set m (((l.count (m : Int) : Nat) : Int) + 1) = cntL n (l ++ [(m : Int)]) := by
  refine List.ext_getElem (by simp [cntL_len]) fun k h1 h2 => ?_
  rw [cntL_at, List.getElem_set, List.count_append]
  by_cases e : m = k
  · subst e
    simp
  · rw [if_neg e, cntL_at]
    have : List.count (k : Int) [(m : Int)] = 0 := List.count_eq_zero.2 (by simp; omega)
    rw [this]
    simp
def UsesOut (n : Nat) (l : List Int) (w : World) (e : Ending) (w' : World) : Prop :=
  ∃ (A : Option Addr), e = .returned (.slice A n n) ∧ Row I64 w' w'.heap.size A (cntL n l) ∧ Below w.heap.size w w'
theorem uses_perm (xs : List Nd) (ys : List As) (k : Int) : (argsL xs ++ rtsZ ys).count k = (refsP xs ys).count k := by
  unfold refsP
  rw [List.count_append, List.count_append, Nat.add_comm]
theorem rtsZ_len (ys : List As) : (rtsZ ys).length = ys.length := by simp [rtsZ]
theorem rtsZ_step (ys : List As) (k : Nat) (h : k < ys.length) : (rtsZ ys).take (k + 1) = (rtsZ ys).take k ++ [(ys[k]).2] := by
  rw [List.take_succ_eq_append_getElem (by rw [rtsZ_len]; exact h)]
  simp [rtsZ]
theorem args_takeM (xs : List Nd) (k : Nat) : (argsL (xs.take k)).length ≤ (argsL xs).length := by
  unfold argsL
  induction xs generalizing k with
  | nil => simp
  | cons x xs ih =>
    cases k with
    | zero => simp
    | succ k =>
      have := ih k
      simp only [List.take_succ_cons, List.flatMap_cons, List.length_append]
      omega

set_option maxRecDepth 100000 in
set_option maxHeartbeats 8000000 in
theorem sUses_any (A A' : Option Addr) (c c' : Nat) (xs : List Nd) (ys : List As) (w : World) (hR : ProgIn w w.heap.size A A' xs ys) (hl : xs.length ≤ 1048576) (hl2 : ys.length ≤ 1048576) (hz : (argsL xs).length ≤ 1099511627776) (hA : ∀ i (h : i < xs.length), argsIn i (xs[i]).2.2.2) (hY : ∀ j (h : j < ys.length), 0 ≤ (ys[j]).2 ∧ (ys[j]).2 < xs.length) :
    Calls Try.prog 60 #[pgv A A' xs.length c ys.length c'] w (UsesOut xs.length (argsL xs ++ rtsZ ys) w) := by
  obtain ⟨i0, hi, hz0, hz1, hz2⟩ := info_parts infoInt
  have HA := Lib.hid hA
  have HY := Lib.hid hY
  clear hA hY
  obtain ⟨W1, hW1⟩ : ∃ W, W = w.alloc (.cells #[.slice A xs.length c, .slice A' ys.length c'] 26) := ⟨_, rfl⟩
  have M := Mbox.new w #[.slice A xs.length c, .slice A' ys.length c'] 26
  have hB : Below w.heap.size w (w.alloc (.cells #[.slice A xs.length c, .slice A' ys.length c'] 26)) := by go_grown
  have hR1 := (hR.alloc (Nat.le_refl _) (.cells #[.slice A xs.length c, .slice A' ys.length c'] 26)).more (B' := (w.alloc (.cells #[.slice A xs.length c, .slice A' ys.length c'] 26)).heap.size) (by simp)
  rw [← hW1] at M hB hR1
  have HM := Lib.hid M
  have HB := Lib.hid hB
  have HR := Lib.hid hR1
  clear M hB hR hR1
  go_enter Try.func60, Try.ntmps60
  go_upto_region 1 with fail
  rw [← hW1]
  clear hW1
  have m0 := HM.out.c 0
  have m1 := HM.out.c 1
  go_wp2_with (at_make; refine wpList_make_full _ rfl _ _ 42 rfl W1.heap.size 3 i0 (.int .i64 0) 1 Try.underlying42 hi hz0 hz1 .i64 .i64 _ _ xs.length rfl rfl rfl rfl (by rw [hz2]; omega) (by unfold maxLen; omega) (by omega) ?_)
  intro w2 hown hgrow
  have hb0 : Below W1.heap.size W1 w2 := (Below.refl _ _).grown hgrow (Nat.le_refl _) (fun k h => by cases h)
  have hown : w2.ownsRow W1.heap.size 3 1 (.slice (some ⟨W1.heap.size, 0, none⟩) xs.length xs.length) xs.length ((cntL xs.length []).map I64) := by
    rw [cntL_nil, List.map_replicate, ← made_one]; exact hown
  have m0 := (HM.out.later hb0).c 0
  have m1 := (HM.out.later hb0).c 1
  have HO0 := Lib.hid hown
  have HB0 := Lib.hid hb0
  clear hown hb0 hgrow
  go_wp2_with fail
  go_loopw [17] (fun i wr => ∃ k : Nat, k ≤ xs.length ∧ i = .int .i64 k ∧ wr.ownsRow W1.heap.size 3 1 (.slice (some ⟨W1.heap.size, 0, none⟩) xs.length xs.length) xs.length ((cntL xs.length (argsL (xs.take k))).map I64) ∧ Below W1.heap.size W1 wr) (fun i _ => xs.length - (intOf i).toNat)
  case atStart => exact ⟨0, Nat.zero_le _, rfl, by simpa [argsL] using HO0.out, HB0.out⟩
  case round =>
    clear m0 m1 HO0 HB0
    obtain ⟨k, hk, rfl, hown, hb⟩ := hrel
    by_cases hlt : k < xs.length
    · have hst := args_step xs k hlt
      have hle := args_takeM xs (k + 1)
      have hav := HA.out k hlt
      obtain ⟨b, o, rfl, hbl, a, ca, c0, c1, c2, c3, hca1, hca2, hrow⟩ := HR.out.1.at hlt
      have c0 := (hb.cell (p := ⟨b, o + k * 4, none⟩) hbl).trans c0
      have c1 := (hb.cell (p := ⟨b, o + k * 4 + 1, none⟩) hbl).trans c1
      have c2 := (hb.cell (p := ⟨b, o + k * 4 + 2, none⟩) hbl).trans c2
      have c3 := (hb.cell (p := ⟨b, o + k * 4 + 3, none⟩) hbl).trans c3
      have hrow := hrow.below hb
      obtain ⟨v, hv⟩ : ∃ v, v = xs[k] := ⟨_, rfl⟩
      have HV := Lib.hid hv
      rw [← hv] at c0 c1 c2 c3 hrow hca1 hst hav
      obtain ⟨ps, hps⟩ : ∃ ps, ps = argsL (xs.take k) := ⟨_, rfl⟩
      rw [← hps] at hown hst
      have hlen : ps.length + v.2.2.2.length ≤ 1099511627776 := by
        rw [← List.length_append, ← hst]
        omega
      obtain ⟨v0, v1, v2, v3⟩ := v
      dsimp only at c0 c1 c2 c3 hrow hca1 hst hav hlen
      have HAV := Lib.hid hav
      have HST := Lib.hid hst
      have hlt' : (k : Int) < (xs.length : Int) := by omega
      have hge' : (0 : Int) ≤ (k : Int) := by omega
      have hO1 := hown.alloc (.cells #[.int .i64 v0, .string v1, .int .i64 v2, .slice a v3.length ca] 44)
      have hB1 := hb.alloc hb.size (.cells #[.int .i64 v0, .string v1, .int .i64 v2, .slice a v3.length ca] 44)
      have hr1 := (hrow.below (show Below W1.heap.size wr (wr.alloc (.cells #[.int .i64 v0, .string v1, .int .i64 v2, .slice a v3.length ca] 44)) from (Below.refl _ _).alloc hb.size _))
      clear hst hps hv hb hown hrow hle HV hav
      go_upto_region 5 with fail
      obtain ⟨W2, hW2⟩ : ∃ W, W = wr.alloc (.cells #[.int .i64 v0, .string v1, .int .i64 v2, .slice a v3.length ca] 44) := ⟨_, rfl⟩
      have M2 := Mbox.new wr #[.int .i64 v0, .string v1, .int .i64 v2, .slice a v3.length ca] 44
      rw [← hW2] at M2 hO1 hB1 hr1 ⊢
      have m3 := M2.c 3
      have HO1 := Lib.hid hO1
      have HB1 := Lib.hid hB1
      have HR1 := Lib.hid hr1
      clear hW2 M2 c0 c1 c2 c3 hO1 hB1 hr1
      go_wp2_with fail
      go_loopw [24] (fun i wr => ∃ q : Nat, q ≤ v3.length ∧ i = .int .i64 q ∧ wr.ownsRow W1.heap.size 3 1 (.slice (some ⟨W1.heap.size, 0, none⟩) xs.length xs.length) xs.length ((cntL xs.length (ps ++ v3.take q)).map I64) ∧ Below W1.heap.size W1 wr ∧ Row I64 wr W1.heap.size a v3) (fun i _ => v3.length - (intOf i).toNat)
      case atStart => exact ⟨0, Nat.zero_le _, rfl, by simpa using HO1.out, HB1.out, HR1.out⟩
      case round =>
        clear m3 HO1 HB1 HR1
        obtain ⟨q, hq, rfl, hown, hb, hr⟩ := hrel
        by_cases hlt2 : q < v3.length
        · obtain ⟨b3, o3, rfl, hbl3, hc⟩ := hr.at hlt2
          have hin := HAV.out _ (List.getElem_mem hlt2)
          obtain ⟨m, hm⟩ : ∃ m : Nat, v3[q] = (m : Int) := ⟨(v3[q]).toNat, by omega⟩
          have hst2 : ps ++ v3.take (q + 1) = (ps ++ v3.take q) ++ [(m : Int)] := by
            rw [List.take_succ_eq_append_getElem hlt2, hm, List.append_assoc]
          rw [hm] at hc hin
          have hlen2 : (ps ++ v3.take q).length ≤ 1099511627776 := by
            rw [List.length_append, List.length_take]
            omega
          obtain ⟨zs, hzs⟩ : ∃ zs, zs = ps ++ v3.take q := ⟨_, rfl⟩
          rw [← hzs] at hown hst2 hlen2
          have hmlt : (m : Int) < (xs.length : Int) := by omega
          have hmge : (0 : Int) ≤ (m : Int) := by omega
          have hlt2' : (q : Int) < (v3.length : Int) := by omega
          have hge2' : (0 : Int) ≤ (q : Int) := by omega
          have hlh : m < (cntL xs.length zs).length := by rw [cntL_len]; omega
          have hd := hown.cellAt m (by omega)
          have hf := hown.frozenAt m
          rw [List.getElem?_map, List.getElem?_eq_getElem hlh, Option.map_some, cntL_at] at hd
          have hcb : (zs).count (m : Int) ≤ (zs).length := List.count_le_length
          have hs := (hown.stored m (I64 (((zs).count (m : Int) : Nat) + 1))).1
          rw [← List.map_set, cntL_step] at hs
          have hs' := hb.setCell (p := ⟨W1.heap.size, m, none⟩) (Nat.le_refl _) (I64 (((zs).count (m : Int) : Nat) + 1))
          have hr' : Row I64 (wr.setCell ⟨W1.heap.size, m, none⟩ (I64 ((zs.count (m : Int) : Nat) + 1))) W1.heap.size (some ⟨b3, o3, none⟩) v3 := hr.below ((Below.refl _ _).setCell (p := ⟨W1.heap.size, m, none⟩) (Nat.le_refl _) _)
          rw [← hst2] at hs
          obtain ⟨cn, hcn⟩ : ∃ cn : Nat, cn = zs.count (m : Int) := ⟨_, rfl⟩
          rw [← hcn] at hd hs hs' hcb hr'
          have hcn2 : (cn : Int) ≤ 1099511627776 := by omega
          have hcn0 : (0 : Int) ≤ (cn : Int) := by omega
          have HS := Lib.hid hs
          have HS' := Lib.hid hs'
          have HR' := Lib.hid hr'
          clear hs hs' hr' hown hb hr hzs hst2 hm hin hlen2 hlh hcb hcn
          go_wp2_with fail
          go_roundw
          case rel => exact ⟨q + 1, by omega, by go_num, HS.out, HS'.out, HR'.out⟩
          case measure => simp [intOf]; omega
        · obtain rfl : q = v3.length := by omega
          rw [List.take_length] at hown
          have HO4 : Hid (wr.ownsRow W1.heap.size 3 1 (.slice (some ⟨W1.heap.size, 0, none⟩) xs.length xs.length) xs.length ((cntL xs.length (argsL (xs.take (k + 1)))).map I64)) := Lib.hid (by rw [HST.out]; exact hown)
          have HB4 := Lib.hid hb
          have hge2 : ¬ ((v3.length : Nat) : Int) < ((v3.length : Nat) : Int) := by omega
          clear hown hb hr
          go_wp2_with fail
          go_roundw
          case rel => exact ⟨k + 1, by omega, by go_num, HO4.out, HB4.out⟩
          case measure => simp [intOf]; omega
    · obtain rfl : k = xs.length := by omega
      rw [List.take_length] at hown
      obtain ⟨aa, haa⟩ : ∃ aa, aa = argsL xs := ⟨_, rfl⟩
      have HAA := Lib.hid haa
      rw [← haa] at hown hz
      have HOW := Lib.hid hown
      have HBW := Lib.hid hb
      have m0 := (HM.out.later hb).c 0
      have m1 := (HM.out.later hb).c 1
      have hge' : ¬ ((xs.length : Nat) : Int) < ((xs.length : Nat) : Int) := by omega
      obtain ⟨zk, hzk⟩ : ∃ zk : Int, zk = ((xs.length : Nat) : Int) := ⟨_, rfl⟩
      clear hown hb haa zk hzk
      go_wp2_with fail
      go_loopw [39] (fun i wr => ∃ k : Nat, k ≤ ys.length ∧ i = .int .i64 k ∧ wr.ownsRow W1.heap.size 3 1 (.slice (some ⟨W1.heap.size, 0, none⟩) xs.length xs.length) xs.length ((cntL xs.length (aa ++ (rtsZ ys).take k)).map I64) ∧ Below W1.heap.size W1 wr) (fun i _ => ys.length - (intOf i).toNat)
      case atStart => exact ⟨0, Nat.zero_le _, rfl, by simpa using HOW.out, HBW.out⟩
      case round =>
        clear m0 m1 HOW HBW hge'
        obtain ⟨k, hk, rfl, hown, hb⟩ := hrel
        by_cases hlt : k < ys.length
        · obtain ⟨b, o, rfl, hbl, hc⟩ := HR.out.2.at hlt
          obtain ⟨c0, c1⟩ := asg_at hc
          have c0 := (hb.cell (p := ⟨b, o + k * 2, none⟩) hbl).trans c0
          have c1 := (hb.cell (p := ⟨b, o + k * 2 + 1, none⟩) hbl).trans c1
          have hin := HY.out k hlt
          have hst := rtsZ_step ys k hlt
          obtain ⟨m, hm⟩ : ∃ m : Nat, (ys[k]).2 = (m : Int) := ⟨((ys[k]).2).toNat, by omega⟩
          rw [hm] at c1 hin hst
          obtain ⟨v0, hv0⟩ : ∃ v0, v0 = (ys[k]).1 := ⟨_, rfl⟩
          rw [← hv0] at c0
          have hst2 : aa ++ (rtsZ ys).take (k + 1) = (aa ++ (rtsZ ys).take k) ++ [(m : Int)] := by
            rw [hst, List.append_assoc]
          have hlen2 : (aa ++ (rtsZ ys).take k).length ≤ 1199511627776 := by
            rw [List.length_append, List.length_take, rtsZ_len]
            omega
          obtain ⟨zs, hzs⟩ : ∃ zs, zs = aa ++ (rtsZ ys).take k := ⟨_, rfl⟩
          rw [← hzs] at hown hst2 hlen2
          have hmlt : (m : Int) < (xs.length : Int) := by omega
          have hmge : (0 : Int) ≤ (m : Int) := by omega
          have hlt2' : (k : Int) < (ys.length : Int) := by omega
          have hge2' : (0 : Int) ≤ (k : Int) := by omega
          have hown := hown.alloc (.cells #[.string v0, .int .i64 m] 33)
          have hb := hb.alloc hb.size (.cells #[.string v0, .int .i64 m] 33)
          have hHS := Lib.hid hst2
          clear hst hzs hm hv0 hst2 hc hin
          go_upto_region 14 with fail
          obtain ⟨W2, hW2⟩ : ∃ W, W = wr.alloc (.cells #[.string v0, .int .i64 m] 33) := ⟨_, rfl⟩
          have M2 := Mbox.new wr #[.string v0, .int .i64 m] 33
          rw [← hW2] at M2 hown hb ⊢
          have n1 := M2.c 1
          clear hW2 M2 c0 c1
          have hlh : m < (cntL xs.length zs).length := by rw [cntL_len]; omega
          have hd := hown.cellAt m (by omega)
          have hf := hown.frozenAt m
          rw [List.getElem?_map, List.getElem?_eq_getElem hlh, Option.map_some, cntL_at] at hd
          have hcb : (zs).count (m : Int) ≤ (zs).length := List.count_le_length
          have hs := (hown.stored m (I64 (((zs).count (m : Int) : Nat) + 1))).1
          rw [← List.map_set, cntL_step] at hs
          have hs' := hb.setCell (p := ⟨W1.heap.size, m, none⟩) (Nat.le_refl _) (I64 (((zs).count (m : Int) : Nat) + 1))
          rw [← hHS.out] at hs
          obtain ⟨cn, hcn⟩ : ∃ cn : Nat, cn = zs.count (m : Int) := ⟨_, rfl⟩
          rw [← hcn] at hd hs hs' hcb
          have hcn2 : (cn : Int) ≤ 1199511627776 := by omega
          have hcn0 : (0 : Int) ≤ (cn : Int) := by omega
          have HS := Lib.hid hs
          have HS' := Lib.hid hs'
          clear hs hs' hown hb hlen2 hlh hcb hcn hHS
          go_wp2_with fail
          go_roundw
          case rel => exact ⟨k + 1, by omega, by go_num, HS.out, HS'.out⟩
          case measure => simp [intOf]; omega
        · obtain rfl : k = ys.length := by omega
          rw [List.take_of_length_le (Nat.le_of_eq (rtsZ_len ys))] at hown
          have hrw : Row I64 wr wr.heap.size (some ⟨W1.heap.size, 0, none⟩) (cntL xs.length (aa ++ rtsZ ys)) := by
            have h := hown
            rw [← cntL_len xs.length (aa ++ rtsZ ys)] at h
            have h := Row.of_own (f := I64) (xs := cntL xs.length (aa ++ rtsZ ys)) (c := (cntL xs.length (aa ++ rtsZ ys)).length) (by simpa only [cntL_len] using hown)
            exact h
          have HRW := Lib.hid hrw
          have HBF := Lib.hid (HB.out.trans (hb.mono HB.out.size))
          have hge2 : ¬ ((ys.length : Nat) : Int) < ((ys.length : Nat) : Int) := by omega
          clear hown hb hrw
          go_wp2_with fail
          go_ret
          exact ⟨_, rfl, by rw [← HAA.out]; exact HRW.out, HBF.out⟩

set_option maxRecDepth 100000 in
set_option maxHeartbeats 8000000 in
theorem sIsValidProg_any (A A' : Option Addr) (c c' : Nat) (xs : List Nd) (ys : List As) (w : World) (hR : ProgIn w w.heap.size A A' xs ys) (hl : xs.length ≤ 1048576) (hl2 : ys.length ≤ 1048576) (hz : (argsL xs).length ≤ 1099511627776) (hx : ∀ x ∈ xs, x.2.1.size ≤ 1048576 ∧ x.2.2.2.length ≤ 1048576) (hy : ∀ y ∈ ys, y.1.size ≤ 1048576) :
    Calls Try.prog 43 #[pgv A A' xs.length c ys.length c'] w (BoolOut (okPr xs ys) w) := by
  have HX := Lib.hid hx
  have HY := Lib.hid hy
  clear hx hy
  obtain ⟨W1, hW1⟩ : ∃ W, W = w.alloc (.cells #[.slice A xs.length c, .slice A' ys.length c'] 26) := ⟨_, rfl⟩
  have M := Mbox.new w #[.slice A xs.length c, .slice A' ys.length c'] 26
  have hB : Below w.heap.size w (w.alloc (.cells #[.slice A xs.length c, .slice A' ys.length c'] 26)) := by go_grown
  have hR1 := (hR.alloc (Nat.le_refl _) (.cells #[.slice A xs.length c, .slice A' ys.length c'] 26)).more (B' := (w.alloc (.cells #[.slice A xs.length c, .slice A' ys.length c'] 26)).heap.size) (by simp)
  rw [← hW1] at M hB hR1
  have HM := Lib.hid M
  have HB := Lib.hid hB
  have HR := Lib.hid hR1
  clear M hB hR hR1
  go_enter Try.func43, Try.ntmps43
  go_upto_region 1 with fail
  rw [← hW1]
  clear hW1
  have m0 := HM.out.c 0
  have m1 := HM.out.c 1
  go_wp2_with fail
  go_loopw [12] (fun i wr => ∃ k : Nat, k ≤ xs.length ∧ i = .int .i64 k ∧ (∀ j (h : j < xs.length), j < k → okN j xs[j]) ∧ Below W1.heap.size W1 wr) (fun i _ => xs.length - (intOf i).toNat)
  case atStart => exact ⟨0, Nat.zero_le _, rfl, fun j _ h => by omega, Below.refl _ _⟩
  case round =>
    clear m0 m1
    obtain ⟨k, hk, rfl, hin, hb⟩ := hrel
    by_cases hlt : k < xs.length
    · obtain ⟨b, o, rfl, hbl, a, ca, c0, c1, c2, c3, hca1, hca2, hrow⟩ := HR.out.1.at hlt
      have c0 := (hb.cell (p := ⟨b, o + k * 4, none⟩) hbl).trans c0
      have c1 := (hb.cell (p := ⟨b, o + k * 4 + 1, none⟩) hbl).trans c1
      have c2 := (hb.cell (p := ⟨b, o + k * 4 + 2, none⟩) hbl).trans c2
      have c3 := (hb.cell (p := ⟨b, o + k * 4 + 3, none⟩) hbl).trans c3
      have hrow := hrow.below hb
      obtain ⟨v, hv⟩ : ∃ v, v = xs[k] := ⟨_, rfl⟩
      have HV := Lib.hid hv
      have hxv := HX.out _ (List.getElem_mem hlt)
      rw [← hv] at c0 c1 c2 c3 hrow hca1 hxv
      obtain ⟨v0, v1, v2, v3⟩ := v
      dsimp only at c0 c1 c2 c3 hrow hca1 hxv
      have hlt' : (k : Int) < (xs.length : Int) := by omega
      have hge' : (0 : Int) ≤ (k : Int) := by omega
      have HIN := Lib.hid hin
      have HB1 := Lib.hid (hb.alloc hb.size (.cells #[.int .i64 v0, .string v1, .int .i64 v2, .slice a v3.length ca] 44))
      have HR1 := Lib.hid (hrow.below (show Below W1.heap.size wr (wr.alloc (.cells #[.int .i64 v0, .string v1, .int .i64 v2, .slice a v3.length ca] 44)) from (Below.refl _ _).alloc hb.size _))
      clear hv hb hin hrow
      go_upto_region 4 with fail
      obtain ⟨W2, hW2⟩ : ∃ W, W = wr.alloc (.cells #[.int .i64 v0, .string v1, .int .i64 v2, .slice a v3.length ca] 44) := ⟨_, rfl⟩
      have M2 := Mbox.new wr #[.int .i64 v0, .string v1, .int .i64 v2, .slice a v3.length ca] 44
      rw [← hW2] at M2 HB1 HR1 ⊢
      have n0 := M2.c 0
      have n1 := M2.c 1
      have n2 := M2.c 2
      have n3 := M2.c 3
      have hs1 : W1.heap.size ≤ W2.heap.size := HB1.out.size
      have hiv := Lib.hid (sNode_any k v0 v2 v1 a ca v3 W2 (HR1.out.more hs1) hxv.1 (by omega) (by omega))
      clear hW2 M2 c0 c1 c2 c3
      go_wp2_with fail
      refine hiv.out.mono ?_
      rintro e w3 ⟨q, rfl, hq, hb3⟩
      have HB3 := Lib.hid (HB1.out.trans (hb3.mono hs1))
      have HQ := Lib.hid hq
      clear hq hb3 hiv n0 n1 n2 n3 HR1 HB1
      cases q with
      | false =>
        have HZ : Hid (¬ okPr xs ys) := Lib.hid fun h => by
          have h1 := h.2.1 k hlt
          rw [← HV.out] at h1
          have := HQ.out.2 h1
          cases this
        go_wp2_with fail
        go_ret
        exact ⟨false, rfl, iffF HZ.out, HB.out.trans (HB3.out.mono HB.out.size)⟩
      | true =>
        have HST : Hid (∀ j (h : j < xs.length), j < k + 1 → okN j xs[j]) := Lib.hid fun j h hj => by
          rcases Nat.lt_or_ge j k with h1 | h1
          · exact HIN.out j h h1
          · obtain rfl : j = k := by omega
            rw [← HV.out]
            exact HQ.out.1 rfl
        go_wp2_with fail
        go_roundw
        case rel => exact ⟨k + 1, by omega, by go_num, HST.out, HB3.out⟩
        case measure => simp [intOf]; omega
    · have HIN : Hid (∀ j (h : j < xs.length), okN j xs[j]) := Lib.hid fun j h => hin j h (by omega)
      have HBW := Lib.hid hb
      have m0 := (HM.out.later hb).c 0
      have m1 := (HM.out.later hb).c 1
      have hge' : ¬ (k : Int) < (xs.length : Int) := by omega
      obtain ⟨zk, hzk⟩ : ∃ zk : Int, zk = (k : Int) := ⟨_, rfl⟩
      rw [← hzk] at hge' ⊢
      clear hin hb hzk hk hlt
      go_wp2_with fail
      go_loopw [25] (fun i wr => ∃ k : Nat, k ≤ ys.length ∧ i = .int .i64 k ∧ (∀ j (h : j < ys.length), j < k → Ident (ys[j]).1 ∧ 0 ≤ (ys[j]).2 ∧ (ys[j]).2 < xs.length) ∧ Below W1.heap.size W1 wr) (fun i _ => ys.length - (intOf i).toNat)
      case atStart => exact ⟨0, Nat.zero_le _, rfl, fun j _ h => by omega, HBW.out⟩
      case round =>
        clear m0 m1 HBW hge'
        obtain ⟨k, hk, rfl, hin, hb⟩ := hrel
        by_cases hlt : k < ys.length
        · obtain ⟨b, o, rfl, hbl, hc⟩ := HR.out.2.at hlt
          obtain ⟨c0, c1⟩ := asg_at hc
          have c0 := (hb.cell (p := ⟨b, o + k * 2, none⟩) hbl).trans c0
          have c1 := (hb.cell (p := ⟨b, o + k * 2 + 1, none⟩) hbl).trans c1
          obtain ⟨v, hv⟩ : ∃ v, v = ys[k] := ⟨_, rfl⟩
          have HV := Lib.hid hv
          have hxv := HY.out _ (List.getElem_mem hlt)
          rw [← hv] at c0 c1 hxv
          obtain ⟨v0, v1⟩ := v
          dsimp only at c0 c1 hxv
          have HIN2 := Lib.hid hin
          have hlt' : (k : Int) < (ys.length : Int) := by omega
          have hge2 : (0 : Int) ≤ (k : Int) := by omega
          have HBW := Lib.hid hb
          have HMW := Lib.hid ((HM.out.later hb).later (show Below wr.heap.size wr (wr.alloc (.cells #[.string v0, .int .i64 v1] 33)) by go_grown))
          clear hv hc hin hb
          go_upto_region 10 with fail
          obtain ⟨W2, hW2⟩ : ∃ W, W = wr.alloc (.cells #[.string v0, .int .i64 v1] 33) := ⟨_, rfl⟩
          have M2 := Mbox.new wr #[.string v0, .int .i64 v1] 33
          have hB2 := HBW.out.alloc HBW.out.size (.cells #[.string v0, .int .i64 v1] 33)
          rw [← hW2] at M2 hB2 HMW ⊢
          have n0 := M2.c 0
          have HM2 := Lib.hid M2
          have HB2 := Lib.hid hB2
          have hs3 : W1.heap.size ≤ W2.heap.size := hB2.size
          have hid2 := Lib.hid (sIdent_any v0 W2 hxv)
          clear hW2 M2 c0 c1 hB2
          go_wp2_with fail
          refine hid2.out.mono ?_
          rintro e w3 ⟨q, rfl, hq, hb3⟩
          have n1 := (HM2.out.later hb3).c 1
          have m0 := (HMW.out.later hb3).c 0
          have HB3 := Lib.hid (HB2.out.trans (hb3.mono hs3))
          have HQ := Lib.hid hq
          clear hq hb3 hid2 n0 HM2 HMW
          cases q with
          | false =>
            have HZ : Hid (¬ okPr xs ys) := Lib.hid fun h => by
              have h1 := h.2.2.1 k hlt
              rw [← HV.out] at h1
              have := HQ.out.2 h1
              cases this
            go_wp2_with fail
            go_ret
            exact ⟨false, rfl, iffF HZ.out, HB.out.trans (HB3.out.mono HB.out.size)⟩
          | true =>
            have HIQ := Lib.hid (HQ.out.1 rfl)
            clear HQ
            go_wp2_with fail
            refine (l01InQ _ _ _ _).mono ?_
            rintro e w4 ⟨rfl, rfl⟩
            cases hq4 : inQ 0 ((xs.length : Int) - 1) v1 with
            | false =>
              have HZ : Hid (¬ okPr xs ys) := Lib.hid fun h => by
                have h1 := okPr_root h hlt
                rw [← HV.out] at h1
                exact inQ_not hq4 ⟨h1.1, by have := h1.2; simp only at this; omega⟩
              clear hq4
              go_wp2_with fail
              go_ret
              exact ⟨false, rfl, iffF HZ.out, HB.out.trans (HB3.out.mono HB.out.size)⟩
            | true =>
              have hin4 := (inQ_iff ..).1 hq4
              have HST : Hid (∀ j (h : j < ys.length), j < k + 1 → Ident (ys[j]).1 ∧ 0 ≤ (ys[j]).2 ∧ (ys[j]).2 < xs.length) := Lib.hid fun j h hj => by
                rcases Nat.lt_or_ge j k with h1 | h1
                · exact HIN2.out j h h1
                · obtain rfl : j = k := by omega
                  rw [← HV.out]
                  exact ⟨HIQ.out, hin4.1, by show v1 < _; omega⟩
              clear hq4 hin4
              go_wp2_with fail
              go_roundw
              case rel => exact ⟨k + 1, by omega, by go_num, HST.out, HB3.out⟩
              case measure => simp [intOf]; omega
        · have HIY : Hid (∀ j (h : j < ys.length), Ident (ys[j]).1 ∧ 0 ≤ (ys[j]).2 ∧ (ys[j]).2 < xs.length) := Lib.hid fun j h => hin j h (by omega)
          have HBW := Lib.hid hb
          have m0 := (HM.out.later hb).c 0
          have m1 := (HM.out.later hb).c 1
          have hge2 : ¬ (k : Int) < (ys.length : Int) := by omega
          have hus := Lib.hid (sUses_any A A' c c' xs ys wr (HR.out.later hb) hl hl2 hz (fun i h => (HIN.out i h).2) (fun j h => (HIY.out j h).2))
          obtain ⟨zk, hzk⟩ : ∃ zk : Int, zk = (k : Int) := ⟨_, rfl⟩
          rw [← hzk] at hge2 ⊢
          clear hin hb hzk hk hlt
          go_wp2_with fail
          refine hus.out.mono ?_
          rintro e w5 ⟨U, rfl, hru, hb5⟩
          have hbw5 := HBW.out.trans (hb5.mono HBW.out.size)
          have m0 := (HM.out.later hbw5).c 0
          have HRU := Lib.hid hru
          have HB5 := Lib.hid (HB.out.trans (hbw5.mono HB.out.size))
          clear hru hb5 hbw5 hus HBW
          go_wp2_with fail
          go_loop [47] (fun i => ∃ k : Nat, k ≤ xs.length ∧ i = .int .i64 k ∧ ∀ j, j < xs.length → j < k → (refsP xs ys).count (j : Int) = 1) (fun i => xs.length - (intOf i).toNat)
          case atStart => exact ⟨0, Nat.zero_le _, rfl, fun j _ h => by omega⟩
          case round =>
            obtain ⟨k, hk, rfl, hin⟩ := hrel
            by_cases hlt : k < xs.length
            · have hlt2 : k < (cntL xs.length (argsL xs ++ rtsZ ys)).length := by rw [cntL_len]; exact hlt
              obtain ⟨b, o, rfl, hbl, c0⟩ := HRU.out.at hlt2
              rw [cntL_at, uses_perm] at c0
              obtain ⟨cn, hcn⟩ : ∃ cn : Nat, cn = (refsP xs ys).count (k : Int) := ⟨_, rfl⟩
              rw [← hcn] at c0
              have HCN := Lib.hid hcn
              have HIN3 := Lib.hid hin
              have hlt' : (k : Int) < (xs.length : Int) := by omega
              have hge3 : (0 : Int) ≤ (k : Int) := by omega
              clear hcn hin m0 hlt2
              by_cases h1 : cn = 1
              · have b0 : ((cn : Int) != 1) = false := by simp; omega
                have HST : Hid (∀ j, j < xs.length → j < k + 1 → (refsP xs ys).count (j : Int) = 1) := Lib.hid fun j h hj => by
                  rcases Nat.lt_or_ge j k with h2 | h2
                  · exact HIN3.out j h h2
                  · obtain rfl : j = k := by omega
                    rw [← HCN.out]
                    exact h1
                clear h1
                go_wp2_with fail
                go_round
                case rel => exact ⟨k + 1, by omega, by go_num, HST.out⟩
                case measure => simp [intOf]; omega
              · have b0 : ((cn : Int) != 1) = true := by simp; omega
                have HZ : Hid (¬ okPr xs ys) := Lib.hid fun h => h1 (by rw [HCN.out]; exact counts_perm h.2.2.2 hlt)
                clear h1
                go_wp2_with fail
                go_ret
                exact ⟨false, rfl, iffF HZ.out, HB5.out⟩
            · have HPM : Hid ((refsP xs ys).Perm (upZ xs.length)) := Lib.hid (perm_counts (refs_in (fun i h => (HIN.out i h).2) (fun j h => (HIY.out j h).2)) (fun j hj => hin j hj (by omega)))
              clear hin
              have hge3 : ¬ (k : Int) < (xs.length : Int) := by omega
              by_cases h60 : xs.length ≤ 60
              · have b0 : decide ((xs.length : Int) ≤ 60) = true := decide_eq_true (by omega)
                have HZ : Hid (okPr xs ys) := Lib.hid ⟨h60, HIN.out, fun j h => (HIY.out j h).1, HPM.out⟩
                go_wp2_with fail
                go_ret
                exact ⟨true, rfl, iffT HZ.out, HB5.out⟩
              · have b0 : decide ((xs.length : Int) ≤ 60) = false := decide_eq_false (by omega)
                have HZ : Hid (¬ okPr xs ys) := Lib.hid fun h => h60 h.1
                go_wp2_with fail
                go_ret
                exact ⟨false, rfl, iffF HZ.out, HB5.out⟩
end

section
open Go.RowKit

theorem boolOut_val {p : Prop} {w : World} {e : Ending} {w' : World} (h : BoolOut p w e w') : e = .returned (.bool (@decide p (Classical.propDecidable p))) ∧ Below w.heap.size w w' := by
  obtain ⟨b, rfl, hb, hbl⟩ := h
  refine ⟨?_, hbl⟩
  cases b with
  | true => rw [@decide_eq_true p (Classical.propDecidable p) (hb.1 rfl)]
  | false => rw [@decide_eq_false p (Classical.propDecidable p) (fun h => by have := hb.2 h; cases this)]
theorem args_sz (xs : List Nd) : (argsL xs).length ≤ szN xs := by
  induction xs with
  | nil => simp [argsL, szN]
  | cons x xs ih =>
    unfold argsL at ih ⊢
    simp only [List.flatMap_cons, List.length_append, szN]
    omega
theorem nd_sz {xs : List Nd} {m : Nat} (h : szN xs ≤ m) : ∀ x ∈ xs, x.2.1.size ≤ m ∧ x.2.2.2.length ≤ m := fun x hx => by
  have := szN_mem hx
  omega
theorem as_sz {ys : List As} {m : Nat} (h : szA ys ≤ m) : ∀ y ∈ ys, y.1.size ≤ m := fun y hy => by
  have := szA_mem hy
  omega
end
end Go.Proofs.Ytlcnjiephbhdaaa
