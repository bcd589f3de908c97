/- Drawn strings, and the sources of drawn programs: short texts; nothing is written but the cursor. -/
import Derived.Test.YtlcnjiephbhdaaaProg
import Derived.Test.YtlcnjiephbhdaaaC0
import Derived.Test.YtlcnjiephbhdaaaCA
import Derived.WalkKit
import Derived.WalkSpells
import Derived.WalkLawsBesides
import Derived.Lib.Hide
import Derived.Deep.RegionHeld3
import Derived.Deep.QuietTactic
import Derived.BigQuiet
import Derived.Handy
import Derived.Deep.DeepCutAuto
import Derived.Laws.Concat
namespace Go.Proofs.Ytlcnjiephbhdaaa
open Go.RowKit

/-- a string that a call draws, of n letters at most -/
def StrD (B g n : Nat) (w : World) (e : Ending) (w' : World) : Prop := ∃ s : ByteArray, e = .returned (.string s) ∧ s.size ≤ n ∧ Cur w' B g ∧ w.grownBy w' (some g)
theorem Mbox.grownS {w w' : World} {k g : Nat} {vs : List Value} (h : Mbox w k vs) (hg : w.grownBy w' (some g)) (hk : k ≠ g) : Mbox w' k vs := h.keep fun hl => hg.block k hl (fun e => by injection e with e; exact hk e)
theorem gb_allocS (w : World) (o : Obj) (row : Option Nat) : w.grownBy (w.alloc o) row := gb_of_below ((Below.refl _ _).alloc (Nat.le_refl _) o)
theorem Cur.allocS {W : World} {B g : Nat} (h : Cur W B g) (o : Obj) : Cur (W.alloc o) B g := h.keep (gb_of_below ((Below.refl _ _).alloc (Nat.le_refl _) _) (row := none)) (fun r h => by cases h) (by simp)
/-- the greatest length of an expression of depth d -/
def exB : Nat → Nat
  | 0 => 4
  | d + 1 => 2 * exB d + 12
theorem exB_le {d : Nat} (h : d ≤ 2) : exB d ≤ 52 ∧ 4 ≤ exB d := by
  have : d = 0 ∨ d = 1 ∨ d = 2 := by omega
  rcases this with rfl | rfl | rfl <;> simp [exB]
def leafS : List ByteArray := [⟨#[117]⟩, ⟨#[118]⟩, ⟨#[120]⟩, ⟨#[121]⟩, ⟨#[122]⟩, ⟨#[116]⟩, ⟨#[49]⟩, ⟨#[48, 46, 53]⟩, ⟨#[50]⟩, ⟨#[48, 46, 50, 53]⟩]
theorem leafS_le : ∀ s ∈ leafS, s.size ≤ 4 := by
  intro s h
  simp only [leafS, List.mem_cons, List.not_mem_nil, or_false] at h
  rcases h with rfl | rfl | rfl | rfl | rfl | rfl | rfl | rfl | rfl | rfl <;> decide

theorem onceS_any (B g : Nat) (n : Int) (w : World) (hC : Cur w B g) (hn : 1 ≤ n) (hn2 : n ≤ 256) :
    Calls Try.prog 41 #[.pointer (some ⟨g, 0, none⟩), .int .i64 n] w fun e w' => ∃ b : Bool, e = .returned (.bool b) ∧ Cur w' B g ∧ w.grownBy w' (some g) := by
  go_enter Try.func41, Try.ntmps41
  go_wp2_with fail
  refine (below_any B g n _ hC hn (by omega)).mono ?_
  rintro e w1 ⟨x, xl, xh, rfl, hC1, hg1⟩
  go_wp2_with fail
  go_ret
  exact ⟨_, rfl, hC1, hg1⟩

set_option maxHeartbeats 2000000 in
theorem strS_any (B g k n N : Nat) (ss : List ByteArray) (w : World) (hC : Cur w B g) (hk : k ≠ g) (hv : Mbox w k (ss.map Value.string)) (hn : ss.length = n) (h1 : 1 ≤ n) (h2 : n ≤ 256) (hN : ∀ s ∈ ss, s.size ≤ N) :
    Calls Try.prog 56 #[.pointer (some ⟨g, 0, none⟩), .slice (some ⟨k, 0, none⟩) n n] w (StrD B g N w) := by
  go_enter Try.func56, Try.ntmps56
  go_wp2_with fail
  refine (below_any B g n _ hC (by omega) (by omega)).mono ?_
  rintro e w1 ⟨x, x0, x1, rfl, hC1, hg1⟩
  obtain ⟨i, rfl⟩ : ∃ i : Nat, x = i := ⟨x.toNat, by omega⟩
  have hi : i < ss.length := by omega
  have hin : i < n := by omega
  have hv := hv.grownS hg1 hk
  have hz := hN _ (List.getElem_mem hi)
  have c0 := hv.c i (v := .string ss[i]) (by rw [List.getElem?_map, List.getElem?_eq_getElem hi]; rfl)
  obtain ⟨s, hs⟩ : ∃ s, s = ss[i] := ⟨_, rfl⟩
  rw [← hs] at c0 hz
  have HC := Lib.hid (And.intro hz (And.intro hC1 hg1))
  clear hC hC1 hg1 hv hs hz hN
  go_wp2_with fail
  go_ret
  exact ⟨_, rfl, HC.out.1, HC.out.2.1, HC.out.2.2⟩

theorem leafS_any (B g : Nat) (w : World) (hC : Cur w B g) :
    Calls Try.prog 56 #[.pointer (some ⟨g, 0, none⟩), .slice (some ⟨w.heap.size, 0, none⟩) 10 10] (w.alloc (.cells #[.string ⟨#[117]⟩, .string ⟨#[118]⟩, .string ⟨#[120]⟩, .string ⟨#[121]⟩, .string ⟨#[122]⟩, .string ⟨#[116]⟩, .string ⟨#[49]⟩, .string ⟨#[48, 46, 53]⟩, .string ⟨#[50]⟩, .string ⟨#[48, 46, 50, 53]⟩] 9)) (StrD B g 4 (w.alloc (.cells #[.string ⟨#[117]⟩, .string ⟨#[118]⟩, .string ⟨#[120]⟩, .string ⟨#[121]⟩, .string ⟨#[122]⟩, .string ⟨#[116]⟩, .string ⟨#[49]⟩, .string ⟨#[48, 46, 53]⟩, .string ⟨#[50]⟩, .string ⟨#[48, 46, 50, 53]⟩] 9))) :=
  strS_any B g w.heap.size 10 4 leafS _ (hC.allocS _) (by have := hC.lt; omega) (Mbox.new w _ _) rfl (by omega) (by omega) leafS_le

set_option maxRecDepth 100000 in
set_option maxHeartbeats 8000000 in
theorem exprS_any (B g : Nat) : ∀ (d : Nat) (z : Int) (w : World), z = d → d ≤ 3 → Cur w B g →
    Calls Try.prog 42 #[.pointer (some ⟨g, 0, none⟩), .int .i64 z] w (StrD B g (exB d) w) := by
  intro d
  induction d with
  | zero =>
    intro z w hz hd hC
    have hz0 : z ≤ 0 := by omega
    have HC := Lib.hid hC
    clear hz hd hC
    go_enter Try.func42, Try.ntmps42
    go_wp2_with fail
    refine (leafS_any B g w HC.out).mono ?_
    rintro e w1 ⟨s, rfl, hs, hC1, hg1⟩
    go_wp2_with fail
    go_ret
    exact ⟨s, rfl, hs, hC1, gb_trans (gb_allocS _ _ _) hg1⟩
  | succ d ih =>
    intro z w hz hd hC
    have HC := Lib.hid hC
    have HIH := Lib.hid (fun W (h : Cur W B g) => ih (z - 1) W (by omega) (by omega) h)
    have HE := Lib.hid (exB_le (d := d) (by omega))
    have hz0 : ¬ z ≤ 0 := by omega
    have hz1 : 1 ≤ z := by omega
    have hz2 : z ≤ 3 := by omega
    clear hC ih hz hd
    go_enter Try.func42, Try.ntmps42
    go_wp2_with fail
    refine (onceS_any B g 4 _ HC.out (by omega) (by omega)).mono ?_
    rintro e w1 ⟨b, rfl, hC1, hg1⟩
    have H1 := Lib.hid (And.intro hC1 hg1)
    clear hC1 hg1
    cases b with
    | true =>
      go_wp2_with fail
      refine (leafS_any B g w1 H1.out.1).mono ?_
      rintro e w2 ⟨s, rfl, hs, hC2, hg2⟩
      go_wp2_with fail
      go_ret
      exact ⟨s, rfl, by have := HE.out.2; unfold exB; omega, hC2, gb_trans H1.out.2 (gb_trans (gb_allocS _ _ _) hg2)⟩
    | false =>
      go_wp2_with fail
      refine (HIH.out w1 H1.out.1).mono ?_
      rintro e w2 ⟨a, rfl, ha, hC2, hg2⟩
      have H2 := Lib.hid (And.intro hC2 (gb_trans H1.out.2 hg2))
      clear hC2 hg2 H1
      go_wp2_with fail
      refine (HIH.out w2 H2.out.1).mono ?_
      rintro e w3 ⟨b, rfl, hb, hC3, hg3⟩
      have H3 := Lib.hid (And.intro hC3 (gb_trans H2.out.2 hg3))
      clear hC3 hg3 H2
      go_wp2_with fail
      refine (below_any B g 14 _ H3.out.1 (by omega) (by omega)).mono ?_
      rintro e w4 ⟨x, x0, x1, rfl, hC4, hg4⟩
      have H4 := Lib.hid (And.intro hC4 (gb_trans H3.out.2 hg4))
      have HA := Lib.hid (And.intro ha hb)
      have ha2 : a.size ≤ 52 := Nat.le_trans ha HE.out.1
      have hb2 : b.size ≤ 52 := Nat.le_trans hb HE.out.1
      have e1 : ¬ (9223372036854775807 < a.size + 3) := by omega
      have e2 : ¬ (9223372036854775807 < a.size + 3 + b.size) := by omega
      clear hC4 hg4 H3 ha hb
      have hx : x = 0 ∨ x = 1 ∨ x = 2 ∨ x = 3 ∨ x = 4 ∨ x = 5 ∨ x = 6 ∨ x = 7 ∨ x = 8 ∨ x = 9 ∨ x = 10 ∨ x = 11 ∨ x = 12 ∨ x = 13 := by omega
      clear x0 x1
      rcases hx with rfl | rfl | rfl | rfl | rfl | rfl | rfl | rfl | rfl | rfl | rfl | rfl | rfl | rfl
      all_goals (
        go_wp2_with fail
        go_ret
        exact ⟨_, rfl, by have h1 := HA.out.1; have h2 := HA.out.2; have h3 := HE.out.2; unfold exB; simp only [ByteArray.size_append', ByteArray.size_mk', List.size_toArray, List.length_cons, List.length_nil]; omega, H4.out.1, H4.out.2⟩)

set_option maxRecDepth 100000 in
set_option maxHeartbeats 8000000 in
theorem srcS_any (B g : Nat) (w : World) (hC : Cur w B g) :
    Calls Try.prog 23 #[.pointer (some ⟨g, 0, none⟩)] w (StrD B g 300 w) := by
  go_enter Try.func23, Try.ntmps23
  go_wp2_with fail
  refine (onceS_any B g 2 _ hC (by omega) (by omega)).mono ?_
  rintro e w1 ⟨b, rfl, hC1, hg1⟩
  have H1 := Lib.hid (And.intro hC1 hg1)
  clear hC1 hg1 hC
  cases b with
  | true =>
    go_wp2_with fail
    refine (exprS_any B g 2 2 w1 rfl (by omega) H1.out.1).mono ?_
    rintro e w2 ⟨t, rfl, ht, hC2, hg2⟩
    have H2 := Lib.hid (And.intro hC2 (gb_trans H1.out.2 hg2))
    have ht : t.size ≤ 52 := ht
    clear hC2 hg2 H1
    go_wp2_with fail
    refine (exprS_any B g 3 3 w2 rfl (by omega) H2.out.1).mono ?_
    rintro e w3 ⟨u, rfl, hu, hC3, hg3⟩
    have H3 := Lib.hid (And.intro hC3 (gb_trans H2.out.2 hg3))
    have hu : u.size ≤ 116 := hu
    clear hC3 hg3 H2
    go_upto_region 5 with fail
    obtain ⟨s1, hs1⟩ : ∃ s, s = (⟨#[107, 32, 61, 32]⟩ : ByteArray) ++ t ++ ⟨#[59, 10]⟩ ++ ⟨#[99, 111, 108, 111, 114, 32, 61, 32]⟩ ++ u := ⟨_, rfl⟩
    have hz0 : 0 < s1.size := by rw [hs1]; simp only [ByteArray.size_append', ByteArray.size_mk', List.size_toArray, List.length_cons, List.length_nil]; omega
    have hz : s1.size ≤ 182 := by rw [hs1]; simp only [ByteArray.size_append', ByteArray.size_mk', List.size_toArray, List.length_cons, List.length_nil]; omega
    rw [← hs1]
    clear hs1
    have HZ := Lib.hid hz
    by_cases hb : (s1[0]'hz0).toNat = 107
    · go_wp2_with fail
      refine (onceS_any B g 3 _ H3.out.1 (by omega) (by omega)).mono ?_
      rintro e w5 ⟨q, rfl, hC5, hg5⟩
      have H5 := Lib.hid (And.intro hC5 (gb_trans H3.out.2 hg5))
      clear hC5 hg5 H3
      cases q with
      | false =>
        go_wp2_with fail
        go_ret
        exact ⟨_, rfl, by have := HZ.out; simp only [ByteArray.size_append', ByteArray.size_mk', List.size_toArray, List.length_cons, List.length_nil]; omega, H5.out.1, H5.out.2⟩
      | true =>
        go_wp2_with fail
        refine (exprS_any B g 1 1 w5 rfl (by omega) H5.out.1).mono ?_
        rintro e w6 ⟨v, rfl, hv, hC6, hg6⟩
        have hv : v.size ≤ 20 := hv
        go_wp2_with fail
        go_ret
        exact ⟨_, rfl, by have := HZ.out; simp only [ByteArray.size_append', ByteArray.size_mk', List.size_toArray, List.length_cons, List.length_nil]; omega, hC6, gb_trans H5.out.2 hg6⟩
    · go_wp2_with fail
      refine (onceS_any B g 3 _ H3.out.1 (by omega) (by omega)).mono ?_
      rintro e w5 ⟨q, rfl, hC5, hg5⟩
      have H5 := Lib.hid (And.intro hC5 (gb_trans H3.out.2 hg5))
      clear hC5 hg5 H3
      cases q with
      | false =>
        go_wp2_with fail
        go_ret
        exact ⟨_, rfl, by have := HZ.out; simp only [ByteArray.size_append', ByteArray.size_mk', List.size_toArray, List.length_cons, List.length_nil]; omega, H5.out.1, H5.out.2⟩
      | true =>
        go_wp2_with fail
        refine (exprS_any B g 1 1 w5 rfl (by omega) H5.out.1).mono ?_
        rintro e w6 ⟨v, rfl, hv, hC6, hg6⟩
        have hv : v.size ≤ 20 := hv
        go_wp2_with fail
        go_ret
        exact ⟨_, rfl, by have := HZ.out; simp only [ByteArray.size_append', ByteArray.size_mk', List.size_toArray, List.length_cons, List.length_nil]; omega, hC6, gb_trans H5.out.2 hg6⟩
  | false =>
    go_wp2_with fail
    refine (exprS_any B g 3 3 w1 rfl (by omega) H1.out.1).mono ?_
    rintro e w3 ⟨u, rfl, hu, hC3, hg3⟩
    have H3 := Lib.hid (And.intro hC3 (gb_trans H1.out.2 hg3))
    have hu : u.size ≤ 116 := hu
    clear hC3 hg3 H1
    go_upto_region 5 with fail
    obtain ⟨s1, hs1⟩ : ∃ s, s = (⟨#[]⟩ : ByteArray) ++ ⟨#[99, 111, 108, 111, 114, 32, 61, 32]⟩ ++ u := ⟨_, rfl⟩
    have hz0 : 0 < s1.size := by rw [hs1]; simp only [ByteArray.size_append', ByteArray.size_mk', List.size_toArray, List.length_cons, List.length_nil]; omega
    have hz : s1.size ≤ 182 := by rw [hs1]; simp only [ByteArray.size_append', ByteArray.size_mk', List.size_toArray, List.length_cons, List.length_nil]; omega
    rw [← hs1]
    clear hs1
    have HZ := Lib.hid hz
    by_cases hb : (s1[0]'hz0).toNat = 107
    · go_wp2_with fail
      refine (onceS_any B g 3 _ H3.out.1 (by omega) (by omega)).mono ?_
      rintro e w5 ⟨q, rfl, hC5, hg5⟩
      have H5 := Lib.hid (And.intro hC5 (gb_trans H3.out.2 hg5))
      clear hC5 hg5 H3
      cases q with
      | false =>
        go_wp2_with fail
        go_ret
        exact ⟨_, rfl, by have := HZ.out; simp only [ByteArray.size_append', ByteArray.size_mk', List.size_toArray, List.length_cons, List.length_nil]; omega, H5.out.1, H5.out.2⟩
      | true =>
        go_wp2_with fail
        refine (exprS_any B g 1 1 w5 rfl (by omega) H5.out.1).mono ?_
        rintro e w6 ⟨v, rfl, hv, hC6, hg6⟩
        have hv : v.size ≤ 20 := hv
        go_wp2_with fail
        go_ret
        exact ⟨_, rfl, by have := HZ.out; simp only [ByteArray.size_append', ByteArray.size_mk', List.size_toArray, List.length_cons, List.length_nil]; omega, hC6, gb_trans H5.out.2 hg6⟩
    · go_wp2_with fail
      refine (onceS_any B g 3 _ H3.out.1 (by omega) (by omega)).mono ?_
      rintro e w5 ⟨q, rfl, hC5, hg5⟩
      have H5 := Lib.hid (And.intro hC5 (gb_trans H3.out.2 hg5))
      clear hC5 hg5 H3
      cases q with
      | false =>
        go_wp2_with fail
        go_ret
        exact ⟨_, rfl, by have := HZ.out; simp only [ByteArray.size_append', ByteArray.size_mk', List.size_toArray, List.length_cons, List.length_nil]; omega, H5.out.1, H5.out.2⟩
      | true =>
        go_wp2_with fail
        refine (exprS_any B g 1 1 w5 rfl (by omega) H5.out.1).mono ?_
        rintro e w6 ⟨v, rfl, hv, hC6, hg6⟩
        have hv : v.size ≤ 20 := hv
        go_wp2_with fail
        go_ret
        exact ⟨_, rfl, by have := HZ.out; simp only [ByteArray.size_append', ByteArray.size_mk', List.size_toArray, List.length_cons, List.length_nil]; omega, hC6, gb_trans H5.out.2 hg6⟩
end Go.Proofs.Ytlcnjiephbhdaaa
