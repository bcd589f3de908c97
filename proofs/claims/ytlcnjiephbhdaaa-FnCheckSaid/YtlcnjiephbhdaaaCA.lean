/- Merged texts: Cur. -/
import Derived.Test.YtlcnjiephbhdaaaProg
import Derived.Test.YtlcnjiephbhdaaaC0
import Derived.WalkKit
import Derived.WalkSpells
import Derived.WalkLawsBesides
import Derived.Lib.Hide
import Derived.BigQuiet
import Derived.Deep.QuietTactic
import Derived.Laws.BitsLemmas
namespace Go.Proofs.Ytlcnjiephbhdaaa
section
open Go.RowKit

theorem i64_mask (n : Int) (m : Nat) (hm : m ≤ 40) : bits .and .i64 n ((2 ^ m - 1 : Nat) : Int) = n % ((2 ^ m : Nat) : Int) := by
  have hp : 2 ^ m ≤ 2 ^ 40 := Nat.pow_le_pow_right (by omega) hm
  have h0 : 0 < 2 ^ m := Nat.two_pow_pos m
  have e : (BitVec.ofInt 64 ((2 ^ m - 1 : Nat) : Int)).toNat = 2 ^ m - 1 := by
    rw [BitVec.toNat_ofInt]
    have : ((2 ^ m - 1 : Nat) : Int) % ((2 ^ 64 : Nat) : Int) = ((2 ^ m - 1 : Nat) : Int) := Int.emod_eq_of_lt (by omega) (by omega)
    rw [this]; simp
  have key : (BitVec.ofInt 64 n &&& BitVec.ofInt 64 ((2 ^ m - 1 : Nat) : Int)).toNat = (n % ((2 ^ 64 : Nat) : Int)).toNat % 2 ^ m := by
    rw [BitVec.toNat_and, e, BitVec.toNat_ofInt, Nat.and_two_pow_sub_one_eq_mod]
  show IntKind.i64.wrap ((BitVec.ofInt 64 n &&& BitVec.ofInt 64 ((2 ^ m - 1 : Nat) : Int)).toNat : Nat) = n % ((2 ^ m : Nat) : Int)
  rw [key, IntKind.wrap_i64]
  have hd : (2 ^ m) ∣ (2 ^ 64 : Nat) := Nat.pow_dvd_pow 2 (by omega)
  have h1 := Nat.mod_lt (n % ((2 ^ 64 : Nat) : Int)).toNat h0
  have h2 : (((n % ((2 ^ 64 : Nat) : Int)).toNat % 2 ^ m : Nat) : Int) = n % ((2 ^ m : Nat) : Int) := by
    rw [Int.natCast_emod, Int.toNat_of_nonneg (Int.emod_nonneg _ (by omega)), Int.emod_emod_of_dvd _ (Int.natCast_dvd_natCast.2 hd)]
  omega
theorem and255_bd (n : Int) : 0 ≤ bits .and .i64 n 255 ∧ bits .and .i64 n 255 ≤ 255 := by
  have h : bits .and .i64 n 255 = n % 256 := i64_mask n 8 (by omega)
  omega
theorem andBig_bd (n : Int) : 0 ≤ bits .and .i64 n 1073741823 ∧ bits .and .i64 n 1073741823 ≤ 1073741823 := by
  have h : bits .and .i64 n 1073741823 = n % 1073741824 := i64_mask n 30 (by omega)
  omega
abbrev U8 : Int → Value := Value.int .u8
/-- the cursor in block g: its bytes lie below block B, and g is none of those blocks -/
structure CurIs (w : World) (B g : Nat) (A : Option Addr) (c : Nat) (bs : List Int) (i h : Int) : Prop where
  ge : B ≤ g
  lt : g < w.heap.size
  row : Row U8 w B A bs
  by8 : ∀ x ∈ bs, 0 ≤ x ∧ x ≤ 255
  len : bs.length ≤ 1048576
  i0 : 0 ≤ i
  il : i ≤ bs.length
  h0 : -9223372036854775808 ≤ h
  h1 : h ≤ 9223372036854775807
  c0 : w.cell? ⟨g, 0, none⟩ = some (.slice A bs.length c)
  c1 : w.cell? ⟨g, 1, none⟩ = some (.int .i64 i)
  c2 : w.cell? ⟨g, 2, none⟩ = some (.int .i64 h)
  f0 : w.frozen? ⟨g, 0, none⟩ = false
  f1 : w.frozen? ⟨g, 1, none⟩ = false
  f2 : w.frozen? ⟨g, 2, none⟩ = false
def Cur (w : World) (B g : Nat) : Prop := ∃ A c bs i h, CurIs w B g A c bs i h
/-- what a call that draws leaves: the cursor is a cursor still; nothing else has turned -/
def Drawn (B g : Nat) (lo hi : Int) (w : World) (e : Ending) (w' : World) : Prop :=
  ∃ x : Int, lo ≤ x ∧ x ≤ hi ∧ e = .returned (.int .i64 x) ∧ Cur w' B g ∧ w.grownBy w' (some g)

theorem CurIs.drewN {w : World} {B g : Nat} {A : Option Addr} {c : Nat} {bs : List Int} {i h : Int} (H : CurIs w B g A c bs i h) (n : Nat) : CurIs (w.drewN n) B g A c bs i h :=
  ⟨H.ge, H.lt, H.row, H.by8, H.len, H.i0, H.il, H.h0, H.h1, H.c0, H.c1, H.c2, H.f0, H.f1, H.f2⟩
theorem CurIs.keep {w w' : World} {B g : Nat} {A : Option Addr} {c : Nat} {bs : List Int} {i h : Int} (H : CurIs w B g A c bs i h) {row : Option Nat} (hg : w.grownBy w' row) (h1 : ∀ r, row = some r → B ≤ r) (h2 : row ≠ some g) : CurIs w' B g A c bs i h := by
  have e : ∀ p : Addr, p.block < B ∨ p.block = g → w'.heap[p.block]? = w.heap[p.block]? := fun p hp =>
    hg.block p.block (by have := H.lt; have := H.ge; omega) (fun e => by
      rcases hp with hp | hp
      · have := h1 _ e.symm; omega
      · exact h2 (by rw [← e, hp]))
  have ec : ∀ p : Addr, p.block < B ∨ p.block = g → w'.cell? p = w.cell? p := fun p hp => World.cell?_of_block (e p hp)
  have ef : ∀ p : Addr, p.block < B ∨ p.block = g → w'.frozen? p = w.frozen? p := fun p hp => World.frozen?_of_block (e p hp)
  exact ⟨H.ge, Nat.lt_of_lt_of_le H.lt hg.size, H.row.keep fun p hp => ec p (.inl hp), H.by8, H.len, H.i0, H.il, H.h0, H.h1, (ec _ (.inr rfl)).trans H.c0, (ec _ (.inr rfl)).trans H.c1, (ec _ (.inr rfl)).trans H.c2,
    (ef _ (.inr rfl)).trans H.f0, (ef _ (.inr rfl)).trans H.f1, (ef _ (.inr rfl)).trans H.f2⟩
theorem Cur.keep {w w' : World} {B g : Nat} (H : Cur w B g) {row : Option Nat} (hg : w.grownBy w' row) (h1 : ∀ r, row = some r → B ≤ r) (h2 : row ≠ some g) : Cur w' B g := by
  obtain ⟨A, c, bs, i, h, H⟩ := H
  exact ⟨A, c, bs, i, h, H.keep hg h1 h2⟩
theorem Cur.lt {w : World} {B g : Nat} (H : Cur w B g) : g < w.heap.size := by
  obtain ⟨A, c, bs, i, h, H⟩ := H
  exact H.lt
theorem Cur.ge {w : World} {B g : Nat} (H : Cur w B g) : B ≤ g := by
  obtain ⟨A, c, bs, i, h, H⟩ := H
  exact H.ge
theorem CurIs.set2 {w : World} {B g : Nat} {A : Option Addr} {c : Nat} {bs : List Int} {i h : Int} (H : CurIs w B g A c bs i h) (h' : Int) (k0 : -9223372036854775808 ≤ h') (k1 : h' ≤ 9223372036854775807) :
    CurIs (w.setCell ⟨g, 2, none⟩ (.int .i64 h')) B g A c bs i h' :=
  ⟨H.ge, by simpa using H.lt, H.row.keep fun p hp => World.cell?_setCell_other w _ p _ (fun e => by have := H.ge; subst e; simp at hp; omega), H.by8, H.len, H.i0, H.il, k0, k1,
    (World.cell?_setCell_other w _ _ _ (by simp)).trans H.c0, (World.cell?_setCell_other w _ _ _ (by simp)).trans H.c1, World.cell?_setCell_same w _ _ H.c2, by simpa using H.f0, by simpa using H.f1, by simpa using H.f2⟩
theorem CurIs.set1 {w : World} {B g : Nat} {A : Option Addr} {c : Nat} {bs : List Int} {i h : Int} (H : CurIs w B g A c bs i h) (hi : i < bs.length) :
    CurIs (w.setCell ⟨g, 1, none⟩ (.int .i64 (i + 1))) B g A c bs (i + 1) h :=
  ⟨H.ge, by simpa using H.lt, H.row.keep fun p hp => World.cell?_setCell_other w _ p _ (fun e => by have := H.ge; subst e; simp at hp; omega), H.by8, H.len, by have := H.i0; omega, by omega, H.h0, H.h1,
    (World.cell?_setCell_other w _ _ _ (by simp)).trans H.c0, World.cell?_setCell_same w _ _ H.c1, (World.cell?_setCell_other w _ _ _ (by simp)).trans H.c2, by simpa using H.f0, by simpa using H.f1, by simpa using H.f2⟩
theorem w64_bd (x : Int) : -9223372036854775808 ≤ wrap64 x ∧ wrap64 x ≤ 9223372036854775807 := by unfold wrap64; omega

set_option maxHeartbeats 1000000 in
theorem byte_any (B g : Nat) (w : World) (hC : Cur w B g) :
    Calls Try.prog 70 #[.pointer (some ⟨g, 0, none⟩)] w (Drawn B g 0 255 w) := by
  obtain ⟨A, c, bs, i, h, H⟩ := hC
  have HH := Lib.hid H
  obtain ⟨ge, lt, row, by8, len, i0, il, h0, h1, c0, c1, c2, f0, f1, f2⟩ := H
  by_cases hi : i < bs.length
  · obtain ⟨n, rfl⟩ : ∃ n : Nat, i = n := ⟨i.toNat, by omega⟩
    obtain ⟨b, o, rfl, hb, hc⟩ := row.at (k := n) (by omega)
    have h8 := by8 bs[n] (List.getElem_mem _)
    obtain ⟨x, hx⟩ : ∃ x, x = bs[n] := ⟨_, rfl⟩
    rw [← hx] at hc h8
    clear hx by8 row
    have hi' : (n : Int) < (bs.length : Int) := hi
    have hbg : b ≠ g := by omega
    go_enter Try.func70, Try.ntmps70
    go_wp2
    go_quiet (fail)
    go_wp2
    go_quiet (fail)
    go_wp2
    · go_quiet (fail)
      go_wp2
      go_ret
      refine ⟨_, (and255_bd _).1, (and255_bd _).2, rfl, ⟨_, _, _, _, _, ((HH.out.set2 _ (w64_bd _).1 (w64_bd _).2).drewN _).set1 hi⟩, gb_set (gb_drewN (gb_set (gb_refl _ _) _) _) _⟩
  · have hi' : ¬ i < (bs.length : Int) := by omega
    go_enter Try.func70, Try.ntmps70
    go_wp2
    go_quiet (fail)
    go_wp2
    go_quiet (fail)
    go_wp2
    go_ret
    refine ⟨_, (and255_bd _).1, (and255_bd _).2, rfl, ⟨_, _, _, _, _, ((HH.out.set2 _ (w64_bd _).1 (w64_bd _).2).drewN _).drewN _⟩, gb_drewN (gb_drewN (gb_set (gb_refl _ _) _) _) _⟩

set_option maxHeartbeats 1000000 in
theorem below_any (B g : Nat) (n : Int) (w : World) (hC : Cur w B g) (hn : 1 ≤ n) (hn2 : n ≤ 9223372036854775807) :
    Calls Try.prog 55 #[.pointer (some ⟨g, 0, none⟩), .int .i64 n] w (Drawn B g 0 (n - 1) w) := by
  by_cases hs : n ≤ 256
  · go_enter Try.func55, Try.ntmps55
    go_wp2_with fail
    refine (byte_any B g _ hC).mono ?_
    rintro e w1 ⟨x, x0, x1, rfl, hC1, hg1⟩
    go_wp2_with fail
    go_ret
    have m0 := Int.emod_nonneg x (b := n) (by omega)
    have m1 := Int.emod_lt_of_pos x (b := n) (by omega)
    exact ⟨x % n, m0, by omega, rfl, hC1, hg1⟩
  · go_enter Try.func55, Try.ntmps55
    go_wp2_with fail
    refine (byte_any B g _ hC).mono ?_
    rintro e w1 ⟨x, x0, x1, rfl, hC1, hg1⟩
    go_wp2_with fail
    refine (byte_any B g _ hC1).mono ?_
    rintro e w2 ⟨y, y0, y1, rfl, hC2, hg2⟩
    go_wp2_with fail
    refine (byte_any B g _ hC2).mono ?_
    rintro e w3 ⟨z, z0, z1, rfl, hC3, hg3⟩
    go_wp2_with fail
    refine (byte_any B g _ hC3).mono ?_
    rintro e w4 ⟨u, u0, u1, rfl, hC4, hg4⟩
    go_wp2_with fail
    go_ret
    have m0 := Int.emod_nonneg (x * 16777216 + y * 65536 + z * 256 + u) (b := n) (by omega)
    have m1 := Int.emod_lt_of_pos (x * 16777216 + y * 65536 + z * 256 + u) (b := n) (by omega)
    exact ⟨(x * 16777216 + y * 65536 + z * 256 + u) % n, m0, by omega, rfl, hC4, gb_trans (gb_trans (gb_trans hg1 hg2) hg3) hg4⟩

/-- what a call that makes a cursor leaves -/
def NewCur (w : World) (e : Ending) (w' : World) : Prop :=
  ∃ g, e = .returned (.pointer (some ⟨g, 0, none⟩)) ∧ Cur w' w.heap.size g ∧ Below w.heap.size w w'
theorem newCur_of (A : Option Addr) (c : Nat) (bs : List Int) (w : World) (x : Int) (T : TypeId) (hR : Row U8 w w.heap.size A bs) (h8 : ∀ x ∈ bs, 0 ≤ x ∧ x ≤ 255) (hl : bs.length ≤ 1048576) (x0 : 0 ≤ x) (x1 : x ≤ 1073741823) :
    NewCur w (.returned (.pointer (some ⟨w.heap.size, 0, none⟩))) (w.alloc (.cells #[.slice A bs.length c, .int .i64 0, .int .i64 x] T)) := by
  have hcell : ∀ i, (w.alloc (.cells #[.slice A bs.length c, .int .i64 0, .int .i64 x] T)).cell? ⟨w.heap.size, i, none⟩ = (#[.slice A bs.length c, .int .i64 0, .int .i64 x] : Array Value)[i]? := fun i => cell_of_row _ _ i _ T (0, 0) (heap_alloc_new w _)
  have hfr : ∀ i, (w.alloc (.cells #[.slice A bs.length c, .int .i64 0, .int .i64 x] T)).frozen? ⟨w.heap.size, i, none⟩ = false := fun i => frozen_of_row _ _ i _ T (heap_alloc_new w _)
  exact ⟨w.heap.size, rfl, ⟨A, c, bs, 0, x, Nat.le_refl _, by simp, hR.alloc (Nat.le_refl _) _, h8, hl, by omega, by omega, by omega, by omega, hcell 0, hcell 1, hcell 2, hfr 0, hfr 1, hfr 2⟩, (Below.refl _ _).alloc (Nat.le_refl _) _⟩
set_option maxRecDepth 100000 in
set_option maxHeartbeats 1000000 in
theorem new_any (A : Option Addr) (c : Nat) (bs : List Int) (w : World) (hR : Row U8 w w.heap.size A bs) (h8 : ∀ x ∈ bs, 0 ≤ x ∧ x ≤ 255) (hl : bs.length ≤ 1048576) :
    Calls Try.prog 11 #[.slice A bs.length c] w (NewCur w) := by
  go_enter Try.func11, Try.ntmps11
  go_wp2
  go_loop [3, 4] (fun h i => ∃ k : Nat, ∃ x : Int, k ≤ bs.length ∧ i = .int .i64 k ∧ h = .int .i64 x ∧ 0 ≤ x ∧ x ≤ 1073741823) (fun _ i => bs.length - (intOf i).toNat)
  case atStart => exact ⟨0, _, Nat.zero_le _, rfl, rfl, by omega, by omega⟩
  case round =>
    obtain ⟨k, x, hk, rfl, rfl, x0, x1⟩ := hrel
    by_cases hlt : k < bs.length
    · obtain ⟨b, o, rfl, hbl, hc⟩ := hR.at hlt
      have hy := h8 bs[k] (List.getElem_mem _)
      obtain ⟨y, hx⟩ : ∃ x, x = bs[k] := ⟨_, rfl⟩
      rw [← hx] at hc hy
      have HR := Lib.hid hR
      have H8 := Lib.hid h8
      clear hx hR h8
      by_cases h4 : (k : Int) < 4000
      · go_wp2
        go_round
        case rel => exact ⟨k + 1, _, by omega, by go_num, rfl, (andBig_bd _).1, (andBig_bd _).2⟩
        case measure => simp [intOf]; omega
      · go_wp2
        go_ret
        exact newCur_of _ _ _ _ _ _ HR.out H8.out hl x0 x1
    · have HR := Lib.hid hR
      have H8 := Lib.hid h8
      clear hR h8
      go_wp2
      go_ret
      exact newCur_of _ _ _ _ _ _ HR.out H8.out hl x0 x1


end
end Go.Proofs.Ytlcnjiephbhdaaa
