/- The program's parser, its small parts, on. -/
import Derived.Test.YtkbdnjhgcoihhaaGreatDoorProg
import Derived.Test.YtkbdnjhgcoihhaaGreatDoorInts
import Derived.Test.YtkbdnjhgcoihhaaGreatDoorVbox
import Derived.Test.YtkbdnjhgcoihhaaGreatDoorHeld
import Derived.Test.YtkbdnjhgcoihhaaGreatDoorMem
import Derived.Test.YtkbdnjhgcoihhaaGreatDoorFlat
import Derived.Test.YtkbdnjhgcoihhaaGreatDoorRowC
import Derived.Test.YtkbdnjhgcoihhaaGreatDoorKS
import Derived.Test.YtkbdnjhgcoihhaaGreatDoorStrS
import Derived.Test.YtkbdnjhgcoihhaaGreatDoorIntS
import Derived.Test.YtkbdnjhgcoihhaaGreatDoorSS
import Derived.Test.YtkbdnjhgcoihhaaGreatDoorTok
import Derived.Test.YtkbdnjhgcoihhaaGreatDoorPg
import Derived.Test.YtkbdnjhgcoihhaaGreatDoorPh
import Derived.Test.YtkbdnjhgcoihhaaGreatDoorPk
import Derived.Test.YtkbdnjhgcoihhaaGreatDoorPl
import Derived.Test.YtkbdnjhgcoihhaaGreatDoorPp
import Derived.Test.YtkbdnjhgcoihhaaGreatDoorPq
import Derived.Test.YtkbdnjhgcoihhaaGreatDoorTp
import Derived.Test.YtkbdnjhgcoihhaaGreatDoorShelf
import Derived.Test.YtkbdnjhgcoihhaaGreatDoorRa
import Derived.WalkKit
import Derived.WalkSpells
import Derived.WalkLawsBesides
import Derived.Lib.Hide
import Derived.Deep.RegionHeld3
import Derived.Deep.QuietTactic
import Derived.BigQuiet
import Derived.Handy
import Derived.Deep.DeepCutAuto
import Derived.Lib.Bytealg
import Derived.Lib.IndexLaws
namespace Go.Proofs.YtkbdnjhgcoihhaaGreatDoor
open Go.RowKit

section
variable (a c d : Int) (b : ByteArray) (w : World)
theorem tok_fld0 : (Instr.field 38 (.agg #[.int .i64 a, .string b, .int .i64 c, .int .i64 d]) 0).run Tryz.prog w = .ok (.int .i64 a) w := by kernel_rfl
theorem tok_fld1 : (Instr.field 38 (.agg #[.int .i64 a, .string b, .int .i64 c, .int .i64 d]) 1).run Tryz.prog w = .ok (.string b) w := by kernel_rfl
theorem tok_fld2 : (Instr.field 38 (.agg #[.int .i64 a, .string b, .int .i64 c, .int .i64 d]) 2).run Tryz.prog w = .ok (.int .i64 c) w := by kernel_rfl
theorem tok_fld3 : (Instr.field 38 (.agg #[.int .i64 a, .string b, .int .i64 c, .int .i64 d]) 3).run Tryz.prog w = .ok (.int .i64 d) w := by kernel_rfl
end

set_option maxRecDepth 100000 in
set_option maxHeartbeats 2000000 in
theorem reject_any (S c a : Nat) (A : Option Addr) (ts : List Tk) (x2 x3 : Value) (w : World) (hM : Mbox w S [.slice A ts.length c, .int .i64 a, x2, x3]) (hR : RowC 4 tkg w w.heap.size A ts) (ha : a < ts.length) (hS : S < w.heap.size) :
    Calls Tryz.prog 28 #[.pointer (some ⟨S, 0, none⟩)] w fun e w' => e = .panicked (panicV (offA ts a)) ∧ Below w.heap.size w w' := by
  have hp := peek_any S c a A ts x2 x3 w hM hR ha hS
  have HE : Hid ((tkA ts a).2.2.2 = offA ts a) := Lib.hid rfl
  clear hR hM
  obtain ⟨v, hv⟩ : ∃ v, v = tkA ts a := ⟨_, rfl⟩
  rw [← hv] at hp HE
  clear hv
  obtain ⟨v0, v1, v2, v3⟩ := v
  dsimp only [tkv, tok] at hp
  have HP := Lib.hid hp
  have hfl := fun w => tok_fld3 v0 v2 v3 v1 w
  clear hp
  go_enter Tryz.func28, Tryz.ntmps28
  go_wp2_with fail
  refine HP.out.mono ?_
  rintro e w1 ⟨rfl, hb1⟩
  go_wp2_with fail
  exact ⟨rfl, by rw [← HE.out]; rfl, hb1⟩
theorem ret_bQ {a b : Bool} (h : a = b) : Ending.returned (.bool a) = .returned (.bool b) := by rw [h]

set_option maxRecDepth 100000 in
set_option maxHeartbeats 4000000 in
theorem indexLite_long (s x : ByteArray) (w : World) (h1 : 2 ≤ x.size) (h2 : s.size ≤ x.size) (hne : x ≠ s) :
    Calls Tryz.prog 82 #[.string s, .string x] w fun e w' => e = .returned (.int .i64 (-1)) ∧ w = w' := by
  have b0 : ((x.size : Int) == 0) = false := beq_eq_false_iff_ne.2 (by omega)
  have b1 : ((x.size : Int) == 1) = false := beq_eq_false_iff_ne.2 (by omega)
  have b2 : (x.toList == s.toList) = false := by rw [str_beqQ]; exact decide_eq_false hne
  have b3 : decide ((s.size : Int) ≤ (x.size : Int)) = true := decide_eq_true (by omega)
  go_enter Tryz.func82, Tryz.ntmps82
  go_wp2_with fail
  go_ret
  exact ⟨rfl, rfl⟩

theorem index_long (s x : ByteArray) (w : World) (h1 : 2 ≤ x.size) (h2 : s.size ≤ x.size) (hne : x ≠ s) :
    Calls Tryz.prog 65 #[.string s, .string x] w fun e w' => e = .returned (.int .i64 (-1)) ∧ w = w' := by
  have HC := Lib.hid (indexLite_long s x w h1 h2 hne)
  go_enter Tryz.func65, Tryz.ntmps65
  go_wp2_with fail
  refine HC.out.mono ?_
  rintro e w1 ⟨rfl, rfl⟩
  go_wp2_with fail
  go_ret
  exact ⟨rfl, rfl⟩

theorem contains_long (s x : ByteArray) (w : World) (h1 : 2 ≤ x.size) (h2 : s.size ≤ x.size) (hne : x ≠ s) :
    Calls Tryz.prog 64 #[.string s, .string x] w fun e w' => e = .returned (.bool false) ∧ w = w' := by
  have HC := Lib.hid (index_long s x w h1 h2 hne)
  go_enter Tryz.func64, Tryz.ntmps64
  go_wp2_with fail
  refine HC.out.mono ?_
  rintro e w1 ⟨rfl, rfl⟩
  go_wp2_with fail
  go_ret
  exact ⟨rfl, rfl⟩
/-- a token's text among some symbols -/
theorem containsTok_any (l : List UInt8) (hl : l.length ≤ 2) (hl0 : 0 < l.length) (hs : ∀ c ∈ l, symB c = true) (ts : List Tk) (a : Nat) (hf : TkForm (tkA ts a)) (hne : (tkA ts a).2.1 ≠ ⟨#[]⟩) (w : World) :
    Calls Tryz.prog 64 #[.string ⟨l.toArray⟩, .string (tkA ts a).2.1] w fun e w' => e = .returned (.bool (seeB l ts a)) ∧ w = w' := by
  have word : (tkA ts a).1 ≠ 3 → (∃ (b : UInt8) (m : List UInt8), (tkA ts a).2.1.data.toList = b :: m ∧ symB b = false) → Calls Tryz.prog 64 #[.string ⟨l.toArray⟩, .string (tkA ts a).2.1] w fun e w' => e = .returned (.bool (seeB l ts a)) ∧ w = w' := by
    intro hk hb
    obtain ⟨b, m, he, hsb⟩ := hb
    rw [see_not hk]
    cases m with
    | nil =>
      have ht : (tkA ts a).2.1 = ⟨#[b]⟩ := by rw [ba_mk (tkA ts a).2.1, he]
      rw [ht]
      refine (Tryz.strings_Contains_one ⟨l.toArray⟩ b w).mono ?_
      rintro e w' ⟨rfl, rfl⟩
      refine ⟨?_, rfl⟩
      rw [idx_in]
      have : l.contains b = false := by
        by_cases hc : l.contains b = true
        · have := hs b (by simpa using hc)
          rw [this] at hsb
          cases hsb
        · simpa using hc
      rw [show (⟨l.toArray⟩ : ByteArray).data.toList = l by simp, this]
    | cons d m =>
      have hsz : (tkA ts a).2.1.size = m.length + 2 := by
        have := congrArg List.length he
        rw [Array.length_toList] at this
        exact this
      refine contains_long ⟨l.toArray⟩ (tkA ts a).2.1 w (by omega) (by show l.toArray.size ≤ _; simp; omega) (fun e => ?_)
      rw [e] at he
      have he : l = b :: d :: m := by simpa using he
      have := hs b (by rw [he]; simp)
      rw [this] at hsb
      cases hsb
  rcases hf with ⟨_, h⟩ | ⟨hk, hb⟩ | ⟨hk, hb⟩ | ⟨hk, b, hb, _⟩
  · exact absurd h hne
  · exact word (by omega) hb
  · exact word (by omega) hb
  · rw [see_sym hk hb, hb]
    refine (Tryz.strings_Contains_one ⟨l.toArray⟩ b w).mono ?_
    rintro e w' ⟨rfl, rfl⟩
    refine ⟨?_, rfl⟩
    rw [idx_in]

set_option maxRecDepth 100000 in
set_option maxHeartbeats 4000000 in
theorem sees_any (l : List UInt8) (S c a : Nat) (A : Option Addr) (ts : List Tk) (x2 x3 : Value) (w : World) (hM : Mbox w S [.slice A ts.length c, .int .i64 a, x2, x3]) (hR : RowC 4 tkg w w.heap.size A ts) (ha : a < ts.length) (hS : S < w.heap.size) (hl : l.length ≤ 2) (hl0 : 0 < l.length) (hs : ∀ c ∈ l, symB c = true) (hf : TkForm (tkA ts a)) :
    Calls Tryz.prog 49 #[.pointer (some ⟨S, 0, none⟩), .string ⟨l.toArray⟩] w fun e w' => e = .returned (.bool (seeB l ts a)) ∧ Below w.heap.size w w' := by
  have hp := peek_any S c a A ts x2 x3 w hM hR ha hS
  have hc : (tkA ts a).2.1 ≠ ⟨#[]⟩ → ∀ W, Calls Tryz.prog 64 #[.string ⟨l.toArray⟩, .string (tkA ts a).2.1] W fun e w' => e = .returned (.bool (seeB l ts a)) ∧ W = w' := fun hne W => containsTok_any l hl hl0 hs ts a hf hne W
  have hz : (tkA ts a).2.1 = ⟨#[]⟩ → seeB l ts a = false := fun h => by
    refine see_not fun h3 => ?_
    rcases hf with ⟨k, _⟩ | ⟨k, _⟩ | ⟨k, _⟩ | ⟨_, b, hb, _⟩
    · omega
    · omega
    · omega
    · rw [hb] at h
      have := congrArg ByteArray.size h
      cases this
  obtain ⟨r, hr⟩ : ∃ r, r = seeB l ts a := ⟨_, rfl⟩
  rw [← hr] at hc hz ⊢
  obtain ⟨v, hv⟩ : ∃ v, v = tkA ts a := ⟨_, rfl⟩
  rw [← hv] at hp hc hz
  obtain ⟨v0, v1, v2, v3⟩ := v
  dsimp only [tkv, tok] at hp hc hz
  obtain ⟨q, hq⟩ : ∃ q : ByteArray, q = ⟨l.toArray⟩ := ⟨_, rfl⟩
  rw [← hq] at hc ⊢
  have HP := Lib.hid hp
  have HC := Lib.hid hc
  have HZ := Lib.hid hz
  have hfl := fun w => tok_fld1 v0 v2 v3 v1 w
  clear hp hc hz hr hv hq hR hM hs hf
  go_enter Tryz.func49, Tryz.ntmps49
  go_wp2_with fail
  refine HP.out.mono ?_
  rintro e w1 ⟨rfl, hb1⟩
  by_cases h0 : v1 = ⟨#[]⟩
  · have b0 : (v1.toList == []) = true := by rw [h0]; simp [ByteArray.toList_eq]
    have HR := Lib.hid (HZ.out h0)
    clear h0
    go_wp2_with fail
    go_ret
    exact ⟨ret_bQ HR.out.symm, hb1⟩
  · have b0 : (v1.toList == []) = false := by
      have h := str_beqQ v1 ⟨#[]⟩
      rw [show (⟨#[]⟩ : ByteArray).toList = [] by simp [ByteArray.toList_eq]] at h
      rw [h]
      exact decide_eq_false h0
    have HC1 := Lib.hid (HC.out h0)
    clear h0
    go_wp2_with fail
    refine (HC1.out _).mono ?_
    rintro e w2 ⟨rfl, rfl⟩
    go_wp2_with fail
    go_ret
    exact ⟨rfl, hb1⟩

set_option maxRecDepth 100000 in
set_option maxHeartbeats 4000000 in
theorem expect_yes (x : UInt8) (S c a : Nat) (A : Option Addr) (ts : List Tk) (x2 x3 : Value) (w : World) (hM : Mbox w S [.slice A ts.length c, .int .i64 a, x2, x3]) (hR : RowC 4 tkg w w.heap.size A ts) (ha : a < ts.length) (hS : S < w.heap.size) (hl : ts.length ≤ 1099511627776) (hx : symB x = true) (hf : TkForm (tkA ts a)) (h : symA ts a = ⟨#[x]⟩) :
    Calls Tryz.prog 30 #[.pointer (some ⟨S, 0, none⟩), .string ⟨#[x]⟩] w fun e w' => e = .returned (.tuple #[]) ∧ Turn (fun k => k = S) w w' ∧ Mbox w' S [.slice A ts.length c, .int .i64 ((a + 1 : Nat) : Int), x2, x3] := by
  have hse := sees_any [x] S c a A ts x2 x3 w hM hR ha hS (by simp) (by simp) (by simpa using hx) hf
  rw [see_one, decide_eq_true h] at hse
  have HSE := Lib.hid hse
  have HM := Lib.hid hM
  have HR := Lib.hid hR
  have hlb : (a : Int) < 1099511627776 := by omega
  have hge : (0 : Int) ≤ (a : Int) := by omega
  have e1 : ((a + 1 : Nat) : Int) = (a : Int) + 1 := by omega
  rw [e1]
  clear hse hM hR hf h hx e1
  go_enter Tryz.func30, Tryz.ntmps30
  go_wp2_with fail
  refine HSE.out.mono ?_
  rintro e w1 ⟨rfl, hb1⟩
  have M1 := HM.out.later hb1
  have q1 := M1.c 1
  have g1 := M1.f 1
  have M2 := M1.put 1 (.int .i64 ((a : Int) + 1))
  have hT := (Turn.of_later (S := fun k => k = S) hb1).setCell (g := S) (i := 1) rfl (.int .i64 ((a : Int) + 1))
  have HM2 := Lib.hid M2
  have HT := Lib.hid hT
  clear M1 M2 hT hb1
  go_wp2_with fail
  (first | go_end0 | refine bodyPost_ret (results_none rfl _ _ _) rfl ?_)
  exact ⟨rfl, HT.out, HM2.out⟩

set_option maxRecDepth 100000 in
set_option maxHeartbeats 4000000 in
theorem expect_no (x : UInt8) (S c a : Nat) (A : Option Addr) (ts : List Tk) (x2 x3 : Value) (w : World) (hM : Mbox w S [.slice A ts.length c, .int .i64 a, x2, x3]) (hR : RowC 4 tkg w w.heap.size A ts) (ha : a < ts.length) (hS : S < w.heap.size) (hl : ts.length ≤ 1099511627776) (hx : symB x = true) (hf : TkForm (tkA ts a)) (h : symA ts a ≠ ⟨#[x]⟩) :
    Calls Tryz.prog 30 #[.pointer (some ⟨S, 0, none⟩), .string ⟨#[x]⟩] w fun e w' => e = .panicked (panicV (offA ts a)) ∧ Below w.heap.size w w' := by
  have hse := sees_any [x] S c a A ts x2 x3 w hM hR ha hS (by simp) (by simp) (by simpa using hx) hf
  rw [see_one, decide_eq_false h] at hse
  have HSE := Lib.hid hse
  have HM := Lib.hid hM
  have HR := Lib.hid hR
  have hlb : (a : Int) < 1099511627776 := by omega
  have hge : (0 : Int) ≤ (a : Int) := by omega
  skip
  skip
  clear hse hM hR hf h hx 
  go_enter Tryz.func30, Tryz.ntmps30
  go_wp2_with fail
  refine HSE.out.mono ?_
  rintro e w1 ⟨rfl, hb1⟩
  have M1 := HM.out.later hb1
  have HRJ := Lib.hid (reject_any S c a A ts x2 x3 w1 M1 (HR.out.later hb1) ha (Nat.lt_of_lt_of_le hS hb1.size))
  have HB := Lib.hid hb1
  clear M1 hb1
  go_wp2_with fail
  refine HRJ.out.mono ?_
  rintro e w2 ⟨rfl, hb2⟩
  exact ⟨rfl, rfl, HB.out.trans (hb2.mono HB.out.size)⟩
end Go.Proofs.YtkbdnjhgcoihhaaGreatDoor
