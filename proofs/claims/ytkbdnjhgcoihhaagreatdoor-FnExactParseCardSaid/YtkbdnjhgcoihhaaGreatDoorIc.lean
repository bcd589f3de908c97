/- The program's lexer: readToken, readTokens, Tokenize. -/
import Derived.Test.YtkbdnjhgcoihhaaGreatDoorProg
import Derived.Test.YtkbdnjhgcoihhaaGreatDoorInts
import Derived.Test.YtkbdnjhgcoihhaaGreatDoorVbox
import Derived.Test.YtkbdnjhgcoihhaaGreatDoorHeld
import Derived.Test.YtkbdnjhgcoihhaaGreatDoorMem
import Derived.Test.YtkbdnjhgcoihhaaGreatDoorFlat
import Derived.Test.YtkbdnjhgcoihhaaGreatDoorRowC
import Derived.Test.YtkbdnjhgcoihhaaGreatDoorKS
import Derived.Test.YtkbdnjhgcoihhaaGreatDoorStrS
import Derived.Test.YtkbdnjhgcoihhaaGreatDoorShelf
import Derived.Test.YtkbdnjhgcoihhaaGreatDoorTok
import Derived.Test.YtkbdnjhgcoihhaaGreatDoorFn
import Derived.Test.YtkbdnjhgcoihhaaGreatDoorTp
import Derived.Test.YtkbdnjhgcoihhaaGreatDoorTk
import Derived.Test.YtkbdnjhgcoihhaaGreatDoorTl
import Derived.Test.YtkbdnjhgcoihhaaGreatDoorTm
import Derived.Test.YtkbdnjhgcoihhaaGreatDoorIdent
import Derived.Test.YtkbdnjhgcoihhaaGreatDoorIa
import Derived.Test.YtkbdnjhgcoihhaaGreatDoorIb
import Derived.Test.YtkbdnjhgcoihhaaGreatDoorDoorT
import Derived.Test.YtkbdnjhgcoihhaaGreatDoorAs
import Derived.WalkKit
import Derived.WalkSpells
import Derived.WalkLawsBesides
import Derived.Lib.Hide
import Derived.Deep.RegionHeld3
import Derived.Deep.QuietTactic
import Derived.BigQuiet
import Derived.Handy
import Derived.Deep.DeepCutAuto
import Derived.Lib.IndexAny
namespace Go.Proofs.YtkbdnjhgcoihhaaGreatDoor
open Go.RowKit

set_option maxRecDepth 100000 in
set_option maxHeartbeats 4000000 in
theorem readTokD_any (s : ByteArray) (k : Nat) (w : World) (hk : k < s.size) (hs : s.size ≤ 2000) (hd : digB s[k] = true) :
    Calls Tryz.prog 44 #[.string s, .int .i64 k] w (ReadOut (scanT s k s[k]) k w) := by
  have hw32 : wrap32 ((s[k]).toNat : Int) = ((s[k]).toNat : Int) := by
    have := (s[k]).toNat_lt
    unfold wrap32
    omega
  have hdc := fun W => isDigit_any ((s[k]).toNat : Int) W
  rw [digI_b, hd] at hdc
  have HD := Lib.hid hdc
  have HN := Lib.hid (fun W => readNum_any s k W hk hs hd)
  have HT : Held w (w.alloc (.cells #[.int .i64 0, .string ⟨#[]⟩, .int .i64 0, .int .i64 0] 38)) [(w.heap.size, [.int .i64 0, .string ⟨#[]⟩, .int .i64 0, .int .i64 0])] := by
    have h := (Held.nil w).new #[.int .i64 0, .string ⟨#[]⟩, .int .i64 0, .int .i64 0] 38
    simpa only [World.size_alloc] using h
  clear hdc hd
  go_enter Tryz.func44, Tryz.ntmps44
  go_wp2_with fail
  refine (HD.out _).mono ?_
  rintro e w1 ⟨rfl, rfl⟩
  go_wp2_with fail
  refine (HN.out _).mono ?_
  rintro e w2 ⟨hb2, he⟩
  have HT := HT.later hb2
  clear hb2
  cases hsc : scanT s k s[k] with
  | none =>
    rw [hsc] at he
    obtain rfl := he
    have HS := Lib.hid hsc
    clear hsc
    have r0 := (HT.box 0).c 0
    have r1 := (HT.box 0).c 1
    have r2 := (HT.box 0).c 2
    have r3 := (HT.box 0).c 3
    have g0 := (HT.box 0).f 0
    have g1 := (HT.box 0).f 1
    have g2 := (HT.box 0).f 2
    have g3 := (HT.box 0).f 3
    go_wp2_with fail
    exact bodyPost_ret (v := .tuple #[tok 0 ⟨#[]⟩ 0 0, .iface 62 (.agg #[.int .i64 k])]) (by simp [results, Tryz.results44, go_sem, r0, r1, r2, r3]) rfl ⟨(((((HT.below).setCell (p := ⟨w.heap.size, 0, none⟩) (Nat.le_refl _) _).setCell (p := ⟨w.heap.size, 1, none⟩) (Nat.le_refl _) _).setCell (p := ⟨w.heap.size, 2, none⟩) (Nat.le_refl _) _).setCell (p := ⟨w.heap.size, 3, none⟩) (Nat.le_refl _) _), by rw [HS.out]⟩
  | some t =>
    rw [hsc] at he
    obtain rfl := he
    have HS := Lib.hid hsc
    clear hsc
    have r0 := (HT.box 0).c 0
    have r1 := (HT.box 0).c 1
    have r2 := (HT.box 0).c 2
    have r3 := (HT.box 0).c 3
    have g0 := (HT.box 0).f 0
    have g1 := (HT.box 0).f 1
    have g2 := (HT.box 0).f 2
    have g3 := (HT.box 0).f 3
    go_wp2_with fail
    exact bodyPost_ret (v := .tuple #[tkv t, .nilIface]) (by simp [results, Tryz.results44, go_sem, r0, r1, r2, r3]) rfl ⟨(((((HT.below).setCell (p := ⟨w.heap.size, 0, none⟩) (Nat.le_refl _) _).setCell (p := ⟨w.heap.size, 1, none⟩) (Nat.le_refl _) _).setCell (p := ⟨w.heap.size, 2, none⟩) (Nat.le_refl _) _).setCell (p := ⟨w.heap.size, 3, none⟩) (Nat.le_refl _) _), by rw [HS.out]⟩

set_option maxRecDepth 100000 in
set_option maxHeartbeats 4000000 in
theorem readTokL_any (s : ByteArray) (k : Nat) (w : World) (hk : k < s.size) (hs : s.size ≤ 2000) (hd : digB s[k] = false) (hl : letB s[k] = true) :
    Calls Tryz.prog 44 #[.string s, .int .i64 k] w (ReadOut (scanT s k s[k]) k w) := by
  have hw32 : wrap32 ((s[k]).toNat : Int) = ((s[k]).toNat : Int) := by
    have := (s[k]).toNat_lt
    unfold wrap32
    omega
  have hdc := fun W => isDigit_any ((s[k]).toNat : Int) W
  rw [digI_b, hd] at hdc
  have HD := Lib.hid hdc
  have hlc := fun W => isLetter_any ((s[k]).toNat : Int) W
  rw [letI_b, hl] at hlc
  have HL := Lib.hid hlc
  have HN := Lib.hid (fun W => readName_any s k W hk hs hd hl)
  have HT : Held w (w.alloc (.cells #[.int .i64 0, .string ⟨#[]⟩, .int .i64 0, .int .i64 0] 38)) [(w.heap.size, [.int .i64 0, .string ⟨#[]⟩, .int .i64 0, .int .i64 0])] := by
    have h := (Held.nil w).new #[.int .i64 0, .string ⟨#[]⟩, .int .i64 0, .int .i64 0] 38
    simpa only [World.size_alloc] using h
  clear hdc hd hlc hl
  go_enter Tryz.func44, Tryz.ntmps44
  go_wp2_with fail
  refine (HD.out _).mono ?_
  rintro e w1 ⟨rfl, rfl⟩
  go_wp2_with fail
  refine (HL.out _).mono ?_
  rintro e w1 ⟨rfl, rfl⟩
  go_wp2_with fail
  refine (HN.out _).mono ?_
  rintro e w2 ⟨hb2, he⟩
  have HT := HT.later hb2
  clear hb2
  cases hsc : scanT s k s[k] with
  | none =>
    rw [hsc] at he
    obtain rfl := he
    have HS := Lib.hid hsc
    clear hsc
    have r0 := (HT.box 0).c 0
    have r1 := (HT.box 0).c 1
    have r2 := (HT.box 0).c 2
    have r3 := (HT.box 0).c 3
    have g0 := (HT.box 0).f 0
    have g1 := (HT.box 0).f 1
    have g2 := (HT.box 0).f 2
    have g3 := (HT.box 0).f 3
    go_wp2_with fail
    exact bodyPost_ret (v := .tuple #[tok 0 ⟨#[]⟩ 0 0, .iface 62 (.agg #[.int .i64 k])]) (by simp [results, Tryz.results44, go_sem, r0, r1, r2, r3]) rfl ⟨(((((HT.below).setCell (p := ⟨w.heap.size, 0, none⟩) (Nat.le_refl _) _).setCell (p := ⟨w.heap.size, 1, none⟩) (Nat.le_refl _) _).setCell (p := ⟨w.heap.size, 2, none⟩) (Nat.le_refl _) _).setCell (p := ⟨w.heap.size, 3, none⟩) (Nat.le_refl _) _), by rw [HS.out]⟩
  | some t =>
    rw [hsc] at he
    obtain rfl := he
    have HS := Lib.hid hsc
    clear hsc
    have r0 := (HT.box 0).c 0
    have r1 := (HT.box 0).c 1
    have r2 := (HT.box 0).c 2
    have r3 := (HT.box 0).c 3
    have g0 := (HT.box 0).f 0
    have g1 := (HT.box 0).f 1
    have g2 := (HT.box 0).f 2
    have g3 := (HT.box 0).f 3
    go_wp2_with fail
    exact bodyPost_ret (v := .tuple #[tkv t, .nilIface]) (by simp [results, Tryz.results44, go_sem, r0, r1, r2, r3]) rfl ⟨(((((HT.below).setCell (p := ⟨w.heap.size, 0, none⟩) (Nat.le_refl _) _).setCell (p := ⟨w.heap.size, 1, none⟩) (Nat.le_refl _) _).setCell (p := ⟨w.heap.size, 2, none⟩) (Nat.le_refl _) _).setCell (p := ⟨w.heap.size, 3, none⟩) (Nat.le_refl _) _), by rw [HS.out]⟩

set_option maxRecDepth 100000 in
set_option maxHeartbeats 4000000 in
theorem readTokS_any (s : ByteArray) (k : Nat) (w : World) (hk : k < s.size) (hs : s.size ≤ 2000) (hd : digB s[k] = false) (hl : letB s[k] = false) :
    Calls Tryz.prog 44 #[.string s, .int .i64 k] w (ReadOut (scanT s k s[k]) k w) := by
  have hS : scanT s k s[k] = if symB s[k] = true then some (3, s.extract k (k + 1), 0, (k : Int)) else none := by unfold scanT; rw [if_neg (by rw [hd]; simp), if_neg (by rw [hl]; simp)]
  have hw32 : wrap32 ((s[k]).toNat : Int) = ((s[k]).toNat : Int) := by
    have := (s[k]).toNat_lt
    unfold wrap32
    omega
  have hdc := fun W => isDigit_any ((s[k]).toNat : Int) W
  rw [digI_b, hd] at hdc
  have HD := Lib.hid hdc
  have hlc := fun W => isLetter_any ((s[k]).toNat : Int) W
  rw [letI_b, hl] at hlc
  have HL := Lib.hid hlc
  have hix := fun W => Tryz.strings_IndexByte ⟨#[43, 45, 42, 47, 40, 41, 44, 61, 59]⟩ ((s[k]).toNat : Int) W
  have hsy : symB s[k] = decide (0 ≤ Lib.indexByte (⟨#[43, 45, 42, 47, 40, 41, 44, 61, 59]⟩ : ByteArray).data.toList s[k]) := Lib.contains_iff_indexByte _ _
  rw [show Lib.indexByte (⟨#[43, 45, 42, 47, 40, 41, 44, 61, 59]⟩ : ByteArray).data.toList (((s[k]).toNat : Nat) : Int).toNat.toUInt8 = Lib.indexByte (⟨#[43, 45, 42, 47, 40, 41, 44, 61, 59]⟩ : ByteArray).data.toList s[k] by simp] at hix
  obtain ⟨q, hq⟩ : ∃ q, q = Lib.indexByte (⟨#[43, 45, 42, 47, 40, 41, 44, 61, 59]⟩ : ByteArray).data.toList s[k] := ⟨_, rfl⟩
  rw [← hq] at hix hsy
  have hnp := fun W => newPartT_any s k (k + 1) W (by omega) (by omega) (by omega)
  rw [show ((k + 1 : Nat) : Int) = (k : Int) + 1 by omega] at hnp
  obtain ⟨p, hp⟩ : ∃ p, p = s.extract k (k + 1) := ⟨_, rfl⟩
  rw [← hp] at hnp hS
  have HNP := Lib.hid hnp
  have HIX := Lib.hid hix
  have HT : Held w (w.alloc (.cells #[.int .i64 0, .string ⟨#[]⟩, .int .i64 0, .int .i64 0] 38)) [(w.heap.size, [.int .i64 0, .string ⟨#[]⟩, .int .i64 0, .int .i64 0])] := by
    have h := (Held.nil w).new #[.int .i64 0, .string ⟨#[]⟩, .int .i64 0, .int .i64 0] 38
    simpa only [World.size_alloc] using h
  by_cases h0 : 0 ≤ q
  · rw [hsy, if_pos (by simpa using h0)] at hS
    have HS := Lib.hid hS
    clear hdc hd hlc hl hix hsy hq hnp hp hS
    go_enter Tryz.func44, Tryz.ntmps44
    go_wp2_with fail
    refine (HD.out _).mono ?_
    rintro e w1 ⟨rfl, rfl⟩
    go_wp2_with fail
    refine (HL.out _).mono ?_
    rintro e w1 ⟨rfl, rfl⟩
    go_wp2_with fail
    refine (HIX.out _).mono ?_
    rintro e w1 ⟨rfl, rfl⟩
    go_wp2_with fail
    refine (HNP.out _).mono ?_
    rintro e w2 ⟨rfl, hb2⟩
    have HT := HT.later hb2
    clear hb2
    have r0 := (HT.box 0).c 0
    have r1 := (HT.box 0).c 1
    have r2 := (HT.box 0).c 2
    have r3 := (HT.box 0).c 3
    have g0 := (HT.box 0).f 0
    have g1 := (HT.box 0).f 1
    have g2 := (HT.box 0).f 2
    have g3 := (HT.box 0).f 3
    go_wp2_with fail
    exact bodyPost_ret (v := .tuple #[tok 3 p 0 (k : Int), .nilIface]) (by simp [results, Tryz.results44, go_sem, r0, r1, r2, r3]) rfl ⟨(((((HT.below).setCell (p := ⟨w.heap.size, 0, none⟩) (Nat.le_refl _) _).setCell (p := ⟨w.heap.size, 1, none⟩) (Nat.le_refl _) _).setCell (p := ⟨w.heap.size, 2, none⟩) (Nat.le_refl _) _).setCell (p := ⟨w.heap.size, 3, none⟩) (Nat.le_refl _) _), by rw [HS.out]⟩
  · rw [hsy, if_neg (by simpa using h0)] at hS
    have HS := Lib.hid hS
    clear hdc hd hlc hl hix hsy hq hnp hp hS
    go_enter Tryz.func44, Tryz.ntmps44
    go_wp2_with fail
    refine (HD.out _).mono ?_
    rintro e w1 ⟨rfl, rfl⟩
    go_wp2_with fail
    refine (HL.out _).mono ?_
    rintro e w1 ⟨rfl, rfl⟩
    go_wp2_with fail
    refine (HIX.out _).mono ?_
    rintro e w1 ⟨rfl, rfl⟩
    have r0 := (HT.box 0).c 0
    have r1 := (HT.box 0).c 1
    have r2 := (HT.box 0).c 2
    have r3 := (HT.box 0).c 3
    have g0 := (HT.box 0).f 0
    have g1 := (HT.box 0).f 1
    have g2 := (HT.box 0).f 2
    have g3 := (HT.box 0).f 3
    go_wp2_with fail
    exact bodyPost_ret (v := .tuple #[tok 0 ⟨#[]⟩ 0 0, .iface 62 (.agg #[.int .i64 k])]) (by simp [results, Tryz.results44, go_sem, r0, r1, r2, r3]) rfl ⟨(Below.refl _ _).alloc (Nat.le_refl _) _, by rw [HS.out]⟩
theorem readTok_any (s : ByteArray) (k : Nat) (w : World) (hk : k < s.size) (hs : s.size ≤ 2000) :
    Calls Tryz.prog 44 #[.string s, .int .i64 k] w (ReadOut (scanT s k s[k]) k w) := by
  cases hd : digB s[k] with
  | true => exact readTokD_any s k w hk hs hd
  | false =>
    cases hl : letB s[k] with
    | true => exact readTokL_any s k w hk hs hd hl
    | false => exact readTokS_any s k w hk hs hd hl

/-- what readTokens answers: all tokens and no error, or no token and the place of what is none -/
theorem nb_skip {s : ByteArray} {k q : Nat} (e : q = k + runP blkB s k) : ∀ h : q < s.size, blkB s[q] = false := by
  subst e
  exact fun h => runP_out h
def RdsOut (R : List Tk × Int) (w : World) (e : Ending) (w' : World) : Prop := Below w.heap.size w w' ∧
  ((∃ (A : Option Addr) (c : Nat), R.2 = -1 ∧ e = .returned (.tuple #[.slice A R.1.length c, .nilIface]) ∧ w'.ownsRow w.heap.size 38 4 (.slice A R.1.length c) R.1.length (R.1.flatMap tkg))
    ∨ (∃ k : Nat, R = ([], (k : Int)) ∧ e = .returned (.tuple #[.slice none 0 0, .iface 62 (.agg #[.int .i64 k])])))

set_option maxRecDepth 100000 in
set_option maxHeartbeats 4000000 in
theorem readTokens_any (s : ByteArray) (w : World) (hs : s.size ≤ 2000) :
    Calls Tryz.prog 26 #[.string s] w (RdsOut (tokT s 0 []) w) := by
  obtain ⟨R, hR⟩ : ∃ R, R = tokT s 0 [] := ⟨_, rfl⟩
  rw [← hR]
  have hle0 := runP_le (p := blkB) (s := s) (k := 0) (by omega)
  have hR1 : tokT s (0 + runP blkB s 0) [] = R := by rw [hR]; exact (tok_blanks _ 0 rfl).symm
  have hsk := fun W => skip_any s 0 W (by omega) (by omega)
  obtain ⟨k0, hk0⟩ : ∃ k0, k0 = 0 + runP blkB s 0 := ⟨_, rfl⟩
  have hnb0 := nb_skip hk0
  rw [← hk0] at hR1 hsk hle0
  have HR1 := Lib.hid hR1
  have HNB := Lib.hid hnb0
  have HSK := Lib.hid hsk
  clear hR hR1 hnb0 hsk hk0
  go_enter Tryz.func26, Tryz.ntmps26
  go_wp2_with fail
  refine (HSK.out _).mono ?_
  rintro e w1 ⟨rfl, hb1⟩
  have HB1 := Lib.hid hb1
  clear hb1
  go_wp2_with fail
  go_loopw [4, 5] (fun v i wr => ∃ (k : Nat) (acc : List Tk), k ≤ s.size ∧ (∀ h : k < s.size, blkB s[k] = false) ∧ acc.length ≤ k ∧ i = .int .i64 k ∧ wr.ownsRow w.heap.size 38 4 v acc.length (acc.flatMap tkg) ∧ Below w.heap.size w wr ∧ tokT s k acc = R) (fun _ i _ => s.size - (intOf i).toNat)
  case atStart => exact ⟨k0, [], hle0, HNB.out, Nat.zero_le _, rfl, World.ownsRow_nil _ _ _ _, HB1.out, HR1.out⟩
  case round =>
    obtain ⟨k, acc, hk, hnb, hacc, rfl, hown, hbel, hT⟩ := hrel
    have HO := Lib.hid hown
    have HB := Lib.hid hbel
    have HT := Lib.hid hT
    clear hown hbel hT HB1
    by_cases hlt : k < s.size
    · have hlt' : (k : Int) < (s.size : Int) := by omega
      have hbl := hnb hlt
      have hrd := fun W => readTok_any s k W hlt hs
      have HRD := Lib.hid hrd
      clear hrd hnb
      go_wp2_with fail
      refine (HRD.out _).mono ?_
      rintro e w2 ⟨hb2, he⟩
      have HO2 := Lib.hid (own_keep' HO.out hb2)
      have HB2 := Lib.hid (HB.out.trans (hb2.mono HB.out.size))
      clear hb2
      cases hsc : scanT s k s[k] with
      | none =>
        rw [hsc] at he
        obtain rfl := he
        have HST := Lib.hid (HT.out.symm.trans (tok_none hlt hbl hsc))
        clear hsc hbl
        go_wp2_with fail
        exact bodyPost_ret (v := .tuple #[.slice none 0 0, .iface 62 (.agg #[.int .i64 k])]) (by simp [results, Tryz.results26, go_sem]) rfl ⟨HB2.out.alloc HB2.out.size _, .inr ⟨k, HST.out, rfl⟩⟩
      | some t =>
        rw [hsc] at he
        obtain rfl := he
        have hst := HT.out.symm.trans (tok_some hlt hbl hsc)
        obtain ⟨hz1, hz2, -⟩ := scan_size hlt hsc
        have hleq := runP_le (p := blkB) (s := s) (k := k + t.2.1.size) hz2
        rw [tok_blanks _ (k + t.2.1.size) rfl] at hst
        have hsk2 := fun W => skip_any s (k + t.2.1.size) W hz2 (by omega)
        obtain ⟨q, hq⟩ : ∃ q, q = k + t.2.1.size + runP blkB s (k + t.2.1.size) := ⟨_, rfl⟩
        have hnb2 := nb_skip hq
        rw [← hq] at hst hsk2 hleq
        rw [show ((k + t.2.1.size : Nat) : Int) = (k : Int) + (t.2.1.size : Int) by omega] at hsk2
        have hkq : k + 1 ≤ q := by omega
        have htz : t.2.1.size ≤ 2000 := by omega
        have HST := Lib.hid hst
        have HNB2 := Lib.hid hnb2
        have HSK2 := Lib.hid hsk2
        have HLE := Lib.hid hleq
        have HKQ := Lib.hid hkq
        clear hst hnb2 hsk2 hleq hkq hq hsc hbl hz1 hz2 HO HB HT HRD
        go_upto_region 5 with fail
        obtain ⟨W1, hW1⟩ : ∃ W, W = w2.alloc (.cells #[.int .i64 t.1, .string t.2.1, .int .i64 t.2.2.1, .int .i64 t.2.2.2] 38) := ⟨_, rfl⟩
        have M := (Held.nil w2).new #[.int .i64 t.1, .string t.2.1, .int .i64 t.2.2.1, .int .i64 t.2.2.2] 38
        have HO1 := Lib.hid (HO2.out.alloc (.cells #[.int .i64 t.1, .string t.2.1, .int .i64 t.2.2.1, .int .i64 t.2.2.2] 38))
        have HB1 := Lib.hid (HB2.out.alloc HB2.out.size (.cells #[.int .i64 t.1, .string t.2.1, .int .i64 t.2.2.1, .int .i64 t.2.2.2] 38))
        rw [← hW1] at M HO1 HB1 ⊢
        have m0 := (M.box 0).c 0
        have m1 := (M.box 0).c 1
        have m2 := (M.box 0).c 2
        have m3 := (M.box 0).c 3
        have hne : ∀ g, Value.ownBlock u4 = some g → g < w2.heap.size := fun g hg => (HO2.out.lt g hg).2
        have HNE := Lib.hid hne
        clear hW1 hne
        have hs1 : w.heap.size ≤ W1.heap.size := HB1.out.size
        go_wp2_with (at_builtin; refine wpList_app4 W1 rfl _ _ 31 rfl w.heap.size 38 (tok 0 ⟨#[]⟩ 0 0) 40 Tryz.underlying31 infoTok rfl _ _ _ (by rfl) HO1.out _ _ _ _ (by rfl) ⟨rfl, rfl, rfl, rfl⟩ (by unfold maxLen; omega) (by omega) hs1 ?_)
        intro v' w4 ho4 hg4
        have n1 : w4.cell? ⟨w2.heap.size, 1, none⟩ = some (.string t.2.1) := by
          have hlt4 : w2.heap.size < W1.heap.size := (M.box 0).lt
          have hbk := hg4.block w2.heap.size hlt4 (fun e => by have := HNE.out _ e.symm; omega)
          exact (World.cell?_of_block (a := ⟨w2.heap.size, 1, none⟩) hbk).trans m1
        have HO4 := Lib.hid ho4
        have HB4 := Lib.hid (HB1.out.grown hg4 hs1 (own_block HO1.out))
        clear ho4 hg4 m0 m1 m2 m3 M HNE
        go_wp2_with fail
        refine (HSK2.out _).mono ?_
        rintro e w5 ⟨rfl, hb5⟩
        have HO5 := Lib.hid (own_keep' HO4.out hb5)
        have HB5 := Lib.hid (HB4.out.trans (hb5.mono HB4.out.size))
        clear hb5 n1
        go_wp2_with fail
        go_roundw
        case rel => exact ⟨q, acc ++ [t], HLE.out, HNB2.out, by have := HKQ.out; simp; omega, by go_num, by rw [List.flatMap_append, List.length_append, List.flatMap_singleton]; exact HO5.out, HB5.out, HST.out.symm⟩
        case measure => have := HKQ.out; have := HLE.out; simp [intOf]; omega
    · have hge : s.size ≤ k := by omega
      obtain rfl : k = s.size := by omega
      have hl' : ¬ ((s.size : Nat) : Int) < (s.size : Int) := by omega
      have HST := Lib.hid (HT.out.symm.trans (tok_end hge))
      have hs1 : w.heap.size ≤ wr.heap.size := HB.out.size
      clear HT hnb hge
      go_wp2_with (at_builtin; refine wpList_app4 wr rfl _ _ 31 rfl w.heap.size 38 (tok 0 ⟨#[]⟩ 0 0) 40 Tryz.underlying31 infoTok rfl _ _ _ (by rfl) HO.out _ _ _ _ (by rfl) ⟨rfl, rfl, rfl, rfl⟩ (by unfold maxLen; omega) (by omega) hs1 ?_)
      intro v' w4 ho4 hg4
      obtain ⟨A4, c4, rfl⟩ := own_shape ho4
      have HO4 := Lib.hid ho4
      have HB4 := Lib.hid (HB.out.grown hg4 hs1 (own_block HO.out))
      clear ho4 hg4
      go_wp2_with fail
      refine bodyPost_ret (v := .tuple #[.slice A4 (acc.length + 1) c4, .nilIface]) (by simp [results, Tryz.results26, go_sem]) rfl ⟨HB4.out, .inl ⟨A4, c4, ?_, ?_, ?_⟩⟩
      · rw [HST.out]
      · rw [HST.out, List.length_append]; rfl
      · rw [HST.out, List.flatMap_append, List.length_append, List.flatMap_singleton]; exact HO4.out

set_option maxRecDepth 100000 in
set_option maxHeartbeats 4000000 in
theorem tok_any (s : ByteArray) (w : World) (hE : ErrT w) :
    Calls Tryz.prog 13 #[.string s] w (TokRes (tokP s) w) := by
  by_cases hbig : 2000 < s.size
  · have hb : (2000 : Int) < (s.size : Int) := by omega
    have HR : Hid (tokP s = ([], 0)) := Lib.hid (by unfold tokP; rw [if_pos hbig])
    clear hE
    go_enter Tryz.func13, Tryz.ntmps13
    go_wp2_with fail
    exact bodyPost_ret (v := .tuple #[.slice none 0 0, .int .i64 0]) (by simp [results, Tryz.results13, go_sem]) rfl (by rw [HR.out]; exact tokRes_nil (Below.refl _ _))
  · have hb : ¬ (2000 : Int) < (s.size : Int) := by omega
    have hrd := readTokens_any s w (by omega)
    obtain ⟨R, hR⟩ : ∃ R, R = tokT s 0 [] := ⟨_, rfl⟩
    have hP : tokP s = R := by rw [hR]; unfold tokP; rw [if_neg hbig]
    rw [← hR] at hrd
    have hlen : R.1.length ≤ 2001 := by have := tok_len (s := s) (s.size - 0) 0 [] rfl (Nat.le_refl _) (by omega); rw [← hR] at this; omega
    have HP := Lib.hid hP
    have HE := Lib.hid hE
    have HRD := Lib.hid hrd
    clear hR hP hE hrd
    go_enter Tryz.func13, Tryz.ntmps13
    go_wp2_with fail
    refine HRD.out.mono ?_
    rintro e w1 ⟨hb1, he⟩
    have HE1 := Lib.hid (HE.out.later hb1)
    have HB1 := Lib.hid hb1
    clear hb1 HE HRD
    rcases he with ⟨A, c, hm1, rfl, hown⟩ | ⟨k, hk, rfl⟩
    · have HO := Lib.hid hown
      have HM := Lib.hid hm1
      clear hown hm1
      go_wp2_with fail
      refine (as_nil _ _).mono ?_
      rintro e w2 ⟨rfl, rfl⟩
      go_wp2_with fail
      exact bodyPost_ret (v := .tuple #[.slice A R.1.length c, .int .i64 (-1)]) (by simp [results, Tryz.results13, go_sem]) rfl (by rw [HP.out]; exact ⟨A, c, by rw [HM.out], HO.out.alloc _, HB1.out.alloc HB1.out.size _⟩)
    · have HK := Lib.hid hk
      clear hk
      have HT := (Held.nil w1).new #[.int .i64 0] 62
      have HE2 := Lib.hid (HE1.out.later ((Below.refl w1.heap.size w1).alloc (Nat.le_refl _) (.cells #[.int .i64 0] 62)))
      go_wp2_with fail
      refine (as_hit (k : Int) w1.heap.size (.int .i64 0) _ HE2.out ((HT.box 0).c 0) ((HT.box 0).f 0)).mono ?_
      rintro e w2 ⟨rfl, hc2, hb2⟩
      have HB2 := Lib.hid (HB1.out.trans ((((Below.refl w1.heap.size w1).alloc (Nat.le_refl _) (.cells #[.int .i64 0] 62)).trans (hb2 w1.heap.size (Nat.le_refl _))).mono HB1.out.size))
      clear hb2 HT
      go_upto_region 6 with fail
      go_quiet (fail)
      go_wp2_with fail
      exact bodyPost_ret (v := .tuple #[.slice none 0 0, .int .i64 k]) (by simp [results, Tryz.results13, go_sem]) rfl (by rw [HP.out, HK.out]; exact tokRes_nil (below_drewN HB2.out nq))
end Go.Proofs.YtkbdnjhgcoihhaaGreatDoor
