/- The program's lexer: runes, prefixOf, skipBlanks, newPart, digitsValue. -/
import Derived.Test.YtkbdnjhgcoihhaaGreatDoorProg
import Derived.Test.YtkbdnjhgcoihhaaGreatDoorInts
import Derived.Test.YtkbdnjhgcoihhaaGreatDoorVbox
import Derived.Test.YtkbdnjhgcoihhaaGreatDoorHeld
import Derived.Test.YtkbdnjhgcoihhaaGreatDoorMem
import Derived.Test.YtkbdnjhgcoihhaaGreatDoorFlat
import Derived.Test.YtkbdnjhgcoihhaaGreatDoorRowC
import Derived.Test.YtkbdnjhgcoihhaaGreatDoorKS
import Derived.Test.YtkbdnjhgcoihhaaGreatDoorStrS
import Derived.Test.YtkbdnjhgcoihhaaGreatDoorShelf
import Derived.Test.YtkbdnjhgcoihhaaGreatDoorFn
import Derived.Test.YtkbdnjhgcoihhaaGreatDoorTp
import Derived.WalkKit
import Derived.WalkSpells
import Derived.WalkLawsBesides
import Derived.Lib.Hide
import Derived.Deep.RegionHeld3
import Derived.Deep.QuietTactic
import Derived.BigQuiet
import Derived.Handy
import Derived.Deep.DeepCutAuto
import Derived.Laws.RangeAny
import Derived.Laws.RangeString
import Derived.Shelf.Strings.SlTrimAscii
namespace Go.Proofs.YtkbdnjhgcoihhaaGreatDoor
open Go.RowKit

theorem belowT_iter (w : World) (s : ByteArray) (p : Nat) : Below w.heap.size w (w.iter s p) := by
  unfold World.iter
  exact (Below.refl _ _).alloc (Nat.le_refl _) _
def digI (r : Int) : Bool := decide (48 ≤ r) && decide (r ≤ 57)
def letI' (r : Int) : Bool := decide (97 ≤ r) && decide (r ≤ 122)
def namI (r : Int) : Bool := letI' r || digI r
theorem digI_b (b : UInt8) : digI (b.toNat : Int) = digB b := by
  unfold digI digB
  congr 1 <;> (apply decide_eq_decide.2; omega)
theorem letI_b (b : UInt8) : letI' (b.toNat : Int) = letB b := by
  unfold letI' letB
  congr 1 <;> (apply decide_eq_decide.2; omega)
theorem namI_b (b : UInt8) : namI (b.toNat : Int) = namB b := by
  unfold namI namB
  rw [digI_b, letI_b]
theorem digI_high {r : Int} (h : 128 ≤ r) : digI r = false := by
  unfold digI
  rw [decide_eq_false (by omega : ¬ r ≤ 57), Bool.and_false]
theorem letI_high {r : Int} (h : 128 ≤ r) : letI' r = false := by
  unfold letI'
  rw [decide_eq_false (by omega : ¬ r ≤ 122), Bool.and_false]
theorem namI_high {r : Int} (h : 128 ≤ r) : namI r = false := by unfold namI; rw [digI_high h, letI_high h]; rfl
theorem digB_high {b : UInt8} (h : ¬ b.toNat < 128) : digB b = false := by rw [← digI_b]; exact digI_high (by omega)
theorem namB_high {b : UInt8} (h : ¬ b.toNat < 128) : namB b = false := by rw [← namI_b]; exact namI_high (by omega)
theorem ext_all (s : ByteArray) : s.extract 0 s.size = s := by
  apply ext_eq
  rw [ext_list, List.drop_zero, List.take_of_length_le (by rw [← Lib.size_eq]; exact Nat.le_refl _)]

theorem isDigit_any (r : Int) (w : World) :
    Calls Tryz.prog 55 #[.int .i32 r] w fun e w' => e = .returned (.bool (digI r)) ∧ w = w' := by
  unfold digI
  by_cases h0 : 48 ≤ r
  · by_cases h1 : r ≤ 57
    · have b0 : decide ((48 : Int) ≤ r) = true := decide_eq_true h0
      have b1 : decide (r ≤ 57) = true := decide_eq_true h1
      go_enter Tryz.func55, Tryz.ntmps55
      go_wp2
      go_ret
      exact ⟨by first | rfl | (rw [b0, b1]; rfl), rfl⟩
    · have b0 : decide ((48 : Int) ≤ r) = true := decide_eq_true h0
      have b1 : decide (r ≤ 57) = false := decide_eq_false h1
      go_enter Tryz.func55, Tryz.ntmps55
      go_wp2
      go_ret
      exact ⟨by first | rfl | (rw [b0, b1]; rfl), rfl⟩
  · have b0 : decide ((48 : Int) ≤ r) = false := decide_eq_false h0
    go_enter Tryz.func55, Tryz.ntmps55
    go_wp2
    go_ret
    exact ⟨by first | rfl | (rw [b0]; rfl), rfl⟩

theorem isLetter_any (r : Int) (w : World) :
    Calls Tryz.prog 57 #[.int .i32 r] w fun e w' => e = .returned (.bool (letI' r)) ∧ w = w' := by
  unfold letI'
  by_cases h0 : 97 ≤ r
  · by_cases h1 : r ≤ 122
    · have b0 : decide ((97 : Int) ≤ r) = true := decide_eq_true h0
      have b1 : decide (r ≤ 122) = true := decide_eq_true h1
      go_enter Tryz.func57, Tryz.ntmps57
      go_wp2
      go_ret
      exact ⟨by first | rfl | (rw [b0, b1]; rfl), rfl⟩
    · have b0 : decide ((97 : Int) ≤ r) = true := decide_eq_true h0
      have b1 : decide (r ≤ 122) = false := decide_eq_false h1
      go_enter Tryz.func57, Tryz.ntmps57
      go_wp2
      go_ret
      exact ⟨by first | rfl | (rw [b0, b1]; rfl), rfl⟩
  · have b0 : decide ((97 : Int) ≤ r) = false := decide_eq_false h0
    go_enter Tryz.func57, Tryz.ntmps57
    go_wp2
    go_ret
    exact ⟨by first | rfl | (rw [b0]; rfl), rfl⟩

theorem isName_any (r : Int) (w : World) :
    Calls Tryz.prog 78 #[.int .i32 r] w fun e w' => e = .returned (.bool (namI r)) ∧ w = w' := by
  unfold namI
  have HL := Lib.hid (fun W => isLetter_any r W)
  have HD := Lib.hid (fun W => isDigit_any r W)
  cases hl : letI' r with
  | true =>
    rw [hl] at HL
    clear hl
    go_enter Tryz.func78, Tryz.ntmps78
    go_wp2_with (first | (go_at_call 57; refine (HL.out _).mono ?_; rintro e w1 ⟨rfl, rfl⟩) | (go_at_call 55; refine (HD.out _).mono ?_; rintro e w1 ⟨rfl, rfl⟩))
    go_ret
    exact ⟨rfl, rfl⟩
  | false =>
    rw [hl] at HL
    clear hl
    obtain ⟨b, hb⟩ : ∃ b, b = digI r := ⟨_, rfl⟩
    rw [← hb] at HD ⊢
    clear hb
    go_enter Tryz.func78, Tryz.ntmps78
    go_wp2_with (first | (go_at_call 57; refine (HL.out _).mono ?_; rintro e w1 ⟨rfl, rfl⟩) | (go_at_call 55; refine (HD.out _).mono ?_; rintro e w1 ⟨rfl, rfl⟩))
    go_ret
    exact ⟨rfl, rfl⟩

set_option maxHeartbeats 4000000 in
theorem preDig_any (s : ByteArray) (w : World) (hs : s.size ≤ 1048576) :
    Calls Tryz.prog 73 #[.string s, .func (.func 55) #[] #[]] w fun e w' => e = .returned (.string (s.extract 0 (runP digB s 0))) ∧ Below w.heap.size w w' := by
  have hle := runP_le (p := digB) (s := s) (k := 0) (by omega)
  obtain ⟨n, hn⟩ : ∃ n, n = runP digB s 0 := ⟨_, rfl⟩
  rw [← hn] at hle ⊢
  have HN := Lib.hid hn
  clear hn
  go_enter Tryz.func73, Tryz.ntmps73
  go_wp2
  go_loopw [5] (fun _ wr => ∃ pos : Nat, pos ≤ n ∧ wr = w.iter s pos) (fun _ wr => s.size - wr.iterPos w.heap.size)
  case atStart => exact ⟨0, Nat.zero_le _, rfl⟩
  case round =>
    obtain ⟨pos, hk, rfl⟩ := hrel
    by_cases hlt : pos < s.size
    · by_cases ha : (s[pos]'hlt).toNat < 128
      · have hnx : ∀ ty, (Instr.next (.pointer (some ⟨w.heap.size, 0, none⟩)) true ty).run Tryz.prog (w.iter s pos) = _ := fun ty => run_next_ascii w s pos ty hlt ha
        have hc := fun W => isDigit_any ((s[pos]'hlt).toNat : Int) W
        rw [digI_b] at hc
        cases hp : digB (s[pos]'hlt) with
        | true =>
          rw [hp] at hc
          have HC := Lib.hid hc
          have HGO := Lib.hid (run_go (p := digB) (s := s) (k := 0) (q := pos) (by rw [← HN.out]; omega) hlt hp)
          clear hc hp
          go_wp2_with (go_at_call 55; refine (HC.out _).mono ?_; rintro e w1 ⟨rfl, rfl⟩)
          go_roundw
          case rel => exact ⟨pos + 1, by have := HGO.out; rw [← HN.out] at this; omega, rfl⟩
          case measure => simp; omega
        | false =>
          rw [hp] at hc
          have HC := Lib.hid hc
          have HE := Lib.hid (run_stop (p := digB) (s := s) (k := 0) (q := pos) (by omega) (by rw [← HN.out]; omega) (by omega) (fun _ => hp))
          clear hc hp
          go_wp2_with (go_at_call 55; refine (HC.out _).mono ?_; rintro e w1 ⟨rfl, rfl⟩)
          go_ret
          exact ⟨by have := HE.out; rw [← HN.out] at this; rw [show n = pos by omega]; rfl, belowT_iter _ _ _⟩
      · have hh := (decode_high s pos hlt (by omega)).1
        have hnx : ∀ ty, (Instr.next (.pointer (some ⟨w.heap.size, 0, none⟩)) true ty).run Tryz.prog (w.iter s pos) = _ := fun ty => run_next_any w s pos ty hlt
        have hc := fun W => isDigit_any ((Utf8.decode s pos).1 : Int) W
        rw [digI_high (by omega)] at hc
        have HC := Lib.hid hc
        have HE := Lib.hid (run_stop (p := digB) (s := s) (k := 0) (q := pos) (by omega) (by rw [← HN.out]; omega) (by omega) (fun _ => digB_high ha))
        clear hc
        go_wp2_with (go_at_call 55; refine (HC.out _).mono ?_; rintro e w1 ⟨rfl, rfl⟩)
        go_ret
        exact ⟨by have := HE.out; rw [← HN.out] at this; rw [show n = pos by omega]; rfl, belowT_iter _ _ _⟩
    · have hnx : ∀ ty, (Instr.next (.pointer (some ⟨w.heap.size, 0, none⟩)) true ty).run Tryz.prog (w.iter s pos) = _ := fun ty => run_next_end w s pos ty hlt
      go_wp2_with fail
      go_ret
      exact ⟨by rw [show n = s.size by omega, ext_all]; rfl, belowT_iter _ _ _⟩

set_option maxHeartbeats 4000000 in
theorem preNam_any (s : ByteArray) (w : World) (hs : s.size ≤ 1048576) :
    Calls Tryz.prog 73 #[.string s, .func (.func 78) #[] #[]] w fun e w' => e = .returned (.string (s.extract 0 (runP namB s 0))) ∧ Below w.heap.size w w' := by
  have hle := runP_le (p := namB) (s := s) (k := 0) (by omega)
  obtain ⟨n, hn⟩ : ∃ n, n = runP namB s 0 := ⟨_, rfl⟩
  rw [← hn] at hle ⊢
  have HN := Lib.hid hn
  clear hn
  go_enter Tryz.func73, Tryz.ntmps73
  go_wp2
  go_loopw [5] (fun _ wr => ∃ pos : Nat, pos ≤ n ∧ wr = w.iter s pos) (fun _ wr => s.size - wr.iterPos w.heap.size)
  case atStart => exact ⟨0, Nat.zero_le _, rfl⟩
  case round =>
    obtain ⟨pos, hk, rfl⟩ := hrel
    by_cases hlt : pos < s.size
    · by_cases ha : (s[pos]'hlt).toNat < 128
      · have hnx : ∀ ty, (Instr.next (.pointer (some ⟨w.heap.size, 0, none⟩)) true ty).run Tryz.prog (w.iter s pos) = _ := fun ty => run_next_ascii w s pos ty hlt ha
        have hc := fun W => isName_any ((s[pos]'hlt).toNat : Int) W
        rw [namI_b] at hc
        cases hp : namB (s[pos]'hlt) with
        | true =>
          rw [hp] at hc
          have HC := Lib.hid hc
          have HGO := Lib.hid (run_go (p := namB) (s := s) (k := 0) (q := pos) (by rw [← HN.out]; omega) hlt hp)
          clear hc hp
          go_wp2_with (go_at_call 78; refine (HC.out _).mono ?_; rintro e w1 ⟨rfl, rfl⟩)
          go_roundw
          case rel => exact ⟨pos + 1, by have := HGO.out; rw [← HN.out] at this; omega, rfl⟩
          case measure => simp; omega
        | false =>
          rw [hp] at hc
          have HC := Lib.hid hc
          have HE := Lib.hid (run_stop (p := namB) (s := s) (k := 0) (q := pos) (by omega) (by rw [← HN.out]; omega) (by omega) (fun _ => hp))
          clear hc hp
          go_wp2_with (go_at_call 78; refine (HC.out _).mono ?_; rintro e w1 ⟨rfl, rfl⟩)
          go_ret
          exact ⟨by have := HE.out; rw [← HN.out] at this; rw [show n = pos by omega]; rfl, belowT_iter _ _ _⟩
      · have hh := (decode_high s pos hlt (by omega)).1
        have hnx : ∀ ty, (Instr.next (.pointer (some ⟨w.heap.size, 0, none⟩)) true ty).run Tryz.prog (w.iter s pos) = _ := fun ty => run_next_any w s pos ty hlt
        have hc := fun W => isName_any ((Utf8.decode s pos).1 : Int) W
        rw [namI_high (by omega)] at hc
        have HC := Lib.hid hc
        have HE := Lib.hid (run_stop (p := namB) (s := s) (k := 0) (q := pos) (by omega) (by rw [← HN.out]; omega) (by omega) (fun _ => namB_high ha))
        clear hc
        go_wp2_with (go_at_call 78; refine (HC.out _).mono ?_; rintro e w1 ⟨rfl, rfl⟩)
        go_ret
        exact ⟨by have := HE.out; rw [← HN.out] at this; rw [show n = pos by omega]; rfl, belowT_iter _ _ _⟩
    · have hnx : ∀ ty, (Instr.next (.pointer (some ⟨w.heap.size, 0, none⟩)) true ty).run Tryz.prog (w.iter s pos) = _ := fun ty => run_next_end w s pos ty hlt
      go_wp2_with fail
      go_ret
      exact ⟨by rw [show n = s.size by omega, ext_all]; rfl, belowT_iter _ _ _⟩

theorem info256 : (Tryz.prog.info? 123).map (fun i => (i.zero, i.size)) = some (some (.agg (Array.replicate 256 (.bool false))), 256) := by kernel_rfl
theorem trimB_any (s : ByteArray) (k : Nat) (w : World) (hk : k ≤ s.size) :
    Calls Tryz.prog 54 #[.string (s.extract k s.size), .string ⟨#[32, 10]⟩] w fun e w' => (∃ r : ByteArray, e = .returned (.string r) ∧ r.size = s.size - k - runP blkB s k) ∧ Below w.heap.size w w' := by
  have hc2 : (⟨#[32, 10]⟩ : ByteArray).size < 4294967281 := Nat.lt_of_le_of_lt (show (⟨#[32, 10]⟩ : ByteArray).size ≤ 2 from Nat.le_refl 2) (by omega)
  refine (Any.strings_TrimLeft_laid Tryz.lays161 info256 (s.extract k s.size) ⟨#[32, 10]⟩ w hc2 (ascii_of_all (by decide))).mono ?_
  rintro e w' ⟨rfl, hb⟩
  refine ⟨⟨_, rfl, ?_⟩, hb⟩
  rw [Lib.size_mk]
  have h1 := run_ext blkB s k
  unfold runP at h1
  rw [List.drop_zero] at h1
  have h2 : ((s.extract k s.size).data.toList.takeWhile blkB).length + ((s.extract k s.size).data.toList.dropWhile blkB).length = (s.extract k s.size).data.toList.length := by
    rw [← List.length_append, List.takeWhile_append_dropWhile]
  have h3 : (s.extract k s.size).data.toList.length = s.size - k := by rw [← Lib.size_eq, ext_size s (Nat.le_refl _)]
  have h4 : Lib.trimLeftS (s.extract k s.size).data.toList (⟨#[32, 10]⟩ : ByteArray).data.toList = (s.extract k s.size).data.toList.dropWhile blkB := rfl
  rw [h4]
  unfold runP
  omega
set_option maxHeartbeats 1000000 in
theorem skip_any (s : ByteArray) (k : Nat) (w : World) (hk : k ≤ s.size) (hs : s.size ≤ 1048576) :
    Calls Tryz.prog 43 #[.string s, .int .i64 k] w fun e w' => e = .returned (.int .i64 (k + runP blkB s k : Nat)) ∧ Below w.heap.size w w' := by
  have hle := runP_le (p := blkB) (s := s) hk
  have HT := Lib.hid (fun W => trimB_any s k W hk)
  go_enter Tryz.func43, Tryz.ntmps43
  go_wp2_with fail
  refine (HT.out _).mono ?_
  rintro e w1 ⟨⟨r, rfl, hr⟩, hb⟩
  have hri : (r.size : Int) = (s.size : Int) - (k : Int) - (runP blkB s k : Int) := by omega
  have HRI := Lib.hid hri
  have hrb : r.size ≤ 1048576 := by omega
  clear hr hri HT
  go_wp2_with fail
  go_ret
  exact ⟨by rw [show (s.size : Int) - (r.size : Int) = ((k + runP blkB s k : Nat) : Int) by have := HRI.out; push_cast; omega]; rfl, hb⟩

set_option maxHeartbeats 400000 in
theorem newPartT_any (s : ByteArray) (a b : Nat) (w : World) (hs : s.size ≤ 1048576) (hab : a ≤ b) (hb : b ≤ s.size) :
    Calls Tryz.prog 60 #[.string s, .int .i64 a, .int .i64 b] w fun e w' => e = .returned (.string (s.extract a b)) ∧ Below w.heap.size w w' := by
  have hsz : (s.extract a b).size ≤ 281474976710656 := by rw [ext_size s hb]; omega
  go_enter Tryz.func60, Tryz.ntmps60
  go_wp2_with (first | (go_at_call 90; refine (Tryz.stringslite_Clone _ _ hsz).mono ?_; rintro e w' ⟨rfl, hbw⟩) | go_in)
  go_ret
  exact ⟨rfl, hbw⟩

theorem cloneT_any (s : ByteArray) (w : World) (hs : s.size ≤ 281474976710656) :
    Calls Tryz.prog 80 #[.string s] w fun e w' => e = .returned (.string s) ∧ Below w.heap.size w w' := by
  go_enter Tryz.func80, Tryz.ntmps80
  go_wp2_with fail
  refine (Tryz.stringslite_Clone _ _ hs).mono ?_
  rintro e w' ⟨rfl, hb⟩
  go_wp2_with fail
  go_ret
  exact ⟨rfl, hb⟩

set_option maxRecDepth 100000 in
set_option maxHeartbeats 4000000 in
theorem digitsValue_any (s : ByteArray) (w : World) (hs : s.size ≤ 8) (hd : s.size ≤ runP digB s 0) :
    Calls Tryz.prog 77 #[.string s] w fun e w' => e = .returned (.int .i64 (lval s.data.toList : Nat)) ∧ Below w.heap.size w w' := by
  have HD := Lib.hid hd
  clear hd
  have hall : dg s 0 s.size = s.data.toList := by
    unfold dg
    rw [List.drop_zero, List.take_of_length_le (by rw [← Lib.size_eq]; exact Nat.le_refl _)]
  have HALL := Lib.hid hall
  clear hall
  go_enter Tryz.func77, Tryz.ntmps77
  go_wp2
  go_loopw [3] (fun v wr => ∃ pos : Nat, pos ≤ s.size ∧ v = .int .i64 (lval (dg s 0 pos) : Nat) ∧ wr = w.iter s pos) (fun _ wr => s.size - wr.iterPos w.heap.size)
  case atStart => exact ⟨0, Nat.zero_le _, by rw [dg_zero]; rfl, rfl⟩
  case round =>
    obtain ⟨pos, hk, rfl, rfl⟩ := hrel
    have hlv := lval_lt (dg s 0 pos) (dg_dig s (by have := HD.out; omega))
    rw [dg_len s (by omega)] at hlv
    have hp8 : (10 : Nat) ^ pos ≤ 10 ^ 8 := Nat.pow_le_pow_right (by omega) (by omega)
    have e8 : (10 : Nat) ^ 8 = 100000000 := by rfl
    have hlb : lval (dg s 0 pos) ≤ 100000000 := by omega
    clear hlv hp8 e8
    by_cases hlt : pos < s.size
    · have hdp : digB (s[pos]'hlt) = true := by
        have := runP_in (p := digB) (s := s) (k := 0) pos (by omega) (by have := HD.out; omega)
        simpa only [Nat.zero_add] using this
      have hd2 := (digB_iff _).1 hdp
      have hst := lval_step (s := s) (k := 0) (q := pos) (by omega) hlt
      rw [show pos + 1 - 0 = pos + 1 by omega, show pos - 0 = pos by omega] at hst
      obtain ⟨x, hx⟩ : ∃ x, x = lval (dg s 0 pos) := ⟨_, rfl⟩
      rw [← hx] at hst hlb ⊢
      have HST := Lib.hid hst
      have ha : (s[pos]'hlt).toNat < 128 := by omega
      have hnx : ∀ ty, (Instr.next (.pointer (some ⟨w.heap.size, 0, none⟩)) true ty).run Tryz.prog (w.iter s pos) = _ := fun ty => run_next_ascii w s pos ty hlt ha
      clear hst hx hdp
      go_wp2_with fail
      go_roundw
      case rel => exact ⟨pos + 1, by omega, by rw [HST.out]; go_num, rfl⟩
      case measure => simp; omega
    · have hnx : ∀ ty, (Instr.next (.pointer (some ⟨w.heap.size, 0, none⟩)) true ty).run Tryz.prog (w.iter s pos) = _ := fun ty => run_next_end w s pos ty hlt
      have HE : Hid (pos = s.size) := Lib.hid (by omega)
      go_wp2_with fail
      go_ret
      exact ⟨by rw [← HALL.out, ← HE.out]; rfl, belowT_iter _ _ _⟩
end Go.Proofs.YtkbdnjhgcoihhaaGreatDoor
