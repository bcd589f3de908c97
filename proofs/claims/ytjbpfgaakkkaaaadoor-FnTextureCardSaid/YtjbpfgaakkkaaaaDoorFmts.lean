/- Contracts of FormatInts, in the program and in its model. -/
import Derived.Test.YtjbpfgaakkkaaaaDoorProg
import Derived.Test.YtjbpfgaakkkaaaaDoorMem
import Derived.Test.YtjbpfgaakkkaaaaDoorStrS
import Derived.Test.YtjbpfgaakkkaaaaDoorShelf
import Derived.Test.YtjbpfgaakkkaaaaDoorNumP
import Derived.Test.YtjbpfgaakkkaaaaDoorIn
import Derived.Test.YtjbpfgaakkkaaaaDoorFmt
import Derived.Test.YtjbpfgaakkkaaaaDoorBuilder
import Derived.Test.YtjbpfgaakkkaaaaDoorInts
import Derived.Test.YtjbpfgaakkkaaaaDoorIntS
import Derived.WalkKit
import Derived.WalkSpells
import Derived.WalkLawsBesides
import Derived.Lib.Hide
import Derived.WalkSmall
import Derived.Lib.LaidTab
import Derived.Laws.Closers25b
namespace Go.Proofs.YtjbpfgaakkkaaaaDoor
open Go.RowKit

def comma : ByteArray := ⟨#[44]⟩
def InR (x : Int) : Prop := -1000000000 ≤ x ∧ x ≤ 1000000000
instance (x : Int) : Decidable (InR x) := inferInstanceAs (Decidable (_ ∧ _))
def fmtsP (xs : List Int) : ByteArray := if xs = [] then ⟨#[45]⟩ else if ∀ x ∈ xs, InR x then joinP (xs.map fmtP) comma else ⟨#[]⟩
theorem fmtP_size (n : Int) : (fmtP n).size ≤ 11 := by
  unfold fmtP
  split
  · rename_i h; exact (num_len (s := strOf (Lib.itoa n)) ⟨h.1, h.2, rfl⟩).2
  · exact Nat.zero_le _
theorem fmtP_pos {n : Int} (h : InR n) : 1 ≤ (fmtP n).size := by
  unfold fmtP
  rw [if_pos (show -1000000000 ≤ n ∧ n ≤ 1000000000 from h)]
  exact (num_len (s := strOf (Lib.itoa n)) ⟨h.1, h.2, rfl⟩).1
theorem fmtP_none {n : Int} (h : ¬ InR n) : (fmtP n).size = 0 := by
  unfold fmtP
  rw [if_neg (show ¬ (-1000000000 ≤ n ∧ n ≤ 1000000000) from h)]; rfl
theorem sizeN_fmt (xs : List Int) (k : Nat) : sizeN (xs.map fmtP) k ≤ 11 * k := by
  induction k with
  | zero => exact Nat.le_refl _
  | succ k ih =>
    rw [sizeN]
    have : ((xs.map fmtP).getD k ByteArray.empty).size ≤ 11 := by
      by_cases h : k < (xs.map fmtP).length
      · rw [List.getD_eq_getElem?_getD, List.getElem?_eq_getElem h, Option.getD_some, List.getElem_map]
        exact fmtP_size _
      · rw [List.getD_eq_getElem?_getD, List.getElem?_eq_none (by omega)]
        exact Nat.zero_le _
    omega
theorem str_empty' (p : ByteArray) : p.toList.isEmpty = decide (p.size = 0) := by
  rw [Bool.eq_iff_iff, decide_eq_true_eq, List.isEmpty_iff, toList_nil_iff_emptyBytes]
  exact ⟨fun h => by rw [h]; rfl, fun h => ByteArray.ext (Array.eq_empty_of_size_eq_zero h)⟩
theorem infoStr1 : (Tryd.prog.info? 9).map (fun i => (i.zero, i.size, i.bytes)) = some (some (.string ⟨#[]⟩), 1, 16) := by kernel_rfl
def Upto (xs : List Int) (k : Nat) : Prop := ∀ x ∈ xs.take k, InR x
theorem upto_step {xs : List Int} {k : Nat} (h : Upto xs k) (hk : k < xs.length) (hx : InR xs[k]) : Upto xs (k + 1) := fun x hm => by
  rw [List.take_succ_eq_append_getElem hk] at hm
  rcases List.mem_append.1 hm with hm | hm
  · exact h x hm
  · rw [List.mem_singleton] at hm; subst hm; exact hx
theorem take_map (xs : List Int) (k : Nat) (hk : k < xs.length) : (xs.take (k + 1)).map fmtP = (xs.take k).map fmtP ++ [fmtP xs[k]] := by
  rw [List.take_succ_eq_append_getElem hk, List.map_append]; rfl
theorem fmtsP_bad {xs : List Int} {k : Nat} (hk : k < xs.length) (hx : ¬ InR xs[k]) : fmtsP xs = ⟨#[]⟩ := by
  unfold fmtsP
  rw [if_neg (by intro h; subst h; simp at hk), if_neg (fun h => hx (h _ (List.getElem_mem _)))]
theorem fmtsP_good {xs : List Int} (h0 : xs ≠ []) (h : Upto xs xs.length) : fmtsP xs = joinP (xs.map fmtP) comma := by
  unfold fmtsP
  rw [if_neg h0, if_pos (by intro x hx; exact h x (by rw [List.take_length]; exact hx))]

set_option maxHeartbeats 1000000 in
theorem formats_any (A : Option Addr) (c : Nat) (xs : List Int) (w : World) (hR : Row I64 w w.heap.size A xs) (hl : xs.length ≤ 1048576) (hp : Pow w) :
    Calls Tryd.prog 27 #[.slice A xs.length c] w fun e w' => e = .returned (.string (fmtsP xs)) ∧ Below w.heap.size w w' := by
  have HP := Lib.hid hp
  clear hp
  by_cases h0 : xs = []
  · subst h0
    clear hR
    go_enter Tryd.func27, Tryd.ntmps27
    go_wp2_with fail
    go_ret
    exact ⟨ret_str (by unfold fmtsP; rw [if_pos rfl]), Below.refl _ _⟩
  · have hne : ((xs.length : Int) == 0) = false := by
      have := List.length_pos_iff.2 h0
      simp only [beq_eq_false_iff_ne, ne_eq]; omega
    have H0 := Lib.hid h0
    clear h0
    go_enter Tryd.func27, Tryd.ntmps27
    go_wp2_with fail
    go_loopw [3, 12] (fun v i wr => ∃ k : Nat, k ≤ xs.length ∧ i = .int .i64 k ∧ Upto xs k ∧ wr.ownsRow w.heap.size 9 1 v k (((xs.take k).map fmtP).map Str) ∧ Below w.heap.size w wr) (fun _ i _ => xs.length - (intOf i).toNat)
    case atStart => exact ⟨0, Nat.zero_le _, rfl, (fun x hx => by simp at hx), World.ownsRow_nil _ _ _ _, Below.refl _ _⟩
    case round =>
      obtain ⟨k, hk, rfl, hup, hown, hb⟩ := hrel
  
      have HU := Lib.hid hup
      have HO := Lib.hid hown
      have HB := Lib.hid hb
      have hs0 : w.heap.size ≤ wr.heap.size := hb.size
      clear hup hown hb
      by_cases hlt : k < xs.length
      · obtain ⟨b, o, rfl, hbl, hc⟩ := hR.at hlt
        have hc := (HB.out.cell hbl).trans hc
        have HTM := Lib.hid (take_map xs k hlt)
        have HBAD := Lib.hid (@fmtsP_bad xs k hlt)
        have HUS := Lib.hid (fun hx => upto_step HU.out hlt hx)
        obtain ⟨x, hx⟩ : ∃ x, x = xs[k] := ⟨_, rfl⟩
        rw [← hx] at hc HTM HBAD HUS
        clear hx hR
        have HSZ := Lib.hid (fmtP_size x)
        go_wp2_with fail
        refine (format_any x _ (HP.out.later HB.out)).mono ?_
        rintro e w1 ⟨rfl, hb1⟩
        have HO1 := Lib.hid (own_keep' HO.out hb1)
        have HB1 := Lib.hid (HB.out.trans (hb1.mono HB.out.size))
        clear hb1
        obtain ⟨fs, hfs⟩ : ∃ fs, fs = fmtP x := ⟨_, rfl⟩
        rw [← hfs]
        rw [← hfs] at HTM HSZ
        by_cases hin : InR x
        · have hem : fs.toList.isEmpty = false := by rw [str_empty']; exact decide_eq_false (by rw [hfs]; have := fmtP_pos hin; omega)
          have HIN := Lib.hid hin
          have HFS := Lib.hid hfs
          clear hin hfs
          go_wp2_with (at_builtin; refine wpList_app1 w1 rfl _ _ 45 rfl w.heap.size 9 (.string ⟨#[]⟩) 16 Tryd.underlying45 infoStr1 rfl _ _ _ (by rfl) HO1.out _ (by rfl) (by rfl) (by unfold maxLen; omega) (by omega) HB1.out.size ?_)
          intro v' w4 ho4 hg4
          have HO4 := Lib.hid ho4
          have HB4 := Lib.hid (HB1.out.grown hg4 HB1.out.size (own_block HO1.out))
          clear ho4 hg4
          go_wp2_with fail
          go_roundw
          case rel => exact ⟨k + 1, by omega, by go_num, HUS.out HIN.out, by rw [HTM.out]; simpa using HO4.out, HB4.out⟩
          case measure => simp [intOf]; omega
        · have hem : fs.toList.isEmpty = true := by rw [str_empty']; exact decide_eq_true (by rw [hfs]; exact fmtP_none hin)
          have HBAD2 := Lib.hid (HBAD.out hin)
          clear hin hfs
          go_wp2_with fail
          go_ret
          exact ⟨ret_str HBAD2.out.symm, HB1.out⟩
      · obtain rfl : k = xs.length := by omega
        have ho := HO.out
        rw [List.take_length] at ho
        obtain ⟨A2, c2, rfl⟩ := own_shape ho
        have HR2 : Hid (Row Str wr wr.heap.size A2 (xs.map fmtP)) := Lib.hid (Row.of_own ho)
        have hlen : (xs.map fmtP).length = xs.length := by simp
        have hsz := sizeN_fmt xs xs.length
        clear ho
        have hj := joinWith_any A2 c2 (xs.map fmtP) comma wr HR2.out (by omega) (by decide) (by rw [hlen]; omega)
        rw [hlen] at hj
        unfold comma at hj
        have HJ := Lib.hid hj
        clear hj hsz hlen hR
        go_wp2_with fail
        refine HJ.out.mono ?_
        rintro e w2 ⟨rfl, hb2⟩
        have HB2 := Lib.hid (HB.out.trans (hb2.mono HB.out.size))
        clear hb2
        go_wp2_with fail
        go_ret
        exact ⟨ret_str (fmtsP_good H0.out HU.out).symm, HB2.out⟩

set_option maxHeartbeats 1000000 in
theorem sFormats_any (A : Option Addr) (c : Nat) (xs : List Int) (w : World) (hR : Row I64 w w.heap.size A xs) (hl : xs.length ≤ 1048576) :
    Calls Tryd.prog 37 #[.slice A xs.length c] w fun e w' => e = .returned (.string (fmtsP xs)) ∧ Below w.heap.size w w' := by
  have ho0 : (w.alloc (.cells #[] 9)).ownsRow w.heap.size 9 1 (.slice (some ⟨w.heap.size, 0, none⟩) 0 0) 0 [] := World.ownsRow_made w #[] 0 (Nat.le_refl _) (by unfold maxLen; omega) rfl
  have HO0 := Lib.hid ho0
  clear ho0
  go_enter Tryd.func37, Tryd.ntmps37
  go_wp2_with fail
  go_loopw [3, 9] (fun v i wr => ∃ k : Nat, k ≤ xs.length ∧ i = .int .i64 k ∧ Upto xs k ∧ wr.ownsRow w.heap.size 9 1 v k (((xs.take k).map fmtP).map Str) ∧ Below w.heap.size w wr) (fun _ i _ => xs.length - (intOf i).toNat)
  case atStart => exact ⟨0, Nat.zero_le _, rfl, (fun x hx => by simp at hx), HO0.out, (Below.refl _ _).alloc (Nat.le_refl _) _⟩
  case round =>
    obtain ⟨k, hk, rfl, hup, hown, hb⟩ := hrel
    clear HO0
    have HU := Lib.hid hup
    have HO := Lib.hid hown
    have HB := Lib.hid hb
    have hs0 : w.heap.size ≤ wr.heap.size := hb.size
    clear hup hown hb
    by_cases hlt : k < xs.length
    · obtain ⟨b, o, rfl, hbl, hc⟩ := hR.at hlt
      have hc := (HB.out.cell hbl).trans hc
      have HTM := Lib.hid (take_map xs k hlt)
      have HBAD := Lib.hid (@fmtsP_bad xs k hlt)
      have HUS := Lib.hid (fun hx => upto_step HU.out hlt hx)
      obtain ⟨x, hx⟩ : ∃ x, x = xs[k] := ⟨_, rfl⟩
      rw [← hx] at hc HTM HBAD HUS
      clear hx hR
      have HSZ := Lib.hid (fmtP_size x)
      go_wp2_with fail
      refine (sFormat_any x _).mono ?_
      rintro e w1 ⟨rfl, hb1⟩
      have HO1 := Lib.hid (own_keep' HO.out hb1)
      have HB1 := Lib.hid (HB.out.trans (hb1.mono HB.out.size))
      clear hb1
      obtain ⟨fs, hfs⟩ : ∃ fs, fs = fmtP x := ⟨_, rfl⟩
      rw [← hfs]
      rw [← hfs] at HTM HSZ
      by_cases hin : InR x
      · have hem : fs.toList.isEmpty = false := by rw [str_empty']; exact decide_eq_false (by rw [hfs]; have := fmtP_pos hin; omega)
        have HIN := Lib.hid hin
        have HFS := Lib.hid hfs
        clear hin hfs
        go_wp2_with fail
        refine (sFormat_any x _).mono ?_
        rintro e w2 ⟨rfl, hb2⟩
        have HO2 := Lib.hid (own_keep' HO1.out hb2)
        have HB2 := Lib.hid (HB1.out.trans (hb2.mono HB1.out.size))
        clear hb2
        rw [← HFS.out]
        go_wp2_with (at_builtin; refine wpList_app1 w2 rfl _ _ 45 rfl w.heap.size 9 (.string ⟨#[]⟩) 16 Tryd.underlying45 infoStr1 rfl _ _ _ (by rfl) HO2.out _ (by rfl) (by rfl) (by unfold maxLen; omega) (by omega) HB2.out.size ?_)
        intro v' w4 ho4 hg4
        have HO4 := Lib.hid ho4
        have HB4 := Lib.hid (HB2.out.grown hg4 HB2.out.size (own_block HO2.out))
        clear ho4 hg4
        go_wp2_with fail
        go_roundw
        case rel => exact ⟨k + 1, by omega, by go_num, HUS.out HIN.out, by rw [HTM.out]; simpa using HO4.out, HB4.out⟩
        case measure => simp [intOf]; omega
      · have hem : fs.toList.isEmpty = true := by rw [str_empty']; exact decide_eq_true (by rw [hfs]; exact fmtP_none hin)
        have HBAD2 := Lib.hid (HBAD.out hin)
        clear hin hfs
        go_wp2_with fail
        go_ret
        exact ⟨ret_str HBAD2.out.symm, HB1.out⟩
    · obtain rfl : k = xs.length := by omega
      have ho := HO.out
      rw [List.take_length] at ho
      obtain ⟨A2, c2, rfl⟩ := own_shape ho
      have HR2 : Hid (Row Str wr wr.heap.size A2 (xs.map fmtP)) := Lib.hid (Row.of_own ho)
      have hlen : (xs.map fmtP).length = xs.length := by simp
      have hsz := sizeN_fmt xs xs.length
      clear ho
      by_cases h0 : xs = []
      · subst h0
        clear hR
        go_wp2_with fail
        go_ret
        exact ⟨ret_str (by unfold fmtsP; rw [if_pos rfl]), HB.out⟩
      · have hne : ((xs.length : Int) == 0) = false := by
          have := List.length_pos_iff.2 h0
          simp only [beq_eq_false_iff_ne, ne_eq]; omega
        have H0 := Lib.hid h0
        clear h0
        have hj := sJoin_any A2 c2 (xs.map fmtP) comma wr _ HR2.out (by omega) (by decide) (by rw [hlen]; omega)
        rw [hlen] at hj
        unfold comma at hj
        have HJ := Lib.hid hj
        clear hj hsz hlen hR
        go_wp2_with fail
        refine HJ.out.mono ?_
        rintro e w2 ⟨rfl, rfl⟩
        go_wp2_with fail
        go_ret
        exact ⟨ret_str (fmtsP_good H0.out HU.out).symm, HB.out⟩

end Go.Proofs.YtjbpfgaakkkaaaaDoor
