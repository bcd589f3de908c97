/- Contracts of SplitLines, in the program and in its model. -/
import Derived.Test.YtnjncihnhjaddaaProg
import Derived.Test.YtnjncihnhjaddaaMem
import Derived.Test.YtnjncihnhjaddaaStrS
import Derived.Test.YtnjncihnhjaddaaShelf
import Derived.Test.YtnjncihnhjaddaaSplit
import Derived.WalkKit
import Derived.WalkSpells
import Derived.WalkLawsBesides
import Derived.Lib.Hide
import Derived.Laws.RangeAny
import Derived.Laws.RangeString
import Derived.Lib.OthersKept
import Derived.WalkSmall
import Derived.Laws.Closers25b
namespace Go.Proofs.Ytnjncihnhjaddaa
open Go.RowKit

/-- every byte of a rune of several bytes, and of a byte that is no rune's, is at least 128 -/
theorem decode_span (s : ByteArray) (pos : Nat) (h : pos < s.size) (ha : 128 ≤ (s.get! (pos + 0)).toNat) : ∀ k, k < (Utf8.decode s pos).2 → pos + k < s.size ∧ 128 ≤ (s.get! (pos + k)).toNat := by
  have hn : ¬ (s.get! (pos + 0)).toNat < 128 := by omega
  simp only [Utf8.decode, hn, if_false]
  intro k
  repeat' split
  all_goals simp only [Bool.and_eq_true, decide_eq_true_eq, beq_iff_eq] at *
  all_goals
    intro hk
    rcases k with _ | _ | _ | _ | k
    all_goals first | omega | (refine ⟨by omega, ?_⟩; simp only [Nat.zero_add, Nat.add_zero, Nat.reduceAdd] at *; omega)
theorem decode_width (s : ByteArray) (pos : Nat) (h : pos < s.size) : pos + (Utf8.decode s pos).2 ≤ s.size := by
  have e := get_at s pos h
  by_cases ha : (s[pos]'h).toNat < 128
  · rw [decode_ascii s pos h ha]; simp; omega
  · have h1 := decode_span s pos h (by rw [e]; omega)
    have h2 := (decode_high s pos h (by omega)).2
    have := h1 ((Utf8.decode s pos).2 - 1) (by omega)
    omega
def nl : ByteArray := ⟨#[10]⟩
theorem nl_sep (c : UInt8) : sepB nl c = decide (c.toNat = 10) := by
  unfold sepB nl
  rw [Bool.eq_iff_iff]
  simp only [List.contains_iff_mem, decide_eq_true_eq, List.mem_singleton]
  exact ⟨fun h => by rw [h]; rfl, fun h => UInt8.toNat_inj.1 (by rw [h]; rfl)⟩
theorem splitAt_skip (s sep : ByteArray) (a n : Nat) (hn : a + n ≤ s.size) (h : ∀ i (hi : i < s.size), a ≤ i → i < a + n → sepB sep s[i] = false) : splitAt s sep (a + n) = splitAt s sep a := by
  induction n with
  | zero => rfl
  | succ n ih =>
    rw [← Nat.add_assoc, splitAt_no s sep (a + n) (by omega) (h _ _ (by omega) (by omega))]
    exact ih (by omega) (fun i hi h1 h2 => h i hi h1 (by omega))
theorem splitAt_rune (s : ByteArray) (pos : Nat) (h : pos < s.size) (ha : 128 ≤ (s[pos]'h).toNat) : splitAt s nl (pos + (Utf8.decode s pos).2) = splitAt s nl pos := by
  have hsp := decode_span s pos h (by rw [get_at s pos h]; omega)
  refine splitAt_skip s nl pos _ (decode_width s pos h) (fun i hi h1 h2 => ?_)
  obtain ⟨k, rfl⟩ : ∃ k, i = pos + k := ⟨i - pos, by omega⟩
  have h3 := (hsp k (by omega)).2
  have h4 := get_at s (pos + k) hi
  rw [Nat.add_zero] at h4
  rw [h4] at h3
  rw [nl_sep]
  exact decide_eq_false (by omega)
def linesP (s : ByteArray) : List ByteArray := if (splitAt s nl s.size).2 < s.size then (splitAt s nl s.size).1 ++ [s.extract (splitAt s nl s.size).2 s.size] else (splitAt s nl s.size).1

set_option maxHeartbeats 1000000 in
theorem splitLines_any (s : ByteArray) (w : World) (hs : s.size ≤ 1048576) :
    Calls Try.prog 28 #[.string s] w (StrsOut (linesP s) w) := by
  go_enter Try.func28, Try.ntmps28
  go_wp2
  go_loopw [3, 4] (fun v f wr => ∃ k : Nat, k ≤ s.size ∧ wr.heap[w.heap.size]? = some (.stringIter s k) ∧ f = .int .i64 ((splitAt s nl k).2 : Nat) ∧ wr.ownsRow (w.heap.size + 1) 9 1 v (splitAt s nl k).1.length ((splitAt s nl k).1.map Str) ∧ Below w.heap.size w wr) (fun _ _ wr => s.size - wr.iterPos w.heap.size)
  case atStart => exact ⟨0, Nat.zero_le _, World.iter_heap w s 0, rfl, World.ownsRow_nil _ _ _ _, (Below.refl _ _).alloc (Nat.le_refl _) _⟩
  case round =>
    obtain ⟨k, hk, hit, rfl, hown, hb⟩ := hrel
    have hle := splitAt_le s nl k
    by_cases hlt : k < s.size
    · have hil : w.heap.size < wr.heap.size := by
        rcases Nat.lt_or_ge w.heap.size wr.heap.size with h | h
        · exact h
        · rw [Array.getElem?_eq_none h] at hit; cases hit
      have hyes := splitAt_yes s nl k hlt
      have hno := splitAt_no s nl k hlt
      have hru := splitAt_rune s k hlt
      obtain ⟨ps, f, hpf⟩ : ∃ ps f, splitAt s nl k = (ps, f) := ⟨_, _, rfl⟩
      rw [hpf] at hown hle hyes hno hru ⊢
      simp only at hown hle hyes
      have hnp := fun W : World => newPart_any s f k W hs hle.1 hk
      obtain ⟨part, hpart⟩ : ∃ part, part = s.extract f k := ⟨_, rfl⟩
      rw [← hpart] at hnp hyes
      rw [nl_sep] at hyes hno
      have HNP := Lib.hid hnp
      have HO := Lib.hid hown
      have HB := Lib.hid hb
      have HYES := Lib.hid hyes
      have HNO := Lib.hid hno
      have HRU := Lib.hid hru
      have HIT := Lib.hid hit
      obtain ⟨hle1, hle2⟩ := hle
      clear hown hb hpf hyes hno hnp hpart hru hit
      by_cases ha : (s[k]'hlt).toNat < 128
      · have hnx : ∀ ty, (Instr.next (.pointer (some ⟨w.heap.size, 0, none⟩)) true ty).run Try.prog wr = _ := fun ty => Lib.run_next_ascii_at wr w.heap.size s k ty HIT.out hlt ha
        have HI1 := Lib.hid (Lib.iterAt_heap wr w.heap.size s k (k + 1) HIT.out)
        have HO1 := Lib.hid (ownsRow_iterAt HO.out (k := w.heap.size) (by omega) s (k + 1))
        have HB1 := Lib.hid (Lib.below_iterAt HB.out (k := w.heap.size) (Nat.le_refl _) s (k + 1))
        have hz1 := Lib.iterAt_size wr w.heap.size s (k + 1)
        obtain ⟨w1, hw1⟩ : ∃ w1, w1 = wr.iterAt w.heap.size s (k + 1) := ⟨_, rfl⟩
        rw [← hw1] at hnx HI1 HO1 HB1 hz1
        have hil1 : w.heap.size < w1.heap.size := by omega
        have hmes : s.size - w1.iterPos w.heap.size < s.size - wr.iterPos w.heap.size := by rw [iterPos_of HI1.out, iterPos_of HIT.out]; omega
        have HM := Lib.hid hmes
        clear hw1 hz1 hmes
        by_cases hnl : (s[k]'hlt).toNat = 10
        · have hst := Lib.hid (HYES.out (decide_eq_true hnl))
          have hbe : (((s[k]'hlt).toNat : Int) == 10) = true := by rw [hnl]; rfl
          clear hnl
          go_wp2_with fail
          refine (HNP.out _).mono ?_
          rintro e w2 ⟨rfl, hb2⟩
          have HO2 := Lib.hid (own_keep' HO1.out hb2)
          have HB2 := Lib.hid (HB1.out.trans (hb2.mono HB1.out.size))
          have HI2 := Lib.hid ((hb2.block w.heap.size hil1).trans HI1.out)
          have hs2 : w.heap.size + 1 ≤ w2.heap.size := Nat.le_trans hil1 hb2.size
          clear hb2
          go_wp2_with (at_builtin; refine wpList_app1 w2 rfl _ _ 31 rfl (w.heap.size + 1) 9 (.string ⟨#[]⟩) 16 Try.underlying31 infoStr rfl _ _ _ (by rfl) HO2.out _ (by rfl) (by rfl) (by unfold maxLen; omega) (by omega) hs2 ?_)
          intro v' w4 ho4 hg4
          have HO4 := Lib.hid ho4
          have HB4 := Lib.hid (HB2.out.grown hg4 (by omega) (fun r h => by have := own_block HO2.out r h; omega))
          have HI4 := Lib.hid ((hg4.block w.heap.size (by omega) (fun h => by have := own_block HO2.out _ h.symm; omega)).trans HI2.out)
          have hmes : s.size - w4.iterPos w.heap.size < s.size - wr.iterPos w.heap.size := by rw [iterPos_of HI4.out, iterPos_of HIT.out]; omega
          have HM4 := Lib.hid hmes
          clear ho4 hg4 hmes
          go_wp2_with fail
          go_roundw
          case rel => exact ⟨k + 1, by omega, HI4.out, by rw [hst.out]; go_num, by rw [hst.out]; simpa using HO4.out, HB4.out⟩
          case measure => exact HM4.out
        · have hst := Lib.hid (HNO.out (decide_eq_false hnl))
          have hbe : (((s[k]'hlt).toNat : Int) == 10) = false := by simp only [beq_eq_false_iff_ne, ne_eq]; omega
          clear hnl
          go_wp2_with fail
          go_roundw
          case rel => exact ⟨k + 1, by omega, HI1.out, by rw [hst.out], by rw [hst.out]; exact HO1.out, HB1.out⟩
          case measure => exact HM.out
      · have hnx : ∀ ty, (Instr.next (.pointer (some ⟨w.heap.size, 0, none⟩)) true ty).run Try.prog wr = _ := fun ty => Lib.run_next_any_at wr w.heap.size s k ty HIT.out hlt
        have hst := Lib.hid (HRU.out (by omega))
        have hwd := decode_width s k hlt
        have hhi := decode_high s k hlt (by omega)
        obtain ⟨q, hq⟩ : ∃ q, q = Utf8.decode s k := ⟨_, rfl⟩
        rw [← hq] at hnx hst hwd hhi
        obtain ⟨r, wd⟩ := q
        simp only at hnx hst hwd hhi
        have HI1 := Lib.hid (Lib.iterAt_heap wr w.heap.size s k (k + wd) HIT.out)
        have HO1 := Lib.hid (ownsRow_iterAt HO.out (k := w.heap.size) (by omega) s (k + wd))
        have HB1 := Lib.hid (Lib.below_iterAt HB.out (k := w.heap.size) (Nat.le_refl _) s (k + wd))
        obtain ⟨w1, hw1⟩ : ∃ w1, w1 = wr.iterAt w.heap.size s (k + wd) := ⟨_, rfl⟩
        rw [← hw1] at hnx HI1 HO1 HB1
        have HM : Hid (s.size - w1.iterPos w.heap.size < s.size - wr.iterPos w.heap.size) := Lib.hid (by rw [iterPos_of HI1.out, iterPos_of HIT.out]; omega)
        have hbe : ((r : Int) == 10) = false := by simp only [beq_eq_false_iff_ne, ne_eq]; omega
        clear hw1 hq
        go_wp2_with fail
        go_roundw
        case rel => exact ⟨k + wd, by omega, HI1.out, by rw [hst.out], by rw [hst.out]; exact HO1.out, HB1.out⟩
        case measure => exact HM.out
    · obtain rfl : k = s.size := by omega
      have hnx : ∀ ty, (Instr.next (.pointer (some ⟨w.heap.size, 0, none⟩)) true ty).run Try.prog wr = _ := fun ty => Lib.run_next_end_at wr w.heap.size s s.size ty hit hlt
      have hpp : linesP s = if (splitAt s nl s.size).2 < s.size then (splitAt s nl s.size).1 ++ [s.extract (splitAt s nl s.size).2 s.size] else (splitAt s nl s.size).1 := rfl
      obtain ⟨ps, f, hpf⟩ : ∃ ps f, splitAt s nl s.size = (ps, f) := ⟨_, _, rfl⟩
      rw [hpf] at hown hle hpp ⊢
      simp only at hown hle hpp
      have hnp := fun W : World => newPart_any s f s.size W hs hle.1 hk
      obtain ⟨part, hpart⟩ : ∃ part, part = s.extract f s.size := ⟨_, rfl⟩
      rw [← hpart] at hnp hpp
      have HNP := Lib.hid hnp
      have HO := Lib.hid hown
      have HB := Lib.hid hb
      have HPP := Lib.hid hpp
      have hs0 : w.heap.size ≤ wr.heap.size := hb.size
      have hil : w.heap.size < wr.heap.size := by
        rcases Nat.lt_or_ge w.heap.size wr.heap.size with h | h
        · exact h
        · rw [Array.getElem?_eq_none h] at hit; cases hit
      obtain ⟨hle1, hle2⟩ := hle
      clear hown hb hpf hnp hpart hpp hit
      by_cases hfl : (f : Int) < (s.size : Int)
      · have HP2 := Lib.hid (HPP.out.trans (if_pos (by omega)))
        go_wp2_with fail
        refine (HNP.out _).mono ?_
        rintro e w2 ⟨rfl, hb2⟩
        have HO2 := Lib.hid (own_keep' HO.out hb2)
        have HB2 := Lib.hid (HB.out.trans (hb2.mono HB.out.size))
        have hs2 : w.heap.size + 1 ≤ w2.heap.size := Nat.le_trans hil hb2.size
        clear hb2
        go_wp2_with (at_builtin; refine wpList_app1 w2 rfl _ _ 31 rfl (w.heap.size + 1) 9 (.string ⟨#[]⟩) 16 Try.underlying31 infoStr rfl _ _ _ (by rfl) HO2.out _ (by rfl) (by rfl) (by unfold maxLen; omega) (by omega) hs2 ?_)
        intro v' w4 ho4 hg4
        obtain ⟨A4, c4, rfl⟩ := own_shape ho4
        have HO4 := Lib.hid ho4
        have HB4 := Lib.hid (HB2.out.grown hg4 (by omega) (fun r h => by have := own_block HO2.out r h; omega))
        clear ho4 hg4
        go_wp2_with fail
        go_ret
        have hl4 : (linesP s).length = ps.length + 1 := by rw [HP2.out]; simp
        exact ⟨A4, c4, ret_slice hl4.symm, by rw [hl4, HP2.out]; simpa using own_base HO4.out (by omega), HB4.out⟩
      · have HP2 := Lib.hid (HPP.out.trans (if_neg (by omega)))
        obtain ⟨A4, c4, rfl⟩ := own_shape HO.out
        go_wp2_with fail
        go_ret
        have hl4 : (linesP s).length = ps.length := by rw [HP2.out]
        exact ⟨A4, c4, ret_slice hl4.symm, by rw [hl4, HP2.out]; exact own_base HO.out (by omega), HB.out⟩

theorem str_empty (p : ByteArray) : p.toList.isEmpty = decide (p.size = 0) := by
  rw [Bool.eq_iff_iff, decide_eq_true_eq, List.isEmpty_iff, toList_nil_iff_emptyBytes]
  exact ⟨fun h => by rw [h]; rfl, fun h => ByteArray.ext (Array.eq_empty_of_size_eq_zero h)⟩
/-- a slice that reads as xs, whoever owns it -/
def RowOut (xs : List ByteArray) (w : World) (e : Ending) (w' : World) : Prop :=
  ∃ (A : Option Addr) (c : Nat), e = .returned (.slice A xs.length c) ∧ Row Str w' w'.heap.size A xs ∧ Below w.heap.size w w'
theorem Row.init {w : World} {B : Nat} {A : Option Addr} {xs : List ByteArray} {x : ByteArray} (h : Row Str w B A (xs ++ [x])) : Row Str w B A xs := fun hn => by
  obtain ⟨b, o, e, hb, hc⟩ := h (by simp)
  refine ⟨b, o, e, hb, fun k hk => ?_⟩
  rw [hc k (by simp; omega), List.getElem_append_left hk]
set_option maxHeartbeats 1000000 in
theorem sSplitLines_any (s : ByteArray) (w : World) (hs : s.size ≤ 1048576) :
    Calls Try.prog 27 #[.string s] w (RowOut (linesP s) w) := by
  have hle := splitAt_le s nl s.size
  have hpp : linesP s = if (splitAt s nl s.size).2 < s.size then (splitAt s nl s.size).1 ++ [s.extract (splitAt s nl s.size).2 s.size] else (splitAt s nl s.size).1 := rfl
  have hsp : splitP s nl = (splitAt s nl s.size).1 ++ [s.extract (splitAt s nl s.size).2 s.size] := rfl
  obtain ⟨ps, f, hpf⟩ : ∃ ps f, splitAt s nl s.size = (ps, f) := ⟨_, _, rfl⟩
  rw [hpf] at hle hpp hsp
  simp only at hle hpp hsp
  have hxs : (s.extract f s.size).size = s.size - f := by simp
  obtain ⟨part, hpart⟩ : ∃ part, part = s.extract f s.size := ⟨_, rfl⟩
  rw [← hpart] at hpp hsp hxs
  have HPP := Lib.hid hpp
  have HXS := Lib.hid hxs
  have hct := sSplitAny_any s nl w hs (by decide)
  rw [hsp] at hct
  unfold nl at hct
  have HCT := Lib.hid hct
  obtain ⟨hle1, hle2⟩ := hle
  clear hpf hpp hsp hpart hct hxs
  go_enter Try.func27, Try.ntmps27
  go_wp2_with fail
  refine HCT.out.mono ?_
  rintro e w1 ⟨A, c, rfl, ho, hb⟩
  have HR : Hid (Row Str w1 w1.heap.size A (ps ++ [part])) := Lib.hid (Row.of_own ho)
  have HB := Lib.hid hb
  have hcap : ps.length + 1 ≤ c := by
    rcases ho.2 with ⟨_, h0⟩ | ⟨g, cap, cur, hv, _, _, hn, _⟩
    · simp at h0
    · injection hv with _ _ hv; subst hv; simpa using hn
  obtain ⟨b, o, rfl, hbl, hc⟩ := HR.out.at (k := ps.length) (by simp)
  have hc' : w1.cell? ⟨b, o + ps.length, none⟩ = some (.string part) := by rw [hc]; simp
  have el : (ps ++ [part]).length = ps.length + 1 := by simp
  rw [el]
  have hd : (↑(ps.length + 1) : Int) - 1 = ↑ps.length := by omega
  clear ho hb hc el
  by_cases hfl : f < s.size
  · have HP2 := Lib.hid (HPP.out.trans (if_pos hfl))
    have hne : part.toList.isEmpty = false := by rw [str_empty]; exact decide_eq_false (by rw [HXS.out]; omega)
    go_wp2_with fail
    go_ret
    have hl4 : (linesP s).length = ps.length + 1 := by rw [HP2.out]; simp
    exact ⟨_, _, ret_slice hl4.symm, by rw [HP2.out]; exact HR.out, HB.out⟩
  · have HP2 := Lib.hid (HPP.out.trans (if_neg hfl))
    have hne : part.toList.isEmpty = true := by rw [str_empty]; exact decide_eq_true (by rw [HXS.out]; omega)
    go_wp2_with fail
    go_ret
    have hl4 : (linesP s).length = ps.length := by rw [HP2.out]
    exact ⟨_, _, ret_slice hl4.symm, by rw [HP2.out]; exact Row.init HR.out, HB.out⟩

end Go.Proofs.Ytnjncihnhjaddaa
