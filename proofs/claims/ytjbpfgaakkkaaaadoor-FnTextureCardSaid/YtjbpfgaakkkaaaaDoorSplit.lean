/- Contracts of SplitAny and newPart, in the program and in its model. -/
import Derived.Test.YtjbpfgaakkkaaaaDoorProg
import Derived.Test.YtjbpfgaakkkaaaaDoorMem
import Derived.Test.YtjbpfgaakkkaaaaDoorStrS
import Derived.Test.YtjbpfgaakkkaaaaDoorShelf
import Derived.WalkKit
import Derived.WalkSpells
import Derived.WalkLawsBesides
import Derived.Lib.Hide
import Derived.BigQuiet
import Derived.Deep.QuietTactic
import Derived.Lib.IndexAny
namespace Go.Proofs.YtjbpfgaakkkaaaaDoor
open Go.RowKit

def sepB (sep : ByteArray) (c : UInt8) : Bool := sep.data.toList.contains c
/-- what SplitAny has gathered behind the first k bytes: the parts, and where the next part begins -/
def splitAt (s sep : ByteArray) : Nat → List ByteArray × Nat
  | 0 => ([], 0)
  | k + 1 => if h : k < s.size then (if sepB sep s[k] = true then ((splitAt s sep k).1 ++ [s.extract (splitAt s sep k).2 k], k + 1) else splitAt s sep k) else splitAt s sep k
def splitP (s sep : ByteArray) : List ByteArray := (splitAt s sep s.size).1 ++ [s.extract (splitAt s sep s.size).2 s.size]
theorem splitAt_le (s sep : ByteArray) (k : Nat) : (splitAt s sep k).2 ≤ k ∧ (splitAt s sep k).1.length ≤ k := by
  induction k with
  | zero => simp [splitAt]
  | succ k ih =>
    unfold splitAt
    split
    · split
      · simp; omega
      · omega
    · omega
theorem splitAt_yes (s sep : ByteArray) (k : Nat) (h : k < s.size) (hs : sepB sep s[k] = true) : splitAt s sep (k + 1) = ((splitAt s sep k).1 ++ [s.extract (splitAt s sep k).2 k], k + 1) := by
  rw [splitAt, dif_pos h, if_pos hs]
theorem splitAt_no (s sep : ByteArray) (k : Nat) (h : k < s.size) (hs : sepB sep s[k] = false) : splitAt s sep (k + 1) = splitAt s sep k := by
  rw [splitAt, dif_pos h, if_neg (by simp [hs])]
theorem splitAt_skip (s sep : ByteArray) (a n : Nat) (hn : a + n ≤ s.size) (h : ∀ i (hi : i < s.size), a ≤ i → i < a + n → sepB sep s[i] = false) : splitAt s sep (a + n) = splitAt s sep a := by
  induction n with
  | zero => rfl
  | succ n ih =>
    rw [← Nat.add_assoc, splitAt_no s sep (a + n) (by omega) (h _ _ (by omega) (by omega))]
    exact ih (by omega) (fun i hi h1 h2 => h i hi h1 (by omega))
theorem infoStr : (Tryd.prog.info? 9).map (fun i => (i.zero, i.size, i.bytes)) = some (some (.string ⟨#[]⟩), 1, 16) := by kernel_rfl
/-- what a call that makes strings leaves: a slice of the call's own -/
def StrsOut (xs : List ByteArray) (w : World) (e : Ending) (w' : World) : Prop :=
  ∃ (A : Option Addr) (c : Nat), e = .returned (.slice A xs.length c) ∧ w'.ownsRow w.heap.size 9 1 (.slice A xs.length c) xs.length (xs.map Str) ∧ Below w.heap.size w w'
theorem ret_slice {A : Option Addr} {n m c : Nat} (h : n = m) : Ending.returned (.slice A n c) = .returned (.slice A m c) := by rw [h]
theorem sep_index (sep : ByteArray) (c : UInt8) : Lib.indexByte sep.data.toList (((c.toNat : Nat) : Int)).toNat.toUInt8 = Lib.indexByte sep.data.toList c := by simp
theorem sep_ge (sep : ByteArray) (c : UInt8) : sepB sep c = decide (0 ≤ Lib.indexByte sep.data.toList c) := Lib.contains_iff_indexByte _ _

set_option maxHeartbeats 400000 in
theorem newPart_any (s : ByteArray) (a b : Nat) (w : World) (hs : s.size ≤ 1048576) (hab : a ≤ b) (hb : b ≤ s.size) :
    Calls Tryd.prog 49 #[.string s, .int .i64 a, .int .i64 b] w fun e w' => e = .returned (.string (s.extract a b)) ∧ Below w.heap.size w w' := by
  have hsz : (s.extract a b).size ≤ 281474976710656 := by simp; omega
  go_enter Tryd.func49, Tryd.ntmps49
  go_wp2_with (first | (go_at_call 72; refine (Tryd.stringslite_Clone _ _ hsz).mono ?_; rintro e w' ⟨rfl, hbw⟩) | go_in)
  go_ret
  exact ⟨rfl, hbw⟩

set_option maxHeartbeats 1000000 in
theorem splitAny_any (s sep : ByteArray) (w : World) (hs : s.size ≤ 1048576) :
    Calls Tryd.prog 22 #[.string s, .string sep] w (StrsOut (splitP s sep) w) := by
  go_enter Tryd.func22, Tryd.ntmps22
  go_wp2
  go_loopw [5, 6, 10] (fun v f i wr => ∃ k : Nat, k ≤ s.size ∧ i = .int .i64 k ∧ f = .int .i64 ((splitAt s sep k).2 : Nat) ∧ wr.ownsRow w.heap.size 9 1 v (splitAt s sep k).1.length ((splitAt s sep k).1.map Str) ∧ Below w.heap.size w wr) (fun _ _ i _ => s.size - (intOf i).toNat)
  case atStart => exact ⟨0, Nat.zero_le _, rfl, rfl, World.ownsRow_nil _ _ _ _, Below.refl _ _⟩
  case round =>
    obtain ⟨k, hk, rfl, rfl, hown, hb⟩ := hrel
    have hle := splitAt_le s sep k
    by_cases hlt : k < s.size
    · have hyes := splitAt_yes s sep k hlt
      have hno := splitAt_no s sep k hlt
      obtain ⟨ps, f, hpf⟩ : ∃ ps f, splitAt s sep k = (ps, f) := ⟨_, _, rfl⟩
      rw [hpf] at hown hle hyes hno ⊢
      simp only at hown hle hyes
      have hnp := fun W : World => newPart_any s f k W hs hle.1 hk
      have hsg := sep_ge sep (s[k]'hlt)
      have hix := Tryd.strings_IndexByte sep ((s[k]'hlt).toNat : Int)
      rw [sep_index] at hix
      obtain ⟨q, hq⟩ : ∃ q, q = Lib.indexByte sep.data.toList (s[k]'hlt) := ⟨_, rfl⟩
      rw [← hq] at hsg hix
      obtain ⟨part, hpart⟩ : ∃ part, part = s.extract f k := ⟨_, rfl⟩
      rw [← hpart] at hnp hyes
      have HNP := Lib.hid hnp
      have HIX := Lib.hid hix
      have HO := Lib.hid hown
      have HB := Lib.hid hb
      have HYES := Lib.hid hyes
      have HNO := Lib.hid hno
      have HSG := Lib.hid hsg
      obtain ⟨hle1, hle2⟩ := hle
      clear hown hb hpf hyes hno hq hnp hix hsg hpart
      by_cases hsep : 0 ≤ q
      · have hst := Lib.hid (HYES.out (by rw [HSG.out]; simpa using hsep))
        go_wp2_with fail
        refine (HIX.out _).mono ?_
        rintro e w1 ⟨rfl, rfl⟩
        go_wp2_with fail
        refine (HNP.out _).mono ?_
        rintro e w2 ⟨rfl, hb2⟩
        have HO2 := Lib.hid (own_keep' HO.out hb2)
        have HB2 := Lib.hid (HB.out.trans (hb2.mono HB.out.size))
        have hs2 : w.heap.size ≤ w2.heap.size := HB2.out.size
        clear hb2
        go_wp2_with (at_builtin; refine wpList_app1 w2 rfl _ _ 45 rfl w.heap.size 9 (.string ⟨#[]⟩) 16 Tryd.underlying45 infoStr rfl _ _ _ (by rfl) HO2.out _ (by rfl) (by rfl) (by unfold maxLen; omega) (by omega) hs2 ?_)
        intro v' w4 ho4 hg4
        have HO4 := Lib.hid ho4
        have HB4 := Lib.hid (HB2.out.grown hg4 hs2 (own_block HO2.out))
        clear ho4 hg4
        go_wp2_with fail
        go_roundw
        case rel => exact ⟨k + 1, by omega, by go_num, by rw [hst.out]; go_num, by rw [hst.out]; simpa using HO4.out, HB4.out⟩
        case measure => simp [intOf]; omega
      · have hst := Lib.hid (HNO.out (by rw [HSG.out]; simpa using hsep))
        go_wp2_with fail
        refine (HIX.out _).mono ?_
        rintro e w1 ⟨rfl, rfl⟩
        go_wp2_with fail
        go_roundw
        case rel => exact ⟨k + 1, by omega, by go_num, by rw [hst.out], by rw [hst.out]; exact HO.out, HB.out⟩
        case measure => simp [intOf]; omega
    · obtain rfl : k = s.size := by omega
      have hpp : splitP s sep = (splitAt s sep s.size).1 ++ [s.extract (splitAt s sep s.size).2 s.size] := rfl
      obtain ⟨ps, f, hpf⟩ : ∃ ps f, splitAt s sep s.size = (ps, f) := ⟨_, _, rfl⟩
      rw [hpf] at hown hle hpp ⊢
      simp only at hown hle hpp
      have hnp := fun W : World => newPart_any s f s.size W hs hle.1 hk
      obtain ⟨part, hpart⟩ : ∃ part, part = s.extract f s.size := ⟨_, rfl⟩
      rw [← hpart] at hnp hpp
      have HNP := Lib.hid hnp
      have HO := Lib.hid hown
      have HB := Lib.hid hb
      have HPP := Lib.hid hpp
      obtain ⟨hle1, hle2⟩ := hle
      clear hown hb hpf hnp hpart hpp
      go_wp2_with fail
      refine (HNP.out _).mono ?_
      rintro e w2 ⟨rfl, hb2⟩
      have HO2 := Lib.hid (own_keep' HO.out hb2)
      have HB2 := Lib.hid (HB.out.trans (hb2.mono HB.out.size))
      have hs2 : w.heap.size ≤ w2.heap.size := HB2.out.size
      clear hb2
      go_wp2_with (at_builtin; refine wpList_app1 w2 rfl _ _ 45 rfl w.heap.size 9 (.string ⟨#[]⟩) 16 Tryd.underlying45 infoStr rfl _ _ _ (by rfl) HO2.out _ (by rfl) (by rfl) (by unfold maxLen; omega) (by omega) hs2 ?_)
      intro v' w4 ho4 hg4
      obtain ⟨A4, c4, rfl⟩ := own_shape ho4
      have HO4 := Lib.hid ho4
      have HB4 := Lib.hid (HB2.out.grown hg4 hs2 (own_block HO2.out))
      clear ho4 hg4
      go_wp2_with fail
      go_ret
      have hl4 : (splitP s sep).length = ps.length + 1 := by rw [HPP.out]; simp
      exact ⟨A4, c4, ret_slice hl4.symm, by rw [hl4, HPP.out]; simpa using HO4.out, HB4.out⟩

/-- no separator among the first j -/
def NoneOf (sep : ByteArray) (c : UInt8) (j : Nat) : Prop := ∀ i (h : i < sep.size), i < j → sep[i] ≠ c
theorem none_all {sep : ByteArray} {c : UInt8} (h : NoneOf sep c sep.size) : sepB sep c = false := by
  unfold sepB
  rw [← Bool.not_eq_true, List.contains_iff_mem]
  intro hm
  obtain ⟨i, hi, he⟩ := List.mem_iff_getElem.1 hm
  have hi' : i < sep.size := by rw [Array.length_toList] at hi; exact hi
  exact h i hi' hi' (by rw [Array.getElem_toList] at he; exact he)
theorem some_sep {sep : ByteArray} {c : UInt8} (i : Nat) (h : i < sep.size) (he : sep[i] = c) : sepB sep c = true := by
  unfold sepB
  rw [List.contains_iff_mem]
  exact List.mem_iff_getElem.2 ⟨i, by rw [Array.length_toList]; exact h, by rw [Array.getElem_toList]; exact he⟩
theorem none_step {sep : ByteArray} {c : UInt8} {j : Nat} (h : NoneOf sep c j) (hj : j < sep.size) (hne : sep[j] ≠ c) : NoneOf sep c (j + 1) := fun i hi hlt => by
  rcases Nat.lt_or_ge i j with hh | hh
  · exact h i hi hh
  · obtain rfl : i = j := by omega
    exact hne
set_option maxHeartbeats 2000000 in
theorem sSplitAny_any (s sep : ByteArray) (w : World) (hs : s.size ≤ 1048576) (hsp : sep.size ≤ 1048576) :
    Calls Tryd.prog 40 #[.string s, .string sep] w (StrsOut (splitP s sep) w) := by
  have ho0 : (w.alloc (.cells #[] 9)).ownsRow w.heap.size 9 1 (.slice (some ⟨w.heap.size, 0, none⟩) 0 0) 0 [] := World.ownsRow_made w #[] 0 (Nat.le_refl _) (by unfold maxLen; omega) rfl
  have HO0 := Lib.hid ho0
  clear ho0
  go_enter Tryd.func40, Tryd.ntmps40
  go_wp2
  go_loopw [5, 6, 7] (fun v f i wr => ∃ k : Nat, k ≤ s.size ∧ i = .int .i64 k ∧ f = .int .i64 ((splitAt s sep k).2 : Nat) ∧ wr.ownsRow w.heap.size 9 1 v (splitAt s sep k).1.length ((splitAt s sep k).1.map Str) ∧ Below w.heap.size w wr) (fun _ _ i _ => s.size - (intOf i).toNat)
  case atStart => exact ⟨0, Nat.zero_le _, rfl, rfl, HO0.out, (Below.refl _ _).alloc (Nat.le_refl _) _⟩
  case round =>
    obtain ⟨k, hk, rfl, rfl, hown, hb⟩ := hrel
    clear HO0
    have hle := splitAt_le s sep k
    by_cases hlt : k < s.size
    · have hyes := splitAt_yes s sep k hlt
      have hno := splitAt_no s sep k hlt
      obtain ⟨ps, f, hpf⟩ : ∃ ps f, splitAt s sep k = (ps, f) := ⟨_, _, rfl⟩
      rw [hpf] at hown hle hyes hno ⊢
      simp only at hown hle hyes
      have HO := Lib.hid hown
      have HB := Lib.hid hb
      have HYES := Lib.hid hyes
      have HNO := Lib.hid hno
      obtain ⟨hle1, hle2⟩ := hle
      clear hown hb hpf hyes hno
      obtain ⟨wo, rfl⟩ : ∃ wo : World, wo = wr := ⟨_, rfl⟩
      go_wp2
      go_loopw [5, 6, 8] (fun v5 v6 i wi => ∃ j : Nat, j ≤ sep.size ∧ i = .int .i64 j ∧ v5 = u5 ∧ v6 = .int .i64 (f : Nat) ∧ NoneOf sep (s[k]'hlt) j ∧ ∃ nd, wi = wo.drewN nd) (fun _ _ i _ => sep.size - (intOf i).toNat)
      case atStart => exact ⟨0, Nat.zero_le _, rfl, rfl, rfl, (fun i h h0 => by omega), 0, rfl⟩
      case round =>
        obtain ⟨j, hj, rfl, rfl, rfl, hnone, nd, rfl⟩ := hrel
        have HN := Lib.hid hnone
        clear hnone
        by_cases hjl : j < sep.size
        · have hltI : (k : Int) < (s.size : Int) := by omega
          have hjlI : (j : Int) < (sep.size : Int) := by omega
          by_cases heq : sep[j] = s[k]
          · have hbe : (((s[k]'hlt).toNat : Int) == ((sep[j]'hjl).toNat : Int)) = true := by rw [heq]; simp
            have hst := Lib.hid (HYES.out (some_sep j hjl heq))
            clear heq
            go_wp2
            go_quiet (fail)
            have HO2 : Hid ((wo.drewN (nd + nq)).ownsRow w.heap.size 9 1 u5 ps.length (ps.map Str)) := HO
            have HB2 : Hid (Below w.heap.size w (wo.drewN (nd + nq))) := Lib.hid (below_drewN HB.out _)
            clear HO HB
            go_wp2_with (at_builtin; refine wpList_app1 (wo.drewN (nd + nq)) rfl _ _ 45 rfl w.heap.size 9 (.string ⟨#[]⟩) 16 Tryd.underlying45 infoStr rfl _ _ _ (by rfl) HO2.out _ (by rfl) (by rfl) (by unfold maxLen; omega) (by omega) (by exact HB2.out.size) ?_)
            intro v' w4 ho4 hg4
            have HO4 := Lib.hid ho4
            have HB4 := Lib.hid (HB2.out.grown hg4 HB2.out.size (own_block HO2.out))
            clear ho4 hg4
            go_wp2_with fail
            go_roundw
            case rel => exact ⟨k + 1, by omega, by go_num, by rw [hst.out]; go_num, by rw [hst.out]; simpa using HO4.out, HB4.out⟩
            case measure => simp [intOf]; omega
          · have hbe : (((s[k]'hlt).toNat : Int) == ((sep[j]'hjl).toNat : Int)) = false := by
              simp only [beq_eq_false_iff_ne, ne_eq]
              intro h
              exact heq (UInt8.toNat_inj.1 (by omega))
            have HNE := Lib.hid heq
            clear heq
            go_wp2
            go_quiet (fail)
            go_wp2
            go_roundw
            case rel => exact ⟨j + 1, by omega, by go_num, rfl, rfl, none_step HN.out hjl HNE.out, _, rfl⟩
            case measure => simp [intOf]; omega
        · obtain rfl : j = sep.size := by omega
          have hst := Lib.hid (HNO.out (none_all HN.out))
          go_wp2
          go_roundw
          case rel => exact ⟨k + 1, by omega, by go_num, by rw [hst.out], by rw [hst.out]; exact HO.out, below_drewN HB.out _⟩
          case measure => simp [intOf]; omega
    · obtain rfl : k = s.size := by omega
      have hpp : splitP s sep = (splitAt s sep s.size).1 ++ [s.extract (splitAt s sep s.size).2 s.size] := rfl
      obtain ⟨ps, f, hpf⟩ : ∃ ps f, splitAt s sep s.size = (ps, f) := ⟨_, _, rfl⟩
      rw [hpf] at hown hle hpp ⊢
      simp only at hown hle hpp
      have HO := Lib.hid hown
      have HB := Lib.hid hb
      have HPP := Lib.hid hpp
      obtain ⟨hle1, hle2⟩ := hle
      have hs2 : w.heap.size ≤ wr.heap.size := hb.size
      clear hown hb hpf hpp
      go_wp2_with (at_builtin; refine wpList_app1 wr rfl _ _ 45 rfl w.heap.size 9 (.string ⟨#[]⟩) 16 Tryd.underlying45 infoStr rfl _ _ _ (by rfl) HO.out _ (by rfl) (by rfl) (by unfold maxLen; omega) (by omega) hs2 ?_)
      intro v' w4 ho4 hg4
      obtain ⟨A4, c4, rfl⟩ := own_shape ho4
      have HO4 := Lib.hid ho4
      have HB4 := Lib.hid (HB.out.grown hg4 hs2 (own_block HO.out))
      clear ho4 hg4
      go_wp2_with fail
      go_ret
      have hl4 : (splitP s sep).length = ps.length + 1 := by rw [HPP.out]; simp
      exact ⟨A4, c4, ret_slice hl4.symm, by rw [hl4, HPP.out]; simpa using HO4.out, HB4.out⟩

end Go.Proofs.YtjbpfgaakkkaaaaDoor
