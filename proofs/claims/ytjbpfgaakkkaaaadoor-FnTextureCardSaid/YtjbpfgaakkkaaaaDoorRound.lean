/- Texts that are joined and split again (nothing of the program). -/
import Derived.Test.YtjbpfgaakkkaaaaDoorSplit
import Derived.Test.YtjbpfgaakkkaaaaDoorBuilder
import Derived.Lib.Strings
namespace Go.Proofs.YtjbpfgaakkkaaaaDoor
open Go.RowKit

def oneB (c : UInt8) : ByteArray := ⟨#[c]⟩
theorem one_sep (c d : UInt8) : sepB (oneB c) d = decide (d = c) := by
  unfold sepB oneB
  rw [Bool.eq_iff_iff]
  simp
/-- the parts' bytes, each with the separator behind it but the last -/
def joinL (c : UInt8) : List ByteArray → List UInt8
  | [] => []
  | [x] => x.data.toList
  | x :: y :: r => x.data.toList ++ c :: joinL c (y :: r)
def flat (c : UInt8) (ps : List ByteArray) : List UInt8 := ps.flatMap fun p => p.data.toList ++ [c]
theorem joinN_eq (c : UInt8) (xs : List ByteArray) (k : Nat) (hk : k < xs.length) : joinN (oneB c) xs (k + 1) = flat c (xs.take k) ++ xs[k].data.toList := by
  induction k with
  | zero => simp [joinN, flat, hk]
  | succ k ih =>
    have e : flat c (xs.take (k + 1)) = flat c (xs.take k) ++ (xs[k].data.toList ++ [c]) := by
      unfold flat
      rw [List.take_succ_eq_append_getElem (by omega), List.flatMap_append, List.flatMap_singleton]
    rw [joinN_step _ _ _ hk, ih (by omega), if_neg (by omega), e]
    simp [oneB]
theorem joinL_flat (c : UInt8) (ps : List ByteArray) (x : ByteArray) : joinL c (ps ++ [x]) = flat c ps ++ x.data.toList := by
  induction ps with
  | nil => rfl
  | cons p r ih =>
    cases r with
    | nil => simp [joinL, flat]
    | cons q r =>
      have : joinL c ((p :: q :: r) ++ [x]) = p.data.toList ++ c :: joinL c ((q :: r) ++ [x]) := rfl
      rw [this, ih]
      simp [flat]
theorem joinP_list (c : UInt8) (xs : List ByteArray) (h : xs ≠ []) : (joinP xs (oneB c)).data.toList = joinL c xs := by
  obtain ⟨ps, x, rfl⟩ : ∃ ps x, xs = ps ++ [x] := ⟨xs.dropLast, xs.getLast h, (List.dropLast_concat_getLast h).symm⟩
  unfold joinP strOf
  rw [show (ps ++ [x]).length = ps.length + 1 by simp, joinN_eq c (ps ++ [x]) ps.length (by simp), joinL_flat]
  simp
theorem extract_list (s : ByteArray) (a b : Nat) : (s.extract a b).data.toList = (s.data.toList.take b).drop a := by
  rw [ByteArray.data_extract, Array.toList_extract, List.extract_eq_take_drop, List.drop_take]
theorem extract_of {s x : ByteArray} {pre post : List UInt8} (h : s.data.toList = pre ++ (x.data.toList ++ post)) : s.extract pre.length (pre.length + x.size) = x := by
  apply ByteArray.ext
  apply Array.ext'
  rw [extract_list, h]
  have e : x.size = x.data.toList.length := by rw [Array.length_toList]; rfl
  rw [e, ← List.append_assoc, List.take_append_of_le_length (by simp), List.take_of_length_le (by simp), List.drop_append_of_le_length (Nat.le_refl _)]
  simp
theorem byte_at {s : ByteArray} {l : List UInt8} (h : s.data.toList = l) (i : Nat) (hi : i < s.size) : (s[i]'hi) = l[i]'(by rw [← h, Array.length_toList]; exact hi) := by
  subst h
  rw [Array.getElem_toList]; rfl
theorem size_list (s : ByteArray) : s.size = s.data.toList.length := by rw [Array.length_toList]; rfl
/-- what is joined of parts without the separator splits into them again -/
theorem split_join (c : UInt8) (s : ByteArray) : ∀ (xs ps : List ByteArray) (pre : List UInt8), xs ≠ [] → (∀ x ∈ xs, ∀ b ∈ x.data.toList, b ≠ c) → s.data.toList = pre ++ joinL c xs → splitAt s (oneB c) pre.length = (ps, pre.length) → splitP s (oneB c) = ps ++ xs
  | [], _, _, h, _, _, _ => absurd rfl h
  | [x], ps, pre, _, hx, hs, hsp => by
    have hsz : s.size = pre.length + x.size := by rw [size_list s, hs, size_list x]; simp [joinL]
    have hsk := splitAt_skip s (oneB c) pre.length x.size (by omega) (fun i hi h1 h2 => by
      rw [one_sep, byte_at hs i hi]
      refine decide_eq_false ?_
      rw [List.getElem_append_right h1]
      exact hx x (by simp) _ (List.getElem_mem _))
    rw [← hsz, hsp] at hsk
    unfold splitP
    rw [hsk]
    have he : s.extract pre.length s.size = x := by rw [hsz]; exact extract_of (post := []) (by rw [hs]; simp [joinL])
    rw [he]
  | x :: y :: r, ps, pre, _, hx, hs, hsp => by
    have hs' : s.data.toList = pre ++ (x.data.toList ++ (c :: joinL c (y :: r))) := hs
    have hsz : pre.length + x.size < s.size := by rw [size_list s, hs', size_list x]; simp
    have hsk := splitAt_skip s (oneB c) pre.length x.size (by omega) (fun i hi h1 h2 => by
      rw [one_sep, byte_at hs' i hi]
      refine decide_eq_false ?_
      rw [List.getElem_append_right h1, List.getElem_append_left (by rw [← size_list]; omega)]
      exact hx x (by simp) _ (List.getElem_mem _))
    rw [hsp] at hsk
    have hc : (s[pre.length + x.size]'hsz) = c := by
      rw [byte_at hs' _ hsz, List.getElem_append_right (by omega), List.getElem_append_right (by rw [← size_list]; omega)]
      simp only [show pre.length + x.size - pre.length - x.data.toList.length = 0 by rw [← size_list]; omega, List.getElem_cons_zero]
    have hy := splitAt_yes s (oneB c) (pre.length + x.size) hsz (by rw [one_sep, hc]; simp)
    rw [hsk] at hy
    simp only [extract_of hs'] at hy
    have := split_join c s (y :: r) (ps ++ [x]) (pre ++ (x.data.toList ++ [c])) (by simp) (fun z hz => hx z (List.mem_cons_of_mem _ hz)) (by rw [hs']; simp)
      (by
        have e : (pre ++ (x.data.toList ++ [c])).length = pre.length + x.size + 1 := by rw [size_list x]; simp; omega
        rw [e]; exact hy)
    rw [this]; simp
theorem split_of_join (c : UInt8) (xs : List ByteArray) (h : xs ≠ []) (hx : ∀ x ∈ xs, ∀ b ∈ x.data.toList, b ≠ c) : splitP (joinP xs (oneB c)) (oneB c) = xs := by
  have := split_join c (joinP xs (oneB c)) xs [] [] h hx (by rw [joinP_list c xs h]; rfl) rfl
  simpa using this
theorem flat_split (c : UInt8) (s : ByteArray) (k : Nat) (hk : k ≤ s.size) : flat c (splitAt s (oneB c) k).1 = s.data.toList.take (splitAt s (oneB c) k).2 := by
  induction k with
  | zero => simp [splitAt, flat]
  | succ k ih =>
    have ih := ih (by omega)
    have hle := (splitAt_le s (oneB c) k).1
    by_cases hb : sepB (oneB c) (s[k]'(by omega)) = true
    · rw [splitAt_yes s (oneB c) k (by omega) hb]
      rw [one_sep, decide_eq_true_eq] at hb
      have e1 : flat c ((splitAt s (oneB c) k).1 ++ [s.extract (splitAt s (oneB c) k).2 k]) = flat c (splitAt s (oneB c) k).1 ++ ((s.extract (splitAt s (oneB c) k).2 k).data.toList ++ [c]) := by simp [flat]
      rw [e1, ih, extract_list]
      have hl : k < s.data.toList.length := by rw [← size_list]; omega
      rw [List.take_succ_eq_append_getElem hl, ← List.append_assoc]
      congr 1
      · have : s.data.toList.take (splitAt s (oneB c) k).2 = (s.data.toList.take k).take (splitAt s (oneB c) k).2 := by rw [List.take_take, Nat.min_eq_left hle]
        rw [this, List.take_append_drop]
      · rw [← hb, byte_at rfl k (by omega)]
    · rw [splitAt_no s (oneB c) k (by omega) (by simpa using hb)]
      exact ih
/-- what is split joins into the text again -/
theorem join_of_split (c : UInt8) (s : ByteArray) : joinP (splitP s (oneB c)) (oneB c) = s := by
  apply ByteArray.ext
  apply Array.ext'
  unfold splitP
  rw [joinP_list c _ (by simp), joinL_flat, flat_split c s s.size (Nat.le_refl _), extract_list, List.take_of_length_le (l := s.data.toList) (i := s.size) (by rw [← size_list]; exact Nat.le_refl _), List.take_append_drop]
end Go.Proofs.YtjbpfgaakkkaaaaDoor
