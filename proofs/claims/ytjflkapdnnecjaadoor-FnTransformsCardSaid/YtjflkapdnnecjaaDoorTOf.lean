/- When a text is that of a transform: FormatTransform and its inverse, as words alone. -/
import Derived.Test.YtjflkapdnnecjaaDoorProg
import Derived.Test.YtjflkapdnnecjaaDoorFmts
import Derived.Test.YtjflkapdnnecjaaDoorParses
import Derived.Test.YtjflkapdnnecjaaDoorRound
import Derived.Test.YtjflkapdnnecjaaDoorNumsRound
import Derived.Test.YtjflkapdnnecjaaDoorVFmt
import Derived.Test.YtjflkapdnnecjaaDoorVPar
import Derived.Test.YtjflkapdnnecjaaDoorArr
import Derived.Test.YtjflkapdnnecjaaDoorTr
import Derived.Test.YtjflkapdnnecjaaDoorTFmt
import Derived.WalkKit
import Derived.WalkSpells
import Derived.WalkLawsBesides
import Derived.Lib.Hide
import Derived.Lib.IndexLaws
namespace Go.Proofs.YtjflkapdnnecjaaDoor
open Go.RowKit

/-- s is what FormatTransform writes of this transform -/
def TrOf (s : ByteArray) (ms : List Int) (x y z : Int) : Prop :=
  ∃ k : Nat, k < s.size ∧ Lib.indexByte s.data.toList 59 = (k : Int) ∧ NumsOf (s.extract 0 k) ms ∧ ms.length = 9 ∧ okM ms = true ∧ VecOf (s.extract (k + 1) s.size) x y z
theorem trOf_inj {s : ByteArray} {ms ns : List Int} {x y z p q r : Int} (h : TrOf s ms x y z) (h' : TrOf s ns p q r) : ms = ns ∧ x = p ∧ y = q ∧ z = r := by
  obtain ⟨k, _, hk, hn, _, _, hv⟩ := h
  obtain ⟨k', _, hk', hn', _, _, hv'⟩ := h'
  obtain rfl : k = k' := by omega
  exact ⟨nums_inj hn hn', vecOf_inj hv hv'⟩
theorem bytes_ext {a b : ByteArray} (h : a.data.toList = b.data.toList) : a = b := ByteArray.ext (Array.ext' h)
theorem append_list (a b : ByteArray) : (a ++ b).data.toList = a.data.toList ++ b.data.toList := by simp
/-- a text parted at its first separator -/
theorem parted {s : ByteArray} {k : Nat} (hk : k < s.size) (h : Lib.indexByte s.data.toList 59 = (k : Int)) : (s.extract 0 k ++ semi) ++ s.extract (k + 1) s.size = s := by
  have hl := (Lib.indexByte_some h).1
  apply bytes_ext
  have hz : s.data.toList.length = s.size := (size_list s).symm
  rw [append_list, append_list, extract_list, extract_list, show semi.data.toList = [59] from rfl, List.drop_zero, List.take_of_length_le (show s.data.toList.length ≤ s.size by omega)]
  have e : s.data.toList.drop k = 59 :: s.data.toList.drop (k + 1) := by
    rw [List.drop_eq_getElem_cons (by omega)]
    have := List.getElem?_eq_some_iff.1 hl
    rw [this.2]
  rw [List.append_assoc, List.singleton_append, ← e, List.take_append_drop]
theorem index_app : ∀ (l r : List UInt8), (∀ b ∈ l, b ≠ 59) → Lib.indexByte (l ++ 59 :: r) 59 = (l.length : Int)
  | [], r, _ => by simp [Lib.indexByte]
  | b :: l, r, h => by
    have ih := index_app l r (fun c hc => h c (by simp [hc]))
    have hb : (b == 59) = false := by simpa using h b (by simp)
    show (if b == 59 then (0 : Int) else if Lib.indexByte (l ++ 59 :: r) 59 == -1 then -1 else Lib.indexByte (l ++ 59 :: r) 59 + 1) = _
    rw [hb, ih]
    have h1 : (((l.length : Nat) : Int) == -1) = false := by simp only [beq_eq_false_iff_ne, ne_eq]; omega
    rw [h1]
    simp
theorem fmt_nosemi {x : Int} (h : InR x) : ∀ b ∈ (fmtP x).data.toList, b ≠ 59 := by
  rw [fmt_bytes h]
  intro b hb he
  subst he
  rcases itoa_cases x with ⟨_, e⟩ | ⟨_, e⟩ <;> rw [e] at hb
  · rcases List.mem_cons.1 hb with hb | hb
    · cases hb
    · have := digits_all _ _ hb; simp at this
  · have := digits_all _ _ hb; simp at this
theorem join_nosemi : ∀ (l : List Int), (∀ x ∈ l, InR x) → ∀ b ∈ joinL 44 (l.map fmtP), b ≠ 59
  | [], _, b, hb => by cases hb
  | [x], hr, b, hb => fmt_nosemi (hr x (by simp)) b hb
  | x :: y :: r, hr, b, hb => by
    have hb : b ∈ (fmtP x).data.toList ++ 44 :: joinL 44 ((y :: r).map fmtP) := hb
    rcases List.mem_append.1 hb with hb | hb
    · exact fmt_nosemi (hr x (by simp)) b hb
    · rcases List.mem_cons.1 hb with hb | hb
      · subst hb; decide
      · exact join_nosemi (y :: r) (fun z hz => hr z (by simp [hz])) b hb
theorem fmts_nosemi (l : List Int) (hr : ∀ x ∈ l, InR x) : ∀ b ∈ (fmtsP l).data.toList, b ≠ 59 := by
  by_cases h0 : l = []
  · subst h0
    have e : fmtsP [] = ⟨#[45]⟩ := by unfold fmtsP; rw [if_pos rfl]
    rw [e]; decide
  · have e : fmtsP l = joinP (l.map fmtP) (oneB 44) := by
      unfold fmtsP
      rw [if_neg h0, if_pos hr]; rfl
    rw [e, joinP_list 44 _ (by simpa using h0)]
    exact join_nosemi l hr
theorem okM_inR {l : List Int} (h : okM l = true) : ∀ x ∈ l, InR x := fun x hx => by
  have := okM_mem h hx
  exact ⟨by omega, by omega⟩
theorem okB_inR {x y z : Int} (h : okB x y z = true) : ∀ v ∈ [x, y, z], InR v := fun v hv => by
  have := (okB_iff x y z).1 h
  simp only [List.mem_cons, List.not_mem_nil, or_false] at hv
  rcases hv with rfl | rfl | rfl <;> exact ⟨by omega, by omega⟩
theorem fmt_of_tr {s : ByteArray} {a0 a1 a2 a3 a4 a5 a6 a7 a8 x y z : Int} (h : TrOf s [a0, a1, a2, a3, a4, a5, a6, a7, a8] x y z) : fmtT a0 a1 a2 a3 a4 a5 a6 a7 a8 x y z = s := by
  obtain ⟨k, hk, hi, hn, _, hm, hv⟩ := h
  have ho : okT [a0, a1, a2, a3, a4, a5, a6, a7, a8] x y z = true := by unfold okT; rw [hm, hv.2]; rfl
  have e1 : fmtV x y z = fmtsP [x, y, z] := if_pos hv.2
  unfold fmtT
  rw [if_pos ho, fmts_of_nums hn, e1, fmts_of_nums hv.1]
  exact parted hk hi
theorem tr_of_fmt {s : ByteArray} {a0 a1 a2 a3 a4 a5 a6 a7 a8 x y z : Int} (ho : okT [a0, a1, a2, a3, a4, a5, a6, a7, a8] x y z = true) (h : fmtT a0 a1 a2 a3 a4 a5 a6 a7 a8 x y z = s) : TrOf s [a0, a1, a2, a3, a4, a5, a6, a7, a8] x y z := by
  have hm := okT_m ho
  have hv := okT_b ho
  have e1 : fmtV x y z = fmtsP [x, y, z] := if_pos hv
  unfold fmtT at h
  rw [if_pos ho, e1] at h
  have hn := nums_fmts _ (okM_inR hm)
  have hw := nums_fmts _ (okB_inR hv)
  have hs := fmts_nosemi _ (okM_inR hm)
  generalize fmtsP [a0, a1, a2, a3, a4, a5, a6, a7, a8] = f at h hn hs
  generalize fmtsP [x, y, z] = g at h hw
  have hl : s.data.toList = f.data.toList ++ 59 :: g.data.toList := by
    rw [← h, append_list, append_list, show semi.data.toList = [59] from rfl]; simp
  have hz : s.size = f.size + 1 + g.size := by rw [size_list s, hl, size_list f, size_list g]; simp; omega
  have hi : Lib.indexByte s.data.toList 59 = ((f.size : Nat) : Int) := by rw [hl, index_app _ _ hs, ← size_list]
  have x1 : s.extract 0 f.size = f := by
    have := extract_of (s := s) (x := f) (pre := []) (post := 59 :: g.data.toList) (by rw [hl]; rfl)
    simpa using this
  have x2 : s.extract (f.size + 1) s.size = g := by
    have := extract_of (s := s) (x := g) (pre := f.data.toList ++ [59]) (post := []) (by rw [hl]; simp)
    have hq : (f.data.toList ++ [59]).length = f.size + 1 := by rw [size_list f]; simp
    rw [hq, ← hz] at this
    exact this
  exact ⟨f.size, by omega, hi, by rw [x1]; exact hn, rfl, hm, by rw [x2]; exact ⟨hw, hv⟩⟩
theorem fmt_no {a0 a1 a2 a3 a4 a5 a6 a7 a8 x y z : Int} (ho : okT [a0, a1, a2, a3, a4, a5, a6, a7, a8] x y z = false) : fmtT a0 a1 a2 a3 a4 a5 a6 a7 a8 x y z = ⟨#[]⟩ := by
  unfold fmtT; rw [ho]; rfl
end Go.Proofs.YtjflkapdnnecjaaDoor
