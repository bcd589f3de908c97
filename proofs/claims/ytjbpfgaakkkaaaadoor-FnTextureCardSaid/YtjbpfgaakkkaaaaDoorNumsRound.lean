/- What FormatInts writes is read again by ParseInts (plain). -/
import Derived.Test.YtjbpfgaakkkaaaaDoorRound
import Derived.Test.YtjbpfgaakkkaaaaDoorParses
namespace Go.Proofs.YtjbpfgaakkkaaaaDoor
open Go.RowKit Go.Lib

theorem num_of_fmt {x : Int} (h : InR x) : IsNum (fmtP x) x := by
  unfold fmtP
  rw [if_pos (show -1000000000 ≤ x ∧ x ≤ 1000000000 from h)]
  exact ⟨h.1, h.2, rfl⟩
theorem fmt_bytes {x : Int} (h : InR x) : (fmtP x).data.toList = itoa x := by
  rw [(num_of_fmt h).2.2, strOf_list]
theorem fmt_nosep {x : Int} (h : InR x) : ∀ b ∈ (fmtP x).data.toList, b ≠ 44 := by
  rw [fmt_bytes h]
  intro b hb he
  subst he
  rcases itoa_cases x with ⟨_, e⟩ | ⟨_, e⟩ <;> rw [e] at hb
  · rcases List.mem_cons.1 hb with hb | hb
    · cases hb
    · have := digits_all _ _ hb; simp at this
  · have := digits_all _ _ hb; simp at this
theorem itoa_ne_dash (x : Int) : itoa x ≠ [45] := by
  rcases itoa_cases x with ⟨_, e⟩ | ⟨_, e⟩ <;> rw [e]
  · intro h
    injection h with _ h
    exact digits_ne _ h
  · intro h
    have := digits_all x.natAbs 45 (by rw [h]; simp)
    simp at this
theorem join_ne_dash : ∀ (l : List Int), (∀ x ∈ l, InR x) → l ≠ [] → joinL 44 (l.map fmtP) ≠ [45]
  | [], _, h => absurd rfl h
  | [x], hr, _ => by
    show (fmtP x).data.toList ≠ [45]
    rw [fmt_bytes (hr x (by simp))]
    exact itoa_ne_dash x
  | x :: y :: r, _, _ => by
    intro h
    have : (44 : UInt8) ∈ joinL 44 ((x :: y :: r).map fmtP) := by
      show (44 : UInt8) ∈ (fmtP x).data.toList ++ 44 :: joinL 44 ((y :: r).map fmtP)
      simp
    rw [h] at this
    simp at this
theorem nums_fmts (l : List Int) (hr : ∀ x ∈ l, InR x) : NumsOf (fmtsP l) l := by
  by_cases h0 : l = []
  · subst h0
    exact .inl ⟨by unfold fmtsP; rw [if_pos rfl]; rfl, rfl⟩
  · have e : fmtsP l = joinP (l.map fmtP) (oneB 44) := by
      unfold fmtsP
      rw [if_neg h0, if_pos hr]; rfl
    have hm : l.map fmtP ≠ [] := by simpa using h0
    have hs : splitP (fmtsP l) comma = l.map fmtP := by
      rw [e]
      exact split_of_join 44 (l.map fmtP) hm (fun p hp b hb => by
        obtain ⟨x, hx, rfl⟩ := List.mem_map.1 hp
        exact fmt_nosep (hr x hx) b hb)
    refine .inr ⟨fun hd => ?_, by rw [hs]; simp, fun i hi => ?_⟩
    · have h1 := joinP_list 44 (l.map fmtP) hm
      rw [← e, hd] at h1
      exact join_ne_dash l hr h0 h1.symm
    · rw [hs]
      have e1 : (l.map fmtP).getD i ByteArray.empty = fmtP l[i] := by simp [List.getD, hi]
      have e2 : l.getD i 0 = l[i] := by simp [List.getD, hi]
      rw [e1, e2]
      exact num_of_fmt (hr _ (List.getElem_mem _))
theorem fmts_size (l : List Int) (hl : l.length ≤ 1000) : (fmtsP l).size ≤ 1048576 := by
  unfold fmtsP
  split
  · decide
  · split
    · unfold joinP
      rw [strOf_size]
      have h1 := joinN_len comma (l.map fmtP) (l.map fmtP).length
      have h2 := sizeN_fmt l (l.map fmtP).length
      have h3 : comma.size = 1 := rfl
      rw [h3] at h1
      simp only [List.length_map] at h1 h2 ⊢
      omega
    · decide
end Go.Proofs.YtjbpfgaakkkaaaaDoor
