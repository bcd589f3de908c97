/- When a text is that of a patch: FormatPatch and its inverse, as words alone. -/
import Derived.Test.YtjflkapdnnecjaaDoorProg
import Derived.Test.YtjflkapdnnecjaaDoorSplit
import Derived.Test.YtjflkapdnnecjaaDoorFmts
import Derived.Test.YtjflkapdnnecjaaDoorParses
import Derived.Test.YtjflkapdnnecjaaDoorRound
import Derived.Test.YtjflkapdnnecjaaDoorNumsRound
import Derived.Test.YtjflkapdnnecjaaDoorVFmt
import Derived.Test.YtjflkapdnnecjaaDoorVPar
import Derived.Test.YtjflkapdnnecjaaDoorVec
import Derived.Test.YtjflkapdnnecjaaDoorArr
import Derived.Test.YtjflkapdnnecjaaDoorTr
import Derived.Test.YtjflkapdnnecjaaDoorRowC
import Derived.Test.YtjflkapdnnecjaaDoorPat
import Derived.Test.YtjflkapdnnecjaaDoorPFmt
import Derived.WalkKit
import Derived.WalkSpells
import Derived.WalkLawsBesides
import Derived.Lib.Hide
import Derived.Lib.IndexLaws
namespace Go.Proofs.YtjflkapdnnecjaaDoor
open Go.RowKit

/-- s is what FormatPatch writes of this patch -/
def PatOf (s : ByteArray) (ps : List V3) : Prop := ps.length = 4 ∧ (splitP s spc).length = 4 ∧ ∀ i (h : i < ps.length) (h' : i < (splitP s spc).length), VecOf (splitP s spc)[i] ps[i].1 ps[i].2.1 ps[i].2.2
theorem patOf_inj {s : ByteArray} {ps qs : List V3} (h : PatOf s ps) (h' : PatOf s qs) : ps = qs := by
  refine List.ext_getElem (h.1.trans h'.1.symm) (fun i h1 h2 => ?_)
  have hi : i < (splitP s spc).length := by rw [h.2.1]; have := h.1; omega
  obtain ⟨e1, e2, e3⟩ := vecOf_inj (h.2.2 i h1 hi) (h'.2.2 i h2 hi)
  exact Prod.ext e1 (Prod.ext e2 e3)
theorem bytes_extP {a b : ByteArray} (h : a.data.toList = b.data.toList) : a = b := ByteArray.ext (Array.ext' h)
theorem fmt_nospc {x : Int} (h : InR x) : ∀ b ∈ (fmtP x).data.toList, b ≠ 32 := by
  rw [fmt_bytes h]
  intro b hb he
  subst he
  rcases itoa_cases x with ⟨_, e⟩ | ⟨_, e⟩ <;> rw [e] at hb
  · rcases List.mem_cons.1 hb with hb | hb
    · cases hb
    · have := digits_all _ _ hb; simp at this
  · have := digits_all _ _ hb; simp at this
theorem join_nospc : ∀ (l : List Int), (∀ x ∈ l, InR x) → ∀ b ∈ joinL 44 (l.map fmtP), b ≠ 32
  | [], _, b, hb => by cases hb
  | [x], hr, b, hb => fmt_nospc (hr x (by simp)) b hb
  | x :: y :: r, hr, b, hb => by
    have hb : b ∈ (fmtP x).data.toList ++ 44 :: joinL 44 ((y :: r).map fmtP) := hb
    rcases List.mem_append.1 hb with hb | hb
    · exact fmt_nospc (hr x (by simp)) b hb
    · rcases List.mem_cons.1 hb with hb | hb
      · subst hb; decide
      · exact join_nospc (y :: r) (fun z hz => hr z (by simp [hz])) b hb
theorem okB_inRP {x y z : Int} (h : okB x y z = true) : ∀ v ∈ [x, y, z], InR v := fun v hv => by
  have := (okB_iff x y z).1 h
  simp only [List.mem_cons, List.not_mem_nil, or_false] at hv
  rcases hv with rfl | rfl | rfl <;> exact ⟨by omega, by omega⟩
theorem fmtC_ok {v : V3} (h : okV v = true) : fmtC v = fmtsP [v.1, v.2.1, v.2.2] := if_pos h
theorem fmtC_nospc {v : V3} (h : okV v = true) : ∀ b ∈ (fmtC v).data.toList, b ≠ 32 := by
  rw [fmtC_ok h]
  have hr := okB_inRP (x := v.1) (y := v.2.1) (z := v.2.2) h
  have e : fmtsP [v.1, v.2.1, v.2.2] = joinP ([v.1, v.2.1, v.2.2].map fmtP) (oneB 44) := by
    unfold fmtsP
    rw [if_neg (by simp), if_pos hr]; rfl
  rw [e, joinP_list 44 _ (by simp)]
  exact join_nospc _ hr
theorem vecOf_fmtC {v : V3} (h : okV v = true) : VecOf (fmtC v) v.1 v.2.1 v.2.2 := by
  rw [fmtC_ok h]
  exact ⟨nums_fmts _ (okB_inRP h), h⟩
theorem fmtC_of {p : ByteArray} {v : V3} (h : VecOf p v.1 v.2.1 v.2.2) : fmtC v = p := by
  rw [fmtC_ok (v := v) h.2]
  exact fmts_of_nums h.1
theorem pat_ok {s : ByteArray} {ps : List V3} (h : PatOf s ps) : okP ps = true := List.all_eq_true.2 fun v hv => by
  obtain ⟨i, hi, rfl⟩ := List.getElem_of_mem hv
  exact (h.2.2 i hi (by rw [h.2.1]; have := h.1; omega)).2
theorem fmt_of_pat {s : ByteArray} {ps : List V3} (h : PatOf s ps) : fmtQ ps = s := by
  have e : ps.map fmtC = splitP s spc := List.ext_getElem (by rw [List.length_map, h.1, h.2.1]) (fun i h1 h2 => by
    rw [List.getElem_map]
    exact fmtC_of (h.2.2 i (by simpa using h1) h2))
  unfold fmtQ
  rw [if_pos (pat_ok h), e]
  exact join_of_split 32 s
theorem pat_of_fmt {s : ByteArray} {ps : List V3} (hl : ps.length = 4) (ho : okP ps = true) (h : fmtQ ps = s) : PatOf s ps := by
  have ha : ∀ v ∈ ps, okV v = true := List.all_eq_true.1 ho
  unfold fmtQ at h
  rw [if_pos ho] at h
  have hs : splitP s spc = ps.map fmtC := by
    rw [← h]
    exact split_of_join 32 (ps.map fmtC) (by intro e; have := congrArg List.length e; simp [hl] at this) (fun x hx b hb => by
      obtain ⟨v, hv, rfl⟩ := List.mem_map.1 hx
      exact fmtC_nospc (ha v hv) b hb)
  refine ⟨hl, by rw [hs]; simpa using hl, fun i h1 h2 => ?_⟩
  have e : (splitP s spc)[i] = fmtC ps[i] := by simp [hs]
  rw [e]
  exact vecOf_fmtC (ha _ (List.getElem_mem _))
theorem pat_ne {s : ByteArray} {ps : List V3} (h : PatOf s ps) : s ≠ ⟨#[]⟩ := fun e => by
  subst e
  have := parts_len ⟨#[]⟩ spc
  have h0 : (⟨#[]⟩ : ByteArray).size = 0 := rfl
  have := h.2.1
  omega
/-- what ParsePatch leaves -/
def PatIn (s : ByteArray) (w : World) (e : Ending) (w' : World) : Prop :=
  ((∃ a0 a1 a2 a3 a4 a5 a6 a7 a8 x y z : Int, e = .returned (.tuple #[tr a0 a1 a2 a3 a4 a5 a6 a7 a8 x y z, .bool true]) ∧ PatOf s [(a0, a1, a2), (a3, a4, a5), (a6, a7, a8), (x, y, z)]) ∨ (e = .returned (.tuple #[tr 0 0 0 0 0 0 0 0 0 0 0 0, .bool false]) ∧ ∀ ps, ¬ PatOf s ps)) ∧ Below w.heap.size w w'
theorem list4V {ps : List V3} (h : ps.length = 4) : ∃ a0 a1 a2 a3 a4 a5 a6 a7 a8 x y z : Int, ps = [(a0, a1, a2), (a3, a4, a5), (a6, a7, a8), (x, y, z)] := by
  match ps, h with
  | [(b0, b1, b2), (b3, b4, b5), (b6, b7, b8), (b9, b10, b11)], _ => exact ⟨b0, b1, b2, b3, b4, b5, b6, b7, b8, b9, b10, b11, rfl⟩
/-- the corners that have been read, the rest zero -/
def padV (vs : List V3) : List V3 := vs ++ List.replicate (4 - vs.length) (0, 0, 0)
theorem padV_nil : padV [] = [(0, 0, 0), (0, 0, 0), (0, 0, 0), (0, 0, 0)] := rfl
theorem padV_len {vs : List V3} (h : vs.length ≤ 4) : (padV vs).length = 4 := by simp [padV]; omega
theorem padV_at {vs : List V3} (h : vs.length < 4) : (padV vs)[vs.length]? = some (0, 0, 0) := by
  unfold padV
  rw [List.getElem?_append_right (Nat.le_refl _), Nat.sub_self, List.getElem?_replicate, if_pos (by omega)]
theorem padV_step {vs : List V3} (h : vs.length < 4) (v : V3) : (padV vs).set vs.length v = padV (vs ++ [v]) := by
  unfold padV
  rw [List.set_append_right _ _ (Nat.le_refl _), Nat.sub_self, show 4 - vs.length = (4 - (vs.length + 1)) + 1 by omega, List.replicate_succ, List.set_cons_zero, List.length_append, List.append_assoc]
  rfl
theorem padV_all {vs : List V3} (h : vs.length = 4) : padV vs = vs := by simp [padV, h]
theorem Held.laterP {w W W' : World} {bs : List (Nat × List Value)} {B : Nat} (h : Held w W bs) (hb : Below B W W') (hB : w.heap.size ≤ B) (hk : ∀ p ∈ bs, p.1 < B) : Held w W' bs :=
  ⟨h.1.trans (hb.mono hB), fun i k vs e => (h.2 i k vs e).keep fun _ => hb.block k (hk (k, vs) (List.mem_of_getElem? e))⟩
end Go.Proofs.YtjflkapdnnecjaaDoor
