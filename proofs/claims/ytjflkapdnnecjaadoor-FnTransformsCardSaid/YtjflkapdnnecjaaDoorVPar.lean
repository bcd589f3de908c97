/- Contracts of ParseVec, in the program and in its model. -/
import Derived.Test.YtjflkapdnnecjaaDoorProg
import Derived.Test.YtjflkapdnnecjaaDoorMem
import Derived.Test.YtjflkapdnnecjaaDoorStrS
import Derived.Test.YtjflkapdnnecjaaDoorNumP
import Derived.Test.YtjflkapdnnecjaaDoorFmt
import Derived.Test.YtjflkapdnnecjaaDoorBuilder
import Derived.Test.YtjflkapdnnecjaaDoorInts
import Derived.Test.YtjflkapdnnecjaaDoorIntS
import Derived.Test.YtjflkapdnnecjaaDoorSplit
import Derived.Test.YtjflkapdnnecjaaDoorParse
import Derived.Test.YtjflkapdnnecjaaDoorFmts
import Derived.Test.YtjflkapdnnecjaaDoorParses
import Derived.Test.YtjflkapdnnecjaaDoorRound
import Derived.Test.YtjflkapdnnecjaaDoorNumsRound
import Derived.Test.YtjflkapdnnecjaaDoorVbox
import Derived.Test.YtjflkapdnnecjaaDoorVec
import Derived.Test.YtjflkapdnnecjaaDoorVlaw
import Derived.Test.YtjflkapdnnecjaaDoorFlat
import Derived.Test.YtjflkapdnnecjaaDoorVFmt
import Derived.WalkKit
import Derived.WalkSpells
import Derived.WalkLawsBesides
import Derived.Lib.Hide
import Derived.Handy
import Derived.Deep.RegionHeld3
namespace Go.Proofs.YtjflkapdnnecjaaDoor
open Go.RowKit

/-- s is what FormatVec writes of this vector -/
def VecOf (s : ByteArray) (x y z : Int) : Prop := NumsOf s [x, y, z] ∧ okB x y z = true
/-- what ParseVec leaves -/
def VecIn (s : ByteArray) (w : World) (e : Ending) (w' : World) : Prop :=
  ∃ (b : Bool) (x y z : Int), e = .returned (.tuple #[vec x y z, .bool b]) ∧ (b = true → VecOf s x y z) ∧ (b = false → (x = 0 ∧ y = 0 ∧ z = 0) ∧ ∀ p q r, ¬ VecOf s p q r) ∧ Below w.heap.size w w'
theorem vecOf_inj {s : ByteArray} {x y z p q r : Int} (h : VecOf s x y z) (h' : VecOf s p q r) : x = p ∧ y = q ∧ z = r := by
  have := nums_inj h.1 h'.1
  simpa using this
theorem not_vec {s : ByteArray} {x y z : Int} (h : NumsOf s [x, y, z]) (hk : ¬ okB x y z = true) : ∀ p q r, ¬ VecOf s p q r := fun p q r h' => by
  obtain ⟨rfl, rfl, rfl⟩ : x = p ∧ y = q ∧ z = r := by simpa using nums_inj h h'.1
  exact hk h'.2
theorem fmts_of_nums {s : ByteArray} {xs : List Int} (h : NumsOf s xs) : fmtsP xs = s := by
  rcases h with ⟨rfl, rfl⟩ | ⟨hd, hl, hi⟩
  · unfold fmtsP; rw [if_pos rfl]; rfl
  · have hn : ∀ i (h : i < xs.length), IsNum ((splitP s comma)[i]'(by omega)) xs[i] := fun i h => by
      have := hi i h
      simpa [List.getD, h, show i < (splitP s comma).length by omega] using this
    have hm : xs.map fmtP = splitP s comma := List.ext_getElem (by simpa using hl) (fun i h1 h2 => by
      rw [List.getElem_map]
      exact num_fmt (hn i (by simpa using h1)))
    have hne : xs ≠ [] := fun e => by
      subst e
      unfold splitP at hl
      simp at hl
    have hr : ∀ x ∈ xs, InR x := fun x hx => by
      obtain ⟨i, h, rfl⟩ := List.getElem_of_mem hx
      exact ⟨(hn i h).1, (hn i h).2.1⟩
    unfold fmtsP
    rw [if_neg hne, if_pos hr, hm]
    exact join_of_split 44 s
theorem nums3_ne {s : ByteArray} {x y z : Int} (h : NumsOf s [x, y, z]) : s ≠ ⟨#[]⟩ := by
  intro e
  subst e
  rcases h with ⟨_, h⟩ | ⟨_, hl, _⟩
  · cases h
  · have := parts_len ⟨#[]⟩ comma
    have h0 : (⟨#[]⟩ : ByteArray).size = 0 := rfl
    simp only [List.length_cons, List.length_nil] at hl
    omega

set_option maxHeartbeats 4000000 in
theorem parseVec_any (s : ByteArray) (w : World) (hs : s.size ≤ 1048576) (hp : Pow w) (hE : Errs w) :
    Calls Tryd.prog 32 #[.string s] w (VecIn s w) := by
  have HR : Vbox (w.alloc (.cells #[.int .i64 0, .int .i64 0, .int .i64 0] 24)) w.heap.size 0 0 0 := Vbox.new w 0 0 0 _
  have HW : Below w.heap.size w (w.alloc (.cells #[.int .i64 0, .int .i64 0, .int .i64 0] 24)) := (Below.refl _ _).alloc (Nat.le_refl _) _
  have HP := Lib.hid (hp.later HW)
  have HE := Lib.hid (hE.later HW)
  clear hp hE
  go_enter Tryd.func32, Tryd.ntmps32
  go_wp2_with fail
  refine (parses_any s _ hs HP.out HE.out).mono ?_
  rintro e w1 ⟨b, xs, A, c, rfl, ho, h1, h2, hl, hb1⟩
  have HR := HR.later hb1
  have HW := bcall HW hb1 (by simp)
  have hz := HW.size
  clear hb1
  obtain ⟨r0, r1, r2, fr0, fr1, fr2⟩ := id HR
  cases b
  · obtain ⟨rfl, hno⟩ := h2 rfl
    have HNO : Hid (∀ p q r, ¬ VecOf s p q r) := Lib.hid (fun p q r h => hno _ h.1)
    clear ho h1 h2 hno hl
    go_wp2_with fail
    exact bodyPost_ret (v := .tuple #[vec 0 0 0, .bool false]) (by simp [results, Tryd.results32, go_sem, r0, r1, r2]) rfl ⟨false, 0, 0, 0, rfl, (fun h => by cases h), (fun _ => ⟨⟨rfl, rfl, rfl⟩, HNO.out⟩), bset3 HW (Nat.le_refl _)⟩
  · have hn := h1 rfl
    clear h1 h2 hl
    by_cases hlen : xs.length = 3
    · obtain ⟨x, y, z, rfl⟩ := list3 hlen
      have HNUM := Lib.hid hn
      obtain ⟨g, o, rfl, hgl, hc⟩ := (Row.of_own ho : Row I64 w1 w1.heap.size A [x, y, z]) (by simp)
      have d0 : w1.cell? ⟨g, o, none⟩ = some (.int .i64 x) := hc 0 (by simp)
      have d1 : w1.cell? ⟨g, o + 1, none⟩ = some (.int .i64 y) := hc 1 (by simp)
      have d2 : w1.cell? ⟨g, o + 2, none⟩ = some (.int .i64 z) := hc 2 (by simp)
      rw [show [x, y, z].length = 3 from rfl]
      clear hlen hn ho hc
      go_wp2_with fail
      go_region_held3 (fun w' => w'.cell? ⟨g, o, none⟩ = some (.int .i64 x) ∧ w'.cell? ⟨g, o + 1, none⟩ = some (.int .i64 y) ∧ w'.cell? ⟨g, o + 2, none⟩ = some (.int .i64 z)) (go_keep) (fail)
      clear d0 d1 d2 r0 r1 r2 fr0 fr1 fr2
      go_wp2_with fail
      refine (isValidVec_any _ _ _ _).mono ?_
      rintro e w2 ⟨rfl, hb2⟩
      have HV := ((Vbox.new w1 x y z 24).drew).later hb2
      have HR := ((HR.alloc _).drew).later hb2
      have HW := bcall ((HW.alloc hz _).drew) hb2 (by simp; omega)
      obtain ⟨r0, r1, r2, fr0, fr1, fr2⟩ := id HR
      obtain ⟨v0, v1, v2, _, _, _⟩ := id HV
      clear hb2
      by_cases hk : okB x y z = true
      · rw [hk]
        have HOF := Lib.hid (show VecOf s x y z from ⟨HNUM.out, hk⟩)
        clear hk
        go_wp2_with fail
        exact bodyPost_ret (v := .tuple #[vec x y z, .bool true]) (by simp [results, Tryd.results32, go_sem, r0, r1, r2]) rfl ⟨true, x, y, z, rfl, (fun _ => HOF.out), (fun h => by cases h), bset3 HW (Nat.le_refl _)⟩
      · rw [Bool.eq_false_iff.2 hk]
        have HNO : Hid (∀ p q r, ¬ VecOf s p q r) := Lib.hid (not_vec HNUM.out hk)
        clear hk
        go_wp2_with fail
        exact bodyPost_ret (v := .tuple #[vec 0 0 0, .bool false]) (by simp [results, Tryd.results32, go_sem, r0, r1, r2]) rfl ⟨false, 0, 0, 0, rfl, (fun h => by cases h), (fun _ => ⟨⟨rfl, rfl, rfl⟩, HNO.out⟩), bset3 HW (Nat.le_refl _)⟩
    · have hne : ((xs.length : Int) == 3) = false := by simp only [beq_eq_false_iff_ne, ne_eq]; omega
      have hne' : ((xs.length : Int) != 3) = true := by rw [bne, hne]; rfl
      have HNO : Hid (∀ p q r, ¬ VecOf s p q r) := Lib.hid (fun p q r h => hlen (by rw [nums_inj hn h.1]; rfl))
      clear hlen hn ho
      go_wp2_with fail
      exact bodyPost_ret (v := .tuple #[vec 0 0 0, .bool false]) (by simp [results, Tryd.results32, go_sem, r0, r1, r2]) rfl ⟨false, 0, 0, 0, rfl, (fun h => by cases h), (fun _ => ⟨⟨rfl, rfl, rfl⟩, HNO.out⟩), bset3 HW (Nat.le_refl _)⟩

set_option maxHeartbeats 4000000 in
theorem sParseVec_any (s : ByteArray) (w : World) (hs : s.size ≤ 1048576) :
    Calls Tryd.prog 28 #[.string s] w (VecIn s w) := by
  have HR : Vbox (w.alloc (.cells #[.int .i64 0, .int .i64 0, .int .i64 0] 24)) w.heap.size 0 0 0 := Vbox.new w 0 0 0 _
  have HW : Below w.heap.size w (w.alloc (.cells #[.int .i64 0, .int .i64 0, .int .i64 0] 24)) := (Below.refl _ _).alloc (Nat.le_refl _) _
  go_enter Tryd.func28, Tryd.ntmps28
  go_wp2_with fail
  refine (sParses_any s _ hs).mono ?_
  rintro e w1 ⟨b, xs, A, c, rfl, ho, h1, h2, hl, hb1⟩
  have HR := HR.later hb1
  have HW := bcall HW hb1 (by simp)
  have hz := HW.size
  clear hb1
  obtain ⟨r0, r1, r2, fr0, fr1, fr2⟩ := id HR
  cases b
  · obtain ⟨rfl, hno⟩ := h2 rfl
    have HNO : Hid (∀ p q r, ¬ VecOf s p q r) := Lib.hid (fun p q r h => hno _ h.1)
    clear ho h1 h2 hno hl
    go_wp2_with fail
    exact bodyPost_ret (v := .tuple #[vec 0 0 0, .bool false]) (by simp [results, Tryd.results28, go_sem, r0, r1, r2]) rfl ⟨false, 0, 0, 0, rfl, (fun h => by cases h), (fun _ => ⟨⟨rfl, rfl, rfl⟩, HNO.out⟩), bset3 HW (Nat.le_refl _)⟩
  · have hn := h1 rfl
    clear h1 h2 hl
    by_cases hlen : xs.length = 3
    · obtain ⟨x, y, z, rfl⟩ := list3 hlen
      have HNUM := Lib.hid hn
      obtain ⟨g, o, rfl, hgl, hc⟩ := (Row.of_own ho : Row I64 w1 w1.heap.size A [x, y, z]) (by simp)
      have d0 : w1.cell? ⟨g, o, none⟩ = some (.int .i64 x) := hc 0 (by simp)
      have d1 : w1.cell? ⟨g, o + 1, none⟩ = some (.int .i64 y) := hc 1 (by simp)
      have d2 : w1.cell? ⟨g, o + 2, none⟩ = some (.int .i64 z) := hc 2 (by simp)
      rw [show [x, y, z].length = 3 from rfl]
      clear hlen hn ho hc
      go_wp2_with fail
      go_region_held3 (fun w' => w'.cell? ⟨g, o, none⟩ = some (.int .i64 x) ∧ w'.cell? ⟨g, o + 1, none⟩ = some (.int .i64 y) ∧ w'.cell? ⟨g, o + 2, none⟩ = some (.int .i64 z)) (go_keep) (fail)
      clear d0 d1 d2 r0 r1 r2 fr0 fr1 fr2
      go_wp2_with fail
      refine (sFormatVec_any _ _ _ _).mono ?_
      rintro e w2 ⟨rfl, hb2⟩
      have HV := ((Vbox.new w1 x y z 24).drew).later hb2
      have HR := ((HR.alloc _).drew).later hb2
      have HW := bcall ((HW.alloc hz _).drew) hb2 (by simp; omega)
      obtain ⟨r0, r1, r2, fr0, fr1, fr2⟩ := id HR
      obtain ⟨v0, v1, v2, _, _, _⟩ := id HV
      clear hb2
      by_cases hk : okB x y z = true
      · rw [show fmtV x y z = s from (if_pos hk).trans (fmts_of_nums HNUM.out)]
        have HOF := Lib.hid (show VecOf s x y z from ⟨HNUM.out, hk⟩)
        clear hk
        go_wp2_with fail
        exact bodyPost_ret (v := .tuple #[vec x y z, .bool true]) (by simp [results, Tryd.results28, go_sem, r0, r1, r2]) rfl ⟨true, x, y, z, rfl, (fun _ => HOF.out), (fun h => by cases h), bset3 HW (Nat.le_refl _)⟩
      · obtain ⟨fs, hfs⟩ : ∃ fs, fs = fmtV x y z := ⟨_, rfl⟩
        rw [← hfs]
        have hne : fs ≠ s := by rw [hfs, show fmtV x y z = ⟨#[]⟩ from if_neg hk]; exact (nums3_ne HNUM.out).symm
        have hbf : (fs.toList == s.toList) = false := by rw [str_beq]; exact decide_eq_false hne
        have hbf' : (fs.toList != s.toList) = true := by rw [bne, hbf]; rfl
        have HNO : Hid (∀ p q r, ¬ VecOf s p q r) := Lib.hid (not_vec HNUM.out hk)
        clear hk hne hfs
        go_wp2_with fail
        exact bodyPost_ret (v := .tuple #[vec 0 0 0, .bool false]) (by simp [results, Tryd.results28, go_sem, r0, r1, r2]) rfl ⟨false, 0, 0, 0, rfl, (fun h => by cases h), (fun _ => ⟨⟨rfl, rfl, rfl⟩, HNO.out⟩), bset3 HW (Nat.le_refl _)⟩
    · have hne : ((xs.length : Int) == 3) = false := by simp only [beq_eq_false_iff_ne, ne_eq]; omega
      have hne' : ((xs.length : Int) != 3) = true := by rw [bne, hne]; rfl
      have HNO : Hid (∀ p q r, ¬ VecOf s p q r) := Lib.hid (fun p q r h => hlen (by rw [nums_inj hn h.1]; rfl))
      clear hlen hn ho
      go_wp2_with fail
      exact bodyPost_ret (v := .tuple #[vec 0 0 0, .bool false]) (by simp [results, Tryd.results28, go_sem, r0, r1, r2]) rfl ⟨false, 0, 0, 0, rfl, (fun h => by cases h), (fun _ => ⟨⟨rfl, rfl, rfl⟩, HNO.out⟩), bset3 HW (Nat.le_refl _)⟩

end Go.Proofs.YtjflkapdnnecjaaDoor
