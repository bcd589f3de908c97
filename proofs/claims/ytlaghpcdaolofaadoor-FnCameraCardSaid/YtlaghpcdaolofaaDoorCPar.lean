/- Contracts of ParseCamera, in the program and in its model. -/
import Derived.Test.YtlaghpcdaolofaaDoorProg
import Derived.Test.YtlaghpcdaolofaaDoorMem
import Derived.Test.YtlaghpcdaolofaaDoorStrS
import Derived.Test.YtlaghpcdaolofaaDoorNumP
import Derived.Test.YtlaghpcdaolofaaDoorFmt
import Derived.Test.YtlaghpcdaolofaaDoorBuilder
import Derived.Test.YtlaghpcdaolofaaDoorInts
import Derived.Test.YtlaghpcdaolofaaDoorIntS
import Derived.Test.YtlaghpcdaolofaaDoorSplit
import Derived.Test.YtlaghpcdaolofaaDoorParse
import Derived.Test.YtlaghpcdaolofaaDoorFmts
import Derived.Test.YtlaghpcdaolofaaDoorParses
import Derived.Test.YtlaghpcdaolofaaDoorRound
import Derived.Test.YtlaghpcdaolofaaDoorNumsRound
import Derived.Test.YtlaghpcdaolofaaDoorVbox
import Derived.Test.YtlaghpcdaolofaaDoorVec
import Derived.Test.YtlaghpcdaolofaaDoorVlaw
import Derived.Test.YtlaghpcdaolofaaDoorFlat
import Derived.Test.YtlaghpcdaolofaaDoorVFmt
import Derived.Test.YtlaghpcdaolofaaDoorVPar
import Derived.Test.YtlaghpcdaolofaaDoorHeld
import Derived.Test.YtlaghpcdaolofaaDoorCam
import Derived.Test.YtlaghpcdaolofaaDoorCFmt
import Derived.WalkKit
import Derived.WalkSpells
import Derived.WalkLawsBesides
import Derived.Lib.Hide
import Derived.Handy
import Derived.Deep.RegionHeld3
namespace Go.Proofs.YtlaghpcdaolofaaDoor
open Go.RowKit

/-- s is what FormatCamera writes of this camera -/
def CamOf (s : ByteArray) (a b c d : Int) (e : Bool) (f g : Int) : Prop := NumsOf s [a, b, c, d, e01 e, f, g] ∧ okC a b c d f g = true
/-- what ParseCamera leaves -/
def CamIn (s : ByteArray) (w : World) (E : Ending) (w' : World) : Prop :=
  ∃ (k : Bool) (a b c d : Int) (e : Bool) (f g : Int), E = .returned (.tuple #[cam a b c d e f g, .bool k]) ∧ (k = true → CamOf s a b c d e f g) ∧
    (k = false → (a = 0 ∧ b = 0 ∧ c = 0 ∧ d = 0 ∧ e = false ∧ f = 0 ∧ g = 0) ∧ ∀ a b c d e f g, ¬ CamOf s a b c d e f g) ∧ Below w.heap.size w w'
theorem camOf_inj {s : ByteArray} {a b c d f g a' b' c' d' f' g' : Int} {e e' : Bool} (h : CamOf s a b c d e f g) (h' : CamOf s a' b' c' d' e' f' g') : a = a' ∧ b = b' ∧ c = c' ∧ d = d' ∧ e = e' ∧ f = f' ∧ g = g' := by
  have := nums_inj h.1 h'.1
  simp only [List.cons.injEq, and_true] at this
  obtain ⟨h0, h1, h2, h3, h4, h5, h6⟩ := this
  exact ⟨h0, h1, h2, h3, e01_inj h4, h5, h6⟩
theorem okC_inR {a b c d f g : Int} {e : Bool} (hk : okC a b c d f g = true) : ∀ x ∈ [a, b, c, d, e01 e, f, g], InR x := fun x hx => by
  have := (okC_iff ..).1 hk
  have he : 0 ≤ e01 e ∧ e01 e ≤ 1 := by cases e <;> simp [e01]
  simp only [List.mem_cons, List.not_mem_nil, or_false] at hx
  rcases hx with rfl | rfl | rfl | rfl | rfl | rfl | rfl <;> exact ⟨by omega, by omega⟩
theorem camOf_fmt {a b c d f g : Int} {e : Bool} (hk : okC a b c d f g = true) : CamOf (fmtK a b c d e f g) a b c d e f g := by
  refine ⟨?_, hk⟩
  rw [show fmtK a b c d e f g = fmtsP [a, b, c, d, e01 e, f, g] from if_pos hk]
  exact nums_fmts _ (okC_inR hk)
theorem fmtK_size (a b c d : Int) (e : Bool) (f g : Int) : (fmtK a b c d e f g).size ≤ 1048576 := by
  unfold fmtK
  split
  · exact fmts_size _ (by simp)
  · decide
theorem hb_refl1 (w : World) (o : Obj) : Below w.heap.size w (w.alloc o).drew := ((Below.refl _ _).alloc (Nat.le_refl _) o).drew
theorem nums7_ne {s : ByteArray} {a b c d e f g : Int} (h : NumsOf s [a, b, c, d, e, f, g]) : s ≠ ⟨#[]⟩ := by
  intro e
  subst e
  rcases h with ⟨_, h⟩ | ⟨_, hl, _⟩
  · cases h
  · have := parts_len ⟨#[]⟩ comma
    have h0 : (⟨#[]⟩ : ByteArray).size = 0 := rfl
    simp only [List.length_cons, List.length_nil] at hl
    omega
theorem good_fmt {s : ByteArray} {l0 l1 l2 l3 l4 l5 l6 : Int} {q : Bool} (h : NumsOf s [l0, l1, l2, l3, l4, l5, l6]) (hk : okC l0 l1 l2 l3 l5 l6 = true) (h4 : l4 = e01 q) : fmtK l0 l1 l2 l3 q l5 l6 = s := by
  subst h4
  rw [show fmtK l0 l1 l2 l3 q l5 l6 = fmtsP [l0, l1, l2, l3, e01 q, l5, l6] from if_pos hk]
  exact fmts_of_nums h
theorem bad_fmt {s : ByteArray} {l0 l1 l2 l3 l4 l5 l6 : Int} {q : Bool} (h : NumsOf s [l0, l1, l2, l3, l4, l5, l6]) (hg : ¬ (okC l0 l1 l2 l3 l5 l6 = true ∧ l4 = e01 q)) : fmtK l0 l1 l2 l3 q l5 l6 ≠ s := by
  intro e
  by_cases hk : okC l0 l1 l2 l3 l5 l6 = true
  · have := (camOf_fmt (e := q) hk).1
    rw [e] at this
    have := nums_inj h this
    simp only [List.cons.injEq, and_true, true_and] at this
    exact hg ⟨hk, this⟩
  · rw [show fmtK l0 l1 l2 l3 q l5 l6 = ⟨#[]⟩ from if_neg hk] at e
    exact nums7_ne h e.symm
theorem not_cam {s : ByteArray} {l0 l1 l2 l3 l4 l5 l6 : Int} (h : NumsOf s [l0, l1, l2, l3, l4, l5, l6]) (hg : ¬ (okC l0 l1 l2 l3 l5 l6 = true ∧ l4 = e01 (l4 == 1))) : ∀ a b c d e f g, ¬ CamOf s a b c d e f g := fun a b c d e f g h' => by
  have := nums_inj h h'.1
  simp only [List.cons.injEq, and_true] at this
  obtain ⟨rfl, rfl, rfl, rfl, rfl, rfl, rfl⟩ := this
  exact hg ⟨h'.2, by cases e <;> simp [e01]⟩

set_option maxHeartbeats 4000000 in
theorem parseCamera_any (s : ByteArray) (w : World) (hs : s.size ≤ 1048576) (hp : Pow w) (hE : Errs w) :
    Calls Tryd.prog 7 #[.string s] w (CamIn s w) := by
  have HR : Mbox (w.alloc (.cells #[.int .i64 0, .int .i64 0, .int .i64 0, .int .i64 0, .bool false, .int .i64 0, .int .i64 0] 24)) w.heap.size [.int .i64 0, .int .i64 0, .int .i64 0, .int .i64 0, .bool false, .int .i64 0, .int .i64 0] := Mbox.new w #[.int .i64 0, .int .i64 0, .int .i64 0, .int .i64 0, .bool false, .int .i64 0, .int .i64 0] 24
  have HW : Below w.heap.size w (w.alloc (.cells #[.int .i64 0, .int .i64 0, .int .i64 0, .int .i64 0, .bool false, .int .i64 0, .int .i64 0] 24)) := (Below.refl _ _).alloc (Nat.le_refl _) _
  have HP := Lib.hid (hp.later HW)
  have HE := Lib.hid (hE.later HW)
  clear hp hE
  go_enter Tryd.func7, Tryd.ntmps7
  go_wp2_with fail
  refine (parses_any s _ hs HP.out HE.out).mono ?_
  rintro e w1 ⟨b, xs, A, c, rfl, ho, h1, h2, hl, hb1⟩
  have HR := HR.later hb1
  have HP := Lib.hid (HP.out.later hb1)
  have HW := bcall HW hb1 (by simp)
  have hz := HW.size
  clear hb1
  have r0 := HR.c 0
  have r1 := HR.c 1
  have r2 := HR.c 2
  have r3 := HR.c 3
  have r4 := HR.c 4
  have r5 := HR.c 5
  have r6 := HR.c 6
  have fr0 := HR.f 0
  have fr1 := HR.f 1
  have fr2 := HR.f 2
  have fr3 := HR.f 3
  have fr4 := HR.f 4
  have fr5 := HR.f 5
  have fr6 := HR.f 6
  cases b
  · obtain ⟨rfl, hno⟩ := h2 rfl
    have HNO : Hid (∀ a b c d e f g, ¬ CamOf s a b c d e f g) := Lib.hid (fun a b c d e f g h => hno _ h.1)
    clear ho h1 h2 hno hl
    go_wp2_with fail
    exact bodyPost_ret (v := .tuple #[cam 0 0 0 0 false 0 0, .bool false]) (by simp [results, Tryd.results7, go_sem, r0, r1, r2, r3, r4, r5, r6]) rfl ⟨false, 0, 0, 0, 0, false, 0, 0, rfl, (fun h => by cases h), (fun _ => ⟨⟨rfl, rfl, rfl, rfl, rfl, rfl, rfl⟩, HNO.out⟩), bset7 HW (Nat.le_refl _)⟩
  · have hn := h1 rfl
    clear h1 h2 hl
    by_cases hlen : xs.length = 7
    · obtain ⟨l0, l1, l2, l3, l4, l5, l6, rfl⟩ := list7 hlen
      have HNUM := Lib.hid hn
      obtain ⟨g, o, rfl, hgl, hc⟩ := (Row.of_own ho : Row I64 w1 w1.heap.size A [l0, l1, l2, l3, l4, l5, l6]) (by simp)
      have d0 : w1.cell? ⟨g, o, none⟩ = some (.int .i64 l0) := hc 0 (by simp)
      have d1 : w1.cell? ⟨g, o + 1, none⟩ = some (.int .i64 l1) := hc 1 (by simp)
      have d2 : w1.cell? ⟨g, o + 2, none⟩ = some (.int .i64 l2) := hc 2 (by simp)
      have d3 : w1.cell? ⟨g, o + 3, none⟩ = some (.int .i64 l3) := hc 3 (by simp)
      have d4 : w1.cell? ⟨g, o + 4, none⟩ = some (.int .i64 l4) := hc 4 (by simp)
      have d5 : w1.cell? ⟨g, o + 5, none⟩ = some (.int .i64 l5) := hc 5 (by simp)
      have d6 : w1.cell? ⟨g, o + 6, none⟩ = some (.int .i64 l6) := hc 6 (by simp)
      rw [show [l0, l1, l2, l3, l4, l5, l6].length = 7 from rfl]
      clear hlen hn ho hc
      go_wp2_with fail
      go_region_held3 (fun w' => w'.cell? ⟨g, o, none⟩ = some (.int .i64 l0) ∧ w'.cell? ⟨g, o + 1, none⟩ = some (.int .i64 l1) ∧ w'.cell? ⟨g, o + 2, none⟩ = some (.int .i64 l2) ∧ w'.cell? ⟨g, o + 3, none⟩ = some (.int .i64 l3) ∧ w'.cell? ⟨g, o + 4, none⟩ = some (.int .i64 l4) ∧ w'.cell? ⟨g, o + 5, none⟩ = some (.int .i64 l5) ∧ w'.cell? ⟨g, o + 6, none⟩ = some (.int .i64 l6)) (go_keep) (fail)
      clear d0 r0 fr0 d1 r1 fr1 d2 r2 fr2 d3 r3 fr3 d4 r4 fr4 d5 r5 fr5 d6 r6 fr6
      go_wp2_with fail
      have HV := (Mbox.new w1 #[.int .i64 l0, .int .i64 l1, .int .i64 l2, .int .i64 l3, .bool (l4 == 1), .int .i64 l5, .int .i64 l6] 24).drew
      have HR := (HR.alloc (.cells #[.int .i64 l0, .int .i64 l1, .int .i64 l2, .int .i64 l3, .bool (l4 == 1), .int .i64 l5, .int .i64 l6] 24)).drew
      have HZ := (hb_refl1 w1 (.cells #[.int .i64 l0, .int .i64 l1, .int .i64 l2, .int .i64 l3, .bool (l4 == 1), .int .i64 l5, .int .i64 l6] 24))
      have HW := (HW.alloc hz (.cells #[.int .i64 l0, .int .i64 l1, .int .i64 l2, .int .i64 l3, .bool (l4 == 1), .int .i64 l5, .int .i64 l6] 24)).drew
      refine (formatCamera_any _ _ _ _ _ _ _ _ (HP.out.later HZ)).mono ?_
      rintro e w2 ⟨rfl, hb2⟩
      have HV := HV.later hb2
      have HR := HR.later hb2
      have HW := bcall HW hb2 (by simp; omega)
      clear hb2 HZ
      have r0 := HR.c 0
      have r1 := HR.c 1
      have r2 := HR.c 2
      have r3 := HR.c 3
      have r4 := HR.c 4
      have r5 := HR.c 5
      have r6 := HR.c 6
      have fr0 := HR.f 0
      have fr1 := HR.f 1
      have fr2 := HR.f 2
      have fr3 := HR.f 3
      have fr4 := HR.f 4
      have fr5 := HR.f 5
      have fr6 := HR.f 6
      have v0 := HV.c 0
      have v1 := HV.c 1
      have v2 := HV.c 2
      have v3 := HV.c 3
      have v4 := HV.c 4
      have v5 := HV.c 5
      have v6 := HV.c 6
      obtain ⟨fs, hfs⟩ : ∃ fs, fs = fmtK l0 l1 l2 l3 (l4 == 1) l5 l6 := ⟨_, rfl⟩
      rw [← hfs]
      by_cases hk : okC l0 l1 l2 l3 l5 l6 = true ∧ l4 = e01 (l4 == 1)
      · rw [hfs, good_fmt HNUM.out hk.1 hk.2]
        have HOF := Lib.hid (show CamOf s l0 l1 l2 l3 (l4 == 1) l5 l6 from ⟨by have := HNUM.out; rwa [← hk.2], hk.1⟩)
        clear hk hfs
        go_wp2_with fail
        exact bodyPost_ret (v := .tuple #[cam l0 l1 l2 l3 (l4 == 1) l5 l6, .bool true]) (by simp [results, Tryd.results7, go_sem, r0, r1, r2, r3, r4, r5, r6]) rfl ⟨true, l0, l1, l2, l3, (l4 == 1), l5, l6, rfl, (fun _ => HOF.out), (fun h => by cases h), bset7 HW (Nat.le_refl _)⟩
      · have hne : fs ≠ s := by rw [hfs]; exact bad_fmt HNUM.out hk
        have hbf : (fs.toList == s.toList) = false := by rw [str_beq]; exact decide_eq_false hne
        have hbf' : (fs.toList != s.toList) = true := by rw [bne, hbf]; rfl
        have HNO : Hid (∀ a b c d e f g, ¬ CamOf s a b c d e f g) := Lib.hid (not_cam HNUM.out hk)
        clear hk hne hfs
        go_wp2_with fail
        exact bodyPost_ret (v := .tuple #[cam 0 0 0 0 false 0 0, .bool false]) (by simp [results, Tryd.results7, go_sem, r0, r1, r2, r3, r4, r5, r6]) rfl ⟨false, 0, 0, 0, 0, false, 0, 0, rfl, (fun h => by cases h), (fun _ => ⟨⟨rfl, rfl, rfl, rfl, rfl, rfl, rfl⟩, HNO.out⟩), bset7 HW (Nat.le_refl _)⟩
    · have hne : ((xs.length : Int) == 7) = false := by simp only [beq_eq_false_iff_ne, ne_eq]; omega
      have hne' : ((xs.length : Int) != 7) = true := by rw [bne, hne]; rfl
      have HNO : Hid (∀ a b c d e f g, ¬ CamOf s a b c d e f g) := Lib.hid (fun a b c d e f g h => hlen (by rw [nums_inj hn h.1]; rfl))
      clear hlen hn ho
      go_wp2_with fail
      exact bodyPost_ret (v := .tuple #[cam 0 0 0 0 false 0 0, .bool false]) (by simp [results, Tryd.results7, go_sem, r0, r1, r2, r3, r4, r5, r6]) rfl ⟨false, 0, 0, 0, 0, false, 0, 0, rfl, (fun h => by cases h), (fun _ => ⟨⟨rfl, rfl, rfl, rfl, rfl, rfl, rfl⟩, HNO.out⟩), bset7 HW (Nat.le_refl _)⟩

set_option maxHeartbeats 4000000 in
theorem sParseCamera_any (s : ByteArray) (w : World) (hs : s.size ≤ 1048576) :
    Calls Tryd.prog 14 #[.string s] w (CamIn s w) := by
  have HR : Mbox (w.alloc (.cells #[.int .i64 0, .int .i64 0, .int .i64 0, .int .i64 0, .bool false, .int .i64 0, .int .i64 0] 24)) w.heap.size [.int .i64 0, .int .i64 0, .int .i64 0, .int .i64 0, .bool false, .int .i64 0, .int .i64 0] := Mbox.new w #[.int .i64 0, .int .i64 0, .int .i64 0, .int .i64 0, .bool false, .int .i64 0, .int .i64 0] 24
  have HW : Below w.heap.size w (w.alloc (.cells #[.int .i64 0, .int .i64 0, .int .i64 0, .int .i64 0, .bool false, .int .i64 0, .int .i64 0] 24)) := (Below.refl _ _).alloc (Nat.le_refl _) _
  go_enter Tryd.func14, Tryd.ntmps14
  go_wp2_with fail
  refine (sParses_any s _ hs).mono ?_
  rintro e w1 ⟨b, xs, A, c, rfl, ho, h1, h2, hl, hb1⟩
  have HR := HR.later hb1
  have HW := bcall HW hb1 (by simp)
  have hz := HW.size
  clear hb1
  have r0 := HR.c 0
  have r1 := HR.c 1
  have r2 := HR.c 2
  have r3 := HR.c 3
  have r4 := HR.c 4
  have r5 := HR.c 5
  have r6 := HR.c 6
  have fr0 := HR.f 0
  have fr1 := HR.f 1
  have fr2 := HR.f 2
  have fr3 := HR.f 3
  have fr4 := HR.f 4
  have fr5 := HR.f 5
  have fr6 := HR.f 6
  cases b
  · obtain ⟨rfl, hno⟩ := h2 rfl
    have HNO : Hid (∀ a b c d e f g, ¬ CamOf s a b c d e f g) := Lib.hid (fun a b c d e f g h => hno _ h.1)
    clear ho h1 h2 hno hl
    go_wp2_with fail
    exact bodyPost_ret (v := .tuple #[cam 0 0 0 0 false 0 0, .bool false]) (by simp [results, Tryd.results14, go_sem, r0, r1, r2, r3, r4, r5, r6]) rfl ⟨false, 0, 0, 0, 0, false, 0, 0, rfl, (fun h => by cases h), (fun _ => ⟨⟨rfl, rfl, rfl, rfl, rfl, rfl, rfl⟩, HNO.out⟩), bset7 HW (Nat.le_refl _)⟩
  · have hn := h1 rfl
    clear h1 h2 hl
    by_cases hlen : xs.length = 7
    · obtain ⟨l0, l1, l2, l3, l4, l5, l6, rfl⟩ := list7 hlen
      have HNUM := Lib.hid hn
      obtain ⟨g, o, rfl, hgl, hc⟩ := (Row.of_own ho : Row I64 w1 w1.heap.size A [l0, l1, l2, l3, l4, l5, l6]) (by simp)
      have d0 : w1.cell? ⟨g, o, none⟩ = some (.int .i64 l0) := hc 0 (by simp)
      have d1 : w1.cell? ⟨g, o + 1, none⟩ = some (.int .i64 l1) := hc 1 (by simp)
      have d2 : w1.cell? ⟨g, o + 2, none⟩ = some (.int .i64 l2) := hc 2 (by simp)
      have d3 : w1.cell? ⟨g, o + 3, none⟩ = some (.int .i64 l3) := hc 3 (by simp)
      have d4 : w1.cell? ⟨g, o + 4, none⟩ = some (.int .i64 l4) := hc 4 (by simp)
      have d5 : w1.cell? ⟨g, o + 5, none⟩ = some (.int .i64 l5) := hc 5 (by simp)
      have d6 : w1.cell? ⟨g, o + 6, none⟩ = some (.int .i64 l6) := hc 6 (by simp)
      rw [show [l0, l1, l2, l3, l4, l5, l6].length = 7 from rfl]
      clear hlen hn ho hc
      go_wp2_with fail
      go_region_held3 (fun w' => w'.cell? ⟨g, o, none⟩ = some (.int .i64 l0) ∧ w'.cell? ⟨g, o + 1, none⟩ = some (.int .i64 l1) ∧ w'.cell? ⟨g, o + 2, none⟩ = some (.int .i64 l2) ∧ w'.cell? ⟨g, o + 3, none⟩ = some (.int .i64 l3) ∧ w'.cell? ⟨g, o + 4, none⟩ = some (.int .i64 l4) ∧ w'.cell? ⟨g, o + 5, none⟩ = some (.int .i64 l5) ∧ w'.cell? ⟨g, o + 6, none⟩ = some (.int .i64 l6)) (go_keep) (fail)
      clear d0 r0 fr0 d1 r1 fr1 d2 r2 fr2 d3 r3 fr3 d4 r4 fr4 d5 r5 fr5 d6 r6 fr6
      go_wp2_with fail
      have HV := (Mbox.new w1 #[.int .i64 l0, .int .i64 l1, .int .i64 l2, .int .i64 l3, .bool (l4 == 1), .int .i64 l5, .int .i64 l6] 24).drew
      have HR := (HR.alloc (.cells #[.int .i64 l0, .int .i64 l1, .int .i64 l2, .int .i64 l3, .bool (l4 == 1), .int .i64 l5, .int .i64 l6] 24)).drew
      have HZ := (hb_refl1 w1 (.cells #[.int .i64 l0, .int .i64 l1, .int .i64 l2, .int .i64 l3, .bool (l4 == 1), .int .i64 l5, .int .i64 l6] 24))
      have HW := (HW.alloc hz (.cells #[.int .i64 l0, .int .i64 l1, .int .i64 l2, .int .i64 l3, .bool (l4 == 1), .int .i64 l5, .int .i64 l6] 24)).drew
      refine (sFormatCamera_any _ _ _ _ _ _ _ _).mono ?_
      rintro e w2 ⟨rfl, hb2⟩
      have HV := HV.later hb2
      have HR := HR.later hb2
      have HW := bcall HW hb2 (by simp; omega)
      clear hb2 HZ
      have r0 := HR.c 0
      have r1 := HR.c 1
      have r2 := HR.c 2
      have r3 := HR.c 3
      have r4 := HR.c 4
      have r5 := HR.c 5
      have r6 := HR.c 6
      have fr0 := HR.f 0
      have fr1 := HR.f 1
      have fr2 := HR.f 2
      have fr3 := HR.f 3
      have fr4 := HR.f 4
      have fr5 := HR.f 5
      have fr6 := HR.f 6
      have v0 := HV.c 0
      have v1 := HV.c 1
      have v2 := HV.c 2
      have v3 := HV.c 3
      have v4 := HV.c 4
      have v5 := HV.c 5
      have v6 := HV.c 6
      obtain ⟨fs, hfs⟩ : ∃ fs, fs = fmtK l0 l1 l2 l3 (l4 == 1) l5 l6 := ⟨_, rfl⟩
      rw [← hfs]
      by_cases hk : okC l0 l1 l2 l3 l5 l6 = true ∧ l4 = e01 (l4 == 1)
      · rw [hfs, good_fmt HNUM.out hk.1 hk.2]
        have HOF := Lib.hid (show CamOf s l0 l1 l2 l3 (l4 == 1) l5 l6 from ⟨by have := HNUM.out; rwa [← hk.2], hk.1⟩)
        clear hk hfs
        go_wp2_with fail
        exact bodyPost_ret (v := .tuple #[cam l0 l1 l2 l3 (l4 == 1) l5 l6, .bool true]) (by simp [results, Tryd.results14, go_sem, r0, r1, r2, r3, r4, r5, r6]) rfl ⟨true, l0, l1, l2, l3, (l4 == 1), l5, l6, rfl, (fun _ => HOF.out), (fun h => by cases h), bset7 HW (Nat.le_refl _)⟩
      · have hne : fs ≠ s := by rw [hfs]; exact bad_fmt HNUM.out hk
        have hbf : (fs.toList == s.toList) = false := by rw [str_beq]; exact decide_eq_false hne
        have hbf' : (fs.toList != s.toList) = true := by rw [bne, hbf]; rfl
        have HNO : Hid (∀ a b c d e f g, ¬ CamOf s a b c d e f g) := Lib.hid (not_cam HNUM.out hk)
        clear hk hne hfs
        go_wp2_with fail
        exact bodyPost_ret (v := .tuple #[cam 0 0 0 0 false 0 0, .bool false]) (by simp [results, Tryd.results14, go_sem, r0, r1, r2, r3, r4, r5, r6]) rfl ⟨false, 0, 0, 0, 0, false, 0, 0, rfl, (fun h => by cases h), (fun _ => ⟨⟨rfl, rfl, rfl, rfl, rfl, rfl, rfl⟩, HNO.out⟩), bset7 HW (Nat.le_refl _)⟩
    · have hne : ((xs.length : Int) == 7) = false := by simp only [beq_eq_false_iff_ne, ne_eq]; omega
      have hne' : ((xs.length : Int) != 7) = true := by rw [bne, hne]; rfl
      have HNO : Hid (∀ a b c d e f g, ¬ CamOf s a b c d e f g) := Lib.hid (fun a b c d e f g h => hlen (by rw [nums_inj hn h.1]; rfl))
      clear hlen hn ho
      go_wp2_with fail
      exact bodyPost_ret (v := .tuple #[cam 0 0 0 0 false 0 0, .bool false]) (by simp [results, Tryd.results14, go_sem, r0, r1, r2, r3, r4, r5, r6]) rfl ⟨false, 0, 0, 0, 0, false, 0, 0, rfl, (fun h => by cases h), (fun _ => ⟨⟨rfl, rfl, rfl, rfl, rfl, rfl, rfl⟩, HNO.out⟩), bset7 HW (Nat.le_refl _)⟩
end Go.Proofs.YtlaghpcdaolofaaDoor
