/- Contracts of ParseInt, in the program and in its model. -/
import Derived.Test.YtnjncihnhjaddabDoorProg
import Derived.Test.YtnjncihnhjaddabDoorMem
import Derived.Test.YtnjncihnhjaddabDoorStrS
import Derived.Test.YtnjncihnhjaddabDoorShelf
import Derived.Test.YtnjncihnhjaddabDoorNumP
import Derived.Test.YtnjncihnhjaddabDoorIn
import Derived.Test.YtnjncihnhjaddabDoorFmt
import Derived.WalkKit
import Derived.WalkSpells
import Derived.WalkLawsBesides
import Derived.Lib.Hide
import Derived.WalkSmall
import Derived.Lib.LaidTab
import Derived.Lib.AtoiErrMem
import Derived.Laws.Closers25b
namespace Go.Proofs.YtnjncihnhjaddabDoor
open Go.RowKit

/-- what a call that reads a number out of a text leaves -/
def NumIn (s : ByteArray) (w : World) (e : Ending) (w' : World) : Prop :=
  ∃ (m : Int) (b : Bool), e = .returned (.tuple #[.int .i64 m, .bool b]) ∧ (b = true → IsNum s m) ∧ (b = false → m = 0 ∧ ∀ k, ¬ IsNum s k) ∧ Below w.heap.size w w'
theorem NumIn.no {s : ByteArray} {w w' : World} (h : ∀ k, ¬ IsNum s k) (hb : Below w.heap.size w w') : NumIn s w (.returned (.tuple #[.int .i64 0, .bool false])) w' :=
  ⟨0, false, rfl, (fun h => by cases h), fun _ => ⟨rfl, h⟩, hb⟩
theorem NumIn.yes {s : ByteArray} {w w' : World} {m : Int} (h : IsNum s m) (hb : Below w.heap.size w w') : NumIn s w (.returned (.tuple #[.int .i64 m, .bool true])) w' :=
  ⟨m, true, rfl, (fun _ => h), (fun h => by cases h), hb⟩
theorem str_toList (s : ByteArray) : s.toList = s.data.toList := ByteArray.toList_eq s
theorem str_beq (a b : ByteArray) : (a.toList == b.toList) = decide (a = b) := by
  rw [str_toList, str_toList, Bool.eq_iff_iff, beq_iff_eq, decide_eq_true_eq]
  exact ⟨fun h => ByteArray.ext (Array.ext' h), fun h => by rw [h]⟩

theorem gSyn : Tryd.prog.globalNamed "strconv.ErrSyntax" = some 0 := by kernel_rfl
theorem gRan : Tryd.prog.globalNamed "strconv.ErrRange" = some 1 := by kernel_rfl
/-- the library's two errors hold something -/
def Errs (w : World) : Prop := (∃ tp p, w.var? Tryd.prog "strconv.ErrSyntax" = some #[.iface tp p]) ∧ ∃ tp p, w.var? Tryd.prog "strconv.ErrRange" = some #[.iface tp p]
theorem var_later {w w' : World} {n : String} {g : Nat} {cs : Array Value} (hg : Tryd.prog.globalNamed n = some g) (h : w.var? Tryd.prog n = some cs) (hb : Below w.heap.size w w') : w'.var? Tryd.prog n = some cs := by
  refine var?_below hb hg ?_ h
  rcases Nat.lt_or_ge g w.heap.size with hl | hl
  · exact hl
  · unfold World.var? at h
    rw [hg, Option.bind_some, Array.getElem?_eq_none hl] at h
    cases h
theorem errs_lt {w : World} (h : Errs w) : 0 < w.heap.size ∧ 1 < w.heap.size := by
  have aux : ∀ (n : String) (g : Nat) (cs : Array Value), Tryd.prog.globalNamed n = some g → w.var? Tryd.prog n = some cs → g < w.heap.size := fun n g cs hg h => by
    rcases Nat.lt_or_ge g w.heap.size with hl | hl
    · exact hl
    · unfold World.var? at h
      rw [hg, Option.bind_some, Array.getElem?_eq_none hl] at h
      cases h
  obtain ⟨⟨t1, p1, h1⟩, t2, p2, h2⟩ := h
  exact ⟨aux _ _ _ gSyn h1, aux _ _ _ gRan h2⟩
theorem errs_below {w0 w w' : World} {B : Nat} (h : Errs w) (hb : Below B w w') (hl : 0 < w0.heap.size ∧ 1 < w0.heap.size) (hB : w0.heap.size ≤ B) : Errs w' := by
  obtain ⟨⟨t1, p1, h1⟩, t2, p2, h2⟩ := h
  exact ⟨⟨t1, p1, var?_below hb gSyn (by omega) h1⟩, t2, p2, var?_below hb gRan (by omega) h2⟩
theorem Errs.later {w w' : World} (h : Errs w) (hb : Below w.heap.size w w') : Errs w' := by
  obtain ⟨⟨t1, p1, h1⟩, t2, p2, h2⟩ := h
  exact ⟨⟨t1, p1, var_later gSyn h1 hb⟩, t2, p2, var_later gRan h2 hb⟩
/-- strconv.Atoi: a number and no error, or an error -/
def AtoiOut (s : ByteArray) (w : World) (e : Ending) (w' : World) : Prop :=
  Below w.heap.size w w' ∧ ((∃ v, Lib.atoiAll s.data.toList = .ok v ∧ e = .returned (.tuple #[.int .i64 v, .nilIface])) ∨
    ((∀ v, Lib.atoiAll s.data.toList ≠ .ok v) ∧ ∃ x N T, e = .returned (.tuple #[.int .i64 x, .iface T (.pointer (some ⟨N, 0, none⟩))])))
theorem atoi_any (s : ByteArray) (w : World) (hs : s.size ≤ 1048576) (hE : Errs w) : Calls Tryd.prog 19 #[.string s] w (AtoiOut s w) := by
  obtain ⟨⟨t1, p1, h1⟩, t2, p2, h2⟩ := hE
  rcases ha : Lib.atoiAll s.data.toList with v | _ | _
  · refine (Tryd.strconv_Atoi_ok s (by omega) v ha w).mono ?_
    rintro e w' ⟨rfl, hw⟩
    refine ⟨?_, .inl ⟨v, ha, rfl⟩⟩
    rcases hw with rfl | ⟨t, rfl⟩
    · exact Below.refl _ _
    · exact Lib.bytesWorld_below _ _ _
  · refine (Any.strconv_Atoi_syntax_var Tryd.laysC172 s (by omega) ha t1 p1 w h1).mono ?_
    rintro e w' ⟨N, rfl, _, _, hb⟩
    exact ⟨hb, .inr ⟨(fun v h => by rw [ha] at h; cases h), _, N, _, rfl⟩⟩
  · refine (Any.strconv_Atoi_range_var Tryd.laysC172 s (by omega) ha t2 p2 w h2).mono ?_
    rintro e w' ⟨N, rfl, _, _, hb⟩
    exact ⟨hb, .inr ⟨(fun v h => by rw [ha] at h; cases h), _, N, _, rfl⟩⟩
set_option maxHeartbeats 1000000 in
theorem parse_any (s : ByteArray) (w : World) (hs : s.size ≤ 1048576) (hp : Pow w) (hE : Errs w) :
    Calls Tryd.prog 6 #[.string s] w (NumIn s w) := by
  have HP := Lib.hid hp
  have HE := Lib.hid hE
  clear hp hE
  go_enter Tryd.func6, Tryd.ntmps6
  go_wp2_with fail
  refine (atoi_any s _ hs HE.out).mono ?_
  rintro e w1 ⟨hb1, ⟨v, hv, rfl⟩ | ⟨hno, x, N, T, rfl⟩⟩
  · have HP1 := Lib.hid (HP.out.later hb1)
    have HB1 := Lib.hid hb1
    have HV := Lib.hid hv
    clear hb1 hv HP HE
    go_wp2_with fail
    refine (format_any v _ HP1.out).mono ?_
    rintro e w2 ⟨rfl, hb2⟩
    have HB2 := Lib.hid (HB1.out.trans (hb2.mono HB1.out.size))
    clear hb2 HB1 HP1
    obtain ⟨fs, hfs⟩ : ∃ fs, fs = fmtP v := ⟨_, rfl⟩
    rw [← hfs]
    have HFS := Lib.hid hfs
    clear hfs
    have hbe := str_beq fs s
    by_cases heq : fs = s
    · subst heq
      go_wp2_with fail
      go_ret2
      refine NumIn.yes (fmt_num HFS.out.symm ?_) HB2.out
      rcases Nat.eq_zero_or_pos fs.size with h0 | h0
      · have := HV.out
        have e : fs.data.toList = [] := List.eq_nil_of_length_eq_zero (by rw [Array.length_toList]; exact h0)
        rw [e] at this
        cases this
      · exact h0
    · have hbf : (fs.toList == s.toList) = false := by rw [str_beq]; exact decide_eq_false heq
      have hbf' : (fs.toList != s.toList) = true := by rw [bne, hbf]; rfl
      have HQ := Lib.hid heq
      clear heq hbe
      go_wp2_with fail
      go_ret2
      refine NumIn.no (fun k hk => ?_) HB2.out
      have e1 := atoi_num hk
      rw [HV.out] at e1
      injection e1 with e1
      subst e1
      exact HQ.out (HFS.out.trans (num_fmt hk))
  · have HB1 := Lib.hid hb1
    have HNO := Lib.hid hno
    clear hb1 hno HP HE
    go_wp2_with fail
    go_ret2
    exact NumIn.no (fun k hk => HNO.out k (atoi_num hk)) HB1.out



end Go.Proofs.YtnjncihnhjaddabDoor
