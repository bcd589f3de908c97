/- Contracts of ParseInt, in the program and in its model. -/
import Derived.Test.YtjbpfgaakkkaaaaDoorProg
import Derived.Test.YtjbpfgaakkkaaaaDoorMem
import Derived.Test.YtjbpfgaakkkaaaaDoorStrS
import Derived.Test.YtjbpfgaakkkaaaaDoorShelf
import Derived.Test.YtjbpfgaakkkaaaaDoorNumP
import Derived.Test.YtjbpfgaakkkaaaaDoorIn
import Derived.Test.YtjbpfgaakkkaaaaDoorFmt
import Derived.WalkKit
import Derived.WalkSpells
import Derived.WalkLawsBesides
import Derived.Lib.Hide
import Derived.WalkSmall
import Derived.Lib.LaidTab
import Derived.Lib.AtoiErrMem
import Derived.Laws.Closers25b
namespace Go.Proofs.YtjbpfgaakkkaaaaDoor
open Go.RowKit

/-- what a call that reads a number out of a text leaves -/
def NumIn (s : ByteArray) (w : World) (e : Ending) (w' : World) : Prop :=
  ∃ (m : Int) (b : Bool), e = .returned (.tuple #[.int .i64 m, .bool b]) ∧ (b = true → IsNum s m) ∧ (b = false → m = 0 ∧ ∀ k, ¬ IsNum s k) ∧ Below w.heap.size w w'
theorem NumIn.no {s : ByteArray} {w w' : World} (h : ∀ k, ¬ IsNum s k) (hb : Below w.heap.size w w') : NumIn s w (.returned (.tuple #[.int .i64 0, .bool false])) w' :=
  ⟨0, false, rfl, (fun h => by cases h), fun _ => ⟨rfl, h⟩, hb⟩
theorem NumIn.yes {s : ByteArray} {w w' : World} {m : Int} (h : IsNum s m) (hb : Below w.heap.size w w') : NumIn s w (.returned (.tuple #[.int .i64 m, .bool true])) w' :=
  ⟨m, true, rfl, (fun _ => h), (fun h => by cases h), hb⟩
theorem str_toList (s : ByteArray) : s.toList = s.data.toList := ByteArray.toList_eq s
theorem str_beq (a b : ByteArray) : (a.toList == b.toList) = decide (a = b) := by
  rw [str_toList, str_toList, Bool.eq_iff_iff, beq_iff_eq, decide_eq_true_eq]
  exact ⟨fun h => ByteArray.ext (Array.ext' h), fun h => by rw [h]⟩

theorem gSyn : Tryd.prog.globalNamed "strconv.ErrSyntax" = some 1 := by kernel_rfl
theorem gRan : Tryd.prog.globalNamed "strconv.ErrRange" = some 2 := by kernel_rfl
/-- the library's two errors hold something -/
def Errs (w : World) : Prop := (∃ tp p, w.var? Tryd.prog "strconv.ErrSyntax" = some #[.iface tp p]) ∧ ∃ tp p, w.var? Tryd.prog "strconv.ErrRange" = some #[.iface tp p]
theorem var_later {w w' : World} {n : String} {g : Nat} {cs : Array Value} (hg : Tryd.prog.globalNamed n = some g) (h : w.var? Tryd.prog n = some cs) (hb : Below w.heap.size w w') : w'.var? Tryd.prog n = some cs := by
  refine var?_below hb hg ?_ h
  rcases Nat.lt_or_ge g w.heap.size with hl | hl
  · exact hl
  · unfold World.var? at h
    rw [hg, Option.bind_some, Array.getElem?_eq_none hl] at h
    cases h
theorem errs_lt {w : World} (h : Errs w) : 1 < w.heap.size ∧ 2 < w.heap.size := by
  have aux : ∀ (n : String) (g : Nat) (cs : Array Value), Tryd.prog.globalNamed n = some g → w.var? Tryd.prog n = some cs → g < w.heap.size := fun n g cs hg h => by
    rcases Nat.lt_or_ge g w.heap.size with hl | hl
    · exact hl
    · unfold World.var? at h
      rw [hg, Option.bind_some, Array.getElem?_eq_none hl] at h
      cases h
  obtain ⟨⟨t1, p1, h1⟩, t2, p2, h2⟩ := h
  exact ⟨aux _ _ _ gSyn h1, aux _ _ _ gRan h2⟩
theorem errs_below {w0 w w' : World} {B : Nat} (h : Errs w) (hb : Below B w w') (hl : 1 < w0.heap.size ∧ 2 < w0.heap.size) (hB : w0.heap.size ≤ B) : Errs w' := by
  obtain ⟨⟨t1, p1, h1⟩, t2, p2, h2⟩ := h
  exact ⟨⟨t1, p1, var?_below hb gSyn (by omega) h1⟩, t2, p2, var?_below hb gRan (by omega) h2⟩
theorem Errs.later {w w' : World} (h : Errs w) (hb : Below w.heap.size w w') : Errs w' := by
  obtain ⟨⟨t1, p1, h1⟩, t2, p2, h2⟩ := h
  exact ⟨⟨t1, p1, var_later gSyn h1 hb⟩, t2, p2, var_later gRan h2 hb⟩
/-- strconv.Atoi: a number and no error, or an error -/
def AtoiOut (s : ByteArray) (w : World) (e : Ending) (w' : World) : Prop :=
  Below w.heap.size w w' ∧ ((∃ v, Lib.atoiAll s.data.toList = .ok v ∧ e = .returned (.tuple #[.int .i64 v, .nilIface])) ∨
    ((∀ v, Lib.atoiAll s.data.toList ≠ .ok v) ∧ ∃ x N T, e = .returned (.tuple #[.int .i64 x, .iface T (.pointer (some ⟨N, 0, none⟩))])))
theorem atoi_any (s : ByteArray) (w : World) (hs : s.size ≤ 1048576) (hE : Errs w) : Calls Tryd.prog 50 #[.string s] w (AtoiOut s w) := by
  obtain ⟨⟨t1, p1, h1⟩, t2, p2, h2⟩ := hE
  rcases ha : Lib.atoiAll s.data.toList with v | _ | _
  · refine (Tryd.strconv_Atoi_ok s (by omega) v ha w).mono ?_
    rintro e w' ⟨rfl, hw⟩
    refine ⟨?_, .inl ⟨v, ha, rfl⟩⟩
    rcases hw with rfl | ⟨t, rfl⟩
    · exact Below.refl _ _
    · exact Lib.bytesWorld_below _ _ _
  · refine (Any.strconv_Atoi_syntax_var Tryd.laysC172 s (by omega) ha t1 p1 w h1).mono ?_
    rintro e w' ⟨N, rfl, _, _, hb⟩
    exact ⟨hb, .inr ⟨(fun v h => by rw [ha] at h; cases h), _, N, _, rfl⟩⟩
  · refine (Any.strconv_Atoi_range_var Tryd.laysC172 s (by omega) ha t2 p2 w h2).mono ?_
    rintro e w' ⟨N, rfl, _, _, hb⟩
    exact ⟨hb, .inr ⟨(fun v h => by rw [ha] at h; cases h), _, N, _, rfl⟩⟩
set_option maxHeartbeats 1000000 in
theorem parse_any (s : ByteArray) (w : World) (hs : s.size ≤ 1048576) (hp : Pow w) (hE : Errs w) :
    Calls Tryd.prog 23 #[.string s] w (NumIn s w) := by
  have HP := Lib.hid hp
  have HE := Lib.hid hE
  clear hp hE
  go_enter Tryd.func23, Tryd.ntmps23
  go_wp2_with fail
  refine (atoi_any s _ hs HE.out).mono ?_
  rintro e w1 ⟨hb1, ⟨v, hv, rfl⟩ | ⟨hno, x, N, T, rfl⟩⟩
  · have HP1 := Lib.hid (HP.out.later hb1)
    have HB1 := Lib.hid hb1
    have HV := Lib.hid hv
    clear hb1 hv HP HE
    go_wp2_with fail
    refine (format_any v _ HP1.out).mono ?_
    rintro e w2 ⟨rfl, hb2⟩
    have HB2 := Lib.hid (HB1.out.trans (hb2.mono HB1.out.size))
    clear hb2 HB1 HP1
    obtain ⟨fs, hfs⟩ : ∃ fs, fs = fmtP v := ⟨_, rfl⟩
    rw [← hfs]
    have HFS := Lib.hid hfs
    clear hfs
    have hbe := str_beq fs s
    by_cases heq : fs = s
    · subst heq
      go_wp2_with fail
      go_ret2
      refine NumIn.yes (fmt_num HFS.out.symm ?_) HB2.out
      rcases Nat.eq_zero_or_pos fs.size with h0 | h0
      · have := HV.out
        have e : fs.data.toList = [] := List.eq_nil_of_length_eq_zero (by rw [Array.length_toList]; exact h0)
        rw [e] at this
        cases this
      · exact h0
    · have hbf : (fs.toList == s.toList) = false := by rw [str_beq]; exact decide_eq_false heq
      have hbf' : (fs.toList != s.toList) = true := by rw [bne, hbf]; rfl
      have HQ := Lib.hid heq
      clear heq hbe
      go_wp2_with fail
      go_ret2
      refine NumIn.no (fun k hk => ?_) HB2.out
      have e1 := atoi_num hk
      rw [HV.out] at e1
      injection e1 with e1
      subst e1
      exact HQ.out (HFS.out.trans (num_fmt hk))
  · have HB1 := Lib.hid hb1
    have HNO := Lib.hid hno
    clear hb1 hno HP HE
    go_wp2_with fail
    go_ret2
    exact NumIn.no (fun k hk => HNO.out k (atoi_num hk)) HB1.out

/-- the digits that have been read, from behind the sign on -/
def Read (s : ByteArray) (neg : Bool) (k x : Nat) : Prop := Lib.decFrom 0 ((s.data.toList.drop (offOf neg)).take (k - offOf neg)) = some x ∧ x < 10 ^ k
theorem digit_val (c : UInt8) (h : 48 ≤ c.toNat ∧ c.toNat ≤ 57) : Lib.digitVal c = some (c.toNat - 48) := by
  have := digit_of (c.toNat - 48) (by omega)
  have e : UInt8.ofNat (48 + (c.toNat - 48)) = c := by
    rw [show 48 + (c.toNat - 48) = c.toNat by omega]
    exact UInt8.ofNat_toNat
  rw [e] at this
  exact this
theorem read_zero (s : ByteArray) (neg : Bool) (k : Nat) (h : k ≤ offOf neg) : Read s neg k 0 := by
  unfold Read
  rw [show k - offOf neg = 0 by omega]
  exact ⟨rfl, Nat.pow_pos (by omega)⟩
theorem read_step {s : ByteArray} {neg : Bool} {k x : Nat} (h : Read s neg k x) (hk : k < s.size) (ho : offOf neg ≤ k) (hd : 48 ≤ (s[k]'hk).toNat ∧ (s[k]'hk).toNat ≤ 57) : Read s neg (k + 1) (x * 10 + ((s[k]'hk).toNat - 48)) := by
  obtain ⟨h1, h2⟩ := h
  refine ⟨?_, by rw [Nat.pow_succ]; omega⟩
  have e : ((s.data.toList.drop (offOf neg)).take (k + 1 - offOf neg)) = (s.data.toList.drop (offOf neg)).take (k - offOf neg) ++ [s[k]'hk] := by
    have hl : k - offOf neg < (s.data.toList.drop (offOf neg)).length := by rw [List.length_drop, Array.length_toList]; show k - offOf neg < s.size - offOf neg; omega
    rw [show k + 1 - offOf neg = (k - offOf neg) + 1 by omega, List.take_succ_eq_append_getElem hl]
    congr 1
    rw [List.getElem_drop]
    simp only [show offOf neg + (k - offOf neg) = k by omega]
    rw [Array.getElem_toList]
    rfl
  rw [e]
  exact decFrom_snoc _ _ _ _ _ h1 (digit_val _ hd)
theorem read_all {s : ByteArray} {neg : Bool} {x : Nat} (h : Read s neg s.size x) : Lib.decFrom 0 (s.data.toList.drop (offOf neg)) = some x := by
  have := h.1
  rwa [List.take_of_length_le (by rw [List.length_drop, Array.length_toList]; exact Nat.le_refl _)] at this
def Sign (s : ByteArray) (neg : Bool) : Prop := ∀ m, IsNum s m → (neg = true ↔ m < 0)
set_option maxHeartbeats 2000000 in
theorem sParse_with (s : ByteArray) (w : World) (hs : s.size ≤ 1048576) (neg : Bool) (hsg : Sign s neg) (h1 : (0 : Int) < (s.size : Int)) (hb : (((s[0]'(by omega)).toNat : Int) == 45) = neg) :
    Calls Tryd.prog 41 #[.string s] w (NumIn s w) := by
  have HSG := Lib.hid hsg
  clear hsg
  go_enter Tryd.func41, Tryd.ntmps41
  go_wp2
  go_loop [4, 6] (fun n i => ∃ (k x : Nat), k ≤ s.size ∧ i = .int .i64 k ∧ n = .int .i64 x ∧ Read s neg k x ∧ (offOf neg < k → k ≤ 12)) (fun _ i => s.size - (intOf i).toNat)
  case atStart => exact ⟨0, 0, Nat.zero_le _, rfl, rfl, read_zero s neg 0 (Nat.zero_le _), by omega⟩
  case round =>
    obtain ⟨k, x, hk, rfl, rfl, hrd, hk12⟩ := hrel
    by_cases hlt : k < s.size
    · have HRD := Lib.hid hrd
      clear hrd
      by_cases hsk : k = 0 ∧ neg = true
      · obtain ⟨rfl, rfl⟩ := hsk
        have hx : x = 0 := by have := HRD.out.2; omega
        subst hx
        go_wp2
        go_round
        case rel => exact ⟨1, 0, by omega, rfl, rfl, read_zero s true 1 (by decide), (fun _ => by omega)⟩
        case measure => simp [intOf]; omega
      · have ho : offOf neg ≤ k := by
          cases neg
          · exact Nat.zero_le _
          · have : k ≠ 0 := fun h => hsk ⟨h, rfl⟩
            show 1 ≤ k; omega
        have hgd : (((k : Int) == 0) = false) ∨ (((k : Int) == 0) = true ∧ neg = false) := by
          by_cases h0 : k = 0
          · subst h0
            refine .inr ⟨rfl, ?_⟩
            cases neg
            · rfl
            · exact absurd ⟨rfl, rfl⟩ hsk
          · exact .inl (by simp; omega)
        have hcb := UInt8.toNat_lt (s[k]'hlt)
        by_cases hbad : ¬ (48 ≤ (s[k]'hlt).toNat ∧ (s[k]'hlt).toNat ≤ 57) ∨ 12 < s.size
        · have hnone : ∀ m, ¬ IsNum s m := fun m hm => by
            rcases hbad with hbad | hbad
            · exact hbad (num_digit hm neg (HSG.out m hm) k hlt ho)
            · have := (num_len hm).2; omega
          have HN := Lib.hid hnone
          clear hnone hsk
          rcases Nat.lt_or_ge (s[k]'hlt).toNat 48 with hc | hc
          · have b1 : decide (((s[k]'hlt).toNat : Int) - 48 < 0) = true := decide_eq_true (by omega)
            rcases hgd with hg | ⟨hg, hg2⟩
            · go_wp2
              go_ret2
              exact NumIn.no HN.out (Below.refl _ _)
            · subst hg2
              go_wp2
              go_ret2
              exact NumIn.no HN.out (Below.refl _ _)
          · have b1 : decide (((s[k]'hlt).toNat : Int) - 48 < 0) = false := decide_eq_false (by omega)
            rcases Nat.lt_or_ge 57 (s[k]'hlt).toNat with hc2 | hc2
            · have b2 : decide ((9 : Int) < ((s[k]'hlt).toNat : Int) - 48) = true := decide_eq_true (by omega)
              rcases hgd with hg | ⟨hg, hg2⟩
              · go_wp2
                go_ret2
                exact NumIn.no HN.out (Below.refl _ _)
              · subst hg2
                go_wp2
                go_ret2
                exact NumIn.no HN.out (Below.refl _ _)
            · have b2 : decide ((9 : Int) < ((s[k]'hlt).toNat : Int) - 48) = false := decide_eq_false (by omega)
              have b3 : decide ((12 : Int) < (s.size : Int)) = true := decide_eq_true (by omega)
              rcases hgd with hg | ⟨hg, hg2⟩
              · go_wp2
                go_ret2
                exact NumIn.no HN.out (Below.refl _ _)
              · subst hg2
                go_wp2
                go_ret2
                exact NumIn.no HN.out (Below.refl _ _)
        · have hd : 48 ≤ (s[k]'hlt).toNat ∧ (s[k]'hlt).toNat ≤ 57 := by omega
          have h12 : s.size ≤ 12 := by omega
          have hst := Lib.hid (read_step HRD.out hlt ho hd)
          have hx : x < 1000000000000 := Nat.lt_of_lt_of_le HRD.out.2 (Nat.pow_le_pow_right (by omega) (show k ≤ 12 by omega))
          have b1 : decide (((s[k]'hlt).toNat : Int) - 48 < 0) = false := decide_eq_false (by omega)
          have b2 : decide ((9 : Int) < ((s[k]'hlt).toNat : Int) - 48) = false := decide_eq_false (by omega)
          have b3 : decide ((12 : Int) < (s.size : Int)) = false := decide_eq_false (by omega)
          clear hbad hsk
          rcases hgd with hg | ⟨hg, hg2⟩
          · go_wp2
            go_round
            case rel => exact ⟨k + 1, _, by omega, by go_num, by go_num, hst.out, (fun _ => by omega)⟩
            case measure => simp [intOf]; omega
          · subst hg2
            go_wp2
            go_round
            case rel => exact ⟨k + 1, _, by omega, by go_num, by go_num, hst.out, (fun _ => by omega)⟩
            case measure => simp [intOf]; omega
    · obtain rfl : k = s.size := by omega
      have hall := read_all hrd
      have HALL := Lib.hid hall
      have hxb : x < 1000000000000 := by
        by_cases h : offOf neg < s.size
        · exact Nat.lt_of_lt_of_le hrd.2 (Nat.pow_le_pow_right (by omega) (hk12 h))
        · have : s.size ≤ 1 := by have : offOf neg ≤ 1 := by unfold offOf; split <;> omega
                                  omega
          exact Nat.lt_of_lt_of_le hrd.2 (Nat.le_trans (Nat.pow_le_pow_right (by omega) this) (by omega))
      have hem : s.toList.isEmpty = false := by
        rw [← Bool.not_eq_true, List.isEmpty_iff, toList_nil_iff_emptyBytes]
        intro h
        rw [h] at h1
        exact absurd h1 (by decide)
      clear hall hrd
      cases neg
      · go_wp2_with fail
        refine (sFormat_any _ _).mono ?_
        rintro e w1 ⟨rfl, hb1⟩
        have HB1 := Lib.hid hb1
        clear hb1
        obtain ⟨fs, hfs⟩ : ∃ fs, fs = fmtP (x : Int) := ⟨_, rfl⟩
        rw [← hfs]
        have HFS := Lib.hid hfs
        clear hfs
        by_cases heq : fs = s
        · subst heq
          go_wp2_with fail
          go_ret2
          exact NumIn.yes (fmt_num HFS.out.symm (by omega)) HB1.out
        · have hbf : (fs.toList == s.toList) = false := by rw [str_beq]; exact decide_eq_false heq
          have hbf' : (fs.toList != s.toList) = true := by rw [bne, hbf]; rfl
          have HQ := Lib.hid heq
          clear heq
          go_wp2_with fail
          go_ret2
          exact NumIn.no (fun m hm => HQ.out (HFS.out.trans (num_fmt (by have := num_val hm false (HSG.out m hm) HALL.out; simp at this; subst this; exact hm)))) HB1.out
      · go_wp2_with fail
        refine (sFormat_any _ _).mono ?_
        rintro e w1 ⟨rfl, hb1⟩
        have HB1 := Lib.hid hb1
        clear hb1
        obtain ⟨fs, hfs⟩ : ∃ fs, fs = fmtP (-(x : Int)) := ⟨_, rfl⟩
        rw [← hfs]
        have HFS := Lib.hid hfs
        clear hfs
        by_cases heq : fs = s
        · subst heq
          go_wp2_with fail
          go_ret2
          exact NumIn.yes (fmt_num HFS.out.symm (by omega)) HB1.out
        · have hbf : (fs.toList == s.toList) = false := by rw [str_beq]; exact decide_eq_false heq
          have hbf' : (fs.toList != s.toList) = true := by rw [bne, hbf]; rfl
          have HQ := Lib.hid heq
          clear heq
          go_wp2_with fail
          go_ret2
          exact NumIn.no (fun m hm => HQ.out (HFS.out.trans (num_fmt (by have := num_val hm true (HSG.out m hm) HALL.out; simp at this; subst this; exact hm)))) HB1.out

set_option maxHeartbeats 1000000 in
theorem sParse_any (s : ByteArray) (w : World) (hs : s.size ≤ 1048576) :
    Calls Tryd.prog 41 #[.string s] w (NumIn s w) := by
  by_cases h0 : s.size = 0
  · obtain rfl : s = ⟨#[]⟩ := ByteArray.ext (Array.eq_empty_of_size_eq_zero h0)
    have hno : ∀ m, ¬ IsNum ⟨#[]⟩ m := fun m hm => by have := (num_len hm).1; omega
    have HN := Lib.hid hno
    clear hno h0 hs
    go_enter Tryd.func41, Tryd.ntmps41
    go_wp2_with fail
    refine wp_loop_rounds 1 ?_
    rw [rounds_succ]
    go_wp2_with fail
    go_ret2
    exact NumIn.no HN.out (Below.refl _ _)
  · refine sParse_with s w hs ((((s[0]'(by omega)).toNat : Int) == 45)) (fun m hm => ?_) (by omega) rfl
    rw [beq_iff_eq, ← num_sign hm (by omega)]
    omega

end Go.Proofs.YtjbpfgaakkkaaaaDoor
