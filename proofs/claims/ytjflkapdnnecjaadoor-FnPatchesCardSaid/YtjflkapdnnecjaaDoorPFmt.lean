/- Contracts of FormatPatch: the program and its model. -/
import Derived.Test.YtjflkapdnnecjaaDoorProg
import Derived.Test.YtjflkapdnnecjaaDoorMem
import Derived.Test.YtjflkapdnnecjaaDoorStrS
import Derived.Test.YtjflkapdnnecjaaDoorNumP
import Derived.Test.YtjflkapdnnecjaaDoorFmt
import Derived.Test.YtjflkapdnnecjaaDoorBuilder
import Derived.Test.YtjflkapdnnecjaaDoorInts
import Derived.Test.YtjflkapdnnecjaaDoorIntS
import Derived.Test.YtjflkapdnnecjaaDoorFmts
import Derived.Test.YtjflkapdnnecjaaDoorFlat
import Derived.Test.YtjflkapdnnecjaaDoorVbox
import Derived.Test.YtjflkapdnnecjaaDoorVec
import Derived.Test.YtjflkapdnnecjaaDoorVlaw
import Derived.Test.YtjflkapdnnecjaaDoorVFmt
import Derived.Test.YtjflkapdnnecjaaDoorHeld
import Derived.Test.YtjflkapdnnecjaaDoorArr
import Derived.Test.YtjflkapdnnecjaaDoorTr
import Derived.Test.YtjflkapdnnecjaaDoorRowC
import Derived.Test.YtjflkapdnnecjaaDoorPat
import Derived.Test.YtjflkapdnnecjaaDoorPVal
import Derived.WalkKit
import Derived.WalkSpells
import Derived.WalkLawsBesides
import Derived.Lib.Hide
import Derived.Deep.RegionHeld3
import Derived.Deep.QuietTactic
import Derived.BigQuiet
import Derived.Handy
import Derived.Deep.DeepCutAuto
namespace Go.Proofs.YtjflkapdnnecjaaDoor
open Go.RowKit

def spc : ByteArray := ⟨#[32]⟩
/-- a corner's text; a patch's text -/
def fmtC (v : V3) : ByteArray := fmtV v.1 v.2.1 v.2.2
def fmtQ (ps : List V3) : ByteArray := if okP ps = true then joinP (ps.map fmtC) spc else ⟨#[]⟩
theorem fmtsC_size (l : List Int) (hl : l.length ≤ 1000) : (fmtsP l).size ≤ 1048576 := by
  unfold fmtsP
  split
  · decide
  · split
    · unfold joinP
      rw [strOf_size]
      have h1 := joinN_len comma (l.map fmtP) (l.map fmtP).length
      have h2 := sizeN_fmt l (l.map fmtP).length
      have h3 : comma.size = 1 := rfl
      rw [h3] at h1
      simp only [List.length_map] at h1 h2 ⊢
      omega
    · decide
theorem fmtC_le (v : V3) : (fmtC v).size ≤ 1048576 := by
  unfold fmtC fmtV
  split
  · exact fmtsC_size _ (by simp)
  · decide
theorem sizeN_fmtC (ps : List V3) (k : Nat) : sizeN (ps.map fmtC) k ≤ 1048576 * k := by
  induction k with
  | zero => exact Nat.le_refl _
  | succ k ih =>
    rw [sizeN]
    have : ((ps.map fmtC).getD k ByteArray.empty).size ≤ 1048576 := by
      by_cases h : k < (ps.map fmtC).length
      · rw [List.getD_eq_getElem?_getD, List.getElem?_eq_getElem h, Option.getD_some, List.getElem_map]
        exact fmtC_le _
      · rw [List.getD_eq_getElem?_getD, List.getElem?_eq_none (by omega)]
        exact Nat.zero_le _
    omega
theorem take_mapC (xs : List V3) (k : Nat) (hk : k < xs.length) : (xs.take (k + 1)).map fmtC = (xs.take k).map fmtC ++ [fmtC xs[k]] := by
  rw [List.take_succ_eq_append_getElem hk, List.map_append]; rfl
theorem fmtQ_size (ps : List V3) (h : ps.length ≤ 100) : (fmtQ ps).size ≤ 1099511627776 := by
  unfold fmtQ
  split
  · unfold joinP
    rw [strOf_size]
    have h1 := joinN_len spc (ps.map fmtC) (ps.map fmtC).length
    have h2 := sizeN_fmtC ps (ps.map fmtC).length
    have h3 : spc.size = 1 := rfl
    rw [h3] at h1
    simp only [List.length_map] at h1 h2 ⊢
    omega
  · decide

set_option maxRecDepth 100000 in
set_option maxHeartbeats 8000000 in
theorem formatPatch_any (a0 a1 a2 a3 a4 a5 a6 a7 a8 x y z : Int) (w : World) (hp : Pow w) :
    Calls Tryd.prog 22 #[tr a0 a1 a2 a3 a4 a5 a6 a7 a8 x y z] w (fun e w' => e = .returned (.string (fmtQ [(a0, a1, a2), (a3, a4, a5), (a6, a7, a8), (x, y, z)])) ∧ Below w.heap.size w w') := by
  have HT : Held w (w.alloc (.cells #[.int .i64 a0, .int .i64 a1, .int .i64 a2, .int .i64 a3, .int .i64 a4, .int .i64 a5, .int .i64 a6, .int .i64 a7, .int .i64 a8, .int .i64 x, .int .i64 y, .int .i64 z] 46)) [(w.heap.size, [.int .i64 a0, .int .i64 a1, .int .i64 a2, .int .i64 a3, .int .i64 a4, .int .i64 a5, .int .i64 a6, .int .i64 a7, .int .i64 a8, .int .i64 x, .int .i64 y, .int .i64 z])] := by
    have h := (Held.nil w).new #[.int .i64 a0, .int .i64 a1, .int .i64 a2, .int .i64 a3, .int .i64 a4, .int .i64 a5, .int .i64 a6, .int .i64 a7, .int .i64 a8, .int .i64 x, .int .i64 y, .int .i64 z] 46
    simpa only [World.size_alloc] using h
  have HV : ∀ w : World, Calls Tryd.prog 57 #[tr a0 a1 a2 a3 a4 a5 a6 a7 a8 x y z] w (BOut (okP [(a0, a1, a2), (a3, a4, a5), (a6, a7, a8), (x, y, z)]) w) := fun w => isValidPatch_any a0 a1 a2 a3 a4 a5 a6 a7 a8 x y z w
  obtain ⟨ps, hps⟩ : ∃ ps : List V3, ps = [(a0, a1, a2), (a3, a4, a5), (a6, a7, a8), (x, y, z)] := ⟨_, rfl⟩
  have hlen : ps.length = 4 := by rw [hps]; rfl
  have hix := fun (v : V3) (k : Nat) => index_pat a0 a1 a2 a3 a4 a5 a6 a7 a8 x y z v k
  rw [← hps] at hix HV ⊢
  have HI := Lib.hid hix
  have HVV := Lib.hid HV
  have HP := Lib.hid hp
  clear hps hix HV hp
  go_enter Tryd.func22, Tryd.ntmps22
  go_wp2_with fail
  refine (HVV.out _).mono ?_
  rintro e w1 ⟨rfl, hb1⟩
  have HT := HT.later hb1
  clear hb1 HVV
  rcases hk : okP ps with _ | _
  · have HE : Hid (fmtQ ps = ⟨#[]⟩) := Lib.hid (by unfold fmtQ; rw [hk]; rfl)
    clear hk HI
    go_wp2_with fail
    go_ret
    exact ⟨ret_str HE.out.symm, HT.below⟩
  · have HE : Hid (fmtQ ps = joinP (ps.map fmtC) spc) := Lib.hid (by unfold fmtQ; rw [hk]; rfl)
    clear hk
    have HO0 := Lib.hid HT

    have c0 := (HT.box 0).c 0
    have c1 := (HT.box 0).c 1
    have c2 := (HT.box 0).c 2
    have c3 := (HT.box 0).c 3
    have c4 := (HT.box 0).c 4
    have c5 := (HT.box 0).c 5
    have c6 := (HT.box 0).c 6
    have c7 := (HT.box 0).c 7
    have c8 := (HT.box 0).c 8
    have c9 := (HT.box 0).c 9
    have c10 := (HT.box 0).c 10
    have c11 := (HT.box 0).c 11
    go_upto_region 5 with fail
    clear c0 c1 c2 c3 c4 c5 c6 c7 c8 c9 c10 c11
    go_loopw [3, 11] (fun v i wr => ∃ k : Nat, k ≤ 4 ∧ i = .int .i64 k ∧ wr.ownsRow w.heap.size 9 1 v k (((ps.take k).map fmtC).map Str) ∧ Below w.heap.size w wr) (fun _ i _ => 4 - (intOf i).toNat)
    case atStart => exact ⟨0, Nat.zero_le _, rfl, (World.ownsRow_nil _ _ _ _), HT.below⟩
    case round =>
      obtain ⟨k, hk, rfl, hown, hb⟩ := hrel
      have HO := Lib.hid hown
      have HB := Lib.hid hb
      have hs0 : w.heap.size ≤ wr.heap.size := hb.size
      clear hown hb HT HO0
      by_cases hlt : k < 4
      · have hv := List.getElem?_eq_getElem (show k < ps.length by omega)
        have HTM := Lib.hid (take_mapC ps k (by omega))
        generalize ps[k]'(by omega) = v at hv HTM
        have hix := HI.out v k hv
        have hlt' : (k : Int) < 4 := by omega
        have hge' : (0 : Int) ≤ (k : Int) := by omega
        have HSZ := Lib.hid (fmtC_le v)
        have AL : Below wr.heap.size wr (wr.alloc (.cells #[.int .i64 v.1, .int .i64 v.2.1, .int .i64 v.2.2] 24)) := (Below.refl _ _).alloc (Nat.le_refl _) _
        have HOA := Lib.hid (own_keep' HO.out AL)
        have HBA := Lib.hid (HB.out.alloc hs0 (.cells #[.int .i64 v.1, .int .i64 v.2.1, .int .i64 v.2.2] 24))
        clear hv
        go_wp2_with fail
        refine (formatVec_any v.1 v.2.1 v.2.2 _ ((HP.out.later HB.out).later AL)).mono ?_
        rintro e w2 ⟨rfl, hb2⟩
        have HO1 := Lib.hid (own_keep' HOA.out hb2)
        have HB1 := Lib.hid (HBA.out.trans (hb2.mono HBA.out.size))
        clear hb2 HO HB hix HOA HBA AL
        obtain ⟨fs, hfs⟩ : ∃ fs, fs = fmtC v := ⟨_, rfl⟩
        have hfs' : fs = fmtV v.1 v.2.1 v.2.2 := hfs
        rw [← hfs']
        rw [← hfs] at HTM HSZ
        clear hfs hfs'
        go_wp2_with (at_builtin; refine wpList_app1 w2 rfl _ _ 56 rfl w.heap.size 9 (.string ⟨#[]⟩) 16 Tryd.underlying56 infoStr1 rfl _ _ _ (by rfl) HO1.out _ (by rfl) (by rfl) (by unfold maxLen; omega) (by omega) HB1.out.size ?_)
        intro v' w4 ho4 hg4
        have HO4 := Lib.hid ho4
        have HB4 := Lib.hid (HB1.out.grown hg4 HB1.out.size (own_block HO1.out))
        clear ho4 hg4
        go_wp2_with fail
        go_roundw
        case rel => exact ⟨k + 1, by omega, by go_num, by rw [HTM.out]; simpa using HO4.out, HB4.out⟩
        case measure => simp [intOf]; omega
      · obtain rfl : k = 4 := by omega
        have ho := HO.out
        rw [List.take_of_length_le (by omega)] at ho
        obtain ⟨A2, c2, rfl⟩ := own_shape ho
        have hlen4 : (ps.map fmtC).length = 4 := by simpa using hlen
        have HR2 : Hid (Row Str wr wr.heap.size A2 (ps.map fmtC)) := Lib.hid (Row.of_own ho)
        have hsz := sizeN_fmtC ps 4
        have hj := join_any A2 c2 (ps.map fmtC) spc wr HR2.out (by omega) (by decide) (by rw [hlen4]; omega)
        rw [hlen4] at hj
        unfold spc at hj
        have HJ := Lib.hid hj
        clear ho hj hsz hlen4 hlt hk HI HO
        go_wp2_with fail
        refine HJ.out.mono ?_
        rintro e w2 ⟨rfl, hb2⟩
        have HB2 := Lib.hid (HB.out.trans (hb2.mono HB.out.size))
        clear hb2
        go_wp2_with fail
        go_ret
        exact ⟨ret_str HE.out.symm, HB2.out⟩

end Go.Proofs.YtjflkapdnnecjaaDoor
