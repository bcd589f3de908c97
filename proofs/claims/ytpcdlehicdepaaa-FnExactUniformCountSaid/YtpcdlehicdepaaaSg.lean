/- The checker of the model: uniform nodes. -/
import Derived.Test.YtpcdlehicdepaaaProg
import Derived.Test.YtpcdlehicdepaaaInts
import Derived.Test.YtpcdlehicdepaaaVbox
import Derived.Test.YtpcdlehicdepaaaHeld
import Derived.Test.YtpcdlehicdepaaaMem
import Derived.Test.YtpcdlehicdepaaaFlat
import Derived.Test.YtpcdlehicdepaaaRowC
import Derived.Test.YtpcdlehicdepaaaKS
import Derived.Test.YtpcdlehicdepaaaStrS
import Derived.Test.YtpcdlehicdepaaaIntS
import Derived.Test.YtpcdlehicdepaaaSS
import Derived.Test.YtpcdlehicdepaaaPg
import Derived.Test.YtpcdlehicdepaaaPh
import Derived.Test.YtpcdlehicdepaaaPi
import Derived.Test.YtpcdlehicdepaaaIdent
import Derived.Test.YtpcdlehicdepaaaPn
import Derived.Test.YtpcdlehicdepaaaQa
import Derived.Test.YtpcdlehicdepaaaQb
import Derived.Test.YtpcdlehicdepaaaQd
import Derived.Test.YtpcdlehicdepaaaQe
import Derived.Test.YtpcdlehicdepaaaSa
import Derived.Test.YtpcdlehicdepaaaSb
import Derived.Test.YtpcdlehicdepaaaSc
import Derived.Test.YtpcdlehicdepaaaSd
import Derived.Test.YtpcdlehicdepaaaSe
import Derived.Test.YtpcdlehicdepaaaSf
import Derived.WalkKit
import Derived.WalkSpells
import Derived.WalkLawsBesides
import Derived.Lib.Hide
import Derived.Deep.RegionHeld3
import Derived.Deep.QuietTactic
import Derived.BigQuiet
import Derived.Handy
import Derived.Deep.DeepCutAuto
import Derived.OwnWalk
namespace Go.Proofs.Ytpcdlehicdepaaa
open Go.RowKit

theorem infoBoolU : (Try.prog.info? 4).map (fun i => (i.zero, i.size, i.bytes)) = some (some (.bool false), 1, 1) := by kernel_rfl
abbrev BoolV : Bool → Value := Value.bool
section
variable (xs : List Nd) (ys : List As)
/-- nodes that have been visited when assignment k stands at node i -/
def visB (k i j : Nat) : Bool := decide (ownV xs ys j < (k : Int)) || (decide (ownV xs ys j = (k : Int)) && decide (j < i))
def outL (k i : Nat) : List Bool := (List.range xs.length).map fun j => visB xs ys k i j && uV xs ys j
def donL (k i : Nat) : List Bool := (List.range xs.length).map fun j => visB xs ys k i j
end
section
variable {xs : List Nd} {ys : List As} {k i : Nat}
theorem outL_len : (outL xs ys k i).length = xs.length := by simp [outL]
theorem donL_len : (donL xs ys k i).length = xs.length := by simp [donL]
theorem outL_at {j : Nat} (h : j < (outL xs ys k i).length) : (outL xs ys k i)[j] = (visB xs ys k i j && uV xs ys j) := by simp [outL]
theorem donL_at {j : Nat} (h : j < (donL xs ys k i).length) : (donL xs ys k i)[j] = visB xs ys k i j := by simp [donL]
theorem vis_0 (h : okPr xs ys) {j : Nat} (hj : j < xs.length) : visB xs ys 0 0 j = false := by
  have := ownV_bd h hj
  unfold visB
  rw [decide_eq_false (by omega)]
  simp
theorem outL_0 (h : okPr xs ys) : outL xs ys 0 0 = List.replicate xs.length false := by
  refine List.ext_getElem (by simp [outL]) fun j h1 h2 => ?_
  rw [outL_at h1, vis_0 h (by simpa [outL] using h1)]
  simp
theorem donL_0 (h : okPr xs ys) : donL xs ys 0 0 = List.replicate xs.length false := by
  refine List.ext_getElem (by simp [donL]) fun j h1 h2 => ?_
  rw [donL_at h1, vis_0 h (by simpa [donL] using h1)]
  simp
theorem vis_skip (ho : ownV xs ys i ≠ (k : Int)) (j : Nat) : visB xs ys k (i + 1) j = visB xs ys k i j := by
  unfold visB
  by_cases e : j = i
  · subst e
    rw [decide_eq_false ho]
    rfl
  · congr 2
    exact decide_eq_decide.2 (by omega)
theorem outL_skip (ho : ownV xs ys i ≠ (k : Int)) : outL xs ys k (i + 1) = outL xs ys k i := by
  unfold outL
  congr 1
  funext j
  rw [vis_skip ho]
theorem donL_skip (ho : ownV xs ys i ≠ (k : Int)) : donL xs ys k (i + 1) = donL xs ys k i := by
  unfold donL
  congr 1
  funext j
  rw [vis_skip ho]
theorem vis_here (ho : ownV xs ys i = (k : Int)) : visB xs ys k i i = false := by
  unfold visB
  rw [decide_eq_false (by omega)]
  simp
theorem vis_take (ho : ownV xs ys i = (k : Int)) (j : Nat) : visB xs ys k (i + 1) j = (decide (j = i) || visB xs ys k i j) := by
  unfold visB
  by_cases e : j = i
  · subst e
    rw [decide_eq_true ho, decide_eq_true (show j < j + 1 by omega)]
    simp
  · rw [decide_eq_false e, show decide (j < i + 1) = decide (j < i) from decide_eq_decide.2 (by omega)]
    simp
theorem outL_take (ho : ownV xs ys i = (k : Int)) : outL xs ys k (i + 1) = (outL xs ys k i).set i (uV xs ys i) := by
  refine List.ext_getElem (by simp [outL]) fun j h1 h2 => ?_
  rw [outL_at h1, vis_take ho, List.getElem_set]
  by_cases e : i = j
  · subst e
    simp
  · rw [if_neg e, outL_at, decide_eq_false (fun h => e h.symm)]
    rfl
theorem donL_take (ho : ownV xs ys i = (k : Int)) : donL xs ys k (i + 1) = (donL xs ys k i).set i true := by
  refine List.ext_getElem (by simp [donL]) fun j h1 h2 => ?_
  rw [donL_at h1, vis_take ho, List.getElem_set]
  by_cases e : i = j
  · subst e
    simp
  · rw [if_neg e, donL_at, decide_eq_false (fun h => e h.symm)]
    rfl
theorem vis_next {j : Nat} (hj : j < xs.length) : visB xs ys k xs.length j = visB xs ys (k + 1) 0 j := by
  unfold visB
  rw [decide_eq_true hj, decide_eq_false (Nat.not_lt_zero j), Bool.and_true, Bool.and_false, Bool.or_false]
  by_cases e : ownV xs ys j < (k : Int)
  · rw [decide_eq_true e, decide_eq_true (show ownV xs ys j < ((k + 1 : Nat) : Int) by omega)]
    rfl
  · rw [decide_eq_false e, Bool.false_or]
    exact decide_eq_decide.2 (by omega)
theorem outL_next : outL xs ys k xs.length = outL xs ys (k + 1) 0 := by
  refine List.ext_getElem (by simp [outL]) fun j h1 h2 => ?_
  rw [outL_at h1, outL_at h2, vis_next (by simpa [outL] using h1)]
theorem donL_next : donL xs ys k xs.length = donL xs ys (k + 1) 0 := by
  refine List.ext_getElem (by simp [donL]) fun j h1 h2 => ?_
  rw [donL_at h1, donL_at h2, vis_next (by simpa [donL] using h1)]
theorem outL_end (h : okPr xs ys) : outL xs ys ys.length 0 = (List.range xs.length).map (uV xs ys) := by
  refine List.ext_getElem (by simp [outL]) fun j h1 h2 => ?_
  have hj : j < xs.length := by simpa [outL] using h1
  rw [outL_at h1]
  unfold visB
  rw [decide_eq_true (ownV_bd h hj).2]
  simp
def accU (xs : List Nd) (ys : List As) (l : List Int) : Bool := l.all fun a => uV xs ys a.toNat
theorem accU_step (l : List Int) (p : Nat) (h : p < l.length) : accU xs ys (l.take (p + 1)) = (accU xs ys (l.take p) && uV xs ys (l[p]).toNat) := by
  unfold accU
  rw [List.take_succ_eq_append_getElem h, List.all_append]
  simp
end
/-- which nodes are uniform, in a row of the call's own -/
def UniOut (xs : List Nd) (ys : List As) (w : World) (e : Ending) (w' : World) : Prop :=
  ∃ (A : Option Addr), e = .returned (.slice A xs.length xs.length) ∧ Row BoolV w' w'.heap.size A ((List.range xs.length).map (uV xs ys)) ∧ Below w.heap.size w w'

set_option maxRecDepth 100000 in
set_option maxHeartbeats 16000000 in
theorem sUni_any (A A' : Option Addr) (c c' : Nat) (xs : List Nd) (ys : List As) (w : World) (hR : ProgIn w w.heap.size A A' xs ys) (hck : chkP xs ys = (0, 0)) (hx : ∀ x ∈ xs, x.2.2.2.length ≤ 1048576) :
    Calls Try.prog 47 #[pgv A A' xs.length c ys.length c'] w (UniOut xs ys w) := by
  obtain ⟨i0, hi0, hz0, hz1, hz2⟩ := info_parts infoBoolU
  obtain ⟨hok, hbn, _, _, _⟩ := chk_ok hck
  have hlen := okPr_len hok
  have h60 : xs.length ≤ 60 := hok.1
  have hy60 : ys.length ≤ 60 := by omega
  have HOK := Lib.hid hok
  have HBN := Lib.hid hbn
  have HLEN := Lib.hid hlen
  have HXS := Lib.hid hx
  clear hok hbn hlen hx hck
  obtain ⟨W1, hW1⟩ : ∃ W, W = w.alloc (.cells #[.slice A xs.length c, .slice A' ys.length c'] 35) := ⟨_, rfl⟩
  have M := Mbox.new w #[.slice A xs.length c, .slice A' ys.length c'] 35
  have hB : Below w.heap.size w (w.alloc (.cells #[.slice A xs.length c, .slice A' ys.length c'] 35)) := by go_grown
  have hR1 := (hR.alloc (Nat.le_refl _) (.cells #[.slice A xs.length c, .slice A' ys.length c'] 35)).more (B' := (w.alloc (.cells #[.slice A xs.length c, .slice A' ys.length c'] 35)).heap.size) (by simp)
  rw [← hW1] at M hB hR1
  have HM := Lib.hid M
  have HB := Lib.hid hB
  have HR := Lib.hid hR1
  clear M hB hR hR1
  go_enter Try.func47, Try.ntmps47
  go_upto_region 1 with fail
  rw [← hW1]
  clear hW1
  have m0 := HM.out.c 0
  have m1 := HM.out.c 1
  go_wp2_with fail
  refine (sOwners_any A A' c c' xs ys W1 HR.out HOK.out).mono ?_
  rintro e w3 ⟨A2, rfl, hrow, hb3⟩
  have HM3 := Lib.hid (HM.out.later hb3)
  have HR3 := Lib.hid (HR.out.later hb3)
  have HB3 := Lib.hid (HB.out.trans (hb3.mono HB.out.size))
  have HOW := Lib.hid hrow
  clear hrow hb3 m0 m1 HR HB HM
  have m0 := HM3.out.c 0
  have m1 := HM3.out.c 1
  obtain ⟨D0, hD0⟩ : ∃ D, D = w3.heap.size := ⟨_, rfl⟩
  go_wp2_with (at_make; refine wpList_make_full _ rfl _ _ 64 rfl w3.heap.size 4 i0 (.bool false) 1 Try.underlying64 hi0 hz0 hz1 .i64 .i64 _ _ xs.length rfl rfl rfl rfl (by rw [hz2]; omega) (by unfold maxLen; omega) (by omega) ?_)
  intro w4 hown hgrow
  have hb4 : Below w3.heap.size w3 w4 := (Below.refl _ _).grown hgrow (Nat.le_refl _) (fun k h => by cases h)
  rw [← hD0] at hown hb4 ⊢
  have hown : w4.ownsRow D0 4 1 (.slice (some ⟨D0, 0, none⟩) xs.length xs.length) xs.length ((outL xs ys 0 0).map BoolV) := by
    rw [outL_0 HOK.out, List.map_replicate, ← made_one]; exact hown
  have m0 := (HM3.out.later (by rw [← hD0]; exact hb4)).c 0
  have m1 := (HM3.out.later (by rw [← hD0]; exact hb4)).c 1
  have hd04 : D0 < w4.heap.size := (hown.lt D0 (by rfl)).2
  have HO0 := Lib.hid hown
  have HB4 := Lib.hid hb4
  have HDD := Lib.hid hD0
  clear hown hb4 hgrow hD0
  obtain ⟨D1, hD1⟩ : ∃ D, D = w4.heap.size := ⟨_, rfl⟩
  go_wp2_with (at_make; refine wpList_make_full _ rfl _ _ 64 rfl w4.heap.size 4 i0 (.bool false) 1 Try.underlying64 hi0 hz0 hz1 .i64 .i64 _ _ xs.length rfl rfl rfl rfl (by rw [hz2]; omega) (by unfold maxLen; omega) (by omega) ?_)
  intro w5 hown hgrow
  have hb5 : Below w4.heap.size w4 w5 := (Below.refl _ _).grown hgrow (Nat.le_refl _) (fun k h => by cases h)
  have hO0 := own_keep' HO0.out hb5
  have hB5 : Below D0 w3 w5 := HB4.out.trans (hb5.mono (Nat.le_of_lt hd04))
  have hm5 : Mbox w5 w.heap.size [.slice A xs.length c, .slice A' ys.length c'] := HM3.out.later (by rw [← HDD.out]; exact hB5)
  rw [← hD1] at hown ⊢
  have hown : w5.ownsRow D1 4 1 (.slice (some ⟨D1, 0, none⟩) xs.length xs.length) xs.length ((donL xs ys 0 0).map BoolV) := by
    rw [donL_0 HOK.out, List.map_replicate, ← made_one]; exact hown
  have m0 := hm5.c 0
  have m1 := hm5.c 1
  have HD := Lib.hid (show D0 < D1 by omega)
  have HINI : Hid (w5.ownsRow D0 4 1 (.slice (some ⟨D0, 0, none⟩) xs.length xs.length) xs.length ((outL xs ys 0 0).map BoolV) ∧ w5.ownsRow D1 4 1 (.slice (some ⟨D1, 0, none⟩) xs.length xs.length) xs.length ((donL xs ys 0 0).map BoolV) ∧ Below D0 w3 w5) := Lib.hid ⟨hO0, hown, hB5⟩
  clear hown hO0 hb5 hgrow hB5 hm5 HO0 HB4 hD1 hd04
  go_wp2_with fail
  go_loopw [24] (fun kv wr => ∃ k : Nat, k ≤ ys.length ∧ kv = .int .i64 k ∧ wr.ownsRow D0 4 1 (.slice (some ⟨D0, 0, none⟩) xs.length xs.length) xs.length ((outL xs ys k 0).map BoolV) ∧ wr.ownsRow D1 4 1 (.slice (some ⟨D1, 0, none⟩) xs.length xs.length) xs.length ((donL xs ys k 0).map BoolV) ∧ Below D0 w3 wr) (fun kv _ => ys.length - (intOf kv).toNat)
  case atStart => exact ⟨0, Nat.zero_le _, rfl, HINI.out⟩
  case round =>
    clear m0 m1 HINI
    obtain ⟨k, hk, rfl, hr0, hr1, hb⟩ := hrel
    by_cases hlt : k < ys.length
    · have hlt' : (k : Int) < (ys.length : Int) := by omega
      have hge' : (0 : Int) ≤ (k : Int) := by omega
      have hm := HM3.out.later (by rw [← HDD.out]; exact hb)
      have m0 := hm.c 0
      have m1 := hm.c 1
      have HINI : Hid (wr.ownsRow D0 4 1 (.slice (some ⟨D0, 0, none⟩) xs.length xs.length) xs.length ((outL xs ys k 0).map BoolV) ∧ wr.ownsRow D1 4 1 (.slice (some ⟨D1, 0, none⟩) xs.length xs.length) xs.length ((donL xs ys k 0).map BoolV) ∧ Below D0 w3 wr) := Lib.hid ⟨hr0, hr1, hb⟩
      clear hr0 hr1 hb hm
      go_wp2_with fail
      go_loopw [30] (fun iv wr => ∃ i : Nat, i ≤ xs.length ∧ iv = .int .i64 i ∧ wr.ownsRow D0 4 1 (.slice (some ⟨D0, 0, none⟩) xs.length xs.length) xs.length ((outL xs ys k i).map BoolV) ∧ wr.ownsRow D1 4 1 (.slice (some ⟨D1, 0, none⟩) xs.length xs.length) xs.length ((donL xs ys k i).map BoolV) ∧ Below D0 w3 wr) (fun iv _ => xs.length - (intOf iv).toNat)
      case atStart => exact ⟨0, Nat.zero_le _, rfl, HINI.out⟩
      case round =>
        clear m0 m1 HINI
        obtain ⟨i, hi', rfl, hr0, hr1, hb⟩ := hrel
        have hb' : Below w3.heap.size w3 wr := by rw [← HDD.out]; exact hb
        by_cases hi : i < xs.length
        · obtain ⟨bb, o, rfl, hbl, a, ca, c0, c1, c2, c3, hca1, hca2, hrow⟩ := HR3.out.1.at hi
          obtain ⟨b3, o3, rfl, hbl3, hz⟩ := HOW.out.at (k := i) (by simp; omega)
          obtain ⟨z, hzz⟩ : ∃ z, z = ownV xs ys i := ⟨_, rfl⟩
          have HZZ := Lib.hid hzz
          have hz : w3.cell? ⟨b3, o3 + i, none⟩ = some (.int .i64 z) := by rw [hzz]; simpa using hz
          clear hzz
          have c0 := (hb'.cell (p := ⟨bb, o + i * 4, none⟩) hbl).trans c0
          have c1 := (hb'.cell (p := ⟨bb, o + i * 4 + 1, none⟩) hbl).trans c1
          have c2 := (hb'.cell (p := ⟨bb, o + i * 4 + 2, none⟩) hbl).trans c2
          have c3 := (hb'.cell (p := ⟨bb, o + i * 4 + 3, none⟩) hbl).trans c3
          have hz := (hb'.cell (p := ⟨b3, o3 + i, none⟩) hbl3).trans hz
          have hrow := hrow.below hb'
          have hl3 := HXS.out _ (List.getElem_mem hi)
          have HAI := Lib.hid (fun a (ha : a ∈ (xs[i]).2.2.2) => And.intro (arg_in HOK.out hi ha) (ownV_arg HOK.out hi ha))
          have HUS := Lib.hid (uV_step HOK.out HBN.out hi)
          obtain ⟨v, hv⟩ : ∃ v, v = xs[i] := ⟨_, rfl⟩
          rw [← hv] at c0 c1 c2 c3 hca1 hl3 hrow HAI
          have hV : ndA xs i = v := by unfold ndA; rw [getD_at hi]; exact hv.symm
          rw [hV] at HUS
          have HV := Lib.hid hV
          obtain ⟨v0, v1, v2, v3⟩ := v
          dsimp only at c0 c1 c2 c3 hca1 hl3 hrow HAI HUS
          have hlt2 : (i : Int) < (xs.length : Int) := by omega
          have hge2 : (0 : Int) ≤ (i : Int) := by omega
          have hm := HM3.out.later hb'
          have hZB : b3 < wr.heap.size := Nat.lt_of_lt_of_le hbl3 hb'.size
          have hws : w3.heap.size ≤ wr.heap.size := hb'.size
          have hb2 : Below wr.heap.size wr (wr.alloc (.cells #[.int .i64 v0, .string v1, .int .i64 v2, .slice a v3.length ca] 56)) := by go_grown
          have hm := hm.later hb2
          have hgd0 := (hr0.lt D0 (by rfl)).2
          have hgd1 := (hr1.lt D1 (by rfl)).2
          have hr0 := own_keep' hr0 hb2
          have hr1 := own_keep' hr1 hb2
          have hz := (hb2.cell (p := ⟨b3, o3 + i, none⟩) hZB).trans hz
          have hrow := (hrow.below (hb2.mono hws))
          have hb := hb.trans (hb2.mono (show D0 ≤ wr.heap.size by rw [HDD.out]; exact hws))
          have hrp := (HR3.out.later hb').later hb2
          clear hv hca1 hca2 hbl hbl3 hZB hb2 hV hb' hws
          go_upto_region 10 with fail
          obtain ⟨W2, hW2⟩ : ∃ W, W = wr.alloc (.cells #[.int .i64 v0, .string v1, .int .i64 v2, .slice a v3.length ca] 56) := ⟨_, rfl⟩
          obtain ⟨g, hg⟩ : ∃ g, g = wr.heap.size := ⟨_, rfl⟩
          have M2 := Mbox.new wr #[.int .i64 v0, .string v1, .int .i64 v2, .slice a v3.length ca] 56
          rw [← hW2] at M2 hm hr0 hr1 hz hb hrow hrp ⊢
          rw [← hg] at M2 ⊢
          rw [← hg] at hgd0 hgd1
          clear hW2 hg c0 c1 c2 c3
          have HM2 := Lib.hid M2
          have HMP := Lib.hid hm
          have HO0 := Lib.hid hr0
          have HBQ := Lib.hid hb
          have HRW := Lib.hid hrow
          have HRP := Lib.hid hrp
          clear M2 hm hr0 hb hrow hrp
          by_cases hoi : z = (k : Int)
          · have HOI : Hid (ownV xs ys i = (k : Int)) := Lib.hid (by rw [← HZZ.out]; exact hoi)
            have hvi := vis_here HOI.out
            have HVI := Lib.hid hvi
            have hd1 := hr1.cellAt i (by omega)
            have hf1 := hr1.frozenAt i
            rw [List.getElem?_map, List.getElem?_eq_getElem (by rw [donL_len]; exact hi), Option.map_some, donL_at, hvi] at hd1
            have hs1 := (hr1.stored i (.bool true)).1
            rw [← List.map_set, ← donL_take HOI.out] at hs1
            subst hoi
            clear HZZ
            have hs0 := ownsRow_setCell_other HO0.out (a := ⟨D1, i, none⟩) (by simp [Value.ownBlock]; have := HD.out; omega) (.bool true)
            have hb1 := HBQ.out.setCell (p := ⟨D1, i, none⟩) (Nat.le_of_lt HD.out) (.bool true)
            have hm1 := HM2.out.far (g := D1) (i := i) (by omega) (.bool true)
            have hwl : W2.heap.size = (W2.setCell ⟨D1, i, none⟩ (.bool true)).heap.size := by simp
            have HS0 := Lib.hid hs0
            have HS1 := Lib.hid hs1
            have HSB := Lib.hid hb1
            have hmn := hm1
            have hwP : w.heap.size ≠ D1 := by have h1 := HM3.out.lt; have h2 := HDD.out; have h3 := HD.out; omega
            have hmp := HMP.out.far (g := D1) (i := i) hwP (.bool true)
            have hrv : Row I64 (W2.setCell ⟨D1, i, none⟩ (.bool true)) w3.heap.size a v3 := HRW.out.below ((Below.refl _ _).setCell (p := ⟨D1, i, none⟩) (by rw [← HDD.out]; exact Nat.le_of_lt HD.out) _)
            have hrq : ProgIn (W2.setCell ⟨D1, i, none⟩ (.bool true)) w3.heap.size _ A' xs ys := HR3.out.below (by rw [← HDD.out]; exact hb1)
            clear hs0 hs1 hb1 hm1 hr1 hwl hwP
            go_upto_region 18 with fail
            obtain ⟨W3, hW3⟩ : ∃ W, W = W2.setCell ⟨D1, i, none⟩ (.bool true) := ⟨_, rfl⟩
            rw [← hW3] at HS0 HS1 HSB hmn hmp hrv hrq ⊢
            have HMN := Lib.hid hmn
            have HMQ := Lib.hid hmp
            have HRV := Lib.hid hrv
            have HRQ := Lib.hid hrq
            have n0 := HMN.out.c 0
            have n1 := HMN.out.c 1
            clear hW3 hmn hmp hrv hrq hd1 hf1 HM2 HMP HO0 HBQ HRW HRP
            by_cases e2 : v0 = 2
            · have b2 : (v0 == 2) = true := by simp [e2]
              have hus := HUS.out
              rw [if_pos e2] at hus
              by_cases et : v1 = ⟨#[116]⟩
              · have bt : (v1.toList == [116]) = true := by rw [str_isQ]; exact decide_eq_true et
                have HUV : Hid (uV xs ys i = true) := Lib.hid (by rw [hus, if_pos et])
                have hd0 := HS0.out.cellAt i (by omega)
                have hf0 := HS0.out.frozenAt i
                rw [List.getElem?_map, List.getElem?_eq_getElem (by rw [outL_len]; exact hi), Option.map_some, outL_at, HVI.out, Bool.false_and] at hd0
                have hs := (HS0.out.stored i (.bool true)).1
                rw [← List.map_set] at hs
                have HE : Hid ((W3.setCell ⟨D0, i, none⟩ (.bool true)).ownsRow D0 4 1 (.slice (some ⟨D0, 0, none⟩) xs.length xs.length) xs.length ((outL xs ys k (i + 1)).map BoolV) ∧ (W3.setCell ⟨D0, i, none⟩ (.bool true)).ownsRow D1 4 1 (.slice (some ⟨D1, 0, none⟩) xs.length xs.length) xs.length ((donL xs ys k (i + 1)).map BoolV) ∧ Below D0 w3 (W3.setCell ⟨D0, i, none⟩ (.bool true))) := Lib.hid ⟨by rw [outL_take HOI.out, HUV.out]; exact hs, ownsRow_setCell_other HS1.out (a := ⟨D0, i, none⟩) (by simp [Value.ownBlock]; have := HD.out; omega) _, HSB.out.setCell (p := ⟨D0, i, none⟩) (Nat.le_refl _) _⟩
                clear hs
                clear hus et e2
                go_wp2_with fail
                go_roundw
                case rel => exact ⟨i + 1, by omega, by go_num, HE.out⟩
                case measure => simp [intOf]; omega
              · have bt : (v1.toList == [116]) = false := str_nots et
                rw [if_neg et] at hus
                have HVAR := Lib.hid (sVar_any v1 W3)
                obtain ⟨vb, hvb⟩ : ∃ b, b = varB v1 := ⟨_, rfl⟩
                rw [← hvb] at HVAR hus
                have HVB := Lib.hid hvb
                have HUQ := Lib.hid hus
                have HE2 := Lib.hid e2
                clear hus et e2 hvb
                go_wp2_with fail
                refine HVAR.out.mono ?_
                rintro e w4 ⟨rfl, hb4⟩
                have HS04 := Lib.hid (own_keep' HS0.out hb4)
                have HS14 := Lib.hid (own_keep' HS1.out hb4)
                have hw3D : D0 ≤ W3.heap.size := Nat.le_of_lt (HS0.out.lt D0 (by rfl)).2
                have HSB4 := Lib.hid (HSB.out.trans (hb4.mono hw3D))
                have HMN4 := Lib.hid (HMN.out.later hb4)
                have HMQ4 := Lib.hid (HMQ.out.later hb4)
                have HRQ4 := Lib.hid (HRQ.out.below (hb4.mono (by rw [← HDD.out]; exact hw3D)))
                have n0 := HMN4.out.c 0
                have n1 := HMN4.out.c 1
                clear hb4 HS0 HS1 HSB HMN HMQ HRQ HRV hw3D HVAR
                cases vb with
                | true =>
                  have HUV : Hid (uV xs ys i = false) := Lib.hid (by rw [HUQ.out]; rfl)
                  have hd0 := HS04.out.cellAt i (by omega)
                  have hf0 := HS04.out.frozenAt i
                  rw [List.getElem?_map, List.getElem?_eq_getElem (by rw [outL_len]; exact hi), Option.map_some, outL_at, HVI.out, Bool.false_and] at hd0
                  have hs := (HS04.out.stored i (.bool false)).1
                  rw [← List.map_set] at hs
                  have HE : Hid ((w4.setCell ⟨D0, i, none⟩ (.bool false)).ownsRow D0 4 1 (.slice (some ⟨D0, 0, none⟩) xs.length xs.length) xs.length ((outL xs ys k (i + 1)).map BoolV) ∧ (w4.setCell ⟨D0, i, none⟩ (.bool false)).ownsRow D1 4 1 (.slice (some ⟨D1, 0, none⟩) xs.length xs.length) xs.length ((donL xs ys k (i + 1)).map BoolV) ∧ Below D0 w3 (w4.setCell ⟨D0, i, none⟩ (.bool false))) := Lib.hid ⟨by rw [outL_take HOI.out, HUV.out]; exact hs, ownsRow_setCell_other HS14.out (a := ⟨D0, i, none⟩) (by simp [Value.ownBlock]; have := HD.out; omega) _, HSB4.out.setCell (p := ⟨D0, i, none⟩) (Nat.le_refl _) _⟩
                  clear hs
                  go_wp2_with fail
                  go_roundw
                  case rel => exact ⟨i + 1, by omega, by go_num, HE.out⟩
                  case measure => simp [intOf]; omega
                | false =>
                  obtain ⟨q, hq, hqa, hqk, hrn, hr0, hro⟩ := ref_before HOK.out HBN.out hi (by rw [HV.out]; exact HE2.out) (by rw [HV.out]; exact HVB.out.symm)
                  rw [HV.out] at hqa
                  simp only at hqa
                  have hqk' : (q : Int) < (k : Int) := by rw [← HOI.out]; exact hqk
                  obtain ⟨ba, oa, rfl, hbla, hca⟩ := HR3.out.2.at hq
                  obtain ⟨_, ca1⟩ := asg_at hca
                  obtain ⟨r, hr⟩ : ∃ r : Nat, (ys[q]).2 = (r : Int) := ⟨((ys[q]).2).toNat, by omega⟩
                  have er : ((r : Int)).toNat = r := by omega
                  rw [hr, er] at hrn hro
                  rw [hr] at ca1
                  have hbw3 : Below w3.heap.size w3 w4 := by rw [← HDD.out]; exact HSB4.out
                  have ca1 := (hbw3.cell (p := ⟨ba, oa + q * 2 + 1, none⟩) hbla).trans ca1
                  have hvr : visB xs ys k i r = true := by
                    unfold visB
                    rw [hro, decide_eq_true hqk']
                    rfl
                  have hne : r ≠ i := fun e => by
                    rw [e, HOI.out] at hro
                    omega
                  obtain ⟨ur, hur⟩ : ∃ u, u = uV xs ys r := ⟨_, rfl⟩
                  have HUV : Hid (uV xs ys i = ur) := Lib.hid (by
                    rw [HUQ.out, HOI.out] 
                    have h2 := hqa
                    rw [HOI.out] at h2
                    rw [h2, show ((q : Int)).toNat = q by omega, getD_at hq, hr, er, hur]
                    rfl)
                  have hdr := HS04.out.cellAt r (by omega)
                  rw [List.getElem?_map, List.getElem?_eq_getElem (by rw [outL_len]; exact hrn), Option.map_some, outL_at, hvr, Bool.true_and, ← hur] at hdr
                  have hd0 := HS04.out.cellAt i (by omega)
                  have hf0 := HS04.out.frozenAt i
                  rw [List.getElem?_map, List.getElem?_eq_getElem (by rw [outL_len]; exact hi), Option.map_some, outL_at, HVI.out, Bool.false_and] at hd0
                  have HSI : Hid (∀ W', Below w4.heap.size w4 W' → W'.cell? ⟨D0, i, none⟩ = some (.bool false) ∧ W'.frozen? ⟨D0, i, none⟩ = false) := Lib.hid (fun W' h => by
                    have ho := own_keep' HS04.out h
                    have h1 := ho.cellAt i (by omega)
                    rw [List.getElem?_map, List.getElem?_eq_getElem (by rw [outL_len]; exact hi), Option.map_some, outL_at, HVI.out, Bool.false_and] at h1
                    exact ⟨h1, ho.frozenAt i⟩)
                  have hDw4 : D0 < w4.heap.size := (HS04.out.lt D0 (by rfl)).2
                  have hbaw : ba < w4.heap.size := Nat.lt_of_lt_of_le hbla hbw3.size
                  have HT : Held w4 w4 [(g, [.int .i64 v0, .string v1, .int .i64 v2, .slice a v3.length ca]), (w.heap.size, [.slice (some ⟨bb, o, none⟩) xs.length c, .slice (some ⟨ba, oa, none⟩) ys.length c'])] := ((Held.nil w4).cons HMQ4.out).cons HMN4.out
                  have HC : ∀ W', Held w4 W' [(g, [.int .i64 v0, .string v1, .int .i64 v2, .slice a v3.length ca]), (w.heap.size, [.slice (some ⟨bb, o, none⟩) xs.length c, .slice (some ⟨ba, oa, none⟩) ys.length c'])] → W'.cell? ⟨g, 0, none⟩ = some (.int .i64 v0) ∧ W'.cell? ⟨g, 1, none⟩ = some (.string v1) ∧ W'.cell? ⟨w.heap.size, 0, none⟩ = some (.slice (some ⟨bb, o, none⟩) xs.length c) ∧ W'.cell? ⟨w.heap.size, 1, none⟩ = some (.slice (some ⟨ba, oa, none⟩) ys.length c') ∧ W'.cell? ⟨ba, oa + q * 2 + 1, none⟩ = some (.int .i64 r) ∧ W'.cell? ⟨D0, r, none⟩ = some (.bool ur) := fun W' h => ⟨(h.box 0).c 0, (h.box 0).c 1, (h.box 1).c 0, (h.box 1).c 1, (h.below.cell (p := ⟨ba, oa + q * 2 + 1, none⟩) hbaw).trans ca1, (h.below.cell (p := ⟨D0, r, none⟩) hDw4).trans hdr⟩
                  have hgD0 : g ≠ D0 := by omega
                  have hwD0 : w.heap.size ≠ D0 := by have h1 := HM3.out.lt; have h2 := HDD.out; omega
                  have hbaD : ba ≠ D0 := by have h2 := HDD.out; omega
                  have HCS : ∀ W' u, Held w4 W' [(g, [.int .i64 v0, .string v1, .int .i64 v2, .slice a v3.length ca]), (w.heap.size, [.slice (some ⟨bb, o, none⟩) xs.length c, .slice (some ⟨ba, oa, none⟩) ys.length c'])] → (W'.setCell ⟨D0, i, none⟩ u).cell? ⟨g, 0, none⟩ = some (.int .i64 v0) ∧ (W'.setCell ⟨D0, i, none⟩ u).cell? ⟨g, 1, none⟩ = some (.string v1) ∧ (W'.setCell ⟨D0, i, none⟩ u).cell? ⟨w.heap.size, 0, none⟩ = some (.slice (some ⟨bb, o, none⟩) xs.length c) ∧ (W'.setCell ⟨D0, i, none⟩ u).cell? ⟨w.heap.size, 1, none⟩ = some (.slice (some ⟨ba, oa, none⟩) ys.length c') ∧ (W'.setCell ⟨D0, i, none⟩ u).cell? ⟨ba, oa + q * 2 + 1, none⟩ = some (.int .i64 r) ∧ (W'.setCell ⟨D0, i, none⟩ u).cell? ⟨D0, r, none⟩ = some (.bool ur) := fun W' u h => ⟨((h.box 0).far (g := D0) (i := i) hgD0 u).c 0, ((h.box 0).far (g := D0) (i := i) hgD0 u).c 1, ((h.box 1).far (g := D0) (i := i) hwD0 u).c 0, ((h.box 1).far (g := D0) (i := i) hwD0 u).c 1, (World.cell?_setCell_other W' _ _ _ (by intro e; injection e with e; exact hbaD e.symm)).trans (HC W' h).2.2.2.2.1, (World.cell?_setCell_other W' _ _ _ (by intro e; injection e with e1 e2; exact hne e2.symm)).trans (HC W' h).2.2.2.2.2⟩
                  have HAS := Lib.hid (fun W (h : Below w4.heap.size w4 W) => sAsgd_any _ _ c c' xs ys v1 (k : Int) W (((HRQ4.out.more hbw3.size).later h)) (by omega))
                  have hqa2 : asgd ys v1 (k : Int) = (q : Int) := by
                    have h2 := hqa
                    rw [HOI.out] at h2
                    exact h2
                  rw [hqa2] at HAS
                  have hqlt : (q : Int) < (ys.length : Int) := by omega
                  have hqge : (0 : Int) ≤ (q : Int) := by omega
                  have hrlt : (r : Int) < (xs.length : Int) := by omega
                  have hrge : (0 : Int) ≤ (r : Int) := by omega
                  clear hca hqa hqk hro hr hur hdr ca1 hvr hqa2 hd0 hf0 n0 n1 hr0
                  go_upto_region 23 with fail
                  go_region_held3 (fun W' => W'.cell? ⟨g, 0, none⟩ = some (.int .i64 v0) ∧ W'.cell? ⟨g, 1, none⟩ = some (.string v1) ∧ W'.cell? ⟨w.heap.size, 0, none⟩ = some (.slice (some ⟨bb, o, none⟩) xs.length c) ∧ W'.cell? ⟨w.heap.size, 1, none⟩ = some (.slice (some ⟨ba, oa, none⟩) ys.length c') ∧ W'.cell? ⟨ba, oa + q * 2 + 1, none⟩ = some (.int .i64 r) ∧ W'.cell? ⟨D0, r, none⟩ = some (.bool ur))
                    (first | (with_reducible exact HC _ HT) | (with_reducible exact HC _ HT.drew) | (with_reducible exact HCS _ _ HT) | (with_reducible exact HCS _ _ HT.drew))
                    ((go_at_call 40; (with_reducible refine (HAS.out _ (by first | with_reducible exact HT.below | with_reducible exact HT.drew.below)).mono ?_); rintro e w7 ⟨rfl, hb7⟩; (first | (have HT := HT.later hb7) | (have HT := HT.drew.later hb7)); have hd7 := (HSI.out _ HT.below).1; have hf7 := (HSI.out _ HT.below).2))
                  all_goals
                    have hs0 := ((own_keep' HS04.out HT.below).stored i (.bool ur)).1
                    rw [← List.map_set] at hs0
                    have hbT := HT.below
                    have HE : Hid ((w7.setCell ⟨D0, i, none⟩ (.bool ur)).ownsRow D0 4 1 (.slice (some ⟨D0, 0, none⟩) xs.length xs.length) xs.length ((outL xs ys k (i + 1)).map BoolV) ∧ (w7.setCell ⟨D0, i, none⟩ (.bool ur)).ownsRow D1 4 1 (.slice (some ⟨D1, 0, none⟩) xs.length xs.length) xs.length ((donL xs ys k (i + 1)).map BoolV) ∧ Below D0 w3 (w7.setCell ⟨D0, i, none⟩ (.bool ur))) := Lib.hid ⟨by rw [outL_take HOI.out, HUV.out]; exact hs0, ownsRow_setCell_other (own_keep' HS14.out hbT) (a := ⟨D0, i, none⟩) (by simp [Value.ownBlock]; have := HD.out; omega) _, (HSB4.out.trans (hbT.mono (Nat.le_of_lt hDw4))).setCell (p := ⟨D0, i, none⟩) (Nat.le_refl _) _⟩
                    clear hs0 hbT HC HCS hd7 hf7
                    go_wp2_with fail
                    go_roundw
                    case rel => exact ⟨i + 1, by omega, by go_num, HE.out⟩
                    case measure => simp [intOf]; omega
            · have b2 : (v0 == 2) = false := by simp [e2]
              have hus := HUS.out
              rw [if_neg e2] at hus
              by_cases ex : v0 = 8 ∧ v1 = ⟨#[116, 101, 120]⟩
              · have b8 : (v0 == 8) = true := by simp [ex.1]
                have bx : (v1.toList == [116, 101, 120]) = true := by rw [str_isQ]; exact decide_eq_true ex.2
                have HUV : Hid (uV xs ys i = false) := Lib.hid (by rw [hus, if_pos ex])
                have hd0 := HS0.out.cellAt i (by omega)
                have hf0 := HS0.out.frozenAt i
                rw [List.getElem?_map, List.getElem?_eq_getElem (by rw [outL_len]; exact hi), Option.map_some, outL_at, HVI.out, Bool.false_and] at hd0
                have hs := (HS0.out.stored i (.bool false)).1
                rw [← List.map_set] at hs
                have HE : Hid ((W3.setCell ⟨D0, i, none⟩ (.bool false)).ownsRow D0 4 1 (.slice (some ⟨D0, 0, none⟩) xs.length xs.length) xs.length ((outL xs ys k (i + 1)).map BoolV) ∧ (W3.setCell ⟨D0, i, none⟩ (.bool false)).ownsRow D1 4 1 (.slice (some ⟨D1, 0, none⟩) xs.length xs.length) xs.length ((donL xs ys k (i + 1)).map BoolV) ∧ Below D0 w3 (W3.setCell ⟨D0, i, none⟩ (.bool false))) := Lib.hid ⟨by rw [outL_take HOI.out, HUV.out]; exact hs, ownsRow_setCell_other HS1.out (a := ⟨D0, i, none⟩) (by simp [Value.ownBlock]; have := HD.out; omega) _, HSB.out.setCell (p := ⟨D0, i, none⟩) (Nat.le_refl _) _⟩
                clear hs
                clear hus ex e2
                go_wp2_with fail
                go_roundw
                case rel => exact ⟨i + 1, by omega, by go_num, HE.out⟩
                case measure => simp [intOf]; omega
              · rw [if_neg ex] at hus
                have HUV : Hid (uV xs ys i = accU xs ys v3) := Lib.hid hus
                have hcond : (v0 == 8) = false ∨ ((v0 == 8) = true ∧ (v1.toList == [116, 101, 120]) = false) := by
                  by_cases e8 : v0 = 8
                  · exact .inr ⟨by simp [e8], str_nots (fun e => ex ⟨e8, e⟩)⟩
                  · exact .inl (by simp [e8])
                have hd0 := HS0.out.cellAt i (by omega)
                have hf0 := HS0.out.frozenAt i
                rw [List.getElem?_map, List.getElem?_eq_getElem (by rw [outL_len]; exact hi), Option.map_some, outL_at, HVI.out, Bool.false_and] at hd0
                have hs := (HS0.out.stored i (.bool true)).1
                rw [← List.map_set] at hs
                have hn3 := (HMN.out.far (g := D0) (i := i) (by omega) (.bool true))
                have HI3 : Hid ((W3.setCell ⟨D0, i, none⟩ (.bool true)).ownsRow D0 4 1 (.slice (some ⟨D0, 0, none⟩) xs.length xs.length) xs.length (((outL xs ys k i).set i (accU xs ys (v3.take 0))).map BoolV) ∧ (W3.setCell ⟨D0, i, none⟩ (.bool true)).ownsRow D1 4 1 (.slice (some ⟨D1, 0, none⟩) xs.length xs.length) xs.length ((donL xs ys k (i + 1)).map BoolV) ∧ Below D0 w3 (W3.setCell ⟨D0, i, none⟩ (.bool true)) ∧ Row I64 (W3.setCell ⟨D0, i, none⟩ (.bool true)) w3.heap.size a v3) := Lib.hid ⟨by simpa [accU] using hs, ownsRow_setCell_other HS1.out (a := ⟨D0, i, none⟩) (by simp [Value.ownBlock]; have := HD.out; omega) _, HSB.out.setCell (p := ⟨D0, i, none⟩) (Nat.le_refl _) _, HRV.out.below ((Below.refl _ _).setCell (p := ⟨D0, i, none⟩) (by rw [← HDD.out]; exact Nat.le_refl _) _)⟩
                have n3 := hn3.c 3
                clear hs hus ex e2 hn3
                rcases hcond with b8 | ⟨b8, bx⟩
                all_goals
                  go_wp2_with fail
                  go_loopw [56] (fun iv wr => ∃ p : Nat, p ≤ v3.length ∧ iv = .int .i64 p ∧ wr.ownsRow D0 4 1 (.slice (some ⟨D0, 0, none⟩) xs.length xs.length) xs.length (((outL xs ys k i).set i (accU xs ys (v3.take p))).map BoolV) ∧ wr.ownsRow D1 4 1 (.slice (some ⟨D1, 0, none⟩) xs.length xs.length) xs.length ((donL xs ys k (i + 1)).map BoolV) ∧ Below D0 w3 wr ∧ Row I64 wr w3.heap.size a v3) (fun iv _ => v3.length - (intOf iv).toNat)
                  case atStart => exact ⟨0, Nat.zero_le _, rfl, HI3.out⟩
                  case round =>
                    clear n0 n1 n3 hd0 hf0 HI3 HS0 HS1 HSB HMN HMQ HRV HRQ
                    obtain ⟨p, hp, rfl, hr0, hr1, hb, hrv⟩ := hrel
                    have hlen0 : ((outL xs ys k i).set i (accU xs ys (v3.take p))).length = xs.length := by rw [List.length_set, outL_len]
                    by_cases hpl : p < v3.length
                    · obtain ⟨bq, oq, rfl, hblq, hcq⟩ := hrv.at hpl
                      obtain ⟨⟨hin0, hin1⟩, hov⟩ := HAI.out _ (List.getElem_mem hpl)
                      have hst := accU_step (xs := xs) (ys := ys) v3 p hpl
                      obtain ⟨m, hm⟩ : ∃ m : Nat, v3[p] = (m : Int) := ⟨(v3[p]).toNat, by omega⟩
                      have em : ((m : Int)).toNat = m := by omega
                      rw [hm, em] at hin1 hov hst
                      rw [hm] at hcq
                      have hvm : visB xs ys k i m = true := by
                        unfold visB
                        rw [hov, HOI.out, decide_eq_true hin1]
                        simp
                      obtain ⟨ac, hac⟩ : ∃ b, b = accU xs ys (v3.take p) := ⟨_, rfl⟩
                      obtain ⟨um, hum⟩ : ∃ b, b = uV xs ys m := ⟨_, rfl⟩
                      rw [← hac] at hr0 hst hlen0
                      rw [← hum] at hst
                      have hdi := hr0.cellAt i (by omega)
                      have hfi := hr0.frozenAt i
                      have hdm := hr0.cellAt m (by omega)
                      rw [List.getElem?_map, List.getElem?_eq_getElem (by rw [hlen0]; exact hi), Option.map_some, List.getElem_set_self] at hdi
                      rw [List.getElem?_map, List.getElem?_eq_getElem (by rw [hlen0]; omega), Option.map_some, List.getElem_set_ne (by omega), outL_at, hvm, Bool.true_and, ← hum] at hdm
                      have hs := (hr0.stored i (.bool (ac && um))).1
                      rw [← List.map_set, List.set_set] at hs
                      have hs2 : (wr.setCell ⟨D0, i, none⟩ (.bool (ac && um))).ownsRow D0 4 1 (.slice (some ⟨D0, 0, none⟩) xs.length xs.length) xs.length (((outL xs ys k i).set i (accU xs ys (v3.take (p + 1)))).map BoolV) := by rw [hst]; exact hs
                      have HR0 := Lib.hid hs2
                      have HR1 := Lib.hid (ownsRow_setCell_other hr1 (a := ⟨D0, i, none⟩) (by simp [Value.ownBlock]; have := HD.out; omega) (.bool (ac && um)))
                      have HRB := Lib.hid (hb.setCell (p := ⟨D0, i, none⟩) (Nat.le_refl _) (.bool (ac && um)))
                      have HRV := Lib.hid (hrv.below ((Below.refl wr.heap.size wr).mono (by have h1 := hb.size; have h2 := HDD.out; have h3 := (hr0.lt D0 (by rfl)).2; omega) |>.setCell (p := ⟨D0, i, none⟩) (by rw [← HDD.out]; exact Nat.le_refl _) (.bool (ac && um))))
                      have hplt : (p : Int) < (v3.length : Int) := by omega
                      have hpge : (0 : Int) ≤ (p : Int) := by omega
                      have hmlt : (m : Int) < (xs.length : Int) := by omega
                      have hmge : (0 : Int) ≤ (m : Int) := by omega
                      clear hr0 hr1 hb hrv hs hs2 hst hac hum hlen0 hvm hin0 hin1 hov hm em
                      cases ac
                      all_goals
                        go_wp2_with fail
                        go_roundw
                        case rel => exact ⟨p + 1, by omega, by go_num, HR0.out, HR1.out, HRB.out, HRV.out⟩
                        case measure => simp [intOf]; omega
                    · obtain rfl : p = v3.length := by omega
                      rw [List.take_length, ← HUV.out, ← outL_take HOI.out] at hr0
                      have HE : Hid (wr.ownsRow D0 4 1 (.slice (some ⟨D0, 0, none⟩) xs.length xs.length) xs.length ((outL xs ys k (i + 1)).map BoolV) ∧ wr.ownsRow D1 4 1 (.slice (some ⟨D1, 0, none⟩) xs.length xs.length) xs.length ((donL xs ys k (i + 1)).map BoolV) ∧ Below D0 w3 wr) := Lib.hid ⟨hr0, hr1, hb⟩
                      have hge3 : ¬ ((v3.length : Nat) : Int) < ((v3.length : Nat) : Int) := by omega
                      clear hr0 hr1 hb hrv hlen0
                      go_wp2_with fail
                      go_roundw
                      case rel => exact ⟨i + 1, by omega, by go_num, HE.out⟩
                      case measure => simp [intOf]; omega
          · have hne : (z == (k : Int)) = false := by simpa using hoi
            have HE : Hid (W2.ownsRow D0 4 1 (.slice (some ⟨D0, 0, none⟩) xs.length xs.length) xs.length ((outL xs ys k (i + 1)).map BoolV) ∧ W2.ownsRow D1 4 1 (.slice (some ⟨D1, 0, none⟩) xs.length xs.length) xs.length ((donL xs ys k (i + 1)).map BoolV) ∧ Below D0 w3 W2) := Lib.hid ⟨by rw [outL_skip (by rw [← HZZ.out]; exact hoi)]; exact HO0.out, by rw [donL_skip (by rw [← HZZ.out]; exact hoi)]; exact hr1, HBQ.out⟩
            clear hr1
            go_wp2_with fail
            go_roundw
            case rel => exact ⟨i + 1, by omega, by go_num, HE.out⟩
            case measure => simp [intOf]; omega
        · obtain rfl : i = xs.length := by omega
          have HE : Hid (wr.ownsRow D0 4 1 (.slice (some ⟨D0, 0, none⟩) xs.length xs.length) xs.length ((outL xs ys (k + 1) 0).map BoolV) ∧ wr.ownsRow D1 4 1 (.slice (some ⟨D1, 0, none⟩) xs.length xs.length) xs.length ((donL xs ys (k + 1) 0).map BoolV) ∧ Below D0 w3 wr) := Lib.hid ⟨by rw [← outL_next]; exact hr0, by rw [← donL_next]; exact hr1, hb⟩
          have hge2 : ¬ ((xs.length : Nat) : Int) < ((xs.length : Nat) : Int) := by omega
          clear hr0 hr1 hb hb'
          go_wp2_with fail
          go_roundw
          case rel => exact ⟨k + 1, by omega, by go_num, HE.out⟩
          case measure => simp [intOf]; omega
    · obtain rfl : k = ys.length := by omega
      have hrw : Row BoolV wr wr.heap.size (some ⟨D0, 0, none⟩) ((List.range xs.length).map (uV xs ys)) := by
        rw [outL_end HOK.out] at hr0
        exact Row.of_own (f := BoolV) (xs := (List.range xs.length).map (uV xs ys)) (c := xs.length) (by simpa only [List.length_map, List.length_range] using hr0)
      have HRW := Lib.hid hrw
      have hbz : Below w3.heap.size w3 wr := by rw [← HDD.out]; exact hb
      have HBF := Lib.hid (HB3.out.trans (hbz.mono HB3.out.size))
      have hge2 : ¬ ((ys.length : Nat) : Int) < ((ys.length : Nat) : Int) := by omega
      clear hr0 hr1 hb hrw hbz
      go_wp2_with fail
      go_ret
      exact ⟨_, rfl, HRW.out, HBF.out⟩
end Go.Proofs.Ytpcdlehicdepaaa
