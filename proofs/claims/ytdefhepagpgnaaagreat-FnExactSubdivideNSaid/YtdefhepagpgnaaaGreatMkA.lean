/- Contracts of the laws own helpers on slices of integers and of vectors: what they make is owned. -/
import Derived.Test.YtdefhepagpgnaaaGreatProg
import Derived.Test.YtdefhepagpgnaaaGreatInts
import Derived.Test.YtdefhepagpgnaaaGreatVbox
import Derived.Test.YtdefhepagpgnaaaGreatVec
import Derived.Test.YtdefhepagpgnaaaGreatHeld
import Derived.Test.YtdefhepagpgnaaaGreatMem
import Derived.Test.YtdefhepagpgnaaaGreatRowC
import Derived.Test.YtdefhepagpgnaaaGreatIntS
import Derived.Test.YtdefhepagpgnaaaGreatVecS
import Derived.Test.YtdefhepagpgnaaaGreatSS
import Derived.WalkKit
import Derived.WalkSpells
import Derived.WalkLawsBesides
import Derived.Lib.Hide
import Derived.Deep.RegionHeld3
import Derived.Deep.QuietTactic
import Derived.BigQuiet
import Derived.Handy
import Derived.Deep.DeepCutAuto
import Derived.OwnWalk
namespace Go.Proofs.YtdefhepagpgnaaaGreat
open Go.RowKit

set_option maxHeartbeats 1000000 in
theorem toIntS_own (A : Option Addr) (c : Nat) (xs : List Int) (w : World) (hR : Row I64 w w.heap.size A xs) (hl : xs.length ≤ 17592186044416) :
    Calls Tryz.prog 53 #[.slice A xs.length c] w fun e w' => e = .returned (.slice (some ⟨w.heap.size, 0, none⟩) xs.length xs.length) ∧ Below w.heap.size w w' ∧ Mbox w' w.heap.size (xs.map I64) ∧ w.heap.size < w'.heap.size := by
  obtain ⟨i0, hi, hz0, hz1, hz2⟩ := info_parts infoInt
  go_enter Tryz.func53, Tryz.ntmps53
  go_wp2_with (at_make; refine wpList_make_full _ rfl _ _ 45 rfl w.heap.size 3 i0 (.int .i64 0) 1 Tryz.underlying45 hi hz0 hz1 .i64 .i64 _ _ xs.length rfl rfl rfl rfl (by rw [hz2]; omega) (by unfold maxLen; omega) (by omega) ?_)
  intro w1 hown hgrow
  have hb0 : Below w.heap.size w w1 := (Below.refl _ _).grown hgrow (Nat.le_refl _) (fun k h => by cases h)
  have hown : w1.ownsRow w.heap.size 3 1 (.slice (some ⟨w.heap.size, 0, none⟩) xs.length xs.length) xs.length ((half xs 0).map I64) := by
    rw [half_zero, List.map_replicate, ← made_one]; exact hown
  clear hgrow
  have HO := Lib.hid hown
  have HB0 := Lib.hid hb0
  clear hown hb0
  go_wp2
  go_loopw [4] (fun i wr => ∃ k : Nat, k ≤ xs.length ∧ i = .int .i64 k ∧ wr.ownsRow w.heap.size 3 1 (.slice (some ⟨w.heap.size, 0, none⟩) xs.length xs.length) xs.length ((half xs k).map I64) ∧ Below w.heap.size w wr) (fun i _ => xs.length - (intOf i).toNat)
  case atStart => exact ⟨0, Nat.zero_le _, rfl, HO.out, HB0.out⟩
  case round =>
    obtain ⟨k, hk, rfl, hown, hb⟩ := hrel
    clear HO HB0
    by_cases hlt : k < xs.length
    · obtain ⟨b, o, rfl, hbl, hc⟩ := hR.at hlt
      have hc := (hb.cell hbl).trans hc
      have hd := hown.cellAt k (by omega)
      have hf := hown.frozenAt k
      have hlh : k < (half xs k).length := by rw [half_len _ _ hk]; exact hlt
      rw [List.getElem?_map, List.getElem?_eq_getElem hlh, Option.map_some] at hd
      obtain ⟨y, hy⟩ : ∃ y, y = (half xs k)[k] := ⟨_, rfl⟩
      rw [← hy] at hd
      have hs := (hown.stored k (I64 xs[k])).1
      rw [← List.map_set, half_step _ _ hlt] at hs
      have hs' := hb.setCell (p := ⟨w.heap.size, k, none⟩) (Nat.le_refl _) (I64 xs[k])
      obtain ⟨x, hx⟩ : ∃ x, x = xs[k] := ⟨_, rfl⟩
      rw [← hx] at hc hs hs'
      have HS := Lib.hid hs
      have HS' := Lib.hid hs'
      clear hx hy hR hb hown hs hs' hlh
      go_wp2
      go_roundw
      case rel => exact ⟨k + 1, by omega, by go_num, HS.out, HS'.out⟩
      case measure => simp [intOf]; omega
    · have e : k = xs.length := by omega
      have hown : wr.ownsRow w.heap.size 3 1 (.slice (some ⟨w.heap.size, 0, none⟩) xs.length xs.length) xs.length (xs.map I64) := by rw [e, half_all] at hown; exact hown
      have HO := Lib.hid hown
      have HB := Lib.hid hb
      clear e hown hb hR
      go_wp2
      go_ret
      exact ⟨rfl, HB.out, Mbox.of_own HO.out, (HO.out.lt _ rfl).2⟩

set_option maxHeartbeats 2000000 in
theorem toVecS_own (A : Option Addr) (c : Nat) (xs : List V3) (w : World) (hR : RowC 3 vg w w.heap.size A xs) (hl : xs.length ≤ 1099511627776) :
    Calls Tryz.prog 22 #[.slice A xs.length c] w fun e w' => e = .returned (.slice (some ⟨w.heap.size, 0, none⟩) xs.length xs.length) ∧ Below w.heap.size w w' ∧ Mbox w' w.heap.size (xs.flatMap vg) ∧ w.heap.size < w'.heap.size := by
  obtain ⟨i0, hi, hz0, hz1, hz2⟩ := info_parts infoVec
  go_enter Tryz.func22, Tryz.ntmps22
  go_wp2_with (at_make; refine wpList_make_full _ rfl _ _ 27 rfl w.heap.size 43 i0 (vec 0 0 0) 3 Tryz.underlying27 hi hz0 hz1 .i64 .i64 _ _ xs.length rfl rfl rfl rfl (by rw [hz2]; omega) (by unfold maxLen; omega) (by omega) ?_)
  intro w1 hown hgrow
  have hb0 : Below w.heap.size w w1 := (Below.refl _ _).grown hgrow (Nat.le_refl _) (fun k h => by cases h)
  have hown : w1.ownsRow w.heap.size 43 3 (.slice (some ⟨w.heap.size, 0, none⟩) xs.length xs.length) xs.length ((halfA (0, 0, 0) xs 0).flatMap vg) := by
    rw [halfA_zero, replV, ← made3]; exact hown
  clear hgrow
  have HO := Lib.hid hown
  have HB0 := Lib.hid hb0
  clear hown hb0
  go_wp2
  go_loopw [4] (fun i wr => ∃ k : Nat, k ≤ xs.length ∧ i = .int .i64 k ∧ wr.ownsRow w.heap.size 43 3 (.slice (some ⟨w.heap.size, 0, none⟩) xs.length xs.length) xs.length ((halfA (0, 0, 0) xs k).flatMap vg) ∧ Below w.heap.size w wr) (fun i _ => xs.length - (intOf i).toNat)
  case atStart => exact ⟨0, Nat.zero_le _, rfl, HO.out, HB0.out⟩
  case round =>
    obtain ⟨k, hk, rfl, hown, hb⟩ := hrel
    clear HO HB0
    by_cases hlt : k < xs.length
    · obtain ⟨b, o, rfl, hbl, hc⟩ := hR.at hlt
      obtain ⟨c0, c1, c2⟩ := vg_at hc
      have c0 := (hb.cell (p := ⟨b, o + k * 3, none⟩) hbl).trans c0
      have c1 := (hb.cell (p := ⟨b, o + k * 3 + 1, none⟩) hbl).trans c1
      have c2 := (hb.cell (p := ⟨b, o + k * 3 + 2, none⟩) hbl).trans c2
      obtain ⟨v, hv⟩ : ∃ v, v = xs[k] := ⟨_, rfl⟩
      have HV := Lib.hid hv
      rw [← hv] at c0 c1 c2
      have hlt' : (k : Int) < (xs.length : Int) := by omega
      have hge' : (0 : Int) ≤ (k : Int) := by omega
      have HO := Lib.hid hown
      have HB := Lib.hid hb
      clear hv hR hb hown hc
      go_wp2_with fail
      refine (toVec_any _ _ _ _).mono ?_
      rintro e w2 ⟨rfl, hb2⟩
      have hb := bcall HB.out hb2 HB.out.size
      have hown := own_keep' HO.out hb2
      clear hb2 HO HB c0 c1 c2
      obtain ⟨x, y, z, d0, d1, d2⟩ := own_vec hown (halfA_len _ _ _ hk) hlt
      have f0 := hown.frozenAt (k * 3)
      have f1 := hown.frozenAt (k * 3 + 1)
      have f2 := hown.frozenAt (k * 3 + 2)
      have hs := (((hown.stored (k * 3) (.int .i64 v.1)).1.stored (k * 3 + 1) (.int .i64 v.2.1)).1.stored (k * 3 + 2) (.int .i64 v.2.2)).1
      rw [vg_set, HV.out, halfA_step _ _ _ hlt, ← HV.out] at hs
      have hs' := ((hb.setCell (p := ⟨w.heap.size, k * 3, none⟩) (Nat.le_refl _) (.int .i64 v.1)).setCell (p := ⟨w.heap.size, k * 3 + 1, none⟩) (Nat.le_refl _) (.int .i64 v.2.1)).setCell (p := ⟨w.heap.size, k * 3 + 2, none⟩) (Nat.le_refl _) (.int .i64 v.2.2)
      have HS := Lib.hid hs
      have HS' := Lib.hid hs'
      clear hb hown hs hs' HV
      go_wp2
      go_roundw
      case rel => exact ⟨k + 1, by omega, by go_num, HS.out, HS'.out⟩
      case measure => simp [intOf]; omega
    · have e : k = xs.length := by omega
      have hown : wr.ownsRow w.heap.size 43 3 (.slice (some ⟨w.heap.size, 0, none⟩) xs.length xs.length) xs.length (xs.flatMap vg) := by rw [e, halfA_all] at hown; exact hown
      have HO := Lib.hid hown
      have HB := Lib.hid hb
      clear e hown hb hR
      go_wp2
      go_ret
      exact ⟨rfl, HB.out, Mbox.of_own HO.out, (HO.out.lt _ rfl).2⟩


theorem retI {a b : Int} (h : a = b) : Ending.returned (.int .i64 a) = Ending.returned (.int .i64 b) := by rw [h]
def cnt (k n : Nat) : List Int := (List.range n).map fun i => ((k + i : Nat) : Int)
theorem cnt_len (k n : Nat) : (cnt k n).length = n := by simp [cnt]
theorem cnt_at (k n i : Nat) (h : i < (cnt k n).length) : (cnt k n)[i] = ((k + i : Nat) : Int) := by simp [cnt]
def cntIn (k i : Nat) (xs : List Int) : List Int := cnt k i ++ xs.drop i
theorem cntIn_zero (k : Nat) (xs : List Int) : cntIn k 0 xs = xs := by simp [cntIn, cnt]
theorem cntIn_all (k : Nat) (xs : List Int) : cntIn k xs.length xs = cnt k xs.length := by simp [cntIn]
theorem cntIn_len (k i : Nat) (xs : List Int) (h : i ≤ xs.length) : (cntIn k i xs).length = xs.length := by simp [cntIn, cnt_len]; omega
theorem cntIn_step (k i : Nat) (xs : List Int) (h : i < xs.length) : (cntIn k i xs).set i ((k + i : Nat) : Int) = cntIn k (i + 1) xs := by
  unfold cntIn
  rw [List.set_append_right _ _ (by rw [cnt_len]; omega), cnt_len, Nat.sub_self, List.drop_eq_getElem_cons h, List.set_cons_zero]
  have e : cnt k (i + 1) = cnt k i ++ [((k + i : Nat) : Int)] := by simp [cnt, List.range_succ]
  rw [e, List.append_assoc, List.singleton_append]
/-- how many integers the rows hold -/
def sumL (xss : List (List Int)) : Nat := (xss.map List.length).sum
theorem sumL_step (xss : List (List Int)) (k : Nat) (h : k < xss.length) : sumL (xss.take (k + 1)) = sumL (xss.take k) + xss[k].length := by
  unfold sumL
  rw [List.take_succ_eq_append_getElem h, List.map_append, List.sum_append]
  simp only [List.map_cons, List.map_nil, List.sum_cons, List.sum_nil, Nat.add_zero]
theorem sumL_le (xss : List (List Int)) (k : Nat) : sumL (xss.take k) ≤ sumL xss := by
  unfold sumL
  have h : (xss.map List.length).sum = ((xss.take k).map List.length).sum + ((xss.drop k).map List.length).sum := by
    rw [← List.sum_append, ← List.map_append, List.take_append_drop]
  omega
theorem len_le_sum (xss : List (List Int)) : ∀ xs ∈ xss, xs.length ≤ sumL xss := by
  intro xs hx
  obtain ⟨k, hk, rfl⟩ := List.getElem_of_mem hx
  have h1 := sumL_step xss k hk
  have h2 := sumL_le xss (k + 1)
  omega
set_option maxHeartbeats 1000000 in
theorem markIntM (g c k : Nat) (xs : List Int) (w : World) (hM : Mbox w g (xs.map I64)) (hk2 : k + xs.length ≤ 4611686018427387904) :
    Calls Tryz.prog 71 #[.slice (some ⟨g, 0, none⟩) xs.length c, .int .i64 k] w fun e w' => e = .returned (.int .i64 ((k + xs.length : Nat) : Int)) ∧ Mbox w' g ((cnt k xs.length).map I64) ∧ w.grownBy w' (some g) := by
  have HM := Lib.hid hM
  clear hM
  go_enter Tryz.func71, Tryz.ntmps71
  go_wp2
  go_loopw [1, 5] (fun m i wr => ∃ j : Nat, j ≤ xs.length ∧ i = .int .i64 j ∧ m = .int .i64 ((k + j : Nat) : Int) ∧ Mbox wr g ((cntIn k j xs).map I64) ∧ w.grownBy wr (some g)) (fun _ i _ => xs.length - (intOf i).toNat)
  case atStart => exact ⟨0, Nat.zero_le _, rfl, rfl, by rw [cntIn_zero]; exact HM.out, gb_refl _ _⟩
  case round =>
    obtain ⟨j, hj, rfl, rfl, hown, hb⟩ := hrel
    clear HM
    have HO := Lib.hid hown
    have HB := Lib.hid hb
    clear hown hb
    by_cases hlt : j < xs.length
    · have hlh : j < (cntIn k j xs).length := by rw [cntIn_len _ _ _ hj]; exact hlt
      have hd := HO.out.c j (v := I64 (cntIn k j xs)[j]) (by rw [List.getElem?_map, List.getElem?_eq_getElem hlh]; rfl)
      have hf := HO.out.f j (v := I64 (cntIn k j xs)[j]) (by rw [List.getElem?_map, List.getElem?_eq_getElem hlh]; rfl)
      obtain ⟨y, hy⟩ : ∃ y, y = (cntIn k j xs)[j] := ⟨_, rfl⟩
      rw [← hy] at hd
      have hs := HO.out.put j (I64 ((k + j : Nat) : Int))
      rw [← List.map_set, cntIn_step _ _ _ hlt] at hs
      have hs' := gb_set (i := j) HB.out (I64 ((k + j : Nat) : Int))
      have e : ((k + j : Nat) : Int) = (k : Int) + (j : Int) := by omega
      rw [e] at hs hs'
      have HS := Lib.hid hs
      have HS' := Lib.hid hs'
      clear hy hs hs' hlh e HO HB
      go_wp2
      go_roundw
      case rel => exact ⟨j + 1, by omega, by go_num, by go_num, HS.out, HS'.out⟩
      case measure => simp [intOf]; omega
    · have e : j = xs.length := by omega
      have HO2 : Hid (Mbox wr g ((cnt k xs.length).map I64)) := by have := HO.out; rw [e, cntIn_all] at this; exact this
      have HE := Lib.hid e
      clear e HO
      go_wp2
      go_ret
      exact ⟨retI (by have := HE.out; omega), HO2.out, HB.out⟩

set_option maxHeartbeats 1000000 in
theorem markIntO (A : Option Addr) (c base k : Nat) (xs : List Int) (w : World) (ho : w.ownsRow base 3 1 (.slice A xs.length c) xs.length (xs.map I64)) (hk2 : k + xs.length ≤ 4611686018427387904) :
    Calls Tryz.prog 71 #[.slice A xs.length c, .int .i64 k] w fun e w' => e = .returned (.int .i64 ((k + xs.length : Nat) : Int)) ∧ w'.ownsRow base 3 1 (.slice A xs.length c) xs.length ((cnt k xs.length).map I64) ∧ Below base w w' := by
  have HO := Lib.hid ho
  clear ho
  go_enter Tryz.func71, Tryz.ntmps71
  go_wp2
  go_loopw [1, 5] (fun m i wr => ∃ j : Nat, j ≤ xs.length ∧ i = .int .i64 j ∧ m = .int .i64 ((k + j : Nat) : Int) ∧ wr.ownsRow base 3 1 (.slice A xs.length c) xs.length ((cntIn k j xs).map I64) ∧ Below base w wr) (fun _ i _ => xs.length - (intOf i).toNat)
  case atStart => exact ⟨0, Nat.zero_le _, rfl, rfl, by rw [cntIn_zero]; exact HO.out, Below.refl _ _⟩
  case round =>
    obtain ⟨j, hj, rfl, rfl, hown, hb⟩ := hrel
    clear HO
    have HO := Lib.hid hown
    have HB := Lib.hid hb
    clear hown hb
    by_cases hlt : j < xs.length
    · obtain ⟨A0, hA⟩ : ∃ g, A = some ⟨g, 0, none⟩ := by
        rcases HO.out.2 with ⟨h, h0⟩ | ⟨g, cap, cur, h, _⟩
        · omega
        · injection h with h; exact ⟨g, h⟩
      subst hA
      have hge := own_block HO.out A0 rfl
      have hlh : j < (cntIn k j xs).length := by rw [cntIn_len _ _ _ hj]; exact hlt
      have hd := HO.out.cellAt j (by omega)
      have hf := HO.out.frozenAt j
      rw [List.getElem?_map, List.getElem?_eq_getElem hlh, Option.map_some] at hd
      obtain ⟨y, hy⟩ : ∃ y, y = (cntIn k j xs)[j] := ⟨_, rfl⟩
      rw [← hy] at hd
      have hs := (HO.out.stored j (I64 ((k + j : Nat) : Int))).1
      rw [← List.map_set, cntIn_step _ _ _ hlt] at hs
      have hs' := HB.out.setCell (p := ⟨A0, j, none⟩) hge (I64 ((k + j : Nat) : Int))
      have e : ((k + j : Nat) : Int) = (k : Int) + (j : Int) := by omega
      rw [e] at hs hs'
      have HS := Lib.hid hs
      have HS' := Lib.hid hs'
      clear hy hs hs' hlh e
      go_wp2
      go_roundw
      case rel => exact ⟨j + 1, by omega, by go_num, by go_num, HS.out, HS'.out⟩
      case measure => simp [intOf]; omega
    · have e : j = xs.length := by omega
      have HO2 : Hid (wr.ownsRow base 3 1 (.slice A xs.length c) xs.length ((cnt k xs.length).map I64)) := by have := HO.out; rw [e, cntIn_all] at this; exact this
      have HE := Lib.hid e
      clear e HO
      go_wp2
      go_ret
      exact ⟨retI (by have := HE.out; omega), HO2.out, HB.out⟩

set_option maxHeartbeats 1000000 in
theorem heldIntM (A : Option Addr) (c k n : Nat) (w : World) (hR : Row I64 w w.heap.size A (cnt k n)) (hk2 : k + n ≤ 4611686018427387904) :
    Calls Tryz.prog 72 #[.slice A n c, .int .i64 k] w fun e w' => e = .returned (.int .i64 ((k + n : Nat) : Int)) ∧ Below w.heap.size w w' := by
  go_enter Tryz.func72, Tryz.ntmps72
  go_wp2
  go_loopw [1, 5] (fun m i wr => ∃ j : Nat, j ≤ n ∧ i = .int .i64 j ∧ m = .int .i64 ((k + j : Nat) : Int) ∧ Below w.heap.size w wr) (fun _ i _ => n - (intOf i).toNat)
  case atStart => exact ⟨0, Nat.zero_le _, rfl, rfl, Below.refl _ _⟩
  case round =>
    obtain ⟨j, hj, rfl, rfl, hb⟩ := hrel
    have HB := Lib.hid hb
    clear hb
    by_cases hlt : j < n
    · obtain ⟨b, o, rfl, hbl, hc⟩ := hR.at (k := j) (by rw [cnt_len]; exact hlt)
      have hc := (HB.out.cell hbl).trans hc
      rw [cnt_at] at hc
      have e : ((k + j : Nat) : Int) = (k : Int) + (j : Int) := by omega
      rw [e] at hc
      have hlt' : (j : Int) < (n : Int) := by omega
      have hge' : (0 : Int) ≤ (j : Int) := by omega
      clear hR e
      go_wp2
      go_roundw
      case rel => exact ⟨j + 1, by omega, by go_num, by go_num, HB.out⟩
      case measure => simp [intOf]; omega
    · have HE : Hid (j = n) := Lib.hid (by omega)
      clear hR
      go_wp2
      go_ret
      exact ⟨retI (by have := HE.out; omega), HB.out⟩

set_option maxHeartbeats 2000000 in
theorem markVecM (g c k n : Nat) (cs : List Value) (hcs : cs.length = n * 3) (w : World) (hM : Mbox w g cs) (hk2 : k + 3 * n ≤ 4611686018427387904) :
    Calls Tryz.prog 32 #[.slice (some ⟨g, 0, none⟩) n c, .int .i64 k] w fun e w' => e = .returned (.int .i64 ((k + 3 * n : Nat) : Int)) ∧ w.grownBy w' (some g) := by
  have HM := Lib.hid hM
  have HL := Lib.hid hcs
  clear hM hcs
  go_enter Tryz.func32, Tryz.ntmps32
  go_wp2
  go_loopw [1, 5] (fun m i wr => ∃ (j : Nat) (ds : List Value), j ≤ n ∧ i = .int .i64 j ∧ m = .int .i64 ((k + 3 * j : Nat) : Int) ∧ ds.length = n * 3 ∧ Mbox wr g ds ∧ w.grownBy wr (some g)) (fun _ i _ => n - (intOf i).toNat)
  case atStart => exact ⟨0, cs, Nat.zero_le _, rfl, rfl, HL.out, HM.out, gb_refl _ _⟩
  case round =>
    obtain ⟨j, ds, hj, rfl, rfl, hdl, hown, hb⟩ := hrel
    clear HM HL
    have HO := Lib.hid hown
    have HB := Lib.hid hb
    have HD := Lib.hid hdl
    clear hown hb
    by_cases hlt : j < n
    · have l0 : j * 3 < ds.length := by omega
      have l1 : j * 3 + 1 < ds.length := by omega
      have l2 : j * 3 + 2 < ds.length := by omega
      have d0 := HO.out.c (j * 3) (List.getElem?_eq_getElem l0)
      have d1 := HO.out.c (j * 3 + 1) (List.getElem?_eq_getElem l1)
      have d2 := HO.out.c (j * 3 + 2) (List.getElem?_eq_getElem l2)
      have f0 := HO.out.f (j * 3) (List.getElem?_eq_getElem l0)
      have f1 := HO.out.f (j * 3 + 1) (List.getElem?_eq_getElem l1)
      have f2 := HO.out.f (j * 3 + 2) (List.getElem?_eq_getElem l2)
      generalize ds[j * 3] = y0 at d0
      generalize ds[j * 3 + 1] = y1 at d1
      generalize ds[j * 3 + 2] = y2 at d2
      have HS := Lib.hid (((HO.out.put (j * 3) (I64 ((k : Int) + 3 * (j : Int)))).put (j * 3 + 1) (I64 ((k : Int) + 3 * (j : Int) + 1))).put (j * 3 + 2) (I64 ((k : Int) + 3 * (j : Int) + 1 + 1)))
      have HS' := Lib.hid (gb_set (i := j * 3 + 2) (gb_set (i := j * 3 + 1) (gb_set (i := j * 3) HB.out (I64 ((k : Int) + 3 * (j : Int)))) (I64 ((k : Int) + 3 * (j : Int) + 1))) (I64 ((k : Int) + 3 * (j : Int) + 1 + 1)))
      clear l0 l1 l2 HO HB hdl
      go_wp2
      go_roundw
      case rel => exact ⟨j + 1, _, by omega, by go_num, by go_num, by simp [HD.out], HS.out, HS'.out⟩
      case measure => simp [intOf]; omega
    · have HE : Hid (j = n) := Lib.hid (by omega)
      clear HO hdl
      go_wp2
      go_ret
      exact ⟨retI (by have := HE.out; omega), HB.out⟩

end Go.Proofs.YtdefhepagpgnaaaGreat
