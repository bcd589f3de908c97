/- Contracts of the laws own helpers over slices of vectors. -/
import Derived.Test.YtdefhepagpgnaaaGreatProg
import Derived.Test.YtdefhepagpgnaaaGreatInts
import Derived.Test.YtdefhepagpgnaaaGreatVbox
import Derived.Test.YtdefhepagpgnaaaGreatVec
import Derived.Test.YtdefhepagpgnaaaGreatHeld
import Derived.Test.YtdefhepagpgnaaaGreatMem
import Derived.Test.YtdefhepagpgnaaaGreatFlat
import Derived.Test.YtdefhepagpgnaaaGreatRowC
import Derived.WalkKit
import Derived.WalkSpells
import Derived.WalkLawsBesides
import Derived.Lib.Hide
import Derived.Deep.RegionHeld3
import Derived.Deep.QuietTactic
import Derived.BigQuiet
import Derived.Handy
import Derived.Deep.DeepCutAuto
import Derived.OwnWalk
namespace Go.Proofs.YtdefhepagpgnaaaGreat
open Go.RowKit

theorem infoVec : (Tryz.prog.info? 43).map (fun i => (i.zero, i.size, i.bytes)) = some (some (vec 0 0 0), 3, 24) := by kernel_rfl
theorem made3 (z : Value) (n : Nat) : (madeCells #[z, z, z] n).toList = List.replicate n z := by
  refine List.eq_replicate_iff.2 ⟨by simp [madeCells], fun b hb => ?_⟩
  simp [madeCells] at hb
  obtain ⟨i, _, rfl⟩ := hb
  have : i % 3 = 0 ∨ i % 3 = 1 ∨ i % 3 = 2 := by omega
  rcases this with h | h | h <;> rw [h] <;> rfl
theorem replV (n : Nat) : (List.replicate n ((0, 0, 0) : V3)).flatMap vg = List.replicate (n * 3) (.int .i64 0) := by
  induction n with
  | zero => rfl
  | succ n ih => rw [List.replicate_succ, List.flatMap_cons, ih, show (n + 1) * 3 = n * 3 + 1 + 1 + 1 by omega, List.replicate_succ, List.replicate_succ, List.replicate_succ]; rfl
def halfA {α : Type} (z : α) (xs : List α) (k : Nat) : List α := xs.take k ++ List.replicate (xs.length - k) z
theorem halfA_zero {α : Type} (z : α) (xs : List α) : halfA z xs 0 = List.replicate xs.length z := by simp [halfA]
theorem halfA_all {α : Type} (z : α) (xs : List α) : halfA z xs xs.length = xs := by simp [halfA]
theorem halfA_len {α : Type} (z : α) (xs : List α) (k : Nat) (h : k ≤ xs.length) : (halfA z xs k).length = xs.length := by simp [halfA]; omega
theorem halfA_step {α : Type} (z : α) (xs : List α) (k : Nat) (h : k < xs.length) : (halfA z xs k).set k xs[k] = halfA z xs (k + 1) := by
  unfold halfA
  rw [List.take_succ_eq_append_getElem h, List.set_append_right _ _ (by simp; omega)]
  have e : xs.length - k = (xs.length - (k + 1)) + 1 := by omega
  rw [e, List.replicate_succ]
  simp only [List.length_take, Nat.min_eq_left (Nat.le_of_lt h), Nat.sub_self, List.set_cons_zero, List.append_assoc, List.cons_append, List.nil_append]
/-- three cells of a row of vectors -/
theorem own_vec {w : World} {base : Nat} {e : TypeId} {g n cap : Nat} {xs : List V3} (h : w.ownsRow base e 3 (.slice (some ⟨g, 0, none⟩) n cap) n (xs.flatMap vg)) (hn : xs.length = n) {k : Nat} (hk : k < n) :
    ∃ x y z : Int, w.cell? ⟨g, k * 3, none⟩ = some (.int .i64 x) ∧ w.cell? ⟨g, k * 3 + 1, none⟩ = some (.int .i64 y) ∧ w.cell? ⟨g, k * 3 + 2, none⟩ = some (.int .i64 z) := by
  have hk' : k < xs.length := by omega
  have h0 := h.cellAt (k * 3) (by omega)
  have h1 := h.cellAt (k * 3 + 1) (by omega)
  have h2 := h.cellAt (k * 3 + 2) (by omega)
  rw [← Nat.add_zero (k * 3), flat_get vg_len xs k 0 hk' (by omega)] at h0
  rw [flat_get vg_len xs k 1 hk' (by omega)] at h1
  rw [flat_get vg_len xs k 2 hk' (by omega)] at h2
  exact ⟨_, _, _, h0, h1, h2⟩

set_option maxHeartbeats 2000000 in
theorem toVecS_any (A : Option Addr) (c : Nat) (xs : List V3) (w : World) (hR : RowC 3 vg w w.heap.size A xs) (hl : xs.length ≤ 1099511627776) :
    Calls Tryz.prog 22 #[.slice A xs.length c] w fun e w' => e = .returned (.slice (some ⟨w.heap.size, 0, none⟩) xs.length xs.length) ∧ Below w.heap.size w w' ∧ RowC 3 vg w' w'.heap.size (some ⟨w.heap.size, 0, none⟩) xs := by
  obtain ⟨i0, hi, hz0, hz1, hz2⟩ := info_parts infoVec
  go_enter Tryz.func22, Tryz.ntmps22
  go_wp2_with (at_make; refine wpList_make_full _ rfl _ _ 27 rfl w.heap.size 43 i0 (vec 0 0 0) 3 Tryz.underlying27 hi hz0 hz1 .i64 .i64 _ _ xs.length rfl rfl rfl rfl (by rw [hz2]; omega) (by unfold maxLen; omega) (by omega) ?_)
  intro w1 hown hgrow
  have hb0 : Below w.heap.size w w1 := (Below.refl _ _).grown hgrow (Nat.le_refl _) (fun k h => by cases h)
  have hown : w1.ownsRow w.heap.size 43 3 (.slice (some ⟨w.heap.size, 0, none⟩) xs.length xs.length) xs.length ((halfA (0, 0, 0) xs 0).flatMap vg) := by
    rw [halfA_zero, replV, ← made3]; exact hown
  clear hgrow
  have HO := Lib.hid hown
  have HB0 := Lib.hid hb0
  clear hown hb0
  go_wp2
  go_loopw [4] (fun i wr => ∃ k : Nat, k ≤ xs.length ∧ i = .int .i64 k ∧ wr.ownsRow w.heap.size 43 3 (.slice (some ⟨w.heap.size, 0, none⟩) xs.length xs.length) xs.length ((halfA (0, 0, 0) xs k).flatMap vg) ∧ Below w.heap.size w wr) (fun i _ => xs.length - (intOf i).toNat)
  case atStart => exact ⟨0, Nat.zero_le _, rfl, HO.out, HB0.out⟩
  case round =>
    obtain ⟨k, hk, rfl, hown, hb⟩ := hrel
    clear HO HB0
    by_cases hlt : k < xs.length
    · obtain ⟨b, o, rfl, hbl, hc⟩ := hR.at hlt
      obtain ⟨c0, c1, c2⟩ := vg_at hc
      have c0 := (hb.cell (p := ⟨b, o + k * 3, none⟩) hbl).trans c0
      have c1 := (hb.cell (p := ⟨b, o + k * 3 + 1, none⟩) hbl).trans c1
      have c2 := (hb.cell (p := ⟨b, o + k * 3 + 2, none⟩) hbl).trans c2
      obtain ⟨v, hv⟩ : ∃ v, v = xs[k] := ⟨_, rfl⟩
      have HV := Lib.hid hv
      rw [← hv] at c0 c1 c2
      have hlt' : (k : Int) < (xs.length : Int) := by omega
      have hge' : (0 : Int) ≤ (k : Int) := by omega
      have HO := Lib.hid hown
      have HB := Lib.hid hb
      clear hv hR hb hown hc
      go_wp2_with fail
      refine (toVec_any _ _ _ _).mono ?_
      rintro e w2 ⟨rfl, hb2⟩
      have hb := bcall HB.out hb2 HB.out.size
      have hown := own_keep' HO.out hb2
      clear hb2 HO HB c0 c1 c2
      obtain ⟨x, y, z, d0, d1, d2⟩ := own_vec hown (halfA_len _ _ _ hk) hlt
      have f0 := hown.frozenAt (k * 3)
      have f1 := hown.frozenAt (k * 3 + 1)
      have f2 := hown.frozenAt (k * 3 + 2)
      have hs := (((hown.stored (k * 3) (.int .i64 v.1)).1.stored (k * 3 + 1) (.int .i64 v.2.1)).1.stored (k * 3 + 2) (.int .i64 v.2.2)).1
      rw [vg_set, HV.out, halfA_step _ _ _ hlt, ← HV.out] at hs
      have hs' := ((hb.setCell (p := ⟨w.heap.size, k * 3, none⟩) (Nat.le_refl _) (.int .i64 v.1)).setCell (p := ⟨w.heap.size, k * 3 + 1, none⟩) (Nat.le_refl _) (.int .i64 v.2.1)).setCell (p := ⟨w.heap.size, k * 3 + 2, none⟩) (Nat.le_refl _) (.int .i64 v.2.2)
      have HS := Lib.hid hs
      have HS' := Lib.hid hs'
      clear hb hown hs hs' HV
      go_wp2
      go_roundw
      case rel => exact ⟨k + 1, by omega, by go_num, HS.out, HS'.out⟩
      case measure => simp [intOf]; omega
    · have e : k = xs.length := by omega
      have hown : wr.ownsRow w.heap.size 43 3 (.slice (some ⟨w.heap.size, 0, none⟩) xs.length xs.length) xs.length (xs.flatMap vg) := by rw [e, halfA_all] at hown; exact hown
      have HO := Lib.hid hown
      have HB := Lib.hid hb
      clear e hown hb hR
      go_wp2
      go_ret
      exact ⟨rfl, HB.out, RowC.of_own vg_len HO.out rfl⟩

set_option maxHeartbeats 2000000 in
theorem eqVecS_same (A A' : Option Addr) (c c' : Nat) (xs : List V3) (w : World) (hR : RowC 3 vg w w.heap.size A xs) (hR' : RowC 3 vg w w.heap.size A' xs) (hl : xs.length ≤ 1099511627776) :
    Calls Tryz.prog 30 #[.slice A xs.length c, .slice A' xs.length c'] w fun e w' => e = .returned (.bool true) ∧ Below w.heap.size w w' := by
  go_enter Tryz.func30, Tryz.ntmps30
  go_wp2
  go_loopw [5] (fun i wr => ∃ k : Nat, k ≤ xs.length ∧ i = .int .i64 k ∧ Below w.heap.size w wr) (fun i _ => xs.length - (intOf i).toNat)
  case atStart => exact ⟨0, Nat.zero_le _, rfl, Below.refl _ _⟩
  case round =>
    obtain ⟨k, hk, rfl, HB⟩ := hrel
    by_cases hlt : k < xs.length
    · obtain ⟨b, o, rfl, hbl, hc⟩ := hR.at hlt
      obtain ⟨b', o', rfl, hbl', hc'⟩ := hR'.at hlt
      obtain ⟨c0, c1, c2⟩ := vg_at hc
      obtain ⟨d0, d1, d2⟩ := vg_at hc'
      obtain ⟨v, hv⟩ : ∃ v, v = xs[k] := ⟨_, rfl⟩
      rw [← hv] at c0 c1 c2 d0 d1 d2
      have HC : ∀ W, Below w.heap.size w W → (W.cell? ⟨b, o + k * 3, none⟩ = some (.int .i64 v.1) ∧ W.cell? ⟨b, o + k * 3 + 1, none⟩ = some (.int .i64 v.2.1) ∧ W.cell? ⟨b, o + k * 3 + 2, none⟩ = some (.int .i64 v.2.2) ∧ W.cell? ⟨b', o' + k * 3, none⟩ = some (.int .i64 v.1) ∧ W.cell? ⟨b', o' + k * 3 + 1, none⟩ = some (.int .i64 v.2.1) ∧ W.cell? ⟨b', o' + k * 3 + 2, none⟩ = some (.int .i64 v.2.2)) := fun W h =>
        ⟨(h.cell (p := ⟨b, o + k * 3, none⟩) hbl).trans c0, (h.cell (p := ⟨b, o + k * 3 + 1, none⟩) hbl).trans c1, (h.cell (p := ⟨b, o + k * 3 + 2, none⟩) hbl).trans c2, (h.cell (p := ⟨b', o' + k * 3, none⟩) hbl').trans d0, (h.cell (p := ⟨b', o' + k * 3 + 1, none⟩) hbl').trans d1, (h.cell (p := ⟨b', o' + k * 3 + 2, none⟩) hbl').trans d2⟩
      have hlt' : (k : Int) < (xs.length : Int) := by omega
      have hge' : (0 : Int) ≤ (k : Int) := by omega
      clear hv hR hR' hc hc' c0 c1 c2 d0 d1 d2 hbl hbl'
      go_wp2_with fail
      go_region_held3 (fun w' => w'.cell? ⟨b, o + k * 3, none⟩ = some (.int .i64 v.1) ∧ w'.cell? ⟨b, o + k * 3 + 1, none⟩ = some (.int .i64 v.2.1) ∧ w'.cell? ⟨b, o + k * 3 + 2, none⟩ = some (.int .i64 v.2.2) ∧ w'.cell? ⟨b', o' + k * 3, none⟩ = some (.int .i64 v.1) ∧ w'.cell? ⟨b', o' + k * 3 + 1, none⟩ = some (.int .i64 v.2.1) ∧ w'.cell? ⟨b', o' + k * 3 + 2, none⟩ = some (.int .i64 v.2.2))
        (first | (with_reducible exact HC _ HB) | (with_reducible exact HC _ HB.drew))
        (first | (go_at_call 69; refine (eqVec_same _ _ _ _).mono ?_; rintro e w1 ⟨rfl, hb1⟩; (first | (have HB := bcall HB hb1 HB.size) | (have HB := bcall HB.drew hb1 HB.size))))
      clear HC
      go_wp2
      go_roundw
      case rel => exact ⟨k + 1, by omega, by go_num, HB⟩
      case measure => simp [intOf]; omega
    · clear hR hR'
      go_wp2
      go_ret
      exact ⟨rfl, HB⟩

theorem szVecS_yes (A : Option Addr) (c n : Nat) (m : Int) (w : World) (h : (n : Int) ≤ m) (hm : m ≤ 4611686018427387904) :
    Calls Tryz.prog 14 #[.slice A n c, .int .i64 m] w fun e w' => e = .returned (.int .i64 (m - n)) ∧ w = w' := by
  go_enter Tryz.func14, Tryz.ntmps14
  go_wp2_with fail
  go_ret
  exact ⟨rfl, rfl⟩
theorem szVecS_no (A : Option Addr) (c n : Nat) (m : Int) (w : World) (h : m < (n : Int)) (h0 : 0 ≤ m) (hn : n ≤ maxLen) :
    Calls Tryz.prog 14 #[.slice A n c, .int .i64 m] w fun e w' => e = .returned (.int .i64 (-1)) ∧ w = w' := by
  unfold maxLen at hn
  go_enter Tryz.func14, Tryz.ntmps14
  go_wp2_with fail
  go_ret
  exact ⟨rfl, rfl⟩
end Go.Proofs.YtdefhepagpgnaaaGreat
