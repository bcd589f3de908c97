/- The laws' helpers on slices of integers: sizes, copies, marks. -/
import Derived.Test.YtaelhbbfddcabaaProg
import Derived.Test.YtaelhbbfddcabaaInts
import Derived.Test.YtaelhbbfddcabaaVbox
import Derived.Test.YtaelhbbfddcabaaHeld
import Derived.Test.YtaelhbbfddcabaaMem
import Derived.Test.YtaelhbbfddcabaaFlat
import Derived.Test.YtaelhbbfddcabaaRowC
import Derived.Test.YtaelhbbfddcabaaKS
import Derived.Test.YtaelhbbfddcabaaStrS
import Derived.Test.YtaelhbbfddcabaaIntS
import Derived.Test.YtaelhbbfddcabaaSS
import Derived.WalkKit
import Derived.WalkSpells
import Derived.WalkLawsBesides
import Derived.Lib.Hide
import Derived.Deep.RegionHeld3
import Derived.Deep.QuietTactic
import Derived.BigQuiet
import Derived.Handy
import Derived.Deep.DeepCutAuto
namespace Go.Proofs.Ytaelhbbfddcabaa
open Go.RowKit
def SzOutP (L n : Nat) (w : World) (e : Ending) (w' : World) : Prop := Below w.heap.size w w' ∧ ((n ≤ L ∧ e = .returned (.int .i64 (L - n : Nat))) ∨ (L < n ∧ e = .returned (.int .i64 (-1))))
theorem szIntP_any (A : Option Addr) (c n L : Nat) (w : World) (hL : L ≤ 1099511627776) (hn : n ≤ 9223372036854775807) :
    Calls Try.prog 62 #[.slice A n c, .int .i64 L] w (SzOutP L n w) := by
  by_cases h0 : (L : Int) - (n : Int) < 0
  · go_enter Try.func62, Try.ntmps62
    go_wp2_with fail
    go_ret
    exact ⟨Below.refl _ _, .inr ⟨by omega, rfl⟩⟩
  · have he : (L : Int) - (n : Int) = ((L - n : Nat) : Int) := by omega
    have HE := Lib.hid he
    clear he
    go_enter Try.func62, Try.ntmps62
    go_wp2_with fail
    go_ret
    exact ⟨Below.refl _ _, .inl ⟨by omega, by rw [← HE.out]; rfl⟩⟩
theorem Mbox.of_ownP {α : Type} {f : α → Value} {w : World} {base g c n : Nat} {e : TypeId} {xs : List α} (h : w.ownsRow base e 1 (.slice (some ⟨g, 0, none⟩) n c) n (xs.map f)) : Mbox w g (xs.map f) := fun i v hv => by
  have hl := h.1
  have hi : i < n * 1 := by
    have := (List.getElem?_eq_some_iff.1 hv).1
    omega
  have := h.cellAt i hi
  rw [hv] at this
  exact ⟨this, h.frozenAt i⟩
set_option maxHeartbeats 1000000 in
theorem toIntP_own (A : Option Addr) (c : Nat) (xs : List Int) (w : World) (hR : Row I64 w w.heap.size A xs) (hl : xs.length ≤ 17592186044416) :
    Calls Try.prog 65 #[.slice A xs.length c] w fun e w' => e = .returned (.slice (some ⟨w.heap.size, 0, none⟩) xs.length xs.length) ∧ Below w.heap.size w w' ∧ Mbox w' w.heap.size (xs.map I64) ∧ w.heap.size < w'.heap.size := by
  obtain ⟨i0, hi, hz0, hz1, hz2⟩ := info_parts infoInt
  go_enter Try.func65, Try.ntmps65
  go_wp2_with (at_make; refine wpList_make_full _ rfl _ _ 23 rfl w.heap.size 3 i0 (.int .i64 0) 1 Try.underlying23 hi hz0 hz1 .i64 .i64 _ _ xs.length rfl rfl rfl rfl (by rw [hz2]; omega) (by unfold maxLen; omega) (by omega) ?_)
  intro w1 hown hgrow
  have hb0 : Below w.heap.size w w1 := (Below.refl _ _).grown hgrow (Nat.le_refl _) (fun k h => by cases h)
  have hown : w1.ownsRow w.heap.size 3 1 (.slice (some ⟨w.heap.size, 0, none⟩) xs.length xs.length) xs.length ((half xs 0).map I64) := by
    rw [half_zero, List.map_replicate, ← made_one]; exact hown
  clear hgrow
  have HO := Lib.hid hown
  have HB0 := Lib.hid hb0
  clear hown hb0
  go_wp2
  go_loopw [4] (fun i wr => ∃ k : Nat, k ≤ xs.length ∧ i = .int .i64 k ∧ wr.ownsRow w.heap.size 3 1 (.slice (some ⟨w.heap.size, 0, none⟩) xs.length xs.length) xs.length ((half xs k).map I64) ∧ Below w.heap.size w wr) (fun i _ => xs.length - (intOf i).toNat)
  case atStart => exact ⟨0, Nat.zero_le _, rfl, HO.out, HB0.out⟩
  case round =>
    obtain ⟨k, hk, rfl, hown, hb⟩ := hrel
    clear HO HB0
    by_cases hlt : k < xs.length
    · obtain ⟨b, o, rfl, hbl, hc⟩ := hR.at hlt
      have hc := (hb.cell hbl).trans hc
      have hd := hown.cellAt k (by omega)
      have hf := hown.frozenAt k
      have hlh : k < (half xs k).length := by rw [half_len _ _ hk]; exact hlt
      rw [List.getElem?_map, List.getElem?_eq_getElem hlh, Option.map_some] at hd
      obtain ⟨y, hy⟩ : ∃ y, y = (half xs k)[k] := ⟨_, rfl⟩
      rw [← hy] at hd
      have hs := (hown.stored k (I64 xs[k])).1
      rw [← List.map_set, half_step _ _ hlt] at hs
      have hs' := hb.setCell (p := ⟨w.heap.size, k, none⟩) (Nat.le_refl _) (I64 xs[k])
      obtain ⟨x, hx⟩ : ∃ x, x = xs[k] := ⟨_, rfl⟩
      rw [← hx] at hc hs hs'
      have HS := Lib.hid hs
      have HS' := Lib.hid hs'
      clear hx hy hR hb hown hs hs' hlh
      go_wp2
      go_roundw
      case rel => exact ⟨k + 1, by omega, by go_num, HS.out, HS'.out⟩
      case measure => simp [intOf]; omega
    · have e : k = xs.length := by omega
      have hown : wr.ownsRow w.heap.size 3 1 (.slice (some ⟨w.heap.size, 0, none⟩) xs.length xs.length) xs.length (xs.map I64) := by rw [e, half_all] at hown; exact hown
      have HO := Lib.hid hown
      have HB := Lib.hid hb
      clear e hown hb hR
      go_wp2
      go_ret
      exact ⟨rfl, HB.out, Mbox.of_ownP HO.out, (HO.out.lt _ rfl).2⟩
theorem retIP {a b : Int} (h : a = b) : Ending.returned (.int .i64 a) = Ending.returned (.int .i64 b) := by rw [h]
def cntQ (k n : Nat) : List Int := (List.range n).map fun i => ((k + i : Nat) : Int)
theorem cnt_lenP (k n : Nat) : (cntQ k n).length = n := by simp [cntQ]
theorem cnt_atP (k n i : Nat) (h : i < (cntQ k n).length) : (cntQ k n)[i] = ((k + i : Nat) : Int) := by simp [cntQ]
def cntInP (k i : Nat) (xs : List Int) : List Int := cntQ k i ++ xs.drop i
theorem cntIn_zeroP (k : Nat) (xs : List Int) : cntInP k 0 xs = xs := by simp [cntInP, cntQ]
theorem cntIn_allP (k : Nat) (xs : List Int) : cntInP k xs.length xs = cntQ k xs.length := by simp [cntInP]
theorem cntIn_lenP (k i : Nat) (xs : List Int) (h : i ≤ xs.length) : (cntInP k i xs).length = xs.length := by simp [cntInP, cnt_lenP]; omega
theorem cntIn_stepP (k i : Nat) (xs : List Int) (h : i < xs.length) : (cntInP k i xs).set i ((k + i : Nat) : Int) = cntInP k (i + 1) xs := by
  unfold cntInP
  rw [List.set_append_right _ _ (by rw [cnt_lenP]; omega), cnt_lenP, Nat.sub_self, List.drop_eq_getElem_cons h, List.set_cons_zero]
  have e : cntQ k (i + 1) = cntQ k i ++ [((k + i : Nat) : Int)] := by simp [cntQ, List.range_succ]
  rw [e, List.append_assoc, List.singleton_append]
/-- how many integers the rows hold -/
def sumL (xss : List (List Int)) : Nat := (xss.map List.length).sum
theorem sumL_step (xss : List (List Int)) (k : Nat) (h : k < xss.length) : sumL (xss.take (k + 1)) = sumL (xss.take k) + xss[k].length := by
  unfold sumL
  rw [List.take_succ_eq_append_getElem h, List.map_append, List.sum_append]
  simp only [List.map_cons, List.map_nil, List.sum_cons, List.sum_nil, Nat.add_zero]
theorem sumL_le (xss : List (List Int)) (k : Nat) : sumL (xss.take k) ≤ sumL xss := by
  unfold sumL
  have h : (xss.map List.length).sum = ((xss.take k).map List.length).sum + ((xss.drop k).map List.length).sum := by
    rw [← List.sum_append, ← List.map_append, List.take_append_drop]
  omega
theorem len_le_sum (xss : List (List Int)) : ∀ xs ∈ xss, xs.length ≤ sumL xss := by
  intro xs hx
  obtain ⟨k, hk, rfl⟩ := List.getElem_of_mem hx
  have h1 := sumL_step xss k hk
  have h2 := sumL_le xss (k + 1)
  omega
set_option maxHeartbeats 1000000 in
theorem markIntMP (g c k : Nat) (xs : List Int) (w : World) (hM : Mbox w g (xs.map I64)) (hk2 : k + xs.length ≤ 4611686018427387904) :
    Calls Try.prog 73 #[.slice (some ⟨g, 0, none⟩) xs.length c, .int .i64 k] w fun e w' => e = .returned (.int .i64 ((k + xs.length : Nat) : Int)) ∧ Mbox w' g ((cntQ k xs.length).map I64) ∧ w.grownBy w' (some g) := by
  have HM := Lib.hid hM
  clear hM
  go_enter Try.func73, Try.ntmps73
  go_wp2
  go_loopw [1, 5] (fun m i wr => ∃ j : Nat, j ≤ xs.length ∧ i = .int .i64 j ∧ m = .int .i64 ((k + j : Nat) : Int) ∧ Mbox wr g ((cntInP k j xs).map I64) ∧ w.grownBy wr (some g)) (fun _ i _ => xs.length - (intOf i).toNat)
  case atStart => exact ⟨0, Nat.zero_le _, rfl, rfl, by rw [cntIn_zeroP]; exact HM.out, gb_refl _ _⟩
  case round =>
    obtain ⟨j, hj, rfl, rfl, hown, hb⟩ := hrel
    clear HM
    have HO := Lib.hid hown
    have HB := Lib.hid hb
    clear hown hb
    by_cases hlt : j < xs.length
    · have hlh : j < (cntInP k j xs).length := by rw [cntIn_lenP _ _ _ hj]; exact hlt
      have hd := HO.out.c j (v := I64 (cntInP k j xs)[j]) (by rw [List.getElem?_map, List.getElem?_eq_getElem hlh]; rfl)
      have hf := HO.out.f j (v := I64 (cntInP k j xs)[j]) (by rw [List.getElem?_map, List.getElem?_eq_getElem hlh]; rfl)
      obtain ⟨y, hy⟩ : ∃ y, y = (cntInP k j xs)[j] := ⟨_, rfl⟩
      rw [← hy] at hd
      have hs := HO.out.put j (I64 ((k + j : Nat) : Int))
      rw [← List.map_set, cntIn_stepP _ _ _ hlt] at hs
      have hs' := gb_set (i := j) HB.out (I64 ((k + j : Nat) : Int))
      have e : ((k + j : Nat) : Int) = (k : Int) + (j : Int) := by omega
      rw [e] at hs hs'
      have HS := Lib.hid hs
      have HS' := Lib.hid hs'
      clear hy hs hs' hlh e HO HB
      go_wp2
      go_roundw
      case rel => exact ⟨j + 1, by omega, by go_num, by go_num, HS.out, HS'.out⟩
      case measure => simp [intOf]; omega
    · have e : j = xs.length := by omega
      have HO2 : Hid (Mbox wr g ((cntQ k xs.length).map I64)) := by have := HO.out; rw [e, cntIn_allP] at this; exact this
      have HE := Lib.hid e
      clear e HO
      go_wp2
      go_ret
      exact ⟨retIP (by have := HE.out; omega), HO2.out, HB.out⟩
set_option maxHeartbeats 1000000 in
theorem markIntOP (A : Option Addr) (c base k : Nat) (xs : List Int) (w : World) (ho : w.ownsRow base 3 1 (.slice A xs.length c) xs.length (xs.map I64)) (hk2 : k + xs.length ≤ 4611686018427387904) :
    Calls Try.prog 73 #[.slice A xs.length c, .int .i64 k] w fun e w' => e = .returned (.int .i64 ((k + xs.length : Nat) : Int)) ∧ w'.ownsRow base 3 1 (.slice A xs.length c) xs.length ((cntQ k xs.length).map I64) ∧ Below base w w' := by
  have HO := Lib.hid ho
  clear ho
  go_enter Try.func73, Try.ntmps73
  go_wp2
  go_loopw [1, 5] (fun m i wr => ∃ j : Nat, j ≤ xs.length ∧ i = .int .i64 j ∧ m = .int .i64 ((k + j : Nat) : Int) ∧ wr.ownsRow base 3 1 (.slice A xs.length c) xs.length ((cntInP k j xs).map I64) ∧ Below base w wr) (fun _ i _ => xs.length - (intOf i).toNat)
  case atStart => exact ⟨0, Nat.zero_le _, rfl, rfl, by rw [cntIn_zeroP]; exact HO.out, Below.refl _ _⟩
  case round =>
    obtain ⟨j, hj, rfl, rfl, hown, hb⟩ := hrel
    clear HO
    have HO := Lib.hid hown
    have HB := Lib.hid hb
    clear hown hb
    by_cases hlt : j < xs.length
    · obtain ⟨A0, hA⟩ : ∃ g, A = some ⟨g, 0, none⟩ := by
        rcases HO.out.2 with ⟨h, h0⟩ | ⟨g, cap, cur, h, _⟩
        · omega
        · injection h with h; exact ⟨g, h⟩
      subst hA
      have hge := own_block HO.out A0 rfl
      have hlh : j < (cntInP k j xs).length := by rw [cntIn_lenP _ _ _ hj]; exact hlt
      have hd := HO.out.cellAt j (by omega)
      have hf := HO.out.frozenAt j
      rw [List.getElem?_map, List.getElem?_eq_getElem hlh, Option.map_some] at hd
      obtain ⟨y, hy⟩ : ∃ y, y = (cntInP k j xs)[j] := ⟨_, rfl⟩
      rw [← hy] at hd
      have hs := (HO.out.stored j (I64 ((k + j : Nat) : Int))).1
      rw [← List.map_set, cntIn_stepP _ _ _ hlt] at hs
      have hs' := HB.out.setCell (p := ⟨A0, j, none⟩) hge (I64 ((k + j : Nat) : Int))
      have e : ((k + j : Nat) : Int) = (k : Int) + (j : Int) := by omega
      rw [e] at hs hs'
      have HS := Lib.hid hs
      have HS' := Lib.hid hs'
      clear hy hs hs' hlh e
      go_wp2
      go_roundw
      case rel => exact ⟨j + 1, by omega, by go_num, by go_num, HS.out, HS'.out⟩
      case measure => simp [intOf]; omega
    · have e : j = xs.length := by omega
      have HO2 : Hid (wr.ownsRow base 3 1 (.slice A xs.length c) xs.length ((cntQ k xs.length).map I64)) := by have := HO.out; rw [e, cntIn_allP] at this; exact this
      have HE := Lib.hid e
      clear e HO
      go_wp2
      go_ret
      exact ⟨retIP (by have := HE.out; omega), HO2.out, HB.out⟩
end Go.Proofs.Ytaelhbbfddcabaa
