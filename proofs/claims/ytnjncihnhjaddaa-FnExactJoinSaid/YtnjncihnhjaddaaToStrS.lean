/- Contracts of toStringS and szStringS. -/
import Derived.Test.YtnjncihnhjaddaaProg
import Derived.Test.YtnjncihnhjaddaaMem
import Derived.Test.YtnjncihnhjaddaaStrS
import Derived.Test.YtnjncihnhjaddaaBuilder
import Derived.WalkKit
import Derived.WalkSpells
import Derived.WalkLawsBesides
import Derived.Lib.Hide
namespace Go.Proofs.Ytnjncihnhjaddaa
open Go.RowKit

theorem infoStr0 : (Try.prog.info? 9).map (fun i => (i.zero, i.size, i.bytes)) = some (some (.string ⟨#[]⟩), 1, 16) := by kernel_rfl
def halfS (xs : List ByteArray) (k : Nat) : List ByteArray := xs.take k ++ List.replicate (xs.length - k) ⟨#[]⟩
theorem halfS_zero (xs : List ByteArray) : halfS xs 0 = List.replicate xs.length ⟨#[]⟩ := by simp [halfS]
theorem halfS_all (xs : List ByteArray) : halfS xs xs.length = xs := by simp [halfS]
theorem halfS_len (xs : List ByteArray) (k : Nat) (h : k ≤ xs.length) : (halfS xs k).length = xs.length := by simp [halfS]; omega
theorem halfS_step (xs : List ByteArray) (k : Nat) (h : k < xs.length) : (halfS xs k).set k xs[k] = halfS xs (k + 1) := by
  unfold halfS
  rw [List.take_succ_eq_append_getElem h, List.set_append_right _ _ (by simp; omega)]
  have e : xs.length - k = (xs.length - (k + 1)) + 1 := by omega
  rw [e, List.replicate_succ]
  simp only [List.length_take, Nat.min_eq_left (Nat.le_of_lt h), Nat.sub_self, List.set_cons_zero, List.append_assoc, List.cons_append, List.nil_append]
set_option maxHeartbeats 1000000 in
theorem toStringS_any (A : Option Addr) (c : Nat) (xs : List ByteArray) (w : World) (hR : Row Str w w.heap.size A xs) (hl : xs.length ≤ 1099511627776) :
    Calls Try.prog 25 #[.slice A xs.length c] w fun e w' => e = .returned (.slice (some ⟨w.heap.size, 0, none⟩) xs.length xs.length) ∧ Below w.heap.size w w' ∧ Row Str w' w'.heap.size (some ⟨w.heap.size, 0, none⟩) xs := by
  obtain ⟨i0, hi, hz0, hz1, hz2⟩ := info_parts infoStr0
  go_enter Try.func25, Try.ntmps25
  go_wp2_with (at_make; refine wpList_make_full _ rfl _ _ 31 rfl w.heap.size 9 i0 (.string ⟨#[]⟩) 1 Try.underlying31 hi hz0 hz1 .i64 .i64 _ _ xs.length rfl rfl rfl rfl (by rw [hz2]; omega) (by unfold maxLen; omega) (by omega) ?_)
  intro w1 hown hgrow
  have hb0 : Below w.heap.size w w1 := (Below.refl _ _).grown hgrow (Nat.le_refl _) (fun k h => by cases h)
  have hown : w1.ownsRow w.heap.size 9 1 (.slice (some ⟨w.heap.size, 0, none⟩) xs.length xs.length) xs.length ((halfS xs 0).map Str) := by
    rw [halfS_zero, List.map_replicate, ← made_one]; exact hown
  clear hgrow
  have HO := Lib.hid hown
  have HB0 := Lib.hid hb0
  clear hown hb0
  go_wp2
  go_loopw [4] (fun i wr => ∃ k : Nat, k ≤ xs.length ∧ i = .int .i64 k ∧ wr.ownsRow w.heap.size 9 1 (.slice (some ⟨w.heap.size, 0, none⟩) xs.length xs.length) xs.length ((halfS xs k).map Str) ∧ Below w.heap.size w wr) (fun i _ => xs.length - (intOf i).toNat)
  case atStart => exact ⟨0, Nat.zero_le _, rfl, HO.out, HB0.out⟩
  case round =>
    obtain ⟨k, hk, rfl, hown, hb⟩ := hrel
    clear HO HB0
    by_cases hlt : k < xs.length
    · obtain ⟨b, o, rfl, hbl, hc⟩ := hR.at hlt
      have hc := (hb.cell hbl).trans hc
      have hd := hown.cellAt k (by omega)
      have hf := hown.frozenAt k
      have hlh : k < (halfS xs k).length := by rw [halfS_len _ _ hk]; exact hlt
      rw [List.getElem?_map, List.getElem?_eq_getElem hlh, Option.map_some] at hd
      obtain ⟨y, hy⟩ : ∃ y, y = (halfS xs k)[k] := ⟨_, rfl⟩
      rw [← hy] at hd
      have hs := (hown.stored k (Str xs[k])).1
      rw [← List.map_set, halfS_step _ _ hlt] at hs
      have hs' := hb.setCell (p := ⟨w.heap.size, k, none⟩) (Nat.le_refl _) (Str xs[k])
      obtain ⟨x, hx⟩ : ∃ x, x = xs[k] := ⟨_, rfl⟩
      rw [← hx] at hc hs hs'
      have HS := Lib.hid hs
      have HS' := Lib.hid hs'
      clear hx hy hR hb hown hs hs' hlh
      go_wp2
      go_roundw
      case rel => exact ⟨k + 1, by omega, by go_num, HS.out, HS'.out⟩
      case measure => simp [intOf]; omega
    · have e : k = xs.length := by omega
      have hown : wr.ownsRow w.heap.size 9 1 (.slice (some ⟨w.heap.size, 0, none⟩) xs.length xs.length) xs.length (xs.map Str) := by rw [e, halfS_all] at hown; exact hown
      have HO := Lib.hid hown
      have HB := Lib.hid hb
      clear e hown hb hR
      go_wp2
      go_ret
      exact ⟨rfl, HB.out, Row.of_own HO.out⟩

def SzOut (L n : Nat) (w : World) (e : Ending) (w' : World) : Prop := ∃ r : Int, e = .returned (.int .i64 r) ∧ (0 ≤ r → n ≤ L) ∧ r ≤ L ∧ -1 ≤ r ∧ w = w'
set_option maxHeartbeats 1000000 in
theorem szStringS_any (A : Option Addr) (c L : Nat) (xs : List ByteArray) (w : World) (B : Nat) (hR : Row Str w B A xs) (hm : ∀ x ∈ xs, x.size ≤ 9223372036854775807) (hl : xs.length ≤ 9223372036854775807) (hL : L ≤ 9223372036854775807) :
    Calls Try.prog 23 #[.slice A xs.length c, .int .i64 L] w (SzOut L (xs.length + sizeN xs xs.length) w) := by
  by_cases h0 : (L : Int) - xs.length < 0
  · go_enter Try.func23, Try.ntmps23
    go_wp2
    go_ret
    exact ⟨-1, rfl, by omega, by omega, by omega, rfl⟩
  · go_enter Try.func23, Try.ntmps23
    go_wp2
    go_loop [1, 5] (fun m i => ∃ k : Nat, k ≤ xs.length ∧ i = .int .i64 k ∧ m = .int .i64 ((L : Int) - xs.length - sizeN xs k) ∧ 0 ≤ (L : Int) - xs.length - sizeN xs k) (fun _ i => xs.length - (intOf i).toNat)
    case atStart => exact ⟨0, Nat.zero_le _, rfl, by simp [sizeN], by simp [sizeN]; omega⟩
    case round =>
      obtain ⟨k, hk, rfl, rfl, hge⟩ := hrel
      by_cases hlt : k < xs.length
      · obtain ⟨b, o, rfl, _, hc⟩ := hR.at hlt
        have hx1 := hm xs[k] (List.getElem_mem _)
        have hst : sizeN xs (k + 1) = sizeN xs k + xs[k].size := by rw [sizeN]; simp [hlt]
        have hmo := sizeN_mono xs (k + 1) xs.length (by omega)
        obtain ⟨x, hx⟩ : ∃ x, x = xs[k] := ⟨_, rfl⟩
        rw [← hx] at hc hst hx1
        obtain ⟨z, hz⟩ : ∃ z, z = sizeN xs k := ⟨_, rfl⟩
        rw [← hz] at hst hge ⊢
        have HST := Lib.hid hst
        have HMO := Lib.hid hmo
        clear hx hz hR hm hst hmo
        by_cases hneg : (L : Int) - xs.length - z - x.size < 0
        · go_wp2
          go_ret
          exact ⟨-1, rfl, by omega, by omega, by omega, rfl⟩
        · go_wp2
          go_round
          case rel => exact ⟨k + 1, by omega, by go_num, by rw [HST.out]; go_num, by rw [HST.out]; omega⟩
          case measure => simp [intOf]; omega
      · have HE : Hid (k = xs.length) := Lib.hid (by omega)
        clear hR hm
        go_wp2
        go_ret
        exact ⟨_, rfl, (fun _ => by have := HE.out; subst this; omega), by omega, by omega, rfl⟩

end Go.Proofs.Ytnjncihnhjaddaa
