/- A texture and a flag: what calls answer; marks of owned rows that leave all other blocks. -/
import Derived.Test.YtaelhbbfddcabaaProg
import Derived.Test.YtaelhbbfddcabaaInts
import Derived.Test.YtaelhbbfddcabaaVbox
import Derived.Test.YtaelhbbfddcabaaHeld
import Derived.Test.YtaelhbbfddcabaaMem
import Derived.Test.YtaelhbbfddcabaaFlat
import Derived.Test.YtaelhbbfddcabaaRowC
import Derived.Test.YtaelhbbfddcabaaKS
import Derived.Test.YtaelhbbfddcabaaStrS
import Derived.Test.YtaelhbbfddcabaaIntS
import Derived.Test.YtaelhbbfddcabaaSS
import Derived.Test.YtaelhbbfddcabaaVi
import Derived.Test.YtaelhbbfddcabaaVa
import Derived.Test.YtaelhbbfddcabaaVb
import Derived.Test.YtaelhbbfddcabaaVc
import Derived.Test.YtaelhbbfddcabaaVd
import Derived.Test.YtaelhbbfddcabaaVe
import Derived.Test.YtaelhbbfddcabaaVf
import Derived.WalkKit
import Derived.WalkSpells
import Derived.WalkLawsBesides
import Derived.Lib.Hide
import Derived.Deep.RegionHeld3
import Derived.Deep.QuietTactic
import Derived.BigQuiet
import Derived.Handy
import Derived.Deep.DeepCutAuto
import Derived.OwnWalk
namespace Go.Proofs.Ytaelhbbfddcabaa
open Go.RowKit

theorem sd_le' {L : Int} (h : L ≤ 4) : sd L ≤ 16 := by
  by_cases h0 : 0 ≤ L
  · exact sd_le ⟨h0, h⟩
  · have : L.toNat = 0 := by omega
    simp [sd, this]
theorem halfL_len' {L : Int} {ts : List Int} (h : L ≤ 4) : (halfL L ts).length ≤ 256 := by
  unfold halfL
  rw [hfL_len]
  have := sd_le' (show L - 1 ≤ 4 by omega)
  exact Nat.mul_le_mul this this
theorem mipL_len' : ∀ (k : Nat) (L : Int) (ts : List Int), L ≤ 4 → ts.length ≤ 256 → (mipL L ts k).length ≤ 256
  | 0, _, _, _, h => h
  | k + 1, L, ts, h, _ => mipL_len' k (L - 1) (halfL L ts) (by omega) (halfL_len' h)
theorem okX_len {L : Int} {ts : List Int} (h : okX L ts = true) : ts.length ≤ 256 ∧ L ≤ 4 := by
  have h1 : okTx L ts := of_decide_eq_true h
  exact ⟨by rw [h1.2.1]; exact sq_le h1.1, h1.1.2⟩
theorem rowT_drew {W : World} {A : Option Addr} {xs : List Int} (h : Row I64 W W.heap.size A xs) : Row I64 W.drew W.drew.heap.size A xs := h.keep fun _ _ => rfl
theorem own_turnT {S : Nat → Prop} {w w' : World} {base m n : Nat} {e : TypeId} {v : Value} {xs : List Value} (h : w.ownsRow base e m v n xs) (ht : Turn S w w') (hS : ∀ k, S k → k < base) : w'.ownsRow base e m v n xs := by
  refine ⟨h.1, ?_⟩
  rcases h.2 with h0 | ⟨g, cap, cur, h1, h2, h3, h4⟩
  · exact .inl h0
  · exact .inr ⟨g, cap, cur, h1, h2, (ht.block (Array.getElem?_eq_some_iff.1 h3).1 (fun c => by have := hS g c; omega)).trans h3, h4⟩
theorem Held.turnT {S : Nat → Prop} {w W W' : World} {bs : List (Nat × List Value)} (h : Held w W bs) (ht : Turn S W W') (hS : ∀ k, S k → w.heap.size ≤ k) (hn : ∀ p ∈ bs, ¬ S p.1) : Held w W' bs :=
  ⟨h.1.trans (ht.below h.1.size hS), fun i k vs e => (h.2 i k vs e).turn ht (hn (k, vs) (List.mem_of_getElem? e))⟩
/-- a texture and a flag that a call answers -/
def TxOut (L : Int) (ys : List Int) (fl : Bool) (w : World) (e : Ending) (w' : World) : Prop :=
  ∃ (A : Option Addr) (c : Nat), e = .returned (.tuple #[txv L A ys.length c, .bool fl]) ∧ w'.ownsRow w.heap.size 3 1 (.slice A ys.length c) ys.length (ys.map I64) ∧ Below w.heap.size w w'
theorem TxMade.out {L : Int} {ys : List Int} {w : World} {e : Ending} {w' : World} (h : TxMade L ys w e w') : TxOut L ys true w e w' := h
theorem TxNone.out {w : World} {e : Ending} {w' : World} (h : TxNone w e w') : TxOut 0 [] false w e w' := ⟨none, 0, h.1, World.ownsRow_nil _ _ _ _, h.2⟩
/-- the flag is answered as it is kept -/
theorem neB (b : Bool) : (b != b) = false := by cases b <;> rfl

set_option maxHeartbeats 1000000 in
theorem markIntOT (A : Option Addr) (c base hi k : Nat) (xs : List Int) (w : World) (ho : w.ownsRow base 3 1 (.slice A xs.length c) xs.length (xs.map I64)) (hhi : ∀ q, Value.ownBlock (.slice A xs.length c) = some q → q < hi) (hk2 : k + xs.length ≤ 4611686018427387904) :
    Calls Try.prog 73 #[.slice A xs.length c, .int .i64 k] w fun e w' => e = .returned (.int .i64 ((k + xs.length : Nat) : Int)) ∧ w'.ownsRow base 3 1 (.slice A xs.length c) xs.length ((cntQ k xs.length).map I64) ∧ Turn (fun q => base ≤ q ∧ q < hi) w w' := by
  have HO := Lib.hid ho
  have HHI := Lib.hid hhi
  clear ho hhi
  go_enter Try.func73, Try.ntmps73
  go_wp2
  go_loopw [1, 5] (fun m i wr => ∃ j : Nat, j ≤ xs.length ∧ i = .int .i64 j ∧ m = .int .i64 ((k + j : Nat) : Int) ∧ wr.ownsRow base 3 1 (.slice A xs.length c) xs.length ((cntInP k j xs).map I64) ∧ Turn (fun q => base ≤ q ∧ q < hi) w wr) (fun _ i _ => xs.length - (intOf i).toNat)
  case atStart => exact ⟨0, Nat.zero_le _, rfl, rfl, by rw [cntIn_zeroP]; exact HO.out, Turn.refl _ _⟩
  case round =>
    obtain ⟨j, hj, rfl, rfl, hown, hb⟩ := hrel
    clear HO
    have HO := Lib.hid hown
    have HB := Lib.hid hb
    clear hown hb
    by_cases hlt : j < xs.length
    · obtain ⟨A0, hA⟩ : ∃ g, A = some ⟨g, 0, none⟩ := by
        rcases HO.out.2 with ⟨h, h0⟩ | ⟨g, cap, cur, h, _⟩
        · omega
        · injection h with h; exact ⟨g, h⟩
      subst hA
      have hge := own_block HO.out A0 rfl
      have hlh : j < (cntInP k j xs).length := by rw [cntIn_lenP _ _ _ hj]; exact hlt
      have hd := HO.out.cellAt j (by omega)
      have hf := HO.out.frozenAt j
      rw [List.getElem?_map, List.getElem?_eq_getElem hlh, Option.map_some] at hd
      obtain ⟨y, hy⟩ : ∃ y, y = (cntInP k j xs)[j] := ⟨_, rfl⟩
      rw [← hy] at hd
      have hs := (HO.out.stored j (I64 ((k + j : Nat) : Int))).1
      rw [← List.map_set, cntIn_stepP _ _ _ hlt] at hs
      have hs' := HB.out.setCell (g := A0) (i := j) ⟨hge, HHI.out A0 rfl⟩ (I64 ((k + j : Nat) : Int))
      have e : ((k + j : Nat) : Int) = (k : Int) + (j : Int) := by omega
      rw [e] at hs hs'
      have HS := Lib.hid hs
      have HS' := Lib.hid hs'
      clear hy hs hs' hlh e
      go_wp2
      go_roundw
      case rel => exact ⟨j + 1, by omega, by go_num, by go_num, HS.out, HS'.out⟩
      case measure => simp [intOf]; omega
    · have e : j = xs.length := by omega
      have HO2 : Hid (wr.ownsRow base 3 1 (.slice A xs.length c) xs.length ((cntQ k xs.length).map I64)) := by have := HO.out; rw [e, cntIn_allP] at this; exact this
      have HE := Lib.hid e
      clear e HO
      go_wp2
      go_ret
      exact ⟨retIP (by have := HE.out; omega), HO2.out, HB.out⟩

set_option maxHeartbeats 4000000 in
theorem markTex_turn (L : Int) (A : Option Addr) (c base hi k : Nat) (ts : List Int) (w : World) (ho : w.ownsRow base 3 1 (.slice A ts.length c) ts.length (ts.map I64)) (hhi : ∀ q, Value.ownBlock (.slice A ts.length c) = some q → q < hi) (hk2 : k + ts.length ≤ 4611686018427387904) :
    Calls Try.prog 34 #[txv L A ts.length c, .int .i64 k] w fun e w' => e = .returned (.int .i64 ((k + ts.length : Nat) : Int)) ∧ w'.ownsRow base 3 1 (.slice A ts.length c) ts.length ((cntQ k ts.length).map I64) ∧ Turn (fun q => base ≤ q ∧ q < hi) w w' := by
  have M := Mbox.new w #[.int .i64 L, .slice A ts.length c] 25
  have hB : Below w.heap.size w (w.alloc (.cells #[.int .i64 L, .slice A ts.length c] 25)) := by go_grown
  obtain ⟨W1, hW1⟩ : ∃ W, W = w.alloc (.cells #[.int .i64 L, .slice A ts.length c] 25) := ⟨_, rfl⟩
  have ho1 := own_keep' ho hB
  rw [← hW1] at M hB ho1
  have HB : Hid (Turn (fun q => base ≤ q ∧ q < hi) w W1) := Lib.hid (Turn.of_later hB)
  have HK := Lib.hid (markIntOT A c base hi k ts W1 ho1 hhi hk2)
  have m1 := M.c 1
  clear M hB ho1 ho hhi
  go_enter Try.func34, Try.ntmps34
  go_upto_region 1 with fail
  rw [← hW1]
  clear hW1
  go_wp2_with fail
  refine HK.out.mono ?_
  rintro e w2 ⟨rfl, ho2, hb2⟩
  have HB2 := Lib.hid (HB.out.trans hb2)
  have HO2 := Lib.hid ho2
  clear hb2 ho2 m1
  go_wp2_with fail
  go_ret
  exact ⟨rfl, HO2.out, HB2.out⟩
end Go.Proofs.Ytaelhbbfddcabaa
