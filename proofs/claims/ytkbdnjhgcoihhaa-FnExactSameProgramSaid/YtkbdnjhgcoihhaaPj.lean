/- What a law reads of a program that it copied; CountOp. -/
import Derived.Test.YtkbdnjhgcoihhaaProg
import Derived.Test.YtkbdnjhgcoihhaaInts
import Derived.Test.YtkbdnjhgcoihhaaVbox
import Derived.Test.YtkbdnjhgcoihhaaHeld
import Derived.Test.YtkbdnjhgcoihhaaMem
import Derived.Test.YtkbdnjhgcoihhaaFlat
import Derived.Test.YtkbdnjhgcoihhaaRowC
import Derived.Test.YtkbdnjhgcoihhaaKS
import Derived.Test.YtkbdnjhgcoihhaaStrS
import Derived.Test.YtkbdnjhgcoihhaaIntS
import Derived.Test.YtkbdnjhgcoihhaaSS
import Derived.Test.YtkbdnjhgcoihhaaPg
import Derived.Test.YtkbdnjhgcoihhaaPh
import Derived.Test.YtkbdnjhgcoihhaaPi
import Derived.WalkKit
import Derived.WalkSpells
import Derived.WalkLawsBesides
import Derived.Lib.Hide
import Derived.Deep.RegionHeld3
import Derived.Deep.QuietTactic
import Derived.BigQuiet
import Derived.Handy
import Derived.Deep.DeepCutAuto
namespace Go.Proofs.Ytkbdnjhgcoihhaa
open Go.RowKit

theorem ProgIn.drew {w : World} {A A' : Option Addr} {xs : List Nd} {ys : List As} (h : ProgIn w w.heap.size A A' xs ys) : ProgIn w.drew w.drew.heap.size A A' xs ys := h

theorem toProg_rd (A A' : Option Addr) (c c' : Nat) (xs : List Nd) (ys : List As) (w : World) (hR : ProgIn w w.heap.size A A' xs ys) (hl : xs.length ≤ 1099511627776) (hl' : ys.length ≤ 1099511627776) (hm : ∀ x ∈ xs, x.2.2.2.length ≤ 1099511627776) :
    Calls Try.prog 9 #[pgv A A' xs.length c ys.length c'] w fun e w' => ∃ (g g' : Nat), e = .returned (pgv (some ⟨g, 0, none⟩) (some ⟨g', 0, none⟩) xs.length xs.length ys.length ys.length) ∧ Below w.heap.size w w' ∧ ProgIn w' w'.heap.size (some ⟨g, 0, none⟩) (some ⟨g', 0, none⟩) xs ys := by
  refine (toProg_own A A' c c' xs ys w hR hl hl' hm).mono ?_
  rintro e w' ⟨hb, g, g', ps, hps, rfl, hP⟩
  have hr := hP.read (fun p hp => by
    have h := hm p.2 (by rw [← hps]; exact List.mem_map.2 ⟨p, hp, rfl⟩)
    unfold maxLen
    omega)
  rw [hps] at hr
  exact ⟨g, g', rfl, hb, hr⟩

/-- how many nodes have this Op -/
def cntP (op : Int) (xs : List Nd) : Nat := xs.countP (fun v => v.1 == op)
theorem cntP_yes (op : Int) (xs : List Nd) (k : Nat) (h : k < xs.length) (h0 : ((xs[k]).1 == op) = true) : cntP op (xs.take (k + 1)) = cntP op (xs.take k) + 1 := by
  unfold cntP
  rw [List.take_succ_eq_append_getElem h, List.countP_append]
  simp [h0]
theorem cntP_no (op : Int) (xs : List Nd) (k : Nat) (h : k < xs.length) (h0 : ((xs[k]).1 == op) = false) : cntP op (xs.take (k + 1)) = cntP op (xs.take k) := by
  unfold cntP
  rw [List.take_succ_eq_append_getElem h, List.countP_append]
  simp [h0]
theorem cntP_le (op : Int) (xs : List Nd) (k : Nat) (h : k ≤ xs.length) : cntP op (xs.take k) ≤ k := by
  have := List.countP_le_length (p := fun v : Nd => v.1 == op) (l := xs.take k)
  unfold cntP
  simp at this
  omega

set_option maxHeartbeats 4000000 in
theorem sCountOp_any (op : Int) (A A' : Option Addr) (c c' : Nat) (xs : List Nd) (ys : List As) (w : World) (hR : ProgIn w w.heap.size A A' xs ys) (hl : xs.length ≤ 1099511627776) :
    Calls Try.prog 20 #[pgv A A' xs.length c ys.length c', .int .i64 op] w fun e w' => e = .returned (.int .i64 (cntP op xs)) ∧ Below w.heap.size w w' := by
  have hN := hR.1
  clear hR
  go_enter Try.func20, Try.ntmps20
  go_wp2
  go_loopw [5, 11] (fun v i wr => ∃ k : Nat, k ≤ xs.length ∧ i = .int .i64 k ∧ v = .int .i64 (cntP op (xs.take k)) ∧ Below w.heap.size w wr) (fun _ i _ => xs.length - (intOf i).toNat)
  case atStart => exact ⟨0, Nat.zero_le _, rfl, rfl, (Below.refl _ _).alloc (Nat.le_refl _) _⟩
  case round =>
    obtain ⟨k, hk, rfl, rfl, hb⟩ := hrel
    by_cases hlt : k < xs.length
    · obtain ⟨b, o, rfl, hbl, a, ca, c0, c1, c2, c3, _, _, _⟩ := hN.at hlt
      have c0 := (hb.cell (p := ⟨b, o + k * 4, none⟩) hbl).trans c0
      have c1 := (hb.cell (p := ⟨b, o + k * 4 + 1, none⟩) hbl).trans c1
      have c2 := (hb.cell (p := ⟨b, o + k * 4 + 2, none⟩) hbl).trans c2
      have c3 := (hb.cell (p := ⟨b, o + k * 4 + 3, none⟩) hbl).trans c3
      have hyes := cntP_yes op xs k hlt
      have hno := cntP_no op xs k hlt
      have hle := cntP_le op xs k hk
      obtain ⟨v, hv⟩ : ∃ v, v = xs[k] := ⟨_, rfl⟩
      rw [← hv] at c0 c1 c2 c3 hyes hno
      obtain ⟨n, hn⟩ : ∃ n, n = cntP op (xs.take k) := ⟨_, rfl⟩
      rw [← hn] at hyes hno hle ⊢
      obtain ⟨v0, v1, v2, v3⟩ := v
      have HB := Lib.hid hb
      have HYES := Lib.hid hyes
      have HNO := Lib.hid hno
      have hlt' : (k : Int) < (xs.length : Int) := by omega
      have hge' : (0 : Int) ≤ (k : Int) := by omega
      clear hb hyes hno hn hN hv
      go_upto_region 5 with fail
      obtain ⟨W1, hW1⟩ : ∃ W, W = wr.alloc (.cells #[.int .i64 v0, .string v1, .int .i64 v2, .slice a v3.length ca] 45) := ⟨_, rfl⟩
      have M := Mbox.new wr #[.int .i64 v0, .string v1, .int .i64 v2, .slice a v3.length ca] 45
      have HB1 := Lib.hid (HB.out.alloc HB.out.size (.cells #[.int .i64 v0, .string v1, .int .i64 v2, .slice a v3.length ca] 45))
      rw [← hW1] at M HB1 ⊢
      have m0 := M.c 0
      clear hW1 M c0 c1 c2 c3
      by_cases h0 : (v0 == op) = true
      · have hst := Lib.hid (HYES.out h0)
        go_wp2_with fail
        go_roundw
        case rel => exact ⟨k + 1, by omega, by go_num, by rw [hst.out]; go_num, HB1.out⟩
        case measure => simp [intOf]; omega
      · have h0 : (v0 == op) = false := by simpa using h0
        have hst := Lib.hid (HNO.out h0)
        go_wp2_with fail
        go_roundw
        case rel => exact ⟨k + 1, by omega, by go_num, by rw [hst.out], HB1.out⟩
        case measure => simp [intOf]; omega
    · obtain rfl : k = xs.length := by omega
      rw [List.take_length]
      have HB := Lib.hid hb
      clear hb hN
      go_wp2
      go_ret
      exact ⟨rfl, HB.out⟩

set_option maxHeartbeats 4000000 in
theorem countOp_any (op : Int) (A A' : Option Addr) (c c' : Nat) (xs : List Nd) (ys : List As) (w : World) (hR : ProgIn w w.heap.size A A' xs ys) (hl : xs.length ≤ 1099511627776) :
    Calls Try.prog 21 #[pgv A A' xs.length c ys.length c', .int .i64 op] w fun e w' => e = .returned (.int .i64 (cntP op xs)) ∧ Below w.heap.size w w' := by
  have hN := hR.1
  clear hR
  go_enter Try.func21, Try.ntmps21
  go_wp2
  go_loopw [5, 11] (fun v i wr => ∃ k : Nat, k ≤ xs.length ∧ i = .int .i64 k ∧ v = .int .i64 (cntP op (xs.take k)) ∧ Below w.heap.size w wr) (fun _ i _ => xs.length - (intOf i).toNat)
  case atStart => exact ⟨0, Nat.zero_le _, rfl, rfl, (Below.refl _ _).alloc (Nat.le_refl _) _⟩
  case round =>
    obtain ⟨k, hk, rfl, rfl, hb⟩ := hrel
    by_cases hlt : k < xs.length
    · obtain ⟨b, o, rfl, hbl, a, ca, c0, c1, c2, c3, _, _, _⟩ := hN.at hlt
      have c0 := (hb.cell (p := ⟨b, o + k * 4, none⟩) hbl).trans c0
      have c1 := (hb.cell (p := ⟨b, o + k * 4 + 1, none⟩) hbl).trans c1
      have c2 := (hb.cell (p := ⟨b, o + k * 4 + 2, none⟩) hbl).trans c2
      have c3 := (hb.cell (p := ⟨b, o + k * 4 + 3, none⟩) hbl).trans c3
      have hyes := cntP_yes op xs k hlt
      have hno := cntP_no op xs k hlt
      have hle := cntP_le op xs k hk
      obtain ⟨v, hv⟩ : ∃ v, v = xs[k] := ⟨_, rfl⟩
      rw [← hv] at c0 c1 c2 c3 hyes hno
      obtain ⟨n, hn⟩ : ∃ n, n = cntP op (xs.take k) := ⟨_, rfl⟩
      rw [← hn] at hyes hno hle ⊢
      obtain ⟨v0, v1, v2, v3⟩ := v
      have HB := Lib.hid hb
      have HYES := Lib.hid hyes
      have HNO := Lib.hid hno
      have hlt' : (k : Int) < (xs.length : Int) := by omega
      have hge' : (0 : Int) ≤ (k : Int) := by omega
      clear hb hyes hno hn hN hv
      go_upto_region 5 with fail
      obtain ⟨W1, hW1⟩ : ∃ W, W = wr.alloc (.cells #[.int .i64 v0, .string v1, .int .i64 v2, .slice a v3.length ca] 45) := ⟨_, rfl⟩
      have M := Mbox.new wr #[.int .i64 v0, .string v1, .int .i64 v2, .slice a v3.length ca] 45
      have HB1 := Lib.hid (HB.out.alloc HB.out.size (.cells #[.int .i64 v0, .string v1, .int .i64 v2, .slice a v3.length ca] 45))
      rw [← hW1] at M HB1 ⊢
      have m0 := M.c 0
      clear hW1 M c0 c1 c2 c3
      by_cases h0 : (v0 == op) = true
      · have hst := Lib.hid (HYES.out h0)
        go_wp2_with fail
        go_roundw
        case rel => exact ⟨k + 1, by omega, by go_num, by rw [hst.out]; go_num, HB1.out⟩
        case measure => simp [intOf]; omega
      · have h0 : (v0 == op) = false := by simpa using h0
        have hst := Lib.hid (HNO.out h0)
        go_wp2_with fail
        go_roundw
        case rel => exact ⟨k + 1, by omega, by go_num, by rw [hst.out], HB1.out⟩
        case measure => simp [intOf]; omega
    · obtain rfl : k = xs.length := by omega
      rw [List.take_length]
      have HB := Lib.hid hb
      clear hb hN
      go_wp2
      go_ret
      exact ⟨rfl, HB.out⟩
end Go.Proofs.Ytkbdnjhgcoihhaa
