/- The text of a program: the model. -/
import Derived.Test.YtkbdnjhgcoihhaaDoorProg
import Derived.Test.YtkbdnjhgcoihhaaDoorInts
import Derived.Test.YtkbdnjhgcoihhaaDoorVbox
import Derived.Test.YtkbdnjhgcoihhaaDoorHeld
import Derived.Test.YtkbdnjhgcoihhaaDoorMem
import Derived.Test.YtkbdnjhgcoihhaaDoorFlat
import Derived.Test.YtkbdnjhgcoihhaaDoorRowC
import Derived.Test.YtkbdnjhgcoihhaaDoorKS
import Derived.Test.YtkbdnjhgcoihhaaDoorStrS
import Derived.Test.YtkbdnjhgcoihhaaDoorIntS
import Derived.Test.YtkbdnjhgcoihhaaDoorSS
import Derived.Test.YtkbdnjhgcoihhaaDoorPg
import Derived.Test.YtkbdnjhgcoihhaaDoorPh
import Derived.Test.YtkbdnjhgcoihhaaDoorPi
import Derived.Test.YtkbdnjhgcoihhaaDoorIdent
import Derived.Test.YtkbdnjhgcoihhaaDoorPn
import Derived.Test.YtkbdnjhgcoihhaaDoorNumP
import Derived.Test.YtkbdnjhgcoihhaaDoorIn
import Derived.Test.YtkbdnjhgcoihhaaDoorFmt
import Derived.Test.YtkbdnjhgcoihhaaDoorFn
import Derived.Test.YtkbdnjhgcoihhaaDoorBuilder
import Derived.Test.YtkbdnjhgcoihhaaDoorPo
import Derived.Test.YtkbdnjhgcoihhaaDoorQa
import Derived.Test.YtkbdnjhgcoihhaaDoorQb
import Derived.Test.YtkbdnjhgcoihhaaDoorQd
import Derived.Test.YtkbdnjhgcoihhaaDoorQh
import Derived.WalkKit
import Derived.WalkSpells
import Derived.WalkLawsBesides
import Derived.Lib.Hide
import Derived.Deep.RegionHeld3
import Derived.Deep.QuietTactic
import Derived.BigQuiet
import Derived.Handy
import Derived.Deep.DeepCutAuto
namespace Go.Proofs.YtkbdnjhgcoihhaaDoor
open Go.RowKit

set_option maxRecDepth 100000 in
set_option maxHeartbeats 8000000 in
theorem sText_any (xs : List Nd) (hok : ∀ i (h : i < xs.length), okN i xs[i]) : ∀ (i : Nat), i < xs.length → wtN xs i ≤ 60 → ∀ (W : World) (A A' : Option Addr) (c m c' B : Nat), NdRow W B A xs → B ≤ W.heap.size →
    Calls Tryd.prog 12 #[pgv A A' xs.length c m c', .int .i64 i] W (StrOutQ (txN xs i) W) := by
  intro i
  induction i using Nat.strongRecOn with
  | ind i ih =>
  intro hi hw W A A' c m c' B hR hB
  have hargs : argsOk xs := fun i hi => (hok i hi).2
  have hoki := hok i hi
  have hT := txN_eq hargs hi
  have hcs : ∀ a ∈ (xs[i]).2.2.2, (txN xs a.toNat).size ≤ 1920 := fun a ha => by
    have h1 := wt_child hargs hi ha
    have h2 := (hok i hi).2 a ha
    have h3 := txN_size hok a.toNat (by omega)
    omega
  have hih : ∀ a ∈ (xs[i]).2.2.2, ∀ (W : World) (A A' : Option Addr) (c m c' B : Nat), NdRow W B A xs → B ≤ W.heap.size → Calls Tryd.prog 12 #[pgv A A' xs.length c m c', .int .i64 a] W (StrOutQ (txN xs a.toNat) W) := fun a ha => by
    have h2 := (hok i hi).2 a ha
    have h1 := wt_child hargs hi ha
    have h := ih a.toNat (by omega) (by omega) (by omega)
    rw [show ((a.toNat : Nat) : Int) = a by omega] at h
    exact h
  obtain ⟨b, o, rfl, hbl, a, ca, c0, c1, c2, c3, hca1, hca2, hrow⟩ := hR.at hi
  obtain ⟨v, hv⟩ : ∃ v, v = xs[i] := ⟨_, rfl⟩
  rw [← hv] at c0 c1 c2 c3 hrow hca1 hoki hT hcs hih
  obtain ⟨T, hTT⟩ : ∃ T, T = txN xs i := ⟨_, rfl⟩
  rw [← hTT] at hT ⊢
  obtain ⟨v0, v1, v2, v3⟩ := v
  dsimp only at c0 c1 c2 c3 hrow hca1 hT hcs hih
  have hlen3 : v3.length ≤ 3 := by
    rcases hoki.1 with ⟨_, _, _, _, h⟩ | ⟨_, _, _, h⟩ | ⟨_, _, _, h⟩ | ⟨_, _, _, _, h⟩ | ⟨_, _, _, h⟩ <;> simp only at h <;> omega
  have hge' : (0 : Int) ≤ (i : Int) := by omega
  have hlt' : (i : Int) < (xs.length : Int) := by omega
  have HSH := Lib.hid hoki.1
  have HTB := Lib.hid hT
  have HCS := Lib.hid hcs
  have HIH := Lib.hid hih
  have hB0 : Below W.heap.size W (W.alloc (.cells #[.slice (some ⟨b, o, none⟩) xs.length c, .slice A' m c'] 31)) := by go_grown
  have c0 := (hB0.cell (p := ⟨b, o + i * 4, none⟩) (Nat.lt_of_lt_of_le hbl hB)).trans c0
  have c1 := (hB0.cell (p := ⟨b, o + i * 4 + 1, none⟩) (Nat.lt_of_lt_of_le hbl hB)).trans c1
  have c2 := (hB0.cell (p := ⟨b, o + i * 4 + 2, none⟩) (Nat.lt_of_lt_of_le hbl hB)).trans c2
  have c3 := (hB0.cell (p := ⟨b, o + i * 4 + 3, none⟩) (Nat.lt_of_lt_of_le hbl hB)).trans c3
  have HT2 : Held W ((W.alloc (.cells #[.slice (some ⟨b, o, none⟩) xs.length c, .slice A' m c'] 31)).alloc (.cells #[.int .i64 v0, .string v1, .int .i64 v2, .slice a v3.length ca] 52)) [(W.heap.size + 1, [.int .i64 v0, .string v1, .int .i64 v2, .slice a v3.length ca]), (W.heap.size, [.slice (some ⟨b, o, none⟩) xs.length c, .slice A' m c'])] := by
    have h := ((Held.nil W).new #[.slice (some ⟨b, o, none⟩) xs.length c, .slice A' m c'] 31).new #[.int .i64 v0, .string v1, .int .i64 v2, .slice a v3.length ca] 52
    simpa only [World.size_alloc] using h
  have hR1 := hR.below (HT2.below.mono hB)
  have hr1 := hrow.below (HT2.below.mono hB)
  clear hv hTT hargs hoki hcs hih ih hT hok hrow hR hB0
  go_enter Tryd.func12, Tryd.ntmps12
  go_upto_region 2 with fail
  obtain ⟨W1, hW1⟩ : ∃ W', W' = (W.alloc (.cells #[.slice (some ⟨b, o, none⟩) xs.length c, .slice A' m c'] 31)).alloc (.cells #[.int .i64 v0, .string v1, .int .i64 v2, .slice a v3.length ca] 52) := ⟨_, rfl⟩
  rw [← hW1] at HT2 hR1 hr1 ⊢
  clear hW1 c0 c1 c2 c3
  have hBW : B ≤ W1.heap.size := Nat.le_trans hB HT2.below.size
  have HB := Lib.hid HT2.below
  have HM := Lib.hid HT2
  have HR := Lib.hid hR1
  have HRW := Lib.hid hr1
  have hlit := World.ownsRow_lit W1 #[] 0 (e := 9) (size := 1) (base := W1.heap.size) (Nat.le_refl _) (Nat.zero_le _) (by simp)
  have hbL : Below W1.heap.size W1 (W1.alloc (.cells #[] 9)) := by go_grown
  have m3 := ((HT2.later hbL).box 0).c 3
  have HLIT := Lib.hid hlit
  have HBL := Lib.hid hbL
  clear hR1 hr1 HT2 hlit hbL
  go_wp2_with fail
  go_loopw [6, 19] (fun x j wr => ∃ k : Nat, k ≤ v3.length ∧ j = .int .i64 k ∧ wr.ownsRow W1.heap.size 9 1 x k ((txA xs (v3.take k)).map Str) ∧ Below W1.heap.size W1 wr) (fun _ j _ => v3.length - (intOf j).toNat)
  case atStart => exact ⟨0, Nat.zero_le _, rfl, by simpa [txA] using HLIT.out, HBL.out⟩
  case round =>
    clear m3 HLIT HBL
    obtain ⟨k, hk, rfl, hown, hb⟩ := hrel
    by_cases hlt : k < v3.length
    · obtain ⟨b3, o3, rfl, hbl3, e0⟩ := HRW.out.at hlt
      have e0 := (hb.cell (p := ⟨b3, o3 + k, none⟩) (by simp only; omega)).trans e0
      have hst := txA_step xs v3 k hlt
      have hcl := HIH.out _ (List.getElem_mem hlt) wr (some ⟨b, o, none⟩) A' c m c' B (HR.out.below (hb.mono hBW)) (Nat.le_trans hBW hb.size)
      obtain ⟨z, hz⟩ : ∃ z, z = v3[k] := ⟨_, rfl⟩
      rw [← hz] at e0 hcl hst
      obtain ⟨s, hs⟩ : ∃ s, s = txN xs z.toNat := ⟨_, rfl⟩
      rw [← hs] at hcl hst
      have HST := Lib.hid hst
      have HCL := Lib.hid hcl
      have HO := Lib.hid hown
      have HBR := Lib.hid hb
      have p0 := ((HM.out.later hb).box 1).c 0
      have p1 := ((HM.out.later hb).box 1).c 1
      have hlt2 : (k : Int) < (v3.length : Int) := by omega
      have hge2 : (0 : Int) ≤ (k : Int) := by omega
      clear hz hs hst hcl hown hb
      go_wp2_with fail
      refine HCL.out.mono ?_
      rintro e w2 ⟨rfl, hb2⟩
      have HO2 := Lib.hid (own_keep' HO.out hb2)
      have HB2 := Lib.hid (HBR.out.trans (hb2.mono HBR.out.size))
      have hs2 : W1.heap.size ≤ w2.heap.size := HB2.out.size
      clear hb2 e0 p0 p1
      go_wp2_with (at_builtin; refine wpList_app1 w2 rfl _ _ 57 rfl W1.heap.size 9 (.string ⟨#[]⟩) 16 Tryd.underlying57 infoStrQ rfl _ _ _ (by rfl) HO2.out _ (by rfl) (by rfl) (by unfold maxLen; omega) (by omega) hs2 ?_)
      intro v' w4 ho4 hg4
      have HO4 := Lib.hid ho4
      have HB4 := Lib.hid (HB2.out.grown hg4 hs2 (own_block HO2.out))
      clear ho4 hg4
      go_wp2_with fail
      go_roundw
      case rel => exact ⟨k + 1, by omega, by go_num, by rw [HST.out]; simpa using HO4.out, HB4.out⟩
      case measure => simp [intOf]; omega
    · obtain rfl : k = v3.length := by omega
      rw [List.take_length] at hown
      obtain ⟨A4, c4, rfl⟩ := own_shape hown
      have hge2 : ¬ ((v3.length : Nat) : Int) < ((v3.length : Nat) : Int) := by omega
      have M4 := (HM.out.later hb).box 0
      have m0 := M4.c 0
      have m1 := M4.c 1
      have m2 := M4.c 2
      have hown2 : wr.ownsRow W1.heap.size 9 1 (.slice A4 (txA xs v3).length c4) (txA xs v3).length ((txA xs v3).map Str) := by rw [txA_len]; exact hown
      have R4 : Row Str wr wr.heap.size A4 (txA xs v3) := Row.of_own hown2
      have hsz : ∀ s ∈ txA xs v3, s.size ≤ 1920 := fun s hs => by
        obtain ⟨z, hz, rfl⟩ := List.mem_map.1 hs
        exact HCS.out z hz
      have hlw : (txA xs v3).length = v3.length := txA_len xs v3
      obtain ⟨ws, hws⟩ : ∃ ws, ws = txA xs v3 := ⟨_, rfl⟩
      have hTB : T = bodyT (v0, v1, v2, v3) ws := by rw [hws]; exact HTB.out
      rw [← hws] at R4 hsz hlw
      have HBF := Lib.hid (HB.out.trans (hb.mono HB.out.size))
      have HR4 := Lib.hid R4
      have HSZ := Lib.hid hsz
      have HM4 := Lib.hid M4
      have HHT := Lib.hid hTB
      have hWr : W.heap.size ≤ wr.heap.size := HBF.out.size
      clear hown hown2 hb R4 hsz hws hTB HIH HCS HTB HRW HR M4
      rcases HSH.out with ⟨q1, z1, q2, q3, q4⟩ | ⟨q1, q2, z1, z2⟩ | ⟨q1, z1, z2, q4⟩ | ⟨q1, q1', z1, z2, q4⟩ | ⟨q1, q2, z1, q4⟩
      · dsimp only at q1 q2 q3 q4
        clear z1
        have hE := Lib.hid (HHT.out.trans (body_1 (v := (v0, v1, v2, v3)) q1))
        obtain ⟨n, rfl⟩ : ∃ n : Nat, v2 = (n : Int) := ⟨v2.toNat, by omega⟩
        obtain ⟨d, hd, hnz⟩ := numZ_nat n
        have hfn := Lib.hid (sFormatNumber_any n d wr (by omega) hd)
        have hTn := Lib.hid (hE.out.trans hnz)
        have o1 : (v0 == 1) = true := by simp; omega
        clear q1 hE hnz hd q4
        go_wp2_with fail
        refine hfn.out.mono ?_
        rintro e w5 ⟨rfl, hb5⟩
        go_wp2_with fail
        go_ret
        exact ⟨ret_sQ hTn.out.symm, HBF.out.trans (hb5.mono hWr)⟩
      · dsimp only at q1 q2
        clear z1 z2
        have hE := Lib.hid (HHT.out.trans (body_2 (v := (v0, v1, v2, v3)) q1))
        have o1 : (v0 == 1) = false := by simp; omega
        have o2 : (v0 == 2) = true := by simp; omega
        clear q1
        go_wp2_with fail
        go_ret
        exact ⟨ret_sQ hE.out.symm, HBF.out⟩
      · dsimp only at q1 q4
        clear z1 z2
        have hE := Lib.hid (HHT.out.trans (body_3 (v := (v0, v1, v2, v3)) q1))
        have o1 : (v0 == 1) = false := by simp; omega
        have o2 : (v0 == 2) = false := by simp; omega
        have o3 : (v0 == 3) = true := by simp; omega
        obtain ⟨b4, p4, rfl, _, s0⟩ := HR4.out.at (k := 0) (by omega)
        rw [Nat.add_zero] at s0
        have hs0 := HSZ.out _ (List.getElem_mem (show 0 < ws.length by omega))
        obtain ⟨s, hs⟩ : ∃ s, s = ws[0]'(by omega) := ⟨_, rfl⟩
        rw [← hs] at s0 hs0
        have hgd : ws.getD 0 ByteArray.empty = s := by rw [hs]; simp [show 0 < ws.length by omega]
        have HGD := Lib.hid hgd
        rw [q4]
        clear q1 hs hgd
        go_wp2_with fail
        go_ret
        exact ⟨ret_sQ (by rw [hE.out, HGD.out]), HBF.out⟩
      · dsimp only at q1 q1' q4
        clear z1 z2
        have q5 : v0 = 4 ∨ v0 = 5 ∨ v0 = 6 ∨ v0 = 7 := by omega
        clear q1 q1'
        rcases q5 with rfl | rfl | rfl | rfl
        · have hE := Lib.hid (HHT.out.trans (body_4 (v := ((4 : Int), v1, v2, v3)) ⟨by simp, by simp⟩))
          obtain ⟨b4, p4, hA4, hbl4, s0⟩ := HR4.out.at (k := 0) (by omega)
          obtain ⟨b5, p5, hA5, hbl5, s1⟩ := HR4.out.at (k := 1) (by omega)
          subst hA4
          injection hA5 with hA5
          injection hA5 with hA5 hA6
          subst hA5 hA6
          have hs0 := HSZ.out _ (List.getElem_mem (show 0 < ws.length by omega))
          have hs1 := HSZ.out _ (List.getElem_mem (show 1 < ws.length by omega))
          obtain ⟨s, hs⟩ : ∃ s, s = ws[0]'(by omega) := ⟨_, rfl⟩
          obtain ⟨r, hr⟩ : ∃ r, r = ws[1]'(by omega) := ⟨_, rfl⟩
          rw [← hs] at s0 hs0
          rw [← hr] at s1 hs1
          have HGD : Hid (ws.getD 0 ByteArray.empty = s) := Lib.hid (by rw [hs]; simp [show 0 < ws.length by omega])
          have HGD1 : Hid (ws.getD 1 ByteArray.empty = r) := Lib.hid (by rw [hr]; simp [show 1 < ws.length by omega])
          rw [q4]
          have hb6 : Below wr.heap.size wr (wr.alloc (.cells #[.string ⟨#[43]⟩, .string ⟨#[45]⟩, .string ⟨#[42]⟩, .string ⟨#[47]⟩] 9)) := by go_grown
          rw [Nat.add_zero] at s0
          have s0 := (hb6.cell (p := ⟨b4, p4, none⟩) hbl4).trans s0
          have s1 := (hb6.cell (p := ⟨b4, p4 + 1, none⟩) hbl4).trans s1
          have m0 := (HM4.out.later hb6).c 0
          clear hs hr
          have hk0 : ¬ 9223372036854775807 < 1 + s.size := by omega
          have hk1 : ¬ 9223372036854775807 < 1 + s.size + 1 := by omega
          have hk2 : ¬ 9223372036854775807 < 1 + s.size + 1 + 1 := by omega
          have hk3 : ¬ 9223372036854775807 < 1 + s.size + 1 + 1 + 1 := by omega
          have hk4 : ¬ 9223372036854775807 < 1 + s.size + 1 + 1 + 1 + r.size := by omega
          have hk5 : ¬ 9223372036854775807 < 1 + s.size + 1 + 1 + 1 + r.size + 1 := by omega
          go_upto_region 18 with fail
          obtain ⟨W6, hW6⟩ : ∃ W', W' = wr.alloc (.cells #[.string ⟨#[43]⟩, .string ⟨#[45]⟩, .string ⟨#[42]⟩, .string ⟨#[47]⟩] 9) := ⟨_, rfl⟩
          rw [← hW6] at s0 s1 hb6 ⊢
          have HQ : Held wr W6 [] := ⟨hb6, fun i k vs h => by simp at h⟩
          clear hW6 hb6
          go_quiet (fail)
          have HBQ := Lib.hid (HBF.out.trans ((HQ.drewN nq).below.mono hWr))
          clear HQ s0 s1
          go_wp2_with fail
          go_ret
          exact ⟨ret_sQ (by rw [hE.out, HGD.out, HGD1.out]; rfl), HBQ.out⟩
        · have hE := Lib.hid (HHT.out.trans (body_4 (v := ((5 : Int), v1, v2, v3)) ⟨by simp, by simp⟩))
          obtain ⟨b4, p4, hA4, hbl4, s0⟩ := HR4.out.at (k := 0) (by omega)
          obtain ⟨b5, p5, hA5, hbl5, s1⟩ := HR4.out.at (k := 1) (by omega)
          subst hA4
          injection hA5 with hA5
          injection hA5 with hA5 hA6
          subst hA5 hA6
          have hs0 := HSZ.out _ (List.getElem_mem (show 0 < ws.length by omega))
          have hs1 := HSZ.out _ (List.getElem_mem (show 1 < ws.length by omega))
          obtain ⟨s, hs⟩ : ∃ s, s = ws[0]'(by omega) := ⟨_, rfl⟩
          obtain ⟨r, hr⟩ : ∃ r, r = ws[1]'(by omega) := ⟨_, rfl⟩
          rw [← hs] at s0 hs0
          rw [← hr] at s1 hs1
          have HGD : Hid (ws.getD 0 ByteArray.empty = s) := Lib.hid (by rw [hs]; simp [show 0 < ws.length by omega])
          have HGD1 : Hid (ws.getD 1 ByteArray.empty = r) := Lib.hid (by rw [hr]; simp [show 1 < ws.length by omega])
          rw [q4]
          have hb6 : Below wr.heap.size wr (wr.alloc (.cells #[.string ⟨#[43]⟩, .string ⟨#[45]⟩, .string ⟨#[42]⟩, .string ⟨#[47]⟩] 9)) := by go_grown
          rw [Nat.add_zero] at s0
          have s0 := (hb6.cell (p := ⟨b4, p4, none⟩) hbl4).trans s0
          have s1 := (hb6.cell (p := ⟨b4, p4 + 1, none⟩) hbl4).trans s1
          have m0 := (HM4.out.later hb6).c 0
          clear hs hr
          have hk0 : ¬ 9223372036854775807 < 1 + s.size := by omega
          have hk1 : ¬ 9223372036854775807 < 1 + s.size + 1 := by omega
          have hk2 : ¬ 9223372036854775807 < 1 + s.size + 1 + 1 := by omega
          have hk3 : ¬ 9223372036854775807 < 1 + s.size + 1 + 1 + 1 := by omega
          have hk4 : ¬ 9223372036854775807 < 1 + s.size + 1 + 1 + 1 + r.size := by omega
          have hk5 : ¬ 9223372036854775807 < 1 + s.size + 1 + 1 + 1 + r.size + 1 := by omega
          go_upto_region 18 with fail
          obtain ⟨W6, hW6⟩ : ∃ W', W' = wr.alloc (.cells #[.string ⟨#[43]⟩, .string ⟨#[45]⟩, .string ⟨#[42]⟩, .string ⟨#[47]⟩] 9) := ⟨_, rfl⟩
          rw [← hW6] at s0 s1 hb6 ⊢
          have HQ : Held wr W6 [] := ⟨hb6, fun i k vs h => by simp at h⟩
          clear hW6 hb6
          go_quiet (fail)
          have HBQ := Lib.hid (HBF.out.trans ((HQ.drewN nq).below.mono hWr))
          clear HQ s0 s1
          go_wp2_with fail
          go_ret
          exact ⟨ret_sQ (by rw [hE.out, HGD.out, HGD1.out]; rfl), HBQ.out⟩
        · have hE := Lib.hid (HHT.out.trans (body_4 (v := ((6 : Int), v1, v2, v3)) ⟨by simp, by simp⟩))
          obtain ⟨b4, p4, hA4, hbl4, s0⟩ := HR4.out.at (k := 0) (by omega)
          obtain ⟨b5, p5, hA5, hbl5, s1⟩ := HR4.out.at (k := 1) (by omega)
          subst hA4
          injection hA5 with hA5
          injection hA5 with hA5 hA6
          subst hA5 hA6
          have hs0 := HSZ.out _ (List.getElem_mem (show 0 < ws.length by omega))
          have hs1 := HSZ.out _ (List.getElem_mem (show 1 < ws.length by omega))
          obtain ⟨s, hs⟩ : ∃ s, s = ws[0]'(by omega) := ⟨_, rfl⟩
          obtain ⟨r, hr⟩ : ∃ r, r = ws[1]'(by omega) := ⟨_, rfl⟩
          rw [← hs] at s0 hs0
          rw [← hr] at s1 hs1
          have HGD : Hid (ws.getD 0 ByteArray.empty = s) := Lib.hid (by rw [hs]; simp [show 0 < ws.length by omega])
          have HGD1 : Hid (ws.getD 1 ByteArray.empty = r) := Lib.hid (by rw [hr]; simp [show 1 < ws.length by omega])
          rw [q4]
          have hb6 : Below wr.heap.size wr (wr.alloc (.cells #[.string ⟨#[43]⟩, .string ⟨#[45]⟩, .string ⟨#[42]⟩, .string ⟨#[47]⟩] 9)) := by go_grown
          rw [Nat.add_zero] at s0
          have s0 := (hb6.cell (p := ⟨b4, p4, none⟩) hbl4).trans s0
          have s1 := (hb6.cell (p := ⟨b4, p4 + 1, none⟩) hbl4).trans s1
          have m0 := (HM4.out.later hb6).c 0
          clear hs hr
          have hk0 : ¬ 9223372036854775807 < 1 + s.size := by omega
          have hk1 : ¬ 9223372036854775807 < 1 + s.size + 1 := by omega
          have hk2 : ¬ 9223372036854775807 < 1 + s.size + 1 + 1 := by omega
          have hk3 : ¬ 9223372036854775807 < 1 + s.size + 1 + 1 + 1 := by omega
          have hk4 : ¬ 9223372036854775807 < 1 + s.size + 1 + 1 + 1 + r.size := by omega
          have hk5 : ¬ 9223372036854775807 < 1 + s.size + 1 + 1 + 1 + r.size + 1 := by omega
          go_upto_region 18 with fail
          obtain ⟨W6, hW6⟩ : ∃ W', W' = wr.alloc (.cells #[.string ⟨#[43]⟩, .string ⟨#[45]⟩, .string ⟨#[42]⟩, .string ⟨#[47]⟩] 9) := ⟨_, rfl⟩
          rw [← hW6] at s0 s1 hb6 ⊢
          have HQ : Held wr W6 [] := ⟨hb6, fun i k vs h => by simp at h⟩
          clear hW6 hb6
          go_quiet (fail)
          have HBQ := Lib.hid (HBF.out.trans ((HQ.drewN nq).below.mono hWr))
          clear HQ s0 s1
          go_wp2_with fail
          go_ret
          exact ⟨ret_sQ (by rw [hE.out, HGD.out, HGD1.out]; rfl), HBQ.out⟩
        · have hE := Lib.hid (HHT.out.trans (body_4 (v := ((7 : Int), v1, v2, v3)) ⟨by simp, by simp⟩))
          obtain ⟨b4, p4, hA4, hbl4, s0⟩ := HR4.out.at (k := 0) (by omega)
          obtain ⟨b5, p5, hA5, hbl5, s1⟩ := HR4.out.at (k := 1) (by omega)
          subst hA4
          injection hA5 with hA5
          injection hA5 with hA5 hA6
          subst hA5 hA6
          have hs0 := HSZ.out _ (List.getElem_mem (show 0 < ws.length by omega))
          have hs1 := HSZ.out _ (List.getElem_mem (show 1 < ws.length by omega))
          obtain ⟨s, hs⟩ : ∃ s, s = ws[0]'(by omega) := ⟨_, rfl⟩
          obtain ⟨r, hr⟩ : ∃ r, r = ws[1]'(by omega) := ⟨_, rfl⟩
          rw [← hs] at s0 hs0
          rw [← hr] at s1 hs1
          have HGD : Hid (ws.getD 0 ByteArray.empty = s) := Lib.hid (by rw [hs]; simp [show 0 < ws.length by omega])
          have HGD1 : Hid (ws.getD 1 ByteArray.empty = r) := Lib.hid (by rw [hr]; simp [show 1 < ws.length by omega])
          rw [q4]
          have hb6 : Below wr.heap.size wr (wr.alloc (.cells #[.string ⟨#[43]⟩, .string ⟨#[45]⟩, .string ⟨#[42]⟩, .string ⟨#[47]⟩] 9)) := by go_grown
          rw [Nat.add_zero] at s0
          have s0 := (hb6.cell (p := ⟨b4, p4, none⟩) hbl4).trans s0
          have s1 := (hb6.cell (p := ⟨b4, p4 + 1, none⟩) hbl4).trans s1
          have m0 := (HM4.out.later hb6).c 0
          clear hs hr
          have hk0 : ¬ 9223372036854775807 < 1 + s.size := by omega
          have hk1 : ¬ 9223372036854775807 < 1 + s.size + 1 := by omega
          have hk2 : ¬ 9223372036854775807 < 1 + s.size + 1 + 1 := by omega
          have hk3 : ¬ 9223372036854775807 < 1 + s.size + 1 + 1 + 1 := by omega
          have hk4 : ¬ 9223372036854775807 < 1 + s.size + 1 + 1 + 1 + r.size := by omega
          have hk5 : ¬ 9223372036854775807 < 1 + s.size + 1 + 1 + 1 + r.size + 1 := by omega
          go_upto_region 18 with fail
          obtain ⟨W6, hW6⟩ : ∃ W', W' = wr.alloc (.cells #[.string ⟨#[43]⟩, .string ⟨#[45]⟩, .string ⟨#[42]⟩, .string ⟨#[47]⟩] 9) := ⟨_, rfl⟩
          rw [← hW6] at s0 s1 hb6 ⊢
          have HQ : Held wr W6 [] := ⟨hb6, fun i k vs h => by simp at h⟩
          clear hW6 hb6
          go_quiet (fail)
          have HBQ := Lib.hid (HBF.out.trans ((HQ.drewN nq).below.mono hWr))
          clear HQ s0 s1
          go_wp2_with fail
          go_ret
          exact ⟨ret_sQ (by rw [hE.out, HGD.out, HGD1.out]; rfl), HBQ.out⟩
      · dsimp only at q1 q2 q4
        clear z1
        have hE := Lib.hid (HHT.out.trans (body_8 (v := (v0, v1, v2, v3)) q1))
        have o1 : (v0 == 1) = false := by simp; omega
        have o2 : (v0 == 2) = false := by simp; omega
        have o3 : (v0 == 3) = false := by simp; omega
        have o8 : (v0 == 8) = true := by simp; omega
        have hn8 := q2.2.1
        have hssz : sizeN ws ws.length ≤ 1099511627776 := by
          have := sizes_le HSZ.out
          have : ws.length * 1920 ≤ 3 * 1920 := Nat.mul_le_mul_right _ (by omega)
          omega
        have hjs : (joinP ws ⟨#[44, 32]⟩).size ≤ 10000 := by
          have h1 := joinP_size ws ⟨#[44, 32]⟩
          rw [← sizeN_all] at h1
          have h2 := sizes_le HSZ.out
          have h3 : ws.length * 1920 ≤ 3 * 1920 := Nat.mul_le_mul_right _ (by omega)
          have h4 : (⟨#[44, 32]⟩ : ByteArray).size = 2 := rfl
          rw [h4] at h1
          omega
        have HQ : Held wr wr [] := ⟨Below.refl _ _, fun i k vs h => by simp at h⟩
        have hjn := Lib.hid (fun n => sJoin_any A4 c4 ws ⟨#[44, 32]⟩ (wr.drewN n) wr.heap.size (HR4.out.below (HQ.drewN n).below) (by omega) (by decide) hssz)
        obtain ⟨js, hjs2⟩ : ∃ js, js = joinP ws ⟨#[44, 32]⟩ := ⟨_, rfl⟩
        rw [← hjs2] at hjn hjs hE
        rw [hlw] at hjn
        clear q1 q2 hjs2 hssz hlw
        have hk0 : ¬ 9223372036854775807 < v1.size + 1 := by omega
        have hk1 : ¬ 9223372036854775807 < v1.size + 1 + js.size := by omega
        have hk2 : ¬ 9223372036854775807 < v1.size + 1 + js.size + 1 := by omega
        go_upto_region 16 with fail
        go_quiet ((go_at_call 26; exact Calls.quiet_of_same ((hjn.out _).mono fun _ _ h => ⟨h.1, h.2.symm⟩)))
        have HBQ := Lib.hid (HBF.out.trans ((HQ.drewN nq).below.mono hWr))
        clear HQ
        go_wp2_with fail
        go_ret
        exact ⟨ret_sQ (by rw [hE.out]), HBQ.out⟩

set_option maxRecDepth 100000 in
set_option maxHeartbeats 8000000 in
theorem sFmtProg_any (A A' : Option Addr) (c c' : Nat) (xs : List Nd) (ys : List As) (w : World) (hR : ProgIn w w.heap.size A A' xs ys) (hl : xs.length ≤ 1048576) (hl2 : ys.length ≤ 1048576) (hz : (argsL xs).length ≤ 1099511627776) (hx : ∀ x ∈ xs, x.2.1.size ≤ 1048576 ∧ x.2.2.2.length ≤ 1048576) (hy : ∀ y ∈ ys, y.1.size ≤ 1048576) :
    Calls Tryd.prog 5 #[pgv A A' xs.length c ys.length c'] w (StrOutQ (fmtPr xs ys) w) := by
  obtain ⟨W1, hW1⟩ : ∃ W, W = w.alloc (.cells #[.slice A xs.length c, .slice A' ys.length c'] 31) := ⟨_, rfl⟩
  have M := Mbox.new w #[.slice A xs.length c, .slice A' ys.length c'] 31
  have hB : Below w.heap.size w (w.alloc (.cells #[.slice A xs.length c, .slice A' ys.length c'] 31)) := by go_grown
  have hR1 := (hR.alloc (Nat.le_refl _) (.cells #[.slice A xs.length c, .slice A' ys.length c'] 31)).more (B' := (w.alloc (.cells #[.slice A xs.length c, .slice A' ys.length c'] 31)).heap.size) (by simp)
  rw [← hW1] at M hB hR1
  have HM := Lib.hid M
  have HB := Lib.hid hB
  have HR := Lib.hid hR1
  clear M hB hR hR1
  have HIV := Lib.hid (sIsValidProg_any A A' c c' xs ys W1 HR.out hl hl2 hz hx hy)
  clear hx hy hz
  go_enter Tryd.func5, Tryd.ntmps5
  go_upto_region 1 with fail
  rw [← hW1]
  clear hW1
  have m0 := HM.out.c 0
  have m1 := HM.out.c 1
  go_wp2_with fail
  refine HIV.out.mono ?_
  rintro e w2 ⟨q, rfl, hq, hb2⟩
  have HQ := Lib.hid hq
  have HB2 := Lib.hid hb2
  have m0 := (HM.out.later hb2).c 0
  have m1 := (HM.out.later hb2).c 1
  clear hq hb2 HIV
  cases q with
  | false =>
    have HZ : Hid (fmtPr xs ys = ⟨#[]⟩) := Lib.hid (fmtPr_no fun h => by have := HQ.out.2 h; cases this)
    go_wp2_with fail
    go_ret
    exact ⟨ret_sQ HZ.out.symm, HB.out.trans (HB2.out.mono HB.out.size)⟩
  | true =>
    have HOK := Lib.hid (HQ.out.1 rfl)
    have hy60 := roots_len HOK.out
    clear HQ
    go_wp2_with fail
    go_loopw [3, 12] (fun s i wr => ∃ k : Nat, k ≤ ys.length ∧ i = .int .i64 k ∧ s = .string (progT xs ys k) ∧ Below W1.heap.size W1 wr) (fun _ i _ => ys.length - (intOf i).toNat)
    case atStart => exact ⟨0, Nat.zero_le _, rfl, rfl, HB2.out⟩
    case round =>
      clear m0 m1 HB2
      obtain ⟨k, hk, rfl, rfl, hb⟩ := hrel
      by_cases hlt : k < ys.length
      · obtain ⟨b, o, rfl, hbl, hc⟩ := HR.out.2.at hlt
        obtain ⟨c0, c1⟩ := asg_at hc
        have c0 := (hb.cell (p := ⟨b, o + k * 2, none⟩) hbl).trans c0
        have c1 := (hb.cell (p := ⟨b, o + k * 2 + 1, none⟩) hbl).trans c1
        have hst := progT_step xs ys k hlt
        have hps := progT_size HOK.out k hk
        have hrt := okPr_root HOK.out hlt
        have hwr := wt_root HOK.out hlt
        have hts := txN_size HOK.out.2.1 (ys[k]).2.toNat (by omega)
        have hid := (HOK.out.2.2.1 k hlt).2.1
        obtain ⟨v, hv⟩ : ∃ v, v = ys[k] := ⟨_, rfl⟩
        rw [← hv] at c0 c1 hst hrt hwr hts hid
        obtain ⟨v0, v1⟩ := v
        dsimp only at c0 c1 hrt hwr hts hid
        obtain ⟨m, rfl⟩ : ∃ m : Nat, v1 = (m : Int) := ⟨v1.toNat, by omega⟩
        rw [Int.toNat_natCast] at hwr hts
        have hmx : m < xs.length := by omega
        have hfm := Lib.hid (sText_any xs HOK.out.2.1 m hmx hwr)
        have hsl : lineT xs (v0, (m : Int)) = v0 ++ ⟨#[32, 61, 32]⟩ ++ txN xs m ++ ⟨#[59, 10]⟩ := rfl
        rw [hsl] at hst
        obtain ⟨s, hs⟩ : ∃ s, s = txN xs m := ⟨_, rfl⟩
        rw [← hs] at hst hts hfm
        obtain ⟨T, hT⟩ : ∃ T, T = progT xs ys k := ⟨_, rfl⟩
        rw [← hT] at hst hps ⊢
        have HST := Lib.hid hst
        have hlt' : (k : Int) < (ys.length : Int) := by omega
        have hge' : (0 : Int) ≤ (k : Int) := by omega
        have hTs : T.size ≤ 120000 := by omega
        have hss : s.size ≤ 1920 := by omega
        have hb3 := hb.alloc hb.size (.cells #[.string v0, .int .i64 m] 39)
        have hM3 := (HM.out.later hb).later (show Below wr.heap.size wr (wr.alloc (.cells #[.string v0, .int .i64 m] 39)) by go_grown)
        clear hst hs hT hv hc hrt hwr hts hsl hps hb
        have hk0 : ¬ 9223372036854775807 < T.size + v0.size := by omega
        have hk1 : ¬ 9223372036854775807 < T.size + v0.size + 3 := by omega
        have hk2 : ¬ 9223372036854775807 < T.size + v0.size + 3 + s.size := by omega
        have hk3 : ¬ 9223372036854775807 < T.size + v0.size + 3 + s.size + 2 := by omega
        go_upto_region 7 with fail
        obtain ⟨W3, hW3⟩ : ∃ W', W' = wr.alloc (.cells #[.string v0, .int .i64 m] 39) := ⟨_, rfl⟩
        have M3 := Mbox.new wr #[.string v0, .int .i64 m] 39
        rw [← hW3] at M3 hb3 hM3 ⊢
        have HB3 := Lib.hid hb3
        have HQ : Held W3 W3 [(wr.heap.size, [.string v0, .int .i64 m]), (w.heap.size, [.slice A xs.length c, .slice (some ⟨b, o, none⟩) ys.length c'])] := ((Held.nil W3).cons hM3).cons M3
        obtain ⟨X, hX⟩ : ∃ X, X = wr.heap.size := ⟨_, rfl⟩
        rw [← hX] at HQ ⊢
        have hs3 : W1.heap.size ≤ W3.heap.size := hb3.size
        have HC : ∀ W', Held W3 W' [(X, [.string v0, .int .i64 m]), (w.heap.size, [.slice A xs.length c, .slice (some ⟨b, o, none⟩) ys.length c'])] → (W'.cell? ⟨X, 0, none⟩ = some (.string v0) ∧ W'.cell? ⟨X, 1, none⟩ = some (.int .i64 m) ∧ W'.cell? ⟨w.heap.size, 0, none⟩ = some (.slice A xs.length c) ∧ W'.cell? ⟨w.heap.size, 1, none⟩ = some (.slice (some ⟨b, o, none⟩) ys.length c')) := fun W' h => ⟨(h.box 0).c 0, (h.box 0).c 1, (h.box 1).c 0, (h.box 1).c 1⟩
        have HF : ∀ {bs : List (Nat × List Value)} (W' : World), Held W3 W' bs → Calls Tryd.prog 12 #[pgv A (some ⟨b, o, none⟩) xs.length c ys.length c', .int .i64 m] W' (StrOutQ s W') := fun W' h => hfm.out W' A (some ⟨b, o, none⟩) c ys.length c' W1.heap.size ((HR.out.1.below HB3.out).below (h.below.mono hs3)) (Nat.le_trans hs3 h.size)
        clear hW3 hX M3 hb3 hM3 c0 c1
        go_region_held3 (fun W' => W'.cell? ⟨X, 0, none⟩ = some (.string v0) ∧ W'.cell? ⟨X, 1, none⟩ = some (.int .i64 m) ∧ W'.cell? ⟨w.heap.size, 0, none⟩ = some (.slice A xs.length c) ∧ W'.cell? ⟨w.heap.size, 1, none⟩ = some (.slice (some ⟨b, o, none⟩) ys.length c'))
          (first | (with_reducible exact HC _ HQ) | (with_reducible exact HC _ HQ.drew))
          ((go_at_call 12; refine (by first | with_reducible exact HF _ HQ | with_reducible exact HF _ HQ.drew : Calls Tryd.prog 12 #[pgv A (some ⟨b, o, none⟩) xs.length c ys.length c', .int .i64 m] _ (StrOutQ s _)).mono ?_; rintro e w1 ⟨rfl, hb1⟩; (first | (have HQ := HQ.later hb1) | (have HQ := HQ.drew.later hb1))))
        all_goals (have HBQ := Lib.hid (HB3.out.trans (HQ.below.mono hs3)); clear HC HF HQ)
        all_goals (go_wp2_with fail; go_roundw)
        case rel => exact ⟨k + 1, by omega, by go_num, by rw [HST.out]; simp only [cat_assoc], HBQ.out⟩
        case measure => simp [intOf]; omega
      · obtain rfl : k = ys.length := by omega
        have HZ := Lib.hid (fmtPr_yes HOK.out)
        have HBF := Lib.hid (HB.out.trans (hb.mono HB.out.size))
        have hge' : ¬ ((ys.length : Nat) : Int) < ((ys.length : Nat) : Int) := by omega
        clear hb
        go_wp2_with fail
        go_ret
        exact ⟨ret_sQ HZ.out.symm, HBF.out⟩
end Go.Proofs.YtkbdnjhgcoihhaaDoor
