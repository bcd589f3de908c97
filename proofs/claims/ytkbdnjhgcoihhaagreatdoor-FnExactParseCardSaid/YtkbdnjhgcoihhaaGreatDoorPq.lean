/- The model's parser, its small parts. -/
import Derived.Test.YtkbdnjhgcoihhaaGreatDoorProg
import Derived.Test.YtkbdnjhgcoihhaaGreatDoorInts
import Derived.Test.YtkbdnjhgcoihhaaGreatDoorVbox
import Derived.Test.YtkbdnjhgcoihhaaGreatDoorHeld
import Derived.Test.YtkbdnjhgcoihhaaGreatDoorMem
import Derived.Test.YtkbdnjhgcoihhaaGreatDoorFlat
import Derived.Test.YtkbdnjhgcoihhaaGreatDoorRowC
import Derived.Test.YtkbdnjhgcoihhaaGreatDoorKS
import Derived.Test.YtkbdnjhgcoihhaaGreatDoorStrS
import Derived.Test.YtkbdnjhgcoihhaaGreatDoorIntS
import Derived.Test.YtkbdnjhgcoihhaaGreatDoorSS
import Derived.Test.YtkbdnjhgcoihhaaGreatDoorTok
import Derived.Test.YtkbdnjhgcoihhaaGreatDoorPg
import Derived.Test.YtkbdnjhgcoihhaaGreatDoorPh
import Derived.Test.YtkbdnjhgcoihhaaGreatDoorPk
import Derived.Test.YtkbdnjhgcoihhaaGreatDoorPl
import Derived.Test.YtkbdnjhgcoihhaaGreatDoorPp
import Derived.WalkKit
import Derived.WalkSpells
import Derived.WalkLawsBesides
import Derived.Lib.Hide
import Derived.Deep.RegionHeld3
import Derived.Deep.QuietTactic
import Derived.BigQuiet
import Derived.Handy
import Derived.Deep.DeepCutAuto
namespace Go.Proofs.YtkbdnjhgcoihhaaGreatDoor
open Go.RowKit

theorem Held.far4 {w W : World} {bs : List (Nat × List Value)} (h : Held w W bs) {g i j l m : Nat} (hg : w.heap.size ≤ g) (hne : ∀ p ∈ bs, p.1 ≠ g) (x y z u : Value) : Held w ((((W.setCell ⟨g, i, none⟩ x).setCell ⟨g, j, none⟩ y).setCell ⟨g, l, none⟩ z).setCell ⟨g, m, none⟩ u) bs :=
  (h.far3 hg hne x y z).far hg hne u
theorem Mbox.new4 (w : World) (a b c d : Value) (t : TypeId) : Mbox (w.alloc (.cells #[a, b, c, d] t)) w.heap.size [a, b, c, d] := Mbox.new w #[a, b, c, d] t
theorem Mbox.put4 {w : World} {k : Nat} {p q r s : Value} (h : Mbox w k [p, q, r, s]) (a b c d : Value) : Mbox ((((w.setCell ⟨k, 0, none⟩ a).setCell ⟨k, 1, none⟩ b).setCell ⟨k, 2, none⟩ c).setCell ⟨k, 3, none⟩ d) k [a, b, c, d] :=
  (((h.put 0 a).put 1 b).put 2 c).put 3 d
theorem tkA_at {ts : List Tk} {a : Nat} (h : a < ts.length) : tkA ts a = ts[a] := by
  unfold tkA
  simp [h]

set_option maxHeartbeats 4000000 in
theorem sPeek_any (S c a : Nat) (A : Option Addr) (ts : List Tk) (x2 x3 x4 : Value) (w : World) (hM : Mbox w S [.slice A ts.length c, .int .i64 a, x2, x3, x4]) (hR : RowC 4 tkg w w.heap.size A ts) (ha : a < ts.length) :
    Calls Tryz.prog 24 #[.pointer (some ⟨S, 0, none⟩)] w fun e w' => e = .returned (.string (symA ts a)) ∧ Below w.heap.size w w' := by
  obtain ⟨b, o, rfl, hbl, hc⟩ := hR.at ha
  obtain ⟨t0, t1, t2, t3⟩ := tkg_at hc
  have htk := tkA_at ha
  obtain ⟨v, hv⟩ : ∃ v, v = ts[a] := ⟨_, rfl⟩
  rw [← hv] at t0 t1 t2 t3 htk
  obtain ⟨v0, v1, v2, v3⟩ := v
  dsimp only at t0 t1 t2 t3
  have HT : Held w w [(S, [.slice (some ⟨b, o, none⟩) ts.length c, .int .i64 a, x2, x3, x4])] := (Held.nil w).cons hM
  have HC : ∀ W', Held w W' [(S, [.slice (some ⟨b, o, none⟩) ts.length c, .int .i64 a, x2, x3, x4])] → W'.cell? ⟨S, 0, none⟩ = some (.slice (some ⟨b, o, none⟩) ts.length c) ∧ W'.cell? ⟨S, 1, none⟩ = some (.int .i64 a) ∧ W'.cell? ⟨b, o + a * 4, none⟩ = some (.int .i64 v0) ∧ W'.cell? ⟨b, o + a * 4 + 1, none⟩ = some (.string v1) ∧ W'.cell? ⟨b, o + a * 4 + 2, none⟩ = some (.int .i64 v2) ∧ W'.cell? ⟨b, o + a * 4 + 3, none⟩ = some (.int .i64 v3) := fun W' h =>
    ⟨(h.box 0).c 0, (h.box 0).c 1, (h.below.cell (p := ⟨b, o + a * 4, none⟩) hbl).trans t0, (h.below.cell (p := ⟨b, o + a * 4 + 1, none⟩) hbl).trans t1, (h.below.cell (p := ⟨b, o + a * 4 + 2, none⟩) hbl).trans t2, (h.below.cell (p := ⟨b, o + a * 4 + 3, none⟩) hbl).trans t3⟩
  have hlt' : (a : Int) < (ts.length : Int) := by omega
  have hge' : (0 : Int) ≤ (a : Int) := by omega
  have HTK := Lib.hid htk
  clear hR hc hv htk t0 t1 t2 t3 hM
  go_enter Tryz.func24, Tryz.ntmps24
  go_upto_region 1 with fail
  go_cut [3] (fun s wx => ∃ g : Nat, s = .pointer (some ⟨g, 0, none⟩) ∧ Mbox wx g [.int .i64 v0, .string v1, .int .i64 v2, .int .i64 v3] ∧ Held w wx [(S, [.slice (some ⟨b, o, none⟩) ts.length c, .int .i64 a, x2, x3, x4])])
  case first =>
    have hsz := HT.size
    go_region_held3 (fun W' => W'.cell? ⟨S, 0, none⟩ = some (.slice (some ⟨b, o, none⟩) ts.length c) ∧ W'.cell? ⟨S, 1, none⟩ = some (.int .i64 a) ∧ W'.cell? ⟨b, o + a * 4, none⟩ = some (.int .i64 v0) ∧ W'.cell? ⟨b, o + a * 4 + 1, none⟩ = some (.string v1) ∧ W'.cell? ⟨b, o + a * 4 + 2, none⟩ = some (.int .i64 v2) ∧ W'.cell? ⟨b, o + a * 4 + 3, none⟩ = some (.int .i64 v3))
      (first | (with_reducible exact HC _ HT) | (with_reducible exact HC _ HT.drew) | (with_reducible exact HC _ (HT.alloc _)) | (with_reducible exact HC _ (HT.alloc _).drew) | (with_reducible exact HC _ (HT.far4 (by omega) (by simp <;> omega) _ _ _ _)))
      (fail)
    all_goals (go_wp2_with fail; go_meet)
    all_goals (first | with_reducible exact ⟨_, rfl, Mbox.new4 _ _ _ _ _ _, HT.alloc _⟩ | with_reducible exact ⟨_, rfl, (Mbox.new4 _ _ _ _ _ _).drew, (HT.alloc _).drew⟩ | with_reducible exact ⟨_, rfl, Mbox.new4 _ _ _ _ _ _, HT.drew.alloc _⟩ | with_reducible exact ⟨_, rfl, (Mbox.new4 _ _ _ _ _ _).drew, (HT.drew.alloc _).drew⟩)
  case rest =>
    clear HC HT
    obtain ⟨g, rfl, HV, HT⟩ := hcut
    have m0 := HV.c 0
    have m1 := HV.c 1
    by_cases h3 : (v0 == 3) = true
    · have he : symA ts a = v1 := by
        unfold symA
        rw [HTK.out, if_pos (by simpa using h3)]
      have HE := Lib.hid he
      clear he
      go_wp2_with fail
      go_ret
      exact ⟨by rw [HE.out]; rfl, HT.below⟩
    · have h3 : (v0 == 3) = false := by simpa using h3
      have he : symA ts a = ⟨#[]⟩ := by
        unfold symA
        rw [HTK.out, if_neg (by simpa using h3)]
      have HE := Lib.hid he
      clear he
      go_wp2_with fail
      go_ret
      exact ⟨by rw [HE.out]; rfl, HT.below⟩

set_option maxHeartbeats 4000000 in
theorem sFail_any (S c a : Nat) (A : Option Addr) (ts : List Tk) (x2 x3 : Value) (w : World) (hM : Mbox w S [.slice A ts.length c, .int .i64 a, x2, x3, .int .i64 (-1)]) (hR : RowC 4 tkg w S A ts) (ha : a < ts.length) :
    Calls Tryz.prog 10 #[.pointer (some ⟨S, 0, none⟩)] w fun e w' => e = .returned (.int .i64 0) ∧ Turn (fun k => k = S) w w' ∧ Mbox w' S [.slice A ts.length c, .int .i64 a, x2, x3, .int .i64 (offA ts a)] := by
  obtain ⟨b, o, rfl, hbl, hc⟩ := hR.at ha
  obtain ⟨t0, t1, t2, t3⟩ := tkg_at hc
  have htk := tkA_at ha
  obtain ⟨v, hv⟩ : ∃ v, v = ts[a] := ⟨_, rfl⟩
  rw [← hv] at t0 t1 t2 t3 htk
  obtain ⟨v0, v1, v2, v3⟩ := v
  dsimp only at t0 t1 t2 t3
  have hne : S ≠ b := by omega
  have HTK : Hid (offA ts a = v3) := Lib.hid (by unfold offA; rw [htk])
  have hlt' : (a : Int) < (ts.length : Int) := by omega
  have hge' : (0 : Int) ≤ (a : Int) := by omega
  have c0 := hM.c 0
  have c1 := hM.c 1
  have c4 := hM.c 4
  have f4 := hM.f 4
  have HM := Lib.hid hM
  clear hR hc hv htk t0 t1 t2 hM c0 c1
  go_enter Tryz.func10, Tryz.ntmps10
  go_upto_region 2 with fail
  have HM := HM.out
  have K0 : w.cell? ⟨S, 0, none⟩ = some (.slice (some ⟨b, o, none⟩) ts.length c) ∧ w.cell? ⟨S, 1, none⟩ = some (.int .i64 a) ∧ w.cell? ⟨b, o + a * 4 + 3, none⟩ = some (.int .i64 v3) := ⟨HM.c 0, HM.c 1, t3⟩
  have K1 : w.drew.cell? ⟨S, 0, none⟩ = some (.slice (some ⟨b, o, none⟩) ts.length c) ∧ w.drew.cell? ⟨S, 1, none⟩ = some (.int .i64 a) ∧ w.drew.cell? ⟨b, o + a * 4 + 3, none⟩ = some (.int .i64 v3) := K0
  have K2 : ∀ v, (w.setCell ⟨S, 4, none⟩ v).cell? ⟨S, 0, none⟩ = some (.slice (some ⟨b, o, none⟩) ts.length c) ∧ (w.setCell ⟨S, 4, none⟩ v).cell? ⟨S, 1, none⟩ = some (.int .i64 a) ∧ (w.setCell ⟨S, 4, none⟩ v).cell? ⟨b, o + a * 4 + 3, none⟩ = some (.int .i64 v3) := fun v => ⟨(HM.put 4 v).c 0, (HM.put 4 v).c 1, (World.cell?_setCell_other w _ _ _ (by intro e; injection e with e; omega)).trans t3⟩
  have K3 : ∀ v, (w.setCell ⟨S, 4, none⟩ v).drew.cell? ⟨S, 0, none⟩ = some (.slice (some ⟨b, o, none⟩) ts.length c) ∧ (w.setCell ⟨S, 4, none⟩ v).drew.cell? ⟨S, 1, none⟩ = some (.int .i64 a) ∧ (w.setCell ⟨S, 4, none⟩ v).drew.cell? ⟨b, o + a * 4 + 3, none⟩ = some (.int .i64 v3) := K2
  have K4 : ∀ v, (w.drew.setCell ⟨S, 4, none⟩ v).cell? ⟨S, 0, none⟩ = some (.slice (some ⟨b, o, none⟩) ts.length c) ∧ (w.drew.setCell ⟨S, 4, none⟩ v).cell? ⟨S, 1, none⟩ = some (.int .i64 a) ∧ (w.drew.setCell ⟨S, 4, none⟩ v).cell? ⟨b, o + a * 4 + 3, none⟩ = some (.int .i64 v3) := K2
  go_region_held3 (fun W' => W'.cell? ⟨S, 0, none⟩ = some (.slice (some ⟨b, o, none⟩) ts.length c) ∧ W'.cell? ⟨S, 1, none⟩ = some (.int .i64 a) ∧ W'.cell? ⟨b, o + a * 4 + 3, none⟩ = some (.int .i64 v3))
    (first | (with_reducible exact K0) | (with_reducible exact K1) | (with_reducible exact K2 _) | (with_reducible exact K3 _) | (with_reducible exact K4 _))
    (fail)
  have hb := (Below.refl w.heap.size w).drew
  have ht := (Turn.refl (fun k => k = S) w).setCell (g := S) (i := 4) rfl (.int .i64 v3)
  have hm := HM.put 4 (.int .i64 v3)
  all_goals go_wp2
  all_goals go_ret
  all_goals (first | exact ⟨rfl, ht, by rw [HTK.out]; exact hm⟩ | exact ⟨rfl, ht.trans (Turn.of_later (Below.refl _ _).drew), by rw [HTK.out]; exact hm.drew⟩)

theorem str_beqQ (a b : ByteArray) : (a.toList == b.toList) = decide (a = b) := by
  by_cases h : a = b
  · subst h; simp
  · have : a.toList ≠ b.toList := fun e => h (by
      have := congrArg List.toArray e
      have e2 : a.data = b.data := by simpa [ByteArray.toList_eq] using this
      cases a; cases b; simpa using e2)
    simp [h, this]

set_option maxHeartbeats 4000000 in
theorem sExpect_yes (S c a : Nat) (A : Option Addr) (ts : List Tk) (x2 x3 : Value) (x : ByteArray) (w : World) (hM : Mbox w S [.slice A ts.length c, .int .i64 a, x2, x3, .int .i64 (-1)]) (hS : S < w.heap.size) (hR : RowC 4 tkg w S A ts) (ha : a < ts.length) (hl : ts.length ≤ 1099511627776) (hx : symA ts a = x) :
    Calls Tryz.prog 11 #[.pointer (some ⟨S, 0, none⟩), .string x] w fun e w' => e = .returned (.bool true) ∧ Turn (fun k => k = S) w w' ∧ Mbox w' S [.slice A ts.length c, .int .i64 ((a + 1 : Nat) : Int), x2, x3, .int .i64 (-1)] := by
  have HM := Lib.hid hM
  have HR := Lib.hid hR
  have hR0 : RowC 4 tkg w w.heap.size A ts := hR.more (by omega)
  have hcmp : ((symA ts a).toList == x.toList) = true := by rw [str_beqQ]; exact decide_eq_true hx
  have hp := sPeek_any S c a A ts x2 x3 (.int .i64 (-1)) w hM hR0 ha
  obtain ⟨y, hy⟩ : ∃ y, y = symA ts a := ⟨_, rfl⟩
  rw [← hy] at hcmp hp
  have HP := Lib.hid hp
  clear hM hR hR0 hp hx hy
  go_enter Tryz.func11, Tryz.ntmps11
  go_wp2_with fail
  refine HP.out.mono ?_
  rintro e w1 ⟨rfl, hb1⟩
  clear HP
  have hm1 : Mbox w1 S [.slice A ts.length c, .int .i64 a, x2, x3, .int .i64 (-1)] := HM.out.later hb1
  have c1 := hm1.c 1
  have f1 := hm1.f 1
  have hm := hm1.put 1 (.int .i64 ((a + 1 : Nat) : Int))
  have e1 : ((a + 1 : Nat) : Int) = (a : Int) + 1 := by omega
  rw [e1] at hm
  have ht := (Turn.of_later (S := fun k => k = S) hb1).setCell (g := S) (i := 1) rfl (.int .i64 ((a : Int) + 1))
  have HM2 := Lib.hid hm
  have HT2 := Lib.hid ht
  have HE := Lib.hid e1
  clear hm ht hb1 hm1 HM e1
  go_wp2
  go_ret
  exact ⟨rfl, HT2.out, by rw [HE.out]; exact HM2.out⟩

set_option maxHeartbeats 4000000 in
theorem sExpect_no (S c a : Nat) (A : Option Addr) (ts : List Tk) (x2 x3 : Value) (x : ByteArray) (w : World) (hM : Mbox w S [.slice A ts.length c, .int .i64 a, x2, x3, .int .i64 (-1)]) (hS : S < w.heap.size) (hR : RowC 4 tkg w S A ts) (ha : a < ts.length) (hx : symA ts a ≠ x) :
    Calls Tryz.prog 11 #[.pointer (some ⟨S, 0, none⟩), .string x] w fun e w' => e = .returned (.bool false) ∧ Turn (fun k => k = S) w w' ∧ Mbox w' S [.slice A ts.length c, .int .i64 a, x2, x3, .int .i64 (offA ts a)] := by
  have HM := Lib.hid hM
  have HR := Lib.hid hR
  have hR0 : RowC 4 tkg w w.heap.size A ts := hR.more (by omega)
  have hcmp : ((symA ts a).toList == x.toList) = false := by rw [str_beqQ]; exact decide_eq_false hx
  have hp := sPeek_any S c a A ts x2 x3 (.int .i64 (-1)) w hM hR0 ha
  obtain ⟨y, hy⟩ : ∃ y, y = symA ts a := ⟨_, rfl⟩
  rw [← hy] at hcmp hp
  have HP := Lib.hid hp
  clear hM hR hR0 hp hx hy
  go_enter Tryz.func11, Tryz.ntmps11
  go_wp2_with fail
  refine HP.out.mono ?_
  rintro e w1 ⟨rfl, hb1⟩
  clear HP
  have hm1 : Mbox w1 S [.slice A ts.length c, .int .i64 a, x2, x3, .int .i64 (-1)] := HM.out.later hb1
  have hr1 : RowC 4 tkg w1 S A ts := HR.out.below (hb1.mono (by omega))
  have HB1 := Lib.hid hb1
  clear hb1
  go_wp2_with fail
  refine (sFail_any S c a A ts x2 x3 w1 hm1 hr1 ha).mono ?_
  rintro e w2 ⟨rfl, ht2, hm2⟩
  have HM2 := Lib.hid hm2
  have HT2 := Lib.hid ((Turn.of_later (S := fun k => k = S) HB1.out).trans ht2)
  clear ht2 hm2 hm1 hr1
  go_wp2_with fail
  go_ret
  exact ⟨rfl, HT2.out, HM2.out⟩
end Go.Proofs.YtkbdnjhgcoihhaaGreatDoor
