/- Contracts of drawn triangles: l09At, MakeTriangle. -/
import Derived.Test.YtjjafbcfmijppaaProg
import Derived.Test.YtjjafbcfmijppaaInts
import Derived.Test.YtjjafbcfmijppaaMem
import Derived.Test.YtjjafbcfmijppaaIntS
import Derived.Test.YtjjafbcfmijppaaCur
import Derived.Test.YtjjafbcfmijppaaVbox
import Derived.Test.YtjjafbcfmijppaaVec
import Derived.Test.YtjjafbcfmijppaaHeld
import Derived.Test.YtjjafbcfmijppaaArr
import Derived.Test.YtjjafbcfmijppaaTr
import Derived.Test.YtjjafbcfmijppaaFlat
import Derived.Test.YtjjafbcfmijppaaRowC
import Derived.Test.YtjjafbcfmijppaaPat
import Derived.Test.YtjjafbcfmijppaaCam
import Derived.Test.YtjjafbcfmijppaaCPrj
import Derived.Test.YtjjafbcfmijppaaTDr
import Derived.WalkKit
import Derived.WalkSpells
import Derived.WalkLawsBesides
import Derived.Lib.Hide
import Derived.Deep.RegionHeld3
import Derived.Deep.QuietTactic
import Derived.BigQuiet
import Derived.Handy
import Derived.Deep.DeepCutAuto
namespace Go.Proofs.Ytjjafbcfmijppaa
open Go.RowKit

set_option maxRecDepth 100000 in
set_option maxHeartbeats 8000000 in
theorem at_any (B g : Nat) (a0 a1 a2 a3 a4 a5 a6 a7 a8 : Int) (w : World) (hv : cor a0 a1 a2 ∧ cor a3 a4 a5 ∧ cor a6 a7 a8) (hC : Cur w B g) (hB : B ≤ w.heap.size) :
    Calls Try.prog 29 #[.pointer (some ⟨g, 0, none⟩), mat a0 a1 a2 a3 a4 a5 a6 a7 a8] w (AtOut B g w) := by
  have hlt := hC.lt
  have HT : GD B g w (w.alloc (.cells #[.int .i64 a0, .int .i64 a1, .int .i64 a2, .int .i64 a3, .int .i64 a4, .int .i64 a5, .int .i64 a6, .int .i64 a7, .int .i64 a8] 27)) [(w.heap.size, [.int .i64 a0, .int .i64 a1, .int .i64 a2, .int .i64 a3, .int .i64 a4, .int .i64 a5, .int .i64 a6, .int .i64 a7, .int .i64 a8])] := (GD.start hC hB).new #[.int .i64 a0, .int .i64 a1, .int .i64 a2, .int .i64 a3, .int .i64 a4, .int .i64 a5, .int .i64 a6, .int .i64 a7, .int .i64 a8] 27
  clear hC
  have n0 : IntKind.i64.wrap (a0 + a3) = a0 + a3 := wrap_in (by unfold cor at hv; omega)
  have n1 : IntKind.i64.wrap (a1 + a4) = a1 + a4 := wrap_in (by unfold cor at hv; omega)
  have n2 : IntKind.i64.wrap (a0 + a3 + a6) = a0 + a3 + a6 := wrap_in (by unfold cor at hv; omega)
  have n3 : IntKind.i64.wrap (a1 + a4 + a7) = a1 + a4 + a7 := wrap_in (by unfold cor at hv; omega)
  have k0 : ∀ w : World, Calls Try.prog 45 #[.int .i64 (a0 + a3), .int .i64 2] w (fun e w' => e = .returned (.int .i64 (fdivP (a0 + a3) 2)) ∧ w = w') := fun w => sFloorDiv_any _ _ _ (by unfold cor at hv; omega) (by unfold cor at hv; omega)
  have k1 : ∀ w : World, Calls Try.prog 45 #[.int .i64 (a1 + a4), .int .i64 2] w (fun e w' => e = .returned (.int .i64 (fdivP (a1 + a4) 2)) ∧ w = w') := fun w => sFloorDiv_any _ _ _ (by unfold cor at hv; omega) (by unfold cor at hv; omega)
  have k2 : ∀ w : World, Calls Try.prog 45 #[.int .i64 (a0 + a3 + a6), .int .i64 3] w (fun e w' => e = .returned (.int .i64 (fdivP (a0 + a3 + a6) 3)) ∧ w = w') := fun w => sFloorDiv_any _ _ _ (by unfold cor at hv; omega) (by unfold cor at hv; omega)
  have k3 : ∀ w : World, Calls Try.prog 45 #[.int .i64 (a1 + a4 + a7), .int .i64 3] w (fun e w' => e = .returned (.int .i64 (fdivP (a1 + a4 + a7) 3)) ∧ w = w') := fun w => sFloorDiv_any _ _ _ (by unfold cor at hv; omega) (by unfold cor at hv; omega)
  have K0 := Lib.hid k0
  have K1 := Lib.hid k1
  have K2 := Lib.hid k2
  have K3 := Lib.hid k3
  clear k0 k1 k2 k3 hv
  go_enter Try.func29, Try.ntmps29
  go_wp2_with fail
  refine (below_any B g 4 _ HT.cur (by omega) (by omega)).mono ?_
  rintro e w1 ⟨x, x0, x1, rfl, hc, hg⟩
  have HT := HT.grow hc hg
  clear hc hg
  rcases (show x = 0 ∨ x = 1 ∨ x = 2 ∨ x = 3 by omega) with rfl | rfl | rfl | rfl
  · clear x0 x1
    have c0 := (HT.box 0).c 0
    have c1 := (HT.box 0).c 1
    have c2 := (HT.box 0).c 2
    have c3 := (HT.box 0).c 3
    have c4 := (HT.box 0).c 4
    have c5 := (HT.box 0).c 5
    have c6 := (HT.box 0).c 6
    have c7 := (HT.box 0).c 7
    have c8 := (HT.box 0).c 8
    go_wp2_with fail
    go_quiet (fail)
    go_wp2_with fail
    have HT := HT.drewN
    exact bodyPost_ret (v := .tuple #[.int .i64 (a0), .int .i64 (a1)]) (by simp [results, Try.results29, go_sem]) rfl ⟨_, _, rfl, (HT _).cur, (HT _).gb⟩
  · clear x0 x1
    go_wp2_with fail
    refine (near_any B g _ HT.cur).mono ?_
    rintro e w2 ⟨y, rfl, hc, hg⟩
    have HT := HT.grow hc hg
    clear hc hg
    go_wp2_with fail
    refine (near_any B g _ HT.cur).mono ?_
    rintro e w3 ⟨z, rfl, hc, hg⟩
    have HT := HT.grow hc hg
    clear hc hg
    go_wp2_with fail
    exact bodyPost_ret (v := .tuple #[.int .i64 (y), .int .i64 (z)]) (by simp [results, Try.results29, go_sem]) rfl ⟨_, _, rfl, HT.cur, HT.gb⟩
  · clear x0 x1
    have c0 := (HT.box 0).c 0
    have c1 := (HT.box 0).c 1
    have c2 := (HT.box 0).c 2
    have c3 := (HT.box 0).c 3
    have c4 := (HT.box 0).c 4
    have c5 := (HT.box 0).c 5
    have c6 := (HT.box 0).c 6
    have c7 := (HT.box 0).c 7
    have c8 := (HT.box 0).c 8
    go_wp2_with fail
    go_quiet (first | (go_at_call 45; with_reducible exact Calls.quiet_of_same ((K0.out _).mono fun _ _ h => ⟨h.1, h.2.symm⟩)) | (go_at_call 45; with_reducible exact Calls.quiet_of_same ((K1.out _).mono fun _ _ h => ⟨h.1, h.2.symm⟩)))
    go_wp2_with fail
    have HT := HT.drewN
    exact bodyPost_ret (v := .tuple #[.int .i64 (fdivP (a0 + a3) 2), .int .i64 (fdivP (a1 + a4) 2)]) (by simp [results, Try.results29, go_sem]) rfl ⟨_, _, rfl, (HT _).cur, (HT _).gb⟩
  · clear x0 x1
    have c0 := (HT.box 0).c 0
    have c1 := (HT.box 0).c 1
    have c2 := (HT.box 0).c 2
    have c3 := (HT.box 0).c 3
    have c4 := (HT.box 0).c 4
    have c5 := (HT.box 0).c 5
    have c6 := (HT.box 0).c 6
    have c7 := (HT.box 0).c 7
    have c8 := (HT.box 0).c 8
    go_wp2_with fail
    go_quiet (first | (go_at_call 45; with_reducible exact Calls.quiet_of_same ((K2.out _).mono fun _ _ h => ⟨h.1, h.2.symm⟩)) | (go_at_call 45; with_reducible exact Calls.quiet_of_same ((K3.out _).mono fun _ _ h => ⟨h.1, h.2.symm⟩)))
    go_wp2_with fail
    have HT := HT.drewN
    exact bodyPost_ret (v := .tuple #[.int .i64 (fdivP (a0 + a3 + a6) 3), .int .i64 (fdivP (a1 + a4 + a7) 3)]) (by simp [results, Try.results29, go_sem]) rfl ⟨_, _, rfl, (HT _).cur, (HT _).gb⟩

set_option maxRecDepth 100000 in
set_option maxHeartbeats 8000000 in
theorem makeTri_any (A : Option Addr) (c : Nat) (bs : List Int) (w : World) (hR : Row U8 w w.heap.size A bs) (h8 : ∀ x ∈ bs, 0 ≤ x ∧ x ≤ 255) (hl : bs.length ≤ 1048576) :
    Calls Try.prog 11 #[.slice A bs.length c] w (TriMade w) := by
  have HT : Held w (((w.alloc (.cells #[.int .i64 0, .int .i64 0, .int .i64 0, .int .i64 0, .int .i64 0, .int .i64 0, .int .i64 0, .int .i64 0, .int .i64 0] 27)).alloc (.cells #[.int .i64 0, .int .i64 0, .int .i64 0] 24)).alloc (.cells #[.int .i64 0, .int .i64 0, .int .i64 0] 24)) [(w.heap.size + 2, [.int .i64 0, .int .i64 0, .int .i64 0]), (w.heap.size + 1, [.int .i64 0, .int .i64 0, .int .i64 0]), (w.heap.size, [.int .i64 0, .int .i64 0, .int .i64 0, .int .i64 0, .int .i64 0, .int .i64 0, .int .i64 0, .int .i64 0, .int .i64 0])] := by
    have h := (((Held.nil w).new #[.int .i64 0, .int .i64 0, .int .i64 0, .int .i64 0, .int .i64 0, .int .i64 0, .int .i64 0, .int .i64 0, .int .i64 0] 27).new #[.int .i64 0, .int .i64 0, .int .i64 0] 24).new #[.int .i64 0, .int .i64 0, .int .i64 0] 24
    simpa only [World.size_alloc] using h
  have hR1 := hR.later HT.below
  have hs0 : (((w.alloc (.cells #[.int .i64 0, .int .i64 0, .int .i64 0, .int .i64 0, .int .i64 0, .int .i64 0, .int .i64 0, .int .i64 0, .int .i64 0] 27)).alloc (.cells #[.int .i64 0, .int .i64 0, .int .i64 0] 24)).alloc (.cells #[.int .i64 0, .int .i64 0, .int .i64 0] 24)).heap.size = w.heap.size + 3 := by simp
  go_enter Try.func11, Try.ntmps11
  go_wp2_with fail
  refine (new_any _ _ bs _ hR1 h8 hl).mono ?_
  rintro e w1 ⟨g, rfl, hC, hb⟩
  have HT := HT.later hb
  rw [hs0] at hC
  have hg0 := hC.ge
  have hs1 : w.heap.size + 3 ≤ w1.heap.size := by have := hb.size; omega
  clear hR hR1 h8 hb hs0
  have HC := Lib.hid hC
  clear hC
  go_wp2_with fail
  refine (draw9_any (w.heap.size + 3) g _ HC.out hs1).mono ?_
  rintro e w2 ⟨a0, a1, a2, a3, a4, a5, a6, a7, a8, hv, rfl, hC, hg⟩
  have HT := HT.grow hg (by omega) (by simp <;> omega)
  have hlt := hC.lt
  have hs2 := hg.size
  have HT := HT.new #[.int .i64 a0, .int .i64 a1, .int .i64 a2, .int .i64 a3, .int .i64 a4, .int .i64 a5, .int .i64 a6, .int .i64 a7, .int .i64 a8] 27
  have HV := Lib.hid hv
  have HC := Lib.hid (hC.keep (gb_alloc0 w2 (.cells #[.int .i64 a0, .int .i64 a1, .int .i64 a2, .int .i64 a3, .int .i64 a4, .int .i64 a5, .int .i64 a6, .int .i64 a7, .int .i64 a8] 27) none) (fun r e => by cases e) (by simp))
  clear hv hC hg
  have hs3 : w.heap.size + 3 ≤ (w2.alloc (.cells #[.int .i64 a0, .int .i64 a1, .int .i64 a2, .int .i64 a3, .int .i64 a4, .int .i64 a5, .int .i64 a6, .int .i64 a7, .int .i64 a8] 27)).heap.size := by simp; omega
  have hz2 : w.heap.size + 2 < w2.heap.size := by omega
  have hzg : g ≠ w2.heap.size := by omega
  go_upto_region 3 with fail
  obtain ⟨W3, hW3⟩ : ∃ W, W = w2.alloc (.cells #[.int .i64 a0, .int .i64 a1, .int .i64 a2, .int .i64 a3, .int .i64 a4, .int .i64 a5, .int .i64 a6, .int .i64 a7, .int .i64 a8] 27) := ⟨_, rfl⟩
  rw [← hW3] at HT HC hs3 ⊢
  clear hW3
  generalize hk1 : w2.heap.size = k1 at HT hz2 hzg ⊢
  clear hk1 hs2 hlt hs1
  have c0 := (HT.box 0).c 0
  have c1 := (HT.box 0).c 1
  have c2 := (HT.box 0).c 2
  have c3 := (HT.box 0).c 3
  have c4 := (HT.box 0).c 4
  have c5 := (HT.box 0).c 5
  have c6 := (HT.box 0).c 6
  have c7 := (HT.box 0).c 7
  have c8 := (HT.box 0).c 8
  go_wp2_with fail
  refine (at_any (w.heap.size + 3) g a0 a1 a2 a3 a4 a5 a6 a7 a8 _ HV.out HC.out hs3).mono ?_
  rintro e w4 ⟨p, q, rfl, hC, hg⟩
  have hlt := hC.lt
  have hs4 := hg.size
  have HT := (HT.grow hg (by omega) (by simp <;> omega)).new #[.int .i64 p, .int .i64 q, .int .i64 0] 24
  have HC := Lib.hid (hC.keep (gb_alloc0 w4 (.cells #[.int .i64 p, .int .i64 q, .int .i64 0] 24) none) (fun r e => by cases e) (by simp))
  have hs5 : w.heap.size + 3 ≤ (w4.alloc (.cells #[.int .i64 p, .int .i64 q, .int .i64 0] 24)).heap.size := by simp; omega
  have hz5 : w.heap.size + 2 < w4.heap.size := by omega
  have hzh : g ≠ w4.heap.size := by omega
  clear hC hg c0 c1 c2 c3 c4 c5 c6 c7 c8
  go_upto_region 5 with fail
  obtain ⟨W5, hW5⟩ : ∃ W, W = w4.alloc (.cells #[.int .i64 p, .int .i64 q, .int .i64 0] 24) := ⟨_, rfl⟩
  rw [← hW5] at HT HC hs5 ⊢
  clear hW5
  generalize hk3 : w4.heap.size = k3 at HT hz5 hzh ⊢
  clear hk3 hs4 hlt hs3
  have c0 := (HT.box 1).c 0
  have c1 := (HT.box 1).c 1
  have c2 := (HT.box 1).c 2
  have c3 := (HT.box 1).c 3
  have c4 := (HT.box 1).c 4
  have c5 := (HT.box 1).c 5
  have c6 := (HT.box 1).c 6
  have c7 := (HT.box 1).c 7
  have c8 := (HT.box 1).c 8
  go_wp2_with fail
  refine (at_any (w.heap.size + 3) g a0 a1 a2 a3 a4 a5 a6 a7 a8 _ HV.out HC.out hs5).mono ?_
  rintro e w6 ⟨x, y, rfl, hC, hg⟩
  have HT := HT.grow hg (by omega) (by simp <;> omega)
  clear hC hg c0 c1 c2 c3 c4 c5 c6 c7 c8 HC hs5 hzg hzh
  have r0 := (HT.box 4).c 0
  have r1 := (HT.box 4).c 1
  have r2 := (HT.box 4).c 2
  have r3 := (HT.box 4).c 3
  have r4 := (HT.box 4).c 4
  have r5 := (HT.box 4).c 5
  have r6 := (HT.box 4).c 6
  have r7 := (HT.box 4).c 7
  have r8 := (HT.box 4).c 8
  have g_0 := (HT.box 4).f 0
  have g_1 := (HT.box 4).f 1
  have g_2 := (HT.box 4).f 2
  have g_3 := (HT.box 4).f 3
  have g_4 := (HT.box 4).f 4
  have g_5 := (HT.box 4).f 5
  have g_6 := (HT.box 4).f 6
  have g_7 := (HT.box 4).f 7
  have g_8 := (HT.box 4).f 8
  have s0 := (HT.box 3).c 0
  have s1 := (HT.box 3).c 1
  have s2 := (HT.box 3).c 2
  have h_0 := (HT.box 3).f 0
  have h_1 := (HT.box 3).f 1
  have h_2 := (HT.box 3).f 2
  have v0 := (HT.box 2).c 0
  have v1 := (HT.box 2).c 1
  have v2 := (HT.box 2).c 2
  have i_0 := (HT.box 2).f 0
  have i_1 := (HT.box 2).f 1
  have i_2 := (HT.box 2).f 2
  have HW := HT.below
  have hkk := (HT.box 0).lt
  have hkl := (HT.box 1).lt
  have HS := HT.pick (cs := [(k3, [.int .i64 p, .int .i64 q, .int .i64 0]), (k1, [.int .i64 a0, .int .i64 a1, .int .i64 a2, .int .i64 a3, .int .i64 a4, .int .i64 a5, .int .i64 a6, .int .i64 a7, .int .i64 a8])]) (by simp)
  clear HT
  have HC : ∀ W, Held w W [(k3, [.int .i64 p, .int .i64 q, .int .i64 0]), (k1, [.int .i64 a0, .int .i64 a1, .int .i64 a2, .int .i64 a3, .int .i64 a4, .int .i64 a5, .int .i64 a6, .int .i64 a7, .int .i64 a8])] → (W.cell? ⟨k1, 0, none⟩ = some (.int .i64 a0) ∧ W.cell? ⟨k1, 1, none⟩ = some (.int .i64 a1) ∧ W.cell? ⟨k1, 2, none⟩ = some (.int .i64 a2) ∧ W.cell? ⟨k1, 3, none⟩ = some (.int .i64 a3) ∧ W.cell? ⟨k1, 4, none⟩ = some (.int .i64 a4) ∧ W.cell? ⟨k1, 5, none⟩ = some (.int .i64 a5) ∧ W.cell? ⟨k1, 6, none⟩ = some (.int .i64 a6) ∧ W.cell? ⟨k1, 7, none⟩ = some (.int .i64 a7) ∧ W.cell? ⟨k1, 8, none⟩ = some (.int .i64 a8) ∧ W.cell? ⟨k3, 0, none⟩ = some (.int .i64 p) ∧ W.cell? ⟨k3, 1, none⟩ = some (.int .i64 q) ∧ W.cell? ⟨k3, 2, none⟩ = some (.int .i64 0)) := fun W h => ⟨(h.box 1).c 0, (h.box 1).c 1, (h.box 1).c 2, (h.box 1).c 3, (h.box 1).c 4, (h.box 1).c 5, (h.box 1).c 6, (h.box 1).c 7, (h.box 1).c 8, (h.box 0).c 0, (h.box 0).c 1, (h.box 0).c 2⟩
  go_wp2_with fail
  go_region_held3 (fun w' => w'.cell? ⟨k1, 0, none⟩ = some (.int .i64 a0) ∧ w'.cell? ⟨k1, 1, none⟩ = some (.int .i64 a1) ∧ w'.cell? ⟨k1, 2, none⟩ = some (.int .i64 a2) ∧ w'.cell? ⟨k1, 3, none⟩ = some (.int .i64 a3) ∧ w'.cell? ⟨k1, 4, none⟩ = some (.int .i64 a4) ∧ w'.cell? ⟨k1, 5, none⟩ = some (.int .i64 a5) ∧ w'.cell? ⟨k1, 6, none⟩ = some (.int .i64 a6) ∧ w'.cell? ⟨k1, 7, none⟩ = some (.int .i64 a7) ∧ w'.cell? ⟨k1, 8, none⟩ = some (.int .i64 a8) ∧ w'.cell? ⟨k3, 0, none⟩ = some (.int .i64 p) ∧ w'.cell? ⟨k3, 1, none⟩ = some (.int .i64 q) ∧ w'.cell? ⟨k3, 2, none⟩ = some (.int .i64 0))
    (first | (with_reducible exact HC _ HS) | (with_reducible exact HC _ HS.drew) | (with_reducible exact HC _ (HS.far9 (by omega) (by simp <;> omega) _ _ _ _ _ _ _ _ _)) | (with_reducible exact HC _ ((HS.far9 (by omega) (by simp <;> omega) _ _ _ _ _ _ _ _ _)).drew) | (with_reducible exact HC _ ((HS.far9 (by omega) (by simp <;> omega) _ _ _ _ _ _ _ _ _).far3 (by omega) (by simp <;> omega) _ _ _)) | (with_reducible exact HC _ (((HS.far9 (by omega) (by simp <;> omega) _ _ _ _ _ _ _ _ _).far3 (by omega) (by simp <;> omega) _ _ _)).drew) | (with_reducible exact HC _ (((HS.far9 (by omega) (by simp <;> omega) _ _ _ _ _ _ _ _ _).far3 (by omega) (by simp <;> omega) _ _ _).far3 (by omega) (by simp <;> omega) _ _ _)) | (with_reducible exact HC _ ((((HS.far9 (by omega) (by simp <;> omega) _ _ _ _ _ _ _ _ _).far3 (by omega) (by simp <;> omega) _ _ _).far3 (by omega) (by simp <;> omega) _ _ _)).drew))
    (fail)
  go_wp2_with fail
  exact bodyPost_ret (v := .tuple #[mat a0 a1 a2 a3 a4 a5 a6 a7 a8, vec p q 0, vec x y 0]) (by simp [results, Try.results11, go_sem, r0, r1, r2, r3, r4, r5, r6, r7, r8, s0, s1, s2, v0, v1, v2]) rfl ⟨a0, a1, a2, a3, a4, a5, a6, a7, a8, p, q, x, y, HV.out, rfl, by first | with_reducible exact bset3 (bset3 (bset_far9 HW (by omega)) (by omega)) (by omega) | with_reducible exact (bset3 (bset3 (bset_far9 HW (by omega)) (by omega)) (by omega)).drew | go_grown⟩
end Go.Proofs.Ytjjafbcfmijppaa
