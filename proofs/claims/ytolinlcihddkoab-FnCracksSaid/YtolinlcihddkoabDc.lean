/- Contract of DiceCell, in the program. -/
import Derived.Test.YtolinlcihddkoabProg
import Derived.Test.YtolinlcihddkoabInts
import Derived.Test.YtolinlcihddkoabVbox
import Derived.Test.YtolinlcihddkoabVec
import Derived.Test.YtolinlcihddkoabHeld
import Derived.Test.YtolinlcihddkoabMem
import Derived.Test.YtolinlcihddkoabFlat
import Derived.Test.YtolinlcihddkoabRowC
import Derived.Test.YtolinlcihddkoabArr
import Derived.Test.YtolinlcihddkoabTr
import Derived.Test.YtolinlcihddkoabPat
import Derived.Test.YtolinlcihddkoabVecS
import Derived.Test.YtolinlcihddkoabPut
import Derived.Test.YtolinlcihddkoabSub
import Derived.Test.YtolinlcihddkoabGrid
import Derived.Test.YtolinlcihddkoabPEv
import Derived.Test.YtolinlcihddkoabPEs
import Derived.Test.YtolinlcihddkoabCam
import Derived.Test.YtolinlcihddkoabCPrj
import Derived.Test.YtolinlcihddkoabPVal
import Derived.Test.YtolinlcihddkoabDv
import Derived.Test.YtolinlcihddkoabDp
import Derived.Test.YtolinlcihddkoabDg
import Derived.WalkKit
import Derived.WalkSpells
import Derived.WalkLawsBesides
import Derived.Lib.Hide
import Derived.Deep.RegionHeld3
import Derived.Deep.QuietTactic
import Derived.BigQuiet
import Derived.Handy
import Derived.Deep.DeepCutAuto
import Derived.Laws.RangeAny
import Derived.RangeFuncBox
import Derived.RangeFuncLeaves
import Derived.RangeFuncNested
import Derived.Shelf.Abstract
import Derived.OwnWalkIn
import Derived.TacticsInMore
import Derived.LoopNIn
import Derived.LoopIn
import Derived.Maps.AppendAt
import Derived.RangeFuncCalls
namespace Go.Proofs.Ytolinlcihddkoab
open Go.RowKit Go.Shelf
attribute [local go_sem] Oper.semAt_some


set_option maxHeartbeats 4000000 in
theorem diceCell_bad (C : CV) (P : PV) (u v n lx ly : Int) (w : World) (hk : inCell n u v = false) :
    Calls Try.prog 8 #[C.v, P.v, .int .i64 u, .int .i64 v, .int .i64 n, .int .i64 lx, .int .i64 ly] w (MicOut (cellL C P lx ly u v n) w) := by
  have HT : Held w ((((((((w.alloc (.cells #[.int .i64 C.a, .int .i64 C.b, .int .i64 C.c, .int .i64 C.d, .bool C.e, .int .i64 C.f, .int .i64 C.g] 24)).alloc (.cells #[.int .i64 P.p0, .int .i64 P.p1, .int .i64 P.p2, .int .i64 P.p3, .int .i64 P.p4, .int .i64 P.p5, .int .i64 P.p6, .int .i64 P.p7, .int .i64 P.p8, .int .i64 P.x, .int .i64 P.y, .int .i64 P.z] 30)).alloc (.cells #[.int .i64 u] 3)).alloc (.cells #[.int .i64 v] 3)).alloc (.cells #[.int .i64 n] 3)).alloc (.cells #[.int .i64 lx] 3)).alloc (.cells #[.int .i64 ly] 3)).alloc (.cells #[.slice none 0 0] 35)) [(w.heap.size + 7, [.slice none 0 0]), (w.heap.size + 6, [.int .i64 ly]), (w.heap.size + 5, [.int .i64 lx]), (w.heap.size + 4, [.int .i64 n]), (w.heap.size + 3, [.int .i64 v]), (w.heap.size + 2, [.int .i64 u]), (w.heap.size + 1, [.int .i64 P.p0, .int .i64 P.p1, .int .i64 P.p2, .int .i64 P.p3, .int .i64 P.p4, .int .i64 P.p5, .int .i64 P.p6, .int .i64 P.p7, .int .i64 P.p8, .int .i64 P.x, .int .i64 P.y, .int .i64 P.z]), (w.heap.size, [.int .i64 C.a, .int .i64 C.b, .int .i64 C.c, .int .i64 C.d, .bool C.e, .int .i64 C.f, .int .i64 C.g])] := by
    have h := ((((((((Held.nil w).new #[.int .i64 C.a, .int .i64 C.b, .int .i64 C.c, .int .i64 C.d, .bool C.e, .int .i64 C.f, .int .i64 C.g] 24).new #[.int .i64 P.p0, .int .i64 P.p1, .int .i64 P.p2, .int .i64 P.p3, .int .i64 P.p4, .int .i64 P.p5, .int .i64 P.p6, .int .i64 P.p7, .int .i64 P.p8, .int .i64 P.x, .int .i64 P.y, .int .i64 P.z] 30).new #[.int .i64 u] 3).new #[.int .i64 v] 3).new #[.int .i64 n] 3).new #[.int .i64 lx] 3).new #[.int .i64 ly] 3).new #[.slice none 0 0] 35
    simpa only [World.size_alloc] using h
  rcases h0 : inC 1 64 n with _ | _
  · skip
    have HE : cellL C P lx ly u v n = [] := by unfold cellL inCell; rw [h0] <;> rfl
    have r0 := (HT.box 0).c 0
    have g0 := (HT.box 0).f 0
    have b2 := (HT.box 5).c 0
    have b3 := (HT.box 4).c 0
    have b4 := (HT.box 3).c 0
    have HW := HT.below
    clear HT
    go_enter Try.func8, Try.ntmps8
    go_wp2_with (go_at_call 19; refine (isWithin_any _ _ _ _).mono ?_; rintro x w' ⟨rfl, rfl⟩; (try simp only [h0]))
    exact bodyPost_ret (v := .slice none 0 0) (by simp [results, Try.results8, go_sem, r0]) rfl ⟨none, 0, by rw [HE]; rfl, by rw [HE]; exact World.ownsRow_nil _ _ _ _, by first | exact HW | exact HW.setCell (p := ⟨w.heap.size + 7, 0, none⟩) (Nat.le_add_right _ _) _⟩
  · have hn := (inC_iff ..).1 h0
    have ew : IntKind.i64.wrap (n - 1) = n - 1 := wrap_in (by omega)
    rcases h1 : inC 0 (n - 1) u with _ | _
    · skip
      have HE : cellL C P lx ly u v n = [] := by unfold cellL inCell; rw [h0, h1] <;> rfl
      have r0 := (HT.box 0).c 0
      have g0 := (HT.box 0).f 0
      have b2 := (HT.box 5).c 0
      have b3 := (HT.box 4).c 0
      have b4 := (HT.box 3).c 0
      have HW := HT.below
      clear HT
      go_enter Try.func8, Try.ntmps8
      go_wp2_with (go_at_call 19; refine (isWithin_any _ _ _ _).mono ?_; rintro x w' ⟨rfl, rfl⟩; (try simp only [h0, h1]))
      exact bodyPost_ret (v := .slice none 0 0) (by simp [results, Try.results8, go_sem, r0]) rfl ⟨none, 0, by rw [HE]; rfl, by rw [HE]; exact World.ownsRow_nil _ _ _ _, by first | exact HW | exact HW.setCell (p := ⟨w.heap.size + 7, 0, none⟩) (Nat.le_add_right _ _) _⟩
  
    · rcases h2 : inC 0 (n - 1) v with _ | _
      · skip
        have HE : cellL C P lx ly u v n = [] := by unfold cellL inCell; rw [h0, h1, h2] <;> rfl
        have r0 := (HT.box 0).c 0
        have g0 := (HT.box 0).f 0
        have b2 := (HT.box 5).c 0
        have b3 := (HT.box 4).c 0
        have b4 := (HT.box 3).c 0
        have HW := HT.below
        clear HT
        go_enter Try.func8, Try.ntmps8
        go_wp2_with (go_at_call 19; refine (isWithin_any _ _ _ _).mono ?_; rintro x w' ⟨rfl, rfl⟩; (try simp only [h0, h1, h2]))
        exact bodyPost_ret (v := .slice none 0 0) (by simp [results, Try.results8, go_sem, r0]) rfl ⟨none, 0, by rw [HE]; rfl, by rw [HE]; exact World.ownsRow_nil _ _ _ _, by first | exact HW | exact HW.setCell (p := ⟨w.heap.size + 7, 0, none⟩) (Nat.le_add_right _ _) _⟩
    
      · unfold inCell at hk
        rw [h0, h1, h2] at hk
        cases hk

set_option maxRecDepth 100000 in
set_option maxHeartbeats 16000000 in
theorem diceCell_go (C : CV) (P : PV) (u v n lx ly : Int) (w : World) (hk : inCell n u v = true) :
    CallsIn Fence.wide 3 Try.prog 8 #[C.v, P.v, .int .i64 u, .int .i64 v, .int .i64 n, .int .i64 lx, .int .i64 ly] w (MicOut (cellL C P lx ly u v n) w) := by
  have HT : Held w (((((((((((w.alloc (.cells #[.int .i64 C.a, .int .i64 C.b, .int .i64 C.c, .int .i64 C.d, .bool C.e, .int .i64 C.f, .int .i64 C.g] 24)).alloc (.cells #[.int .i64 P.p0, .int .i64 P.p1, .int .i64 P.p2, .int .i64 P.p3, .int .i64 P.p4, .int .i64 P.p5, .int .i64 P.p6, .int .i64 P.p7, .int .i64 P.p8, .int .i64 P.x, .int .i64 P.y, .int .i64 P.z] 30)).alloc (.cells #[.int .i64 u] 3)).alloc (.cells #[.int .i64 v] 3)).alloc (.cells #[.int .i64 n] 3)).alloc (.cells #[.int .i64 lx] 3)).alloc (.cells #[.int .i64 ly] 3)).alloc (.cells #[.slice none 0 0] 35)).alloc (.cells #[.int .i64 0, .int .i64 0, .int .i64 0, .int .i64 0, .int .i64 0, .int .i64 0, .int .i64 0, .int .i64 0, .int .i64 0, .int .i64 0, .int .i64 0, .int .i64 0] 28))).alloc (.cells #[.int .i64 2] 3)) [(w.heap.size + 1 + 1 + 1 + 1 + 1 + 1 + 1 + 1 + 1, [.int .i64 2]), (w.heap.size + 1 + 1 + 1 + 1 + 1 + 1 + 1 + 1, [.int .i64 0, .int .i64 0, .int .i64 0, .int .i64 0, .int .i64 0, .int .i64 0, .int .i64 0, .int .i64 0, .int .i64 0, .int .i64 0, .int .i64 0, .int .i64 0]), (w.heap.size + 1 + 1 + 1 + 1 + 1 + 1 + 1, [.slice none 0 0]), (w.heap.size + 1 + 1 + 1 + 1 + 1 + 1, [.int .i64 ly]), (w.heap.size + 1 + 1 + 1 + 1 + 1, [.int .i64 lx]), (w.heap.size + 1 + 1 + 1 + 1, [.int .i64 n]), (w.heap.size + 1 + 1 + 1, [.int .i64 v]), (w.heap.size + 1 + 1, [.int .i64 u]), (w.heap.size + 1, [.int .i64 P.p0, .int .i64 P.p1, .int .i64 P.p2, .int .i64 P.p3, .int .i64 P.p4, .int .i64 P.p5, .int .i64 P.p6, .int .i64 P.p7, .int .i64 P.p8, .int .i64 P.x, .int .i64 P.y, .int .i64 P.z]), (w.heap.size, [.int .i64 C.a, .int .i64 C.b, .int .i64 C.c, .int .i64 C.d, .bool C.e, .int .i64 C.f, .int .i64 C.g])] := by
    have h := ((((((((((Held.nil w).new #[.int .i64 C.a, .int .i64 C.b, .int .i64 C.c, .int .i64 C.d, .bool C.e, .int .i64 C.f, .int .i64 C.g] 24).new #[.int .i64 P.p0, .int .i64 P.p1, .int .i64 P.p2, .int .i64 P.p3, .int .i64 P.p4, .int .i64 P.p5, .int .i64 P.p6, .int .i64 P.p7, .int .i64 P.p8, .int .i64 P.x, .int .i64 P.y, .int .i64 P.z] 30).new #[.int .i64 u] 3).new #[.int .i64 v] 3).new #[.int .i64 n] 3).new #[.int .i64 lx] 3).new #[.int .i64 ly] 3).new #[.slice none 0 0] 35).new #[.int .i64 0, .int .i64 0, .int .i64 0, .int .i64 0, .int .i64 0, .int .i64 0, .int .i64 0, .int .i64 0, .int .i64 0, .int .i64 0, .int .i64 0, .int .i64 0] 28).new #[.int .i64 2] 3
    simpa only [World.size_alloc] using h
  have hb : (1 ≤ n ∧ n ≤ 64) ∧ (0 ≤ u ∧ u ≤ n - 1) ∧ 0 ≤ v ∧ v ≤ n - 1 := by
    simpa only [inCell, Bool.and_eq_true, inC_iff] using hk
  have q0 : inC 1 64 n = true := (inC_iff ..).2 hb.1
  have q1 : inC 0 (n - 1) u = true := (inC_iff ..).2 hb.2.1
  have q2 : inC 0 (n - 1) v = true := (inC_iff ..).2 hb.2.2
  have ew : IntKind.i64.wrap (n - 1) = n - 1 := wrap_in (by omega)
  have hf1 : Fence.wide.fn 19 := trivial
  have hf2 : Fence.wide.fn 20 := trivial
  refine callsIn_of_wp_marks Try.func8 rfl trivial ?_ rfl
  simp only [Try.ntmps8, List.size_toArray, List.length_cons, List.length_nil, Nat.reduceAdd, Nat.reduceSub, Array.replicate_succ, Array.replicate_zero, List.push_toArray, List.append_toArray, List.nil_append, List.cons_append]
  gi_wp2_with (first | (gi_at_call 19; refine (callsIn_wide.2 (isWithin_any _ _ _ _)).mono ?_; rintro x w' ⟨rfl, rfl⟩; (try simp only [q0, q1, q2])) | (gi_at_call 20; refine (gridPts_in _ _ _).mono ?_; rintro e w' ⟨rfl, rfl⟩))
  obtain ⟨W0, hW0⟩ : ∃ W, W = (((((((((((w.alloc (.cells #[.int .i64 C.a, .int .i64 C.b, .int .i64 C.c, .int .i64 C.d, .bool C.e, .int .i64 C.f, .int .i64 C.g] 24)).alloc (.cells #[.int .i64 P.p0, .int .i64 P.p1, .int .i64 P.p2, .int .i64 P.p3, .int .i64 P.p4, .int .i64 P.p5, .int .i64 P.p6, .int .i64 P.p7, .int .i64 P.p8, .int .i64 P.x, .int .i64 P.y, .int .i64 P.z] 30)).alloc (.cells #[.int .i64 u] 3)).alloc (.cells #[.int .i64 v] 3)).alloc (.cells #[.int .i64 n] 3)).alloc (.cells #[.int .i64 lx] 3)).alloc (.cells #[.int .i64 ly] 3)).alloc (.cells #[.slice none 0 0] 35)).alloc (.cells #[.int .i64 0, .int .i64 0, .int .i64 0, .int .i64 0, .int .i64 0, .int .i64 0, .int .i64 0, .int .i64 0, .int .i64 0, .int .i64 0, .int .i64 0, .int .i64 0] 28))).alloc (.cells #[.int .i64 2] 3)) := ⟨_, rfl⟩
  have hs0 : W0.heap.size = w.heap.size + 10 := by rw [hW0]; simp only [World.size_alloc]
  rw [← hW0] at HT ⊢
  clear hW0
  generalize h9 : w.heap.size + 1 + 1 + 1 + 1 + 1 + 1 + 1 + 1 + 1 = k9 at HT ⊢
  generalize h8 : w.heap.size + 1 + 1 + 1 + 1 + 1 + 1 + 1 + 1 = k8 at HT ⊢
  generalize h7 : w.heap.size + 1 + 1 + 1 + 1 + 1 + 1 + 1 = k7 at HT ⊢
  generalize h6 : w.heap.size + 1 + 1 + 1 + 1 + 1 + 1 = k6 at HT ⊢
  generalize h5 : w.heap.size + 1 + 1 + 1 + 1 + 1 = k5 at HT ⊢
  generalize h4 : w.heap.size + 1 + 1 + 1 + 1 = k4 at HT ⊢
  generalize h3 : w.heap.size + 1 + 1 + 1 = k3 at HT ⊢
  generalize h2 : w.heap.size + 1 + 1 = k2 at HT ⊢
  generalize h1 : w.heap.size + 1 = k1 at HT ⊢
  generalize h0 : w.heap.size = k0 at HT ⊢
  have HLE : Hid (∀ (K N : Nat), k9 < N → ∀ p ∈ ([(k9, [.int .i64 2]), (k8, (partA zer4 (pts4 C P lx ly n u v) K).flatMap vg), (k7, [.slice none 0 0]), (k6, [.int .i64 ly]), (k5, [.int .i64 lx]), (k4, [.int .i64 n]), (k3, [.int .i64 v]), (k2, [.int .i64 u]), (k1, [.int .i64 P.p0, .int .i64 P.p1, .int .i64 P.p2, .int .i64 P.p3, .int .i64 P.p4, .int .i64 P.p5, .int .i64 P.p6, .int .i64 P.p7, .int .i64 P.p8, .int .i64 P.x, .int .i64 P.y, .int .i64 P.z]), (k0, [.int .i64 C.a, .int .i64 C.b, .int .i64 C.c, .int .i64 C.d, .bool C.e, .int .i64 C.f, .int .i64 C.g])] : List (Nat × List Value)), p.1 ≠ N) := Lib.hid (fun K N hN p hp => by
    simp only [List.mem_cons, List.not_mem_nil, or_false] at hp
    rcases hp with rfl | rfl | rfl | rfl | rfl | rfl | rfl | rfl | rfl | rfl <;> (show _ ≠ _) <;> omega)
  have HC : ∀ {K : Nat} W, Held w W [(k9, [.int .i64 2]), (k8, (partA zer4 (pts4 C P lx ly n u v) K).flatMap vg), (k7, [.slice none 0 0]), (k6, [.int .i64 ly]), (k5, [.int .i64 lx]), (k4, [.int .i64 n]), (k3, [.int .i64 v]), (k2, [.int .i64 u]), (k1, [.int .i64 P.p0, .int .i64 P.p1, .int .i64 P.p2, .int .i64 P.p3, .int .i64 P.p4, .int .i64 P.p5, .int .i64 P.p6, .int .i64 P.p7, .int .i64 P.p8, .int .i64 P.x, .int .i64 P.y, .int .i64 P.z]), (k0, [.int .i64 C.a, .int .i64 C.b, .int .i64 C.c, .int .i64 C.d, .bool C.e, .int .i64 C.f, .int .i64 C.g])] → (W.cell? ⟨k0, 0, none⟩ = some (.int .i64 C.a) ∧ W.cell? ⟨k0, 1, none⟩ = some (.int .i64 C.b) ∧ W.cell? ⟨k0, 2, none⟩ = some (.int .i64 C.c) ∧ W.cell? ⟨k0, 3, none⟩ = some (.int .i64 C.d) ∧ W.cell? ⟨k0, 4, none⟩ = some (.bool C.e) ∧ W.cell? ⟨k0, 5, none⟩ = some (.int .i64 C.f) ∧ W.cell? ⟨k0, 6, none⟩ = some (.int .i64 C.g) ∧ W.cell? ⟨k1, 0, none⟩ = some (.int .i64 P.p0) ∧ W.cell? ⟨k1, 1, none⟩ = some (.int .i64 P.p1) ∧ W.cell? ⟨k1, 2, none⟩ = some (.int .i64 P.p2) ∧ W.cell? ⟨k1, 3, none⟩ = some (.int .i64 P.p3) ∧ W.cell? ⟨k1, 4, none⟩ = some (.int .i64 P.p4) ∧ W.cell? ⟨k1, 5, none⟩ = some (.int .i64 P.p5) ∧ W.cell? ⟨k1, 6, none⟩ = some (.int .i64 P.p6) ∧ W.cell? ⟨k1, 7, none⟩ = some (.int .i64 P.p7) ∧ W.cell? ⟨k1, 8, none⟩ = some (.int .i64 P.p8) ∧ W.cell? ⟨k1, 9, none⟩ = some (.int .i64 P.x) ∧ W.cell? ⟨k1, 10, none⟩ = some (.int .i64 P.y) ∧ W.cell? ⟨k1, 11, none⟩ = some (.int .i64 P.z) ∧ W.cell? ⟨k2, 0, none⟩ = some (.int .i64 u) ∧ W.cell? ⟨k3, 0, none⟩ = some (.int .i64 v) ∧ W.cell? ⟨k4, 0, none⟩ = some (.int .i64 n) ∧ W.cell? ⟨k5, 0, none⟩ = some (.int .i64 lx) ∧ W.cell? ⟨k6, 0, none⟩ = some (.int .i64 ly)) := fun W h => ⟨(h.box 9).c 0, (h.box 9).c 1, (h.box 9).c 2, (h.box 9).c 3, (h.box 9).c 4, (h.box 9).c 5, (h.box 9).c 6, (h.box 8).c 0, (h.box 8).c 1, (h.box 8).c 2, (h.box 8).c 3, (h.box 8).c 4, (h.box 8).c 5, (h.box 8).c 6, (h.box 8).c 7, (h.box 8).c 8, (h.box 8).c 9, (h.box 8).c 10, (h.box 8).c 11, (h.box 7).c 0, (h.box 6).c 0, (h.box 5).c 0, (h.box 4).c 0, (h.box 3).c 0⟩
  refine' wpIn_grid (s := 2) (Bn := k9) (by omega) (by omega) rfl rfl (fun K W => Held w W [(k9, [.int .i64 2]), (k8, (partA zer4 (pts4 C P lx ly n u v) K).flatMap vg), (k7, [.slice none 0 0]), (k6, [.int .i64 ly]), (k5, [.int .i64 lx]), (k4, [.int .i64 n]), (k3, [.int .i64 v]), (k2, [.int .i64 u]), (k1, [.int .i64 P.p0, .int .i64 P.p1, .int .i64 P.p2, .int .i64 P.p3, .int .i64 P.p4, .int .i64 P.p5, .int .i64 P.p6, .int .i64 P.p7, .int .i64 P.p8, .int .i64 P.x, .int .i64 P.y, .int .i64 P.z]), (k0, [.int .i64 C.a, .int .i64 C.b, .int .i64 C.c, .int .i64 C.d, .bool C.e, .int .i64 C.f, .int .i64 C.g])] ∧ ∀ j, j < K → (kts4 C P lx ly n u v)[j]? = some true)
    (fun c W => c = .ret ∧ all4 C P lx ly n u v = false ∧ Held w W [(k7, [.slice none 0 0])])
    (fun K A B row h hg hr => ⟨h.1.turned hg (by omega) hr, h.2⟩) (fun c A B row h hg hr => ⟨h.1, h.2.1, h.2.2.turned hg (by omega) hr⟩) (fun K W h => (h.1.box 0).c 0) ⟨HT, fun j hj => absurd hj (Nat.not_lt_zero _)⟩ _ ?assign ?body ?done ?stop
  case assign =>
    intro l c r W K hK
    gi_wp2
    exact hK
  case body =>
    rintro l c r W hc hr ⟨HT, HG⟩
    obtain ⟨K0, hK⟩ : ∃ K, K = 2 * r + c := ⟨_, rfl⟩
    rw [← hK] at HT HG ⊢
    have hp := pts4_at C P lx ly n u v c r hc hr
    have hq := kts4_at C P lx ly n u v c r hc hr
    rw [← hK] at hp hq
    have eu : IntKind.i64.wrap (u + (c : Int)) = u + c := wrap_in (by omega)
    have ev : IntKind.i64.wrap (v + (r : Int)) = v + r := wrap_in (by omega)
    have e2 : IntKind.i64.wrap (2 * (r : Int)) = 2 * r := wrap_in (by omega)
    have e3 : IntKind.i64.wrap (2 * (r : Int) + (c : Int)) = (K0 : Int) := by rw [show 2 * (r : Int) + (c : Int) = (K0 : Int) by omega]; exact wrap_in (by omega)
    obtain ⟨pt, HPT⟩ : ∃ pt, pt = P.at (u + c) (v + r) n := ⟨_, rfl⟩
    have HE : Hid (∀ w, Calls Try.prog 7 #[P.v, .int .i64 (u + c), .int .i64 (v + r), .int .i64 n] w (VecIs pt w)) := Lib.hid (fun w => by rw [HPT]; exact evalP P _ _ n w)
    obtain ⟨kk, ekk⟩ : ∃ k, k = gK C P lx ly n (u + c) (v + r) := ⟨_, rfl⟩
    obtain ⟨zz, ezz⟩ : ∃ z, z = zV kk (gV C P lx ly n (u + c) (v + r)) := ⟨_, rfl⟩
    have HJ : Hid (∀ w, Calls Try.prog 21 #[C.v, v3v pt, .int .i64 lx, .int .i64 ly] w (SeenIs kk zz w)) := Lib.hid (fun w => by rw [ezz, ekk, HPT]; exact projC C _ lx ly w)
    have HKK := Lib.hid ekk
    have HZZ := Lib.hid ezz
    have HP := Lib.hid hp
    have HQ := Lib.hid hq
    have HG := Lib.hid HG
    have HKE := Lib.hid hK
    have HH := Lib.hid (show c < 2 ∧ r < 2 ∧ K0 < 4 by omega)
    have HT := RH.start (B := W0.heap.size) HT
    have HK8 := Lib.hid (show w.heap.size ≤ k9 ∧ w.heap.size ≤ k8 ∧ w.heap.size ≤ k7 ∧ k8 < k9 ∧ k7 < k8 by omega)
    have HNE : Hid (∀ p ∈ ((k9, [.int .i64 2]) :: [(k7, [.slice none 0 0]), (k6, [.int .i64 ly]), (k5, [.int .i64 lx]), (k4, [.int .i64 n]), (k3, [.int .i64 v]), (k2, [.int .i64 u]), (k1, [.int .i64 P.p0, .int .i64 P.p1, .int .i64 P.p2, .int .i64 P.p3, .int .i64 P.p4, .int .i64 P.p5, .int .i64 P.p6, .int .i64 P.p7, .int .i64 P.p8, .int .i64 P.x, .int .i64 P.y, .int .i64 P.z]), (k0, [.int .i64 C.a, .int .i64 C.b, .int .i64 C.c, .int .i64 C.d, .bool C.e, .int .i64 C.f, .int .i64 C.g])] : List (Nat × List Value)), p.1 ≠ k8) := Lib.hid (fun p hp => by
      simp only [List.mem_cons, List.not_mem_nil, or_false] at hp
      rcases hp with rfl | rfl | rfl | rfl | rfl | rfl | rfl | rfl | rfl <;> (show _ ≠ _) <;> omega)
    clear HPT ekk ezz hp hq hK hc hr q0 q1 q2 hb ew hf1 hf2 hs0
    gi_wp2
    have HTb := HT
    have HT := HT.drew
    refine region_round (S := fun w' => w'.cell? ⟨k0, 0, none⟩ = some (.int .i64 C.a) ∧ w'.cell? ⟨k0, 1, none⟩ = some (.int .i64 C.b) ∧ w'.cell? ⟨k0, 2, none⟩ = some (.int .i64 C.c) ∧ w'.cell? ⟨k0, 3, none⟩ = some (.int .i64 C.d) ∧ w'.cell? ⟨k0, 4, none⟩ = some (.bool C.e) ∧ w'.cell? ⟨k0, 5, none⟩ = some (.int .i64 C.f) ∧ w'.cell? ⟨k0, 6, none⟩ = some (.int .i64 C.g) ∧ w'.cell? ⟨k1, 0, none⟩ = some (.int .i64 P.p0) ∧ w'.cell? ⟨k1, 1, none⟩ = some (.int .i64 P.p1) ∧ w'.cell? ⟨k1, 2, none⟩ = some (.int .i64 P.p2) ∧ w'.cell? ⟨k1, 3, none⟩ = some (.int .i64 P.p3) ∧ w'.cell? ⟨k1, 4, none⟩ = some (.int .i64 P.p4) ∧ w'.cell? ⟨k1, 5, none⟩ = some (.int .i64 P.p5) ∧ w'.cell? ⟨k1, 6, none⟩ = some (.int .i64 P.p6) ∧ w'.cell? ⟨k1, 7, none⟩ = some (.int .i64 P.p7) ∧ w'.cell? ⟨k1, 8, none⟩ = some (.int .i64 P.p8) ∧ w'.cell? ⟨k1, 9, none⟩ = some (.int .i64 P.x) ∧ w'.cell? ⟨k1, 10, none⟩ = some (.int .i64 P.y) ∧ w'.cell? ⟨k1, 11, none⟩ = some (.int .i64 P.z) ∧ w'.cell? ⟨k2, 0, none⟩ = some (.int .i64 u) ∧ w'.cell? ⟨k3, 0, none⟩ = some (.int .i64 v) ∧ w'.cell? ⟨k4, 0, none⟩ = some (.int .i64 n) ∧ w'.cell? ⟨k5, 0, none⟩ = some (.int .i64 lx) ∧ w'.cell? ⟨k6, 0, none⟩ = some (.int .i64 ly)) (by kernel_rfl) (by rintro ⟨a, w, h⟩; exact h) (by kernel_rfl) (HC _ HT.held) (fun hHeld => ?_)
    refine wpAnyH_take (i := 0) (oi := { dst := some 45, op := Op.load 24 (Operand.tmp 7), type := 24, pos := "l10_dice.go:54", after := #[], guard := none }) (v := ?_) rfl (by kernel_rfl) (by kernel_rfl) (by kernel_rfl) (fun _ _ _ h => h) (Or.inl ⟨by rfl, ?_⟩) (by assumption) ?_
    rotate_left 1
    · (intro w hSw; (try dsimp only at hSw); go_simp <;> with_reducible rfl)
    (try simp only [Act.put, List.setIfInBounds_toArray, List.set_cons_zero, List.set_cons_succ])
    refine wpAnyH_take (i := 1) (oi := { dst := some 46, op := Op.load 30 (Operand.tmp 8), type := 30, pos := "l10_dice.go:54", after := #[], guard := none }) (v := ?_) rfl (by kernel_rfl) (by kernel_rfl) (by kernel_rfl) (fun _ _ _ h => h) (Or.inl ⟨by rfl, ?_⟩) (by assumption) ?_
    rotate_left 1
    · (intro w hSw; (try dsimp only at hSw); go_simp <;> with_reducible rfl)
    (try simp only [Act.put, List.setIfInBounds_toArray, List.set_cons_zero, List.set_cons_succ])
    refine wpAnyH_take (i := 2) (oi := { dst := some 47, op := Op.load 3 (Operand.tmp 9), type := 3, pos := "l10_dice.go:54", after := #[], guard := none }) (v := ?_) rfl (by kernel_rfl) (by kernel_rfl) (by kernel_rfl) (fun _ _ _ h => h) (Or.inl ⟨by rfl, ?_⟩) (by assumption) ?_
    rotate_left 1
    · (intro w hSw; (try dsimp only at hSw); go_simp <;> with_reducible rfl)
    (try simp only [Act.put, List.setIfInBounds_toArray, List.set_cons_zero, List.set_cons_succ])
    refine wpAnyH_take (i := 3) (oi := { dst := some 48, op := Op.move (Operand.tmp 16), type := 3, pos := "l10_dice.go:54", after := #[], guard := none }) (v := ?_) rfl (by kernel_rfl) (by kernel_rfl) (by kernel_rfl) (fun _ _ _ h => h) (Or.inl ⟨by rfl, ?_⟩) (by assumption) ?_
    rotate_left 1
    · (intro w hSw; (try dsimp only at hSw); go_simp <;> with_reducible rfl)
    (try simp only [Act.put, List.setIfInBounds_toArray, List.set_cons_zero, List.set_cons_succ])
    refine wpAnyH_take (i := 4) (oi := { dst := some 49, op := Op.binOp BinOp.add 3 (Operand.tmp 47) (Operand.tmp 48) 3, type := 3, pos := "l10_dice.go:54", after := #[{ on := 2, ground := Ground.data }, { on := 3, ground := Ground.data }], guard := none }) (v := ?_) rfl (by kernel_rfl) (by kernel_rfl) (by kernel_rfl) (fun _ _ _ h => h) (Or.inl ⟨by rfl, ?_⟩) (by assumption) ?_
    rotate_left 1
    · (intro w hSw; (try dsimp only at hSw); go_simp <;> with_reducible rfl)
    (try simp only [Act.put, List.setIfInBounds_toArray, List.set_cons_zero, List.set_cons_succ])
    refine wpAnyH_take (i := 5) (oi := { dst := some 50, op := Op.load 3 (Operand.tmp 10), type := 3, pos := "l10_dice.go:54", after := #[], guard := none }) (v := ?_) rfl (by kernel_rfl) (by kernel_rfl) (by kernel_rfl) (fun _ _ _ h => h) (Or.inl ⟨by rfl, ?_⟩) (by assumption) ?_
    rotate_left 1
    · (intro w hSw; (try dsimp only at hSw); go_simp <;> with_reducible rfl)
    (try simp only [Act.put, List.setIfInBounds_toArray, List.set_cons_zero, List.set_cons_succ])
    refine wpAnyH_take (i := 6) (oi := { dst := some 51, op := Op.move (Operand.tmp 17), type := 3, pos := "l10_dice.go:54", after := #[], guard := none }) (v := ?_) rfl (by kernel_rfl) (by kernel_rfl) (by kernel_rfl) (fun _ _ _ h => h) (Or.inl ⟨by rfl, ?_⟩) (by assumption) ?_
    rotate_left 1
    · (intro w hSw; (try dsimp only at hSw); go_simp <;> with_reducible rfl)
    (try simp only [Act.put, List.setIfInBounds_toArray, List.set_cons_zero, List.set_cons_succ])
    refine wpAnyH_take (i := 7) (oi := { dst := some 52, op := Op.binOp BinOp.add 3 (Operand.tmp 50) (Operand.tmp 51) 3, type := 3, pos := "l10_dice.go:54", after := #[{ on := 5, ground := Ground.data }, { on := 6, ground := Ground.data }], guard := none }) (v := ?_) rfl (by kernel_rfl) (by kernel_rfl) (by kernel_rfl) (fun _ _ _ h => h) (Or.inl ⟨by rfl, ?_⟩) (by assumption) ?_
    rotate_left 1
    · (intro w hSw; (try dsimp only at hSw); go_simp <;> with_reducible rfl)
    (try simp only [Act.put, List.setIfInBounds_toArray, List.set_cons_zero, List.set_cons_succ])
    refine wpAnyH_take (i := 8) (oi := { dst := some 53, op := Op.load 3 (Operand.tmp 11), type := 3, pos := "l10_dice.go:54", after := #[], guard := none }) (v := ?_) rfl (by kernel_rfl) (by kernel_rfl) (by kernel_rfl) (fun _ _ _ h => h) (Or.inl ⟨by rfl, ?_⟩) (by assumption) ?_
    rotate_left 1
    · (intro w hSw; (try dsimp only at hSw); go_simp <;> with_reducible rfl)
    (try simp only [Act.put, List.setIfInBounds_toArray, List.set_cons_zero, List.set_cons_succ])
    refine wpAnyH_take (i := 10) (oi := { dst := some 55, op := Op.load 3 (Operand.tmp 12), type := 3, pos := "l10_dice.go:54", after := #[], guard := none }) (v := ?_) rfl (by kernel_rfl) (by kernel_rfl) (by kernel_rfl) (fun _ _ _ h => h) (Or.inl ⟨by rfl, ?_⟩) (by assumption) ?_
    rotate_left 1
    · (intro w hSw; (try dsimp only at hSw); go_simp <;> with_reducible rfl)
    (try simp only [Act.put, List.setIfInBounds_toArray, List.set_cons_zero, List.set_cons_succ])
    refine wpAnyH_take (i := 11) (oi := { dst := some 56, op := Op.load 3 (Operand.tmp 13), type := 3, pos := "l10_dice.go:54", after := #[], guard := none }) (v := ?_) rfl (by kernel_rfl) (by kernel_rfl) (by kernel_rfl) (fun _ _ _ h => h) (Or.inl ⟨by rfl, ?_⟩) (by assumption) ?_
    rotate_left 1
    · (intro w hSw; (try dsimp only at hSw); go_simp <;> with_reducible rfl)
    (try simp only [Act.put, List.setIfInBounds_toArray, List.set_cons_zero, List.set_cons_succ])
    refine wpAnyH_ready (rs := [9, 16]) (by kernel_rfl) (by simp) ?_
    refine AllReadyH.cons (o := { dst := some 54, op := Op.call { callee := Callee.value (Operand.func 7), args := #[Operand.tmp 46, Operand.tmp 49, Operand.tmp 52, Operand.tmp 53], argTypes := #[30, 3, 3, 3] }, type := 27, pos := "l10_dice.go:54", after := #[{ on := 1, ground := Ground.data }, { on := 4, ground := Ground.data }, { on := 7, ground := Ground.data }, { on := 8, ground := Ground.data }], guard := none }) rfl (fun K hK => ?_) ?_
    · go_simp
      (with_reducible refine (HE.out _).mono ?_)
      rintro e w1 ⟨rfl, hb1⟩
      have HT := HT.later hb1
      clear hb1
      (try go_wp2_with fail)
      refine hK.out _ _ (by (try dsimp only); (first | with_reducible exact HC _ HT.held | with_reducible exact HC _ HT.held.tail)) (fun hHeld => ?_)
      clear hK K
      (try simp only [Act.put, List.setIfInBounds_toArray, List.set_cons_zero, List.set_cons_succ])
      refine wpAnyH_ready (rs := [12, 16]) (by kernel_rfl) (by simp) ?_
      refine AllReadyH.cons (o := { dst := some 57, op := Op.call { callee := Callee.value (Operand.func 21), args := #[Operand.tmp 45, Operand.tmp 54, Operand.tmp 55, Operand.tmp 56], argTypes := #[24, 27, 3, 3] }, type := 57, pos := "l10_dice.go:54", after := #[{ on := 0, ground := Ground.data }, { on := 9, ground := Ground.data }, { on := 10, ground := Ground.data }, { on := 11, ground := Ground.data }, { on := 9, ground := Ground.chain }], guard := none }) rfl (fun K hK => ?_) ?_
      · go_simp
        (with_reducible refine (HJ.out _).mono ?_)
        rintro e w2 ⟨rfl, hb2⟩
        have HT := HT.later hb2
        clear hb2
        (try go_wp2_with fail)
        refine hK.out _ _ (by (try dsimp only); (first | with_reducible exact HC _ HT.held | with_reducible exact HC _ HT.held.tail)) (fun hHeld => ?_)
        clear hK K
        (try simp only [Act.put, List.setIfInBounds_toArray, List.set_cons_zero, List.set_cons_succ])
        refine wpAnyH_take (i := 13) (oi := { dst := some 44, op := Op.move (Operand.tmp 57), type := 57, pos := "l10_dice.go:54", after := #[{ on := 12, ground := Ground.data }], guard := none }) (v := ?_) rfl (by kernel_rfl) (by kernel_rfl) (by kernel_rfl) (fun _ _ _ h => h) (Or.inl ⟨by rfl, ?_⟩) (by assumption) ?_
        rotate_left 1
        · (intro w hSw; (try dsimp only at hSw); go_simp <;> with_reducible rfl)
        (try simp only [Act.put, List.setIfInBounds_toArray, List.set_cons_zero, List.set_cons_succ])
        refine wpAnyH_take (i := 14) (oi := { dst := some 58, op := Op.extract (Operand.tmp 44) 0, type := 27, pos := "l10_dice.go:54", after := #[{ on := 13, ground := Ground.data }], guard := none }) (v := ?_) rfl (by kernel_rfl) (by kernel_rfl) (by kernel_rfl) (fun _ _ _ h => h) (Or.inl ⟨by rfl, ?_⟩) (by assumption) ?_
        rotate_left 1
        · (intro w hSw; (try dsimp only at hSw); go_simp <;> with_reducible rfl)
        (try simp only [Act.put, List.setIfInBounds_toArray, List.set_cons_zero, List.set_cons_succ])
        refine wpAnyH_take (i := 15) (oi := { dst := some 59, op := Op.extract (Operand.tmp 44) 1, type := 4, pos := "l10_dice.go:54", after := #[{ on := 13, ground := Ground.data }, { on := 17, ground := Ground.gcOnly Departure.lateStores }], guard := none }) (v := ?_) rfl (by kernel_rfl) (by kernel_rfl) (by kernel_rfl) (fun _ _ _ h => h) (Or.inl ⟨by rfl, ?_⟩) (by assumption) ?_
        rotate_left 1
        · (intro w hSw; (try dsimp only at hSw); go_simp <;> with_reducible rfl)
        (try simp only [Act.put, List.setIfInBounds_toArray, List.set_cons_zero, List.set_cons_succ])
        refine wpAnyH_ready (rs := [16]) (by kernel_rfl) (by simp) ?_
        refine AllReadyH.cons (o := { dst := some 18, op := Op.alloc 27, type := 0, pos := "l10_dice.go:54", after := #[], guard := none }) rfl (fun K hK => ?_) ?_
        · have hN := Lib.hid (HT.box 0).lt
          have HPre := HT
          go_simp
          first | (refine hK.out _ _ (by (try dsimp only); with_reducible exact HC _ (HT.new #[.int .i64 0, .int .i64 0, .int .i64 0] 27).held.tail) (fun hHeld => ?_); have HT := HT.new #[.int .i64 0, .int .i64 0, .int .i64 0] 27) | (refine hK.out _ _ (by (try dsimp only); with_reducible exact HC _ (HTb.new #[.int .i64 0, .int .i64 0, .int .i64 0] 27).drew.held.tail) (fun hHeld => ?_); have HT := (HTb.new #[.int .i64 0, .int .i64 0, .int .i64 0] 27).drew)
          clear hK K
          (try simp only [Act.put, List.setIfInBounds_toArray, List.set_cons_zero, List.set_cons_succ])
          refine wpAnyH_ready (rs := [17]) (by kernel_rfl) (by simp) ?_
          refine AllReadyH.cons (o := { dst := none, op := Op.store 27 (Operand.tmp 18) (Operand.tmp 58), type := 0, pos := "l10_dice.go:54", after := #[{ on := 16, ground := Ground.data }, { on := 14, ground := Ground.data }, { on := 12, ground := Ground.chain }, { on := 0, ground := Ground.phase }, { on := 1, ground := Ground.phase }, { on := 2, ground := Ground.phase }, { on := 3, ground := Ground.phase }, { on := 4, ground := Ground.phase }, { on := 5, ground := Ground.phase }, { on := 6, ground := Ground.phase }, { on := 7, ground := Ground.phase }, { on := 8, ground := Ground.phase }, { on := 9, ground := Ground.phase }, { on := 10, ground := Ground.phase }, { on := 11, ground := Ground.phase }, { on := 12, ground := Ground.phase }, { on := 13, ground := Ground.phase }, { on := 14, ground := Ground.phase }, { on := 15, ground := Ground.textOnly Departure.lateStores }, { on := 16, ground := Ground.phase }], guard := none }) rfl (fun K hK => ?_) ?_
          · have n0 := (HT.box 0).c 0
            have n1 := (HT.box 0).c 1
            have n2 := (HT.box 0).c 2
            have g0 := (HT.box 0).f 0
            have g1 := (HT.box 0).f 1
            have g2 := (HT.box 0).f 2
            go_simp
            clear n0 n1 n2 g0 g1 g2
            have HX := HT.put3 (Nat.le_trans HK8.out.1 (Nat.le_of_lt hN.out)) (HLE.out _ _ hN.out) (.int .i64 zz.1) (.int .i64 zz.2.1) (.int .i64 zz.2.2)
            first | (refine hK.out _ _ (by (try dsimp only); with_reducible exact HC _ HX.held.tail) (fun hHeld => ?_); have HT := HX) | (have HT := HPre.new #[.int .i64 zz.1, .int .i64 zz.2.1, .int .i64 zz.2.2] 27; refine hK.out _ _ (by (try dsimp only); with_reducible exact HC _ HT.held.tail) (fun hHeld => ?_))
            clear HPre HX
            clear hK K
            (try simp only [Act.put, List.setIfInBounds_toArray, List.set_cons_zero, List.set_cons_succ])
            refine wpAnyH_take (i := 18) (oi := { dst := some 19, op := Op.assign (Operand.tmp 59), type := 4, pos := "l10_dice.go:54", after := #[{ on := 15, ground := Ground.data }, { on := 17, ground := Ground.chain }, { on := 0, ground := Ground.phase }, { on := 1, ground := Ground.phase }, { on := 2, ground := Ground.phase }, { on := 3, ground := Ground.phase }, { on := 4, ground := Ground.phase }, { on := 5, ground := Ground.phase }, { on := 6, ground := Ground.phase }, { on := 7, ground := Ground.phase }, { on := 8, ground := Ground.phase }, { on := 9, ground := Ground.phase }, { on := 10, ground := Ground.phase }, { on := 11, ground := Ground.phase }, { on := 12, ground := Ground.phase }, { on := 13, ground := Ground.phase }, { on := 14, ground := Ground.phase }, { on := 15, ground := Ground.phase }, { on := 16, ground := Ground.phase }, { on := 17, ground := Ground.phase }], guard := none }) (v := ?_) rfl (by kernel_rfl) (by kernel_rfl) (by kernel_rfl) (fun _ _ _ h => h) (Or.inl ⟨by rfl, ?_⟩) (by assumption) ?_
            rotate_left 1
            · (intro w hSw; (try dsimp only at hSw); go_simp <;> with_reducible rfl)
            (try simp only [Act.put, List.setIfInBounds_toArray, List.set_cons_zero, List.set_cons_succ])
            refine wpAnyH_done (by kernel_rfl) ?_ _
            clear HE HJ hHeld HTb
            have n0 := (HT.box 0).c 0
            have n1 := (HT.box 0).c 1
            have n2 := (HT.box 0).c 2
            rcases kk with _ | _
            · have r0 := (HT.box 3).c 0
              have f0 := (HT.box 3).f 0
              have HX := (HT.pick (cs := [(k7, [.slice none 0 0])]) (by simp)).put (by have := HK8.out; omega) (by simp) 0 (.slice none 0 0)
              have HX := Lib.hid HX
              clear HT
              gi_wp2
              exact ⟨HX.out.keep, rfl, all4_not C P lx ly n u v c r HH.out.1 HH.out.2.1 HKK.out.symm, HX.out.held⟩
            · have he := partA_at (xs := zer4) (ys := pts4 C P lx ly n u v) rfl (k := K0) (by have := HH.out; simp [zer4]; omega)
              obtain ⟨z0, hz0⟩ : ∃ z, z = zer4[K0]'(by have := HH.out; simp [zer4]; omega) := ⟨_, rfl⟩
              rw [← hz0] at he
              clear hz0
              obtain ⟨d0, d1, d2⟩ := (HT.box 2).v3 he
              obtain ⟨f0, f1, f2⟩ := (HT.box 2).v3f he
              have HX := (HT.pick (cs := (k8, (partA zer4 (pts4 C P lx ly n u v) K0).flatMap vg) :: (k9, [.int .i64 2]) :: [(k7, [.slice none 0 0]), (k6, [.int .i64 ly]), (k5, [.int .i64 lx]), (k4, [.int .i64 n]), (k3, [.int .i64 v]), (k2, [.int .i64 u]), (k1, [.int .i64 P.p0, .int .i64 P.p1, .int .i64 P.p2, .int .i64 P.p3, .int .i64 P.p4, .int .i64 P.p5, .int .i64 P.p6, .int .i64 P.p7, .int .i64 P.p8, .int .i64 P.x, .int .i64 P.y, .int .i64 P.z]), (k0, [.int .i64 C.a, .int .i64 C.b, .int .i64 C.c, .int .i64 C.d, .bool C.e, .int .i64 C.f, .int .i64 C.g])]) (by simp)).putV (by have := HK8.out; omega) (HNE.out) K0 zz
              have HX := Lib.hid (HX.pick (cs := (k9, [.int .i64 2]) :: (k8, ((partA zer4 (pts4 C P lx ly n u v) K0).set K0 zz).flatMap vg) :: [(k7, [.slice none 0 0]), (k6, [.int .i64 ly]), (k5, [.int .i64 lx]), (k4, [.int .i64 n]), (k3, [.int .i64 v]), (k2, [.int .i64 u]), (k1, [.int .i64 P.p0, .int .i64 P.p1, .int .i64 P.p2, .int .i64 P.p3, .int .i64 P.p4, .int .i64 P.p5, .int .i64 P.p6, .int .i64 P.p7, .int .i64 P.p8, .int .i64 P.x, .int .i64 P.y, .int .i64 P.z]), (k0, [.int .i64 C.a, .int .i64 C.b, .int .i64 C.c, .int .i64 C.d, .bool C.e, .int .i64 C.f, .int .i64 C.g])]) (by simp))
              have hK4 : (K0 : Int) < 4 := by have := HH.out; omega
              have hK0 : (0 : Int) ≤ (K0 : Int) := by omega
              clear HT he
              gi_wp2
              refine ⟨HX.out.keep, ?_, ?_⟩
              · rw [← partA_step (xs := zer4) (ys := pts4 C P lx ly n u v) rfl (k := K0) (by have := HH.out; simp [pts4]; omega)]
                have e := HP.out
                rw [List.getElem?_eq_getElem (by have := HH.out; simp [pts4]; omega), Option.some.injEq] at e
                rw [e, ← zV_true (gV C P lx ly n (u + c) (v + r)), ← HZZ.out]
                exact HX.out.held
              · intro j hj
                by_cases e : j < K0
                · exact HG.out j e
                · obtain rfl : j = K0 := by omega
                  rw [HQ.out, ← HKK.out]
          exact AllReadyH.nil
        exact AllReadyH.nil
      refine AllReadyH.cons (o := { dst := some 18, op := Op.alloc 27, type := 0, pos := "l10_dice.go:54", after := #[], guard := none }) rfl (fun K hK => ?_) ?_
      · have hN := Lib.hid (HT.box 0).lt
        have HPre := HT
        go_simp
        first | (refine hK.out _ _ (by (try dsimp only); with_reducible exact HC _ (HT.new #[.int .i64 0, .int .i64 0, .int .i64 0] 27).held.tail) (fun hHeld => ?_); have HT := HT.new #[.int .i64 0, .int .i64 0, .int .i64 0] 27) | (refine hK.out _ _ (by (try dsimp only); with_reducible exact HC _ (HTb.new #[.int .i64 0, .int .i64 0, .int .i64 0] 27).drew.held.tail) (fun hHeld => ?_); have HT := (HTb.new #[.int .i64 0, .int .i64 0, .int .i64 0] 27).drew)
        clear hK K
        (try simp only [Act.put, List.setIfInBounds_toArray, List.set_cons_zero, List.set_cons_succ])
        refine wpAnyH_ready (rs := [12]) (by kernel_rfl) (by simp) ?_
        refine AllReadyH.cons (o := { dst := some 57, op := Op.call { callee := Callee.value (Operand.func 21), args := #[Operand.tmp 45, Operand.tmp 54, Operand.tmp 55, Operand.tmp 56], argTypes := #[24, 27, 3, 3] }, type := 57, pos := "l10_dice.go:54", after := #[{ on := 0, ground := Ground.data }, { on := 9, ground := Ground.data }, { on := 10, ground := Ground.data }, { on := 11, ground := Ground.data }, { on := 9, ground := Ground.chain }], guard := none }) rfl (fun K hK => ?_) ?_
        · go_simp
          (with_reducible refine (HJ.out _).mono ?_)
          rintro e w2 ⟨rfl, hb2⟩
          have HT := HT.later hb2
          clear hb2
          (try go_wp2_with fail)
          refine hK.out _ _ (by (try dsimp only); (first | with_reducible exact HC _ HT.held | with_reducible exact HC _ HT.held.tail)) (fun hHeld => ?_)
          clear hK K
          (try simp only [Act.put, List.setIfInBounds_toArray, List.set_cons_zero, List.set_cons_succ])
          refine wpAnyH_take (i := 13) (oi := { dst := some 44, op := Op.move (Operand.tmp 57), type := 57, pos := "l10_dice.go:54", after := #[{ on := 12, ground := Ground.data }], guard := none }) (v := ?_) rfl (by kernel_rfl) (by kernel_rfl) (by kernel_rfl) (fun _ _ _ h => h) (Or.inl ⟨by rfl, ?_⟩) (by assumption) ?_
          rotate_left 1
          · (intro w hSw; (try dsimp only at hSw); go_simp <;> with_reducible rfl)
          (try simp only [Act.put, List.setIfInBounds_toArray, List.set_cons_zero, List.set_cons_succ])
          refine wpAnyH_take (i := 14) (oi := { dst := some 58, op := Op.extract (Operand.tmp 44) 0, type := 27, pos := "l10_dice.go:54", after := #[{ on := 13, ground := Ground.data }], guard := none }) (v := ?_) rfl (by kernel_rfl) (by kernel_rfl) (by kernel_rfl) (fun _ _ _ h => h) (Or.inl ⟨by rfl, ?_⟩) (by assumption) ?_
          rotate_left 1
          · (intro w hSw; (try dsimp only at hSw); go_simp <;> with_reducible rfl)
          (try simp only [Act.put, List.setIfInBounds_toArray, List.set_cons_zero, List.set_cons_succ])
          refine wpAnyH_take (i := 15) (oi := { dst := some 59, op := Op.extract (Operand.tmp 44) 1, type := 4, pos := "l10_dice.go:54", after := #[{ on := 13, ground := Ground.data }, { on := 17, ground := Ground.gcOnly Departure.lateStores }], guard := none }) (v := ?_) rfl (by kernel_rfl) (by kernel_rfl) (by kernel_rfl) (fun _ _ _ h => h) (Or.inl ⟨by rfl, ?_⟩) (by assumption) ?_
          rotate_left 1
          · (intro w hSw; (try dsimp only at hSw); go_simp <;> with_reducible rfl)
          (try simp only [Act.put, List.setIfInBounds_toArray, List.set_cons_zero, List.set_cons_succ])
          refine wpAnyH_ready (rs := [17]) (by kernel_rfl) (by simp) ?_
          refine AllReadyH.cons (o := { dst := none, op := Op.store 27 (Operand.tmp 18) (Operand.tmp 58), type := 0, pos := "l10_dice.go:54", after := #[{ on := 16, ground := Ground.data }, { on := 14, ground := Ground.data }, { on := 12, ground := Ground.chain }, { on := 0, ground := Ground.phase }, { on := 1, ground := Ground.phase }, { on := 2, ground := Ground.phase }, { on := 3, ground := Ground.phase }, { on := 4, ground := Ground.phase }, { on := 5, ground := Ground.phase }, { on := 6, ground := Ground.phase }, { on := 7, ground := Ground.phase }, { on := 8, ground := Ground.phase }, { on := 9, ground := Ground.phase }, { on := 10, ground := Ground.phase }, { on := 11, ground := Ground.phase }, { on := 12, ground := Ground.phase }, { on := 13, ground := Ground.phase }, { on := 14, ground := Ground.phase }, { on := 15, ground := Ground.textOnly Departure.lateStores }, { on := 16, ground := Ground.phase }], guard := none }) rfl (fun K hK => ?_) ?_
          · have n0 := (HT.box 0).c 0
            have n1 := (HT.box 0).c 1
            have n2 := (HT.box 0).c 2
            have g0 := (HT.box 0).f 0
            have g1 := (HT.box 0).f 1
            have g2 := (HT.box 0).f 2
            go_simp
            clear n0 n1 n2 g0 g1 g2
            have HX := HT.put3 (Nat.le_trans HK8.out.1 (Nat.le_of_lt hN.out)) (HLE.out _ _ hN.out) (.int .i64 zz.1) (.int .i64 zz.2.1) (.int .i64 zz.2.2)
            first | (refine hK.out _ _ (by (try dsimp only); with_reducible exact HC _ HX.held.tail) (fun hHeld => ?_); have HT := HX) | (have HT := HPre.new #[.int .i64 zz.1, .int .i64 zz.2.1, .int .i64 zz.2.2] 27; refine hK.out _ _ (by (try dsimp only); with_reducible exact HC _ HT.held.tail) (fun hHeld => ?_))
            clear HPre HX
            clear hK K
            (try simp only [Act.put, List.setIfInBounds_toArray, List.set_cons_zero, List.set_cons_succ])
            refine wpAnyH_take (i := 18) (oi := { dst := some 19, op := Op.assign (Operand.tmp 59), type := 4, pos := "l10_dice.go:54", after := #[{ on := 15, ground := Ground.data }, { on := 17, ground := Ground.chain }, { on := 0, ground := Ground.phase }, { on := 1, ground := Ground.phase }, { on := 2, ground := Ground.phase }, { on := 3, ground := Ground.phase }, { on := 4, ground := Ground.phase }, { on := 5, ground := Ground.phase }, { on := 6, ground := Ground.phase }, { on := 7, ground := Ground.phase }, { on := 8, ground := Ground.phase }, { on := 9, ground := Ground.phase }, { on := 10, ground := Ground.phase }, { on := 11, ground := Ground.phase }, { on := 12, ground := Ground.phase }, { on := 13, ground := Ground.phase }, { on := 14, ground := Ground.phase }, { on := 15, ground := Ground.phase }, { on := 16, ground := Ground.phase }, { on := 17, ground := Ground.phase }], guard := none }) (v := ?_) rfl (by kernel_rfl) (by kernel_rfl) (by kernel_rfl) (fun _ _ _ h => h) (Or.inl ⟨by rfl, ?_⟩) (by assumption) ?_
            rotate_left 1
            · (intro w hSw; (try dsimp only at hSw); go_simp <;> with_reducible rfl)
            (try simp only [Act.put, List.setIfInBounds_toArray, List.set_cons_zero, List.set_cons_succ])
            refine wpAnyH_done (by kernel_rfl) ?_ _
            clear HE HJ hHeld HTb
            have n0 := (HT.box 0).c 0
            have n1 := (HT.box 0).c 1
            have n2 := (HT.box 0).c 2
            rcases kk with _ | _
            · have r0 := (HT.box 3).c 0
              have f0 := (HT.box 3).f 0
              have HX := (HT.pick (cs := [(k7, [.slice none 0 0])]) (by simp)).put (by have := HK8.out; omega) (by simp) 0 (.slice none 0 0)
              have HX := Lib.hid HX
              clear HT
              gi_wp2
              exact ⟨HX.out.keep, rfl, all4_not C P lx ly n u v c r HH.out.1 HH.out.2.1 HKK.out.symm, HX.out.held⟩
            · have he := partA_at (xs := zer4) (ys := pts4 C P lx ly n u v) rfl (k := K0) (by have := HH.out; simp [zer4]; omega)
              obtain ⟨z0, hz0⟩ : ∃ z, z = zer4[K0]'(by have := HH.out; simp [zer4]; omega) := ⟨_, rfl⟩
              rw [← hz0] at he
              clear hz0
              obtain ⟨d0, d1, d2⟩ := (HT.box 2).v3 he
              obtain ⟨f0, f1, f2⟩ := (HT.box 2).v3f he
              have HX := (HT.pick (cs := (k8, (partA zer4 (pts4 C P lx ly n u v) K0).flatMap vg) :: (k9, [.int .i64 2]) :: [(k7, [.slice none 0 0]), (k6, [.int .i64 ly]), (k5, [.int .i64 lx]), (k4, [.int .i64 n]), (k3, [.int .i64 v]), (k2, [.int .i64 u]), (k1, [.int .i64 P.p0, .int .i64 P.p1, .int .i64 P.p2, .int .i64 P.p3, .int .i64 P.p4, .int .i64 P.p5, .int .i64 P.p6, .int .i64 P.p7, .int .i64 P.p8, .int .i64 P.x, .int .i64 P.y, .int .i64 P.z]), (k0, [.int .i64 C.a, .int .i64 C.b, .int .i64 C.c, .int .i64 C.d, .bool C.e, .int .i64 C.f, .int .i64 C.g])]) (by simp)).putV (by have := HK8.out; omega) (HNE.out) K0 zz
              have HX := Lib.hid (HX.pick (cs := (k9, [.int .i64 2]) :: (k8, ((partA zer4 (pts4 C P lx ly n u v) K0).set K0 zz).flatMap vg) :: [(k7, [.slice none 0 0]), (k6, [.int .i64 ly]), (k5, [.int .i64 lx]), (k4, [.int .i64 n]), (k3, [.int .i64 v]), (k2, [.int .i64 u]), (k1, [.int .i64 P.p0, .int .i64 P.p1, .int .i64 P.p2, .int .i64 P.p3, .int .i64 P.p4, .int .i64 P.p5, .int .i64 P.p6, .int .i64 P.p7, .int .i64 P.p8, .int .i64 P.x, .int .i64 P.y, .int .i64 P.z]), (k0, [.int .i64 C.a, .int .i64 C.b, .int .i64 C.c, .int .i64 C.d, .bool C.e, .int .i64 C.f, .int .i64 C.g])]) (by simp))
              have hK4 : (K0 : Int) < 4 := by have := HH.out; omega
              have hK0 : (0 : Int) ≤ (K0 : Int) := by omega
              clear HT he
              gi_wp2
              refine ⟨HX.out.keep, ?_, ?_⟩
              · rw [← partA_step (xs := zer4) (ys := pts4 C P lx ly n u v) rfl (k := K0) (by have := HH.out; simp [pts4]; omega)]
                have e := HP.out
                rw [List.getElem?_eq_getElem (by have := HH.out; simp [pts4]; omega), Option.some.injEq] at e
                rw [e, ← zV_true (gV C P lx ly n (u + c) (v + r)), ← HZZ.out]
                exact HX.out.held
              · intro j hj
                by_cases e : j < K0
                · exact HG.out j e
                · obtain rfl : j = K0 := by omega
                  rw [HQ.out, ← HKK.out]
          exact AllReadyH.nil
        exact AllReadyH.nil
      exact AllReadyH.nil
    refine AllReadyH.cons (o := { dst := some 18, op := Op.alloc 27, type := 0, pos := "l10_dice.go:54", after := #[], guard := none }) rfl (fun K hK => ?_) ?_
    · have hN := Lib.hid (HT.box 0).lt
      have HPre := HT
      go_simp
      first | (refine hK.out _ _ (by (try dsimp only); with_reducible exact HC _ (HT.new #[.int .i64 0, .int .i64 0, .int .i64 0] 27).held.tail) (fun hHeld => ?_); have HT := HT.new #[.int .i64 0, .int .i64 0, .int .i64 0] 27) | (refine hK.out _ _ (by (try dsimp only); with_reducible exact HC _ (HTb.new #[.int .i64 0, .int .i64 0, .int .i64 0] 27).drew.held.tail) (fun hHeld => ?_); have HT := (HTb.new #[.int .i64 0, .int .i64 0, .int .i64 0] 27).drew)
      clear hK K
      (try simp only [Act.put, List.setIfInBounds_toArray, List.set_cons_zero, List.set_cons_succ])
      refine wpAnyH_ready (rs := [9]) (by kernel_rfl) (by simp) ?_
      refine AllReadyH.cons (o := { dst := some 54, op := Op.call { callee := Callee.value (Operand.func 7), args := #[Operand.tmp 46, Operand.tmp 49, Operand.tmp 52, Operand.tmp 53], argTypes := #[30, 3, 3, 3] }, type := 27, pos := "l10_dice.go:54", after := #[{ on := 1, ground := Ground.data }, { on := 4, ground := Ground.data }, { on := 7, ground := Ground.data }, { on := 8, ground := Ground.data }], guard := none }) rfl (fun K hK => ?_) ?_
      · go_simp
        (with_reducible refine (HE.out _).mono ?_)
        rintro e w1 ⟨rfl, hb1⟩
        have HT := HT.later hb1
        clear hb1
        (try go_wp2_with fail)
        refine hK.out _ _ (by (try dsimp only); (first | with_reducible exact HC _ HT.held | with_reducible exact HC _ HT.held.tail)) (fun hHeld => ?_)
        clear hK K
        (try simp only [Act.put, List.setIfInBounds_toArray, List.set_cons_zero, List.set_cons_succ])
        refine wpAnyH_ready (rs := [12]) (by kernel_rfl) (by simp) ?_
        refine AllReadyH.cons (o := { dst := some 57, op := Op.call { callee := Callee.value (Operand.func 21), args := #[Operand.tmp 45, Operand.tmp 54, Operand.tmp 55, Operand.tmp 56], argTypes := #[24, 27, 3, 3] }, type := 57, pos := "l10_dice.go:54", after := #[{ on := 0, ground := Ground.data }, { on := 9, ground := Ground.data }, { on := 10, ground := Ground.data }, { on := 11, ground := Ground.data }, { on := 9, ground := Ground.chain }], guard := none }) rfl (fun K hK => ?_) ?_
        · go_simp
          (with_reducible refine (HJ.out _).mono ?_)
          rintro e w2 ⟨rfl, hb2⟩
          have HT := HT.later hb2
          clear hb2
          (try go_wp2_with fail)
          refine hK.out _ _ (by (try dsimp only); (first | with_reducible exact HC _ HT.held | with_reducible exact HC _ HT.held.tail)) (fun hHeld => ?_)
          clear hK K
          (try simp only [Act.put, List.setIfInBounds_toArray, List.set_cons_zero, List.set_cons_succ])
          refine wpAnyH_take (i := 13) (oi := { dst := some 44, op := Op.move (Operand.tmp 57), type := 57, pos := "l10_dice.go:54", after := #[{ on := 12, ground := Ground.data }], guard := none }) (v := ?_) rfl (by kernel_rfl) (by kernel_rfl) (by kernel_rfl) (fun _ _ _ h => h) (Or.inl ⟨by rfl, ?_⟩) (by assumption) ?_
          rotate_left 1
          · (intro w hSw; (try dsimp only at hSw); go_simp <;> with_reducible rfl)
          (try simp only [Act.put, List.setIfInBounds_toArray, List.set_cons_zero, List.set_cons_succ])
          refine wpAnyH_take (i := 14) (oi := { dst := some 58, op := Op.extract (Operand.tmp 44) 0, type := 27, pos := "l10_dice.go:54", after := #[{ on := 13, ground := Ground.data }], guard := none }) (v := ?_) rfl (by kernel_rfl) (by kernel_rfl) (by kernel_rfl) (fun _ _ _ h => h) (Or.inl ⟨by rfl, ?_⟩) (by assumption) ?_
          rotate_left 1
          · (intro w hSw; (try dsimp only at hSw); go_simp <;> with_reducible rfl)
          (try simp only [Act.put, List.setIfInBounds_toArray, List.set_cons_zero, List.set_cons_succ])
          refine wpAnyH_take (i := 15) (oi := { dst := some 59, op := Op.extract (Operand.tmp 44) 1, type := 4, pos := "l10_dice.go:54", after := #[{ on := 13, ground := Ground.data }, { on := 17, ground := Ground.gcOnly Departure.lateStores }], guard := none }) (v := ?_) rfl (by kernel_rfl) (by kernel_rfl) (by kernel_rfl) (fun _ _ _ h => h) (Or.inl ⟨by rfl, ?_⟩) (by assumption) ?_
          rotate_left 1
          · (intro w hSw; (try dsimp only at hSw); go_simp <;> with_reducible rfl)
          (try simp only [Act.put, List.setIfInBounds_toArray, List.set_cons_zero, List.set_cons_succ])
          refine wpAnyH_ready (rs := [17]) (by kernel_rfl) (by simp) ?_
          refine AllReadyH.cons (o := { dst := none, op := Op.store 27 (Operand.tmp 18) (Operand.tmp 58), type := 0, pos := "l10_dice.go:54", after := #[{ on := 16, ground := Ground.data }, { on := 14, ground := Ground.data }, { on := 12, ground := Ground.chain }, { on := 0, ground := Ground.phase }, { on := 1, ground := Ground.phase }, { on := 2, ground := Ground.phase }, { on := 3, ground := Ground.phase }, { on := 4, ground := Ground.phase }, { on := 5, ground := Ground.phase }, { on := 6, ground := Ground.phase }, { on := 7, ground := Ground.phase }, { on := 8, ground := Ground.phase }, { on := 9, ground := Ground.phase }, { on := 10, ground := Ground.phase }, { on := 11, ground := Ground.phase }, { on := 12, ground := Ground.phase }, { on := 13, ground := Ground.phase }, { on := 14, ground := Ground.phase }, { on := 15, ground := Ground.textOnly Departure.lateStores }, { on := 16, ground := Ground.phase }], guard := none }) rfl (fun K hK => ?_) ?_
          · have n0 := (HT.box 0).c 0
            have n1 := (HT.box 0).c 1
            have n2 := (HT.box 0).c 2
            have g0 := (HT.box 0).f 0
            have g1 := (HT.box 0).f 1
            have g2 := (HT.box 0).f 2
            go_simp
            clear n0 n1 n2 g0 g1 g2
            have HX := HT.put3 (Nat.le_trans HK8.out.1 (Nat.le_of_lt hN.out)) (HLE.out _ _ hN.out) (.int .i64 zz.1) (.int .i64 zz.2.1) (.int .i64 zz.2.2)
            first | (refine hK.out _ _ (by (try dsimp only); with_reducible exact HC _ HX.held.tail) (fun hHeld => ?_); have HT := HX) | (have HT := HPre.new #[.int .i64 zz.1, .int .i64 zz.2.1, .int .i64 zz.2.2] 27; refine hK.out _ _ (by (try dsimp only); with_reducible exact HC _ HT.held.tail) (fun hHeld => ?_))
            clear HPre HX
            clear hK K
            (try simp only [Act.put, List.setIfInBounds_toArray, List.set_cons_zero, List.set_cons_succ])
            refine wpAnyH_take (i := 18) (oi := { dst := some 19, op := Op.assign (Operand.tmp 59), type := 4, pos := "l10_dice.go:54", after := #[{ on := 15, ground := Ground.data }, { on := 17, ground := Ground.chain }, { on := 0, ground := Ground.phase }, { on := 1, ground := Ground.phase }, { on := 2, ground := Ground.phase }, { on := 3, ground := Ground.phase }, { on := 4, ground := Ground.phase }, { on := 5, ground := Ground.phase }, { on := 6, ground := Ground.phase }, { on := 7, ground := Ground.phase }, { on := 8, ground := Ground.phase }, { on := 9, ground := Ground.phase }, { on := 10, ground := Ground.phase }, { on := 11, ground := Ground.phase }, { on := 12, ground := Ground.phase }, { on := 13, ground := Ground.phase }, { on := 14, ground := Ground.phase }, { on := 15, ground := Ground.phase }, { on := 16, ground := Ground.phase }, { on := 17, ground := Ground.phase }], guard := none }) (v := ?_) rfl (by kernel_rfl) (by kernel_rfl) (by kernel_rfl) (fun _ _ _ h => h) (Or.inl ⟨by rfl, ?_⟩) (by assumption) ?_
            rotate_left 1
            · (intro w hSw; (try dsimp only at hSw); go_simp <;> with_reducible rfl)
            (try simp only [Act.put, List.setIfInBounds_toArray, List.set_cons_zero, List.set_cons_succ])
            refine wpAnyH_done (by kernel_rfl) ?_ _
            clear HE HJ hHeld HTb
            have n0 := (HT.box 0).c 0
            have n1 := (HT.box 0).c 1
            have n2 := (HT.box 0).c 2
            rcases kk with _ | _
            · have r0 := (HT.box 3).c 0
              have f0 := (HT.box 3).f 0
              have HX := (HT.pick (cs := [(k7, [.slice none 0 0])]) (by simp)).put (by have := HK8.out; omega) (by simp) 0 (.slice none 0 0)
              have HX := Lib.hid HX
              clear HT
              gi_wp2
              exact ⟨HX.out.keep, rfl, all4_not C P lx ly n u v c r HH.out.1 HH.out.2.1 HKK.out.symm, HX.out.held⟩
            · have he := partA_at (xs := zer4) (ys := pts4 C P lx ly n u v) rfl (k := K0) (by have := HH.out; simp [zer4]; omega)
              obtain ⟨z0, hz0⟩ : ∃ z, z = zer4[K0]'(by have := HH.out; simp [zer4]; omega) := ⟨_, rfl⟩
              rw [← hz0] at he
              clear hz0
              obtain ⟨d0, d1, d2⟩ := (HT.box 2).v3 he
              obtain ⟨f0, f1, f2⟩ := (HT.box 2).v3f he
              have HX := (HT.pick (cs := (k8, (partA zer4 (pts4 C P lx ly n u v) K0).flatMap vg) :: (k9, [.int .i64 2]) :: [(k7, [.slice none 0 0]), (k6, [.int .i64 ly]), (k5, [.int .i64 lx]), (k4, [.int .i64 n]), (k3, [.int .i64 v]), (k2, [.int .i64 u]), (k1, [.int .i64 P.p0, .int .i64 P.p1, .int .i64 P.p2, .int .i64 P.p3, .int .i64 P.p4, .int .i64 P.p5, .int .i64 P.p6, .int .i64 P.p7, .int .i64 P.p8, .int .i64 P.x, .int .i64 P.y, .int .i64 P.z]), (k0, [.int .i64 C.a, .int .i64 C.b, .int .i64 C.c, .int .i64 C.d, .bool C.e, .int .i64 C.f, .int .i64 C.g])]) (by simp)).putV (by have := HK8.out; omega) (HNE.out) K0 zz
              have HX := Lib.hid (HX.pick (cs := (k9, [.int .i64 2]) :: (k8, ((partA zer4 (pts4 C P lx ly n u v) K0).set K0 zz).flatMap vg) :: [(k7, [.slice none 0 0]), (k6, [.int .i64 ly]), (k5, [.int .i64 lx]), (k4, [.int .i64 n]), (k3, [.int .i64 v]), (k2, [.int .i64 u]), (k1, [.int .i64 P.p0, .int .i64 P.p1, .int .i64 P.p2, .int .i64 P.p3, .int .i64 P.p4, .int .i64 P.p5, .int .i64 P.p6, .int .i64 P.p7, .int .i64 P.p8, .int .i64 P.x, .int .i64 P.y, .int .i64 P.z]), (k0, [.int .i64 C.a, .int .i64 C.b, .int .i64 C.c, .int .i64 C.d, .bool C.e, .int .i64 C.f, .int .i64 C.g])]) (by simp))
              have hK4 : (K0 : Int) < 4 := by have := HH.out; omega
              have hK0 : (0 : Int) ≤ (K0 : Int) := by omega
              clear HT he
              gi_wp2
              refine ⟨HX.out.keep, ?_, ?_⟩
              · rw [← partA_step (xs := zer4) (ys := pts4 C P lx ly n u v) rfl (k := K0) (by have := HH.out; simp [pts4]; omega)]
                have e := HP.out
                rw [List.getElem?_eq_getElem (by have := HH.out; simp [pts4]; omega), Option.some.injEq] at e
                rw [e, ← zV_true (gV C P lx ly n (u + c) (v + r)), ← HZZ.out]
                exact HX.out.held
              · intro j hj
                by_cases e : j < K0
                · exact HG.out j e
                · obtain rfl : j = K0 := by omega
                  rw [HQ.out, ← HKK.out]
          exact AllReadyH.nil
        exact AllReadyH.nil
      exact AllReadyH.nil
    exact AllReadyH.nil
  case done =>
    rintro D W hD ⟨HT, HG⟩ hK
    have HALL := all4_of C P lx ly n u v (fun j hj => HG j hj)
    have HV : Hid (cellL C P lx ly u v n = twoM (gV C P lx ly n u v) (gV C P lx ly n (u + 1) v) (gV C P lx ly n u (v + 1)) (gV C P lx ly n (u + 1) (v + 1)) (u, v, n)) := Lib.hid (by unfold cellL; rw [hk, HALL]; rfl)
    have e4 : partA zer4 (pts4 C P lx ly n u v) (2 * 2) = pts4 C P lx ly n u v := rfl
    rw [e4] at HT
    obtain ⟨A, hA⟩ : ∃ A, A = gV C P lx ly n u v := ⟨_, rfl⟩
    obtain ⟨B, hB⟩ : ∃ A, A = gV C P lx ly n (u + 1) v := ⟨_, rfl⟩
    obtain ⟨E, hE⟩ : ∃ A, A = gV C P lx ly n u (v + 1) := ⟨_, rfl⟩
    obtain ⟨F, hF⟩ : ∃ A, A = gV C P lx ly n (u + 1) (v + 1) := ⟨_, rfl⟩
    unfold pts4 at HT
    rw [← hA, ← hB, ← hE, ← hF] at HV HT
    have HB9 := Lib.hid (show w.heap.size ≤ k7 ∧ w.heap.size + 10 = W0.heap.size by omega)
    clear HG HALL HLE HC q0 q1 q2 hb ew hf1 hf2 hA hB hE hF e4 hk
    have c7 := (HT.box 2).c 0
    have f7 := (HT.box 2).f 0
    have hW7 := (HT.box 2).lt
    have HC8 : ∀ w', Held w w' [(k9, [.int .i64 2]), (k8, ([A, B, E, F] : List V3).flatMap vg), (k7, [.slice none 0 0]), (k6, [.int .i64 ly]), (k5, [.int .i64 lx]), (k4, [.int .i64 n]), (k3, [.int .i64 v]), (k2, [.int .i64 u]), (k1, [.int .i64 P.p0, .int .i64 P.p1, .int .i64 P.p2, .int .i64 P.p3, .int .i64 P.p4, .int .i64 P.p5, .int .i64 P.p6, .int .i64 P.p7, .int .i64 P.p8, .int .i64 P.x, .int .i64 P.y, .int .i64 P.z]), (k0, [.int .i64 C.a, .int .i64 C.b, .int .i64 C.c, .int .i64 C.d, .bool C.e, .int .i64 C.f, .int .i64 C.g])] → (w'.cell? ⟨k8, 0, none⟩ = some (.int .i64 A.1) ∧ w'.cell? ⟨k8, 1, none⟩ = some (.int .i64 A.2.1) ∧ w'.cell? ⟨k8, 2, none⟩ = some (.int .i64 A.2.2) ∧ w'.cell? ⟨k8, 3, none⟩ = some (.int .i64 B.1) ∧ w'.cell? ⟨k8, 4, none⟩ = some (.int .i64 B.2.1) ∧ w'.cell? ⟨k8, 5, none⟩ = some (.int .i64 B.2.2) ∧ w'.cell? ⟨k8, 6, none⟩ = some (.int .i64 E.1) ∧ w'.cell? ⟨k8, 7, none⟩ = some (.int .i64 E.2.1) ∧ w'.cell? ⟨k8, 8, none⟩ = some (.int .i64 E.2.2) ∧ w'.cell? ⟨k8, 9, none⟩ = some (.int .i64 F.1) ∧ w'.cell? ⟨k8, 10, none⟩ = some (.int .i64 F.2.1) ∧ w'.cell? ⟨k8, 11, none⟩ = some (.int .i64 F.2.2)) := fun w' h => ⟨(h.box 1).c 0, (h.box 1).c 1, (h.box 1).c 2, (h.box 1).c 3, (h.box 1).c 4, (h.box 1).c 5, (h.box 1).c 6, (h.box 1).c 7, (h.box 1).c 8, (h.box 1).c 9, (h.box 1).c 10, (h.box 1).c 11⟩
    gi_wp2
    refine wpIn_wide.2 ?_
    go_cut [20, 21, 22, 23] from 68 to 75 (fun s6 s7 s8 s9 wx => ∃ g0 g1 g2 g3 : Nat, s6 = .pointer (some ⟨g0, 0, none⟩) ∧ s7 = .pointer (some ⟨g1, 0, none⟩) ∧ s8 = .pointer (some ⟨g2, 0, none⟩) ∧ s9 = .pointer (some ⟨g3, 0, none⟩) ∧ (wx.cell? ⟨g0, 0, none⟩ = some (.int .i64 A.1) ∧ wx.cell? ⟨g0, 1, none⟩ = some (.int .i64 A.2.1) ∧ wx.cell? ⟨g0, 2, none⟩ = some (.int .i64 A.2.2) ∧ wx.cell? ⟨g1, 0, none⟩ = some (.int .i64 B.1) ∧ wx.cell? ⟨g1, 1, none⟩ = some (.int .i64 B.2.1) ∧ wx.cell? ⟨g1, 2, none⟩ = some (.int .i64 B.2.2) ∧ wx.cell? ⟨g2, 0, none⟩ = some (.int .i64 E.1) ∧ wx.cell? ⟨g2, 1, none⟩ = some (.int .i64 E.2.1) ∧ wx.cell? ⟨g2, 2, none⟩ = some (.int .i64 E.2.2) ∧ wx.cell? ⟨g3, 0, none⟩ = some (.int .i64 F.1) ∧ wx.cell? ⟨g3, 1, none⟩ = some (.int .i64 F.2.1) ∧ wx.cell? ⟨g3, 2, none⟩ = some (.int .i64 F.2.2)) ∧ Below W.heap.size W wx)
    case first =>
      go_region_held3 (fun w' => w'.cell? ⟨k8, 0, none⟩ = some (.int .i64 A.1) ∧ w'.cell? ⟨k8, 1, none⟩ = some (.int .i64 A.2.1) ∧ w'.cell? ⟨k8, 2, none⟩ = some (.int .i64 A.2.2) ∧ w'.cell? ⟨k8, 3, none⟩ = some (.int .i64 B.1) ∧ w'.cell? ⟨k8, 4, none⟩ = some (.int .i64 B.2.1) ∧ w'.cell? ⟨k8, 5, none⟩ = some (.int .i64 B.2.2) ∧ w'.cell? ⟨k8, 6, none⟩ = some (.int .i64 E.1) ∧ w'.cell? ⟨k8, 7, none⟩ = some (.int .i64 E.2.1) ∧ w'.cell? ⟨k8, 8, none⟩ = some (.int .i64 E.2.2) ∧ w'.cell? ⟨k8, 9, none⟩ = some (.int .i64 F.1) ∧ w'.cell? ⟨k8, 10, none⟩ = some (.int .i64 F.2.1) ∧ w'.cell? ⟨k8, 11, none⟩ = some (.int .i64 F.2.2)) (exact HC8 _ (HT.later (by go_grown))) (fail)
      all_goals (go_wp2_with fail; go_meet)
      all_goals exact ⟨_, _, _, _, rfl, rfl, rfl, rfl, by simp [go_sem], by go_grown⟩
    case rest =>
      obtain ⟨g0, g1, g2, g3, rfl, rfl, rfl, rfl, ⟨x0, y0, z0, x1, y1, z1, x2, y2, z2, x3, y3, z3⟩, hbc⟩ := hcut
      have HT := HT.later hbc
      have hDlt := (Array.getElem?_eq_some_iff.1 hK).1
      have hKc : wc.heap[D]? = some (.deferred (some [])) := (hbc.block D hDlt).trans hK
      have c7 := (HT.box 2).c 0
      have f7 := (HT.box 2).f 0
      have c4 := (HT.box 5).c 0
      have c3 := (HT.box 6).c 0
      have c2 := (HT.box 7).c 0
      have HB := Lib.hid HT.below
      have HK := Lib.hid hKc
      have h7 := (HT.box 2).lt
      have hO := World.ownsRow_lit (base := w.heap.size) (size := 12) (e := 41) wc #[.int .i64 A.1, .int .i64 A.2.1, .int .i64 A.2.2, .int .i64 B.1, .int .i64 B.2.1, .int .i64 B.2.2, .int .i64 E.1, .int .i64 E.2.1, .int .i64 E.2.2, .int .i64 u, .int .i64 v, .int .i64 n, .int .i64 B.1, .int .i64 B.2.1, .int .i64 B.2.2, .int .i64 F.1, .int .i64 F.2.1, .int .i64 F.2.2, .int .i64 E.1, .int .i64 E.2.1, .int .i64 E.2.2, .int .i64 u, .int .i64 v, .int .i64 n] 2 HT.size (by unfold maxLen; omega) rfl
      have hO2 := ownsRow_setCell_other hO (a := ⟨k7, 0, none⟩) (by intro e; injection e with e; simp only at e; omega) (.slice (some ⟨wc.heap.size, 0, none⟩) 2 2)
      have hK2 : ((wc.alloc (.cells #[.int .i64 A.1, .int .i64 A.2.1, .int .i64 A.2.2, .int .i64 B.1, .int .i64 B.2.1, .int .i64 B.2.2, .int .i64 E.1, .int .i64 E.2.1, .int .i64 E.2.2, .int .i64 u, .int .i64 v, .int .i64 n, .int .i64 B.1, .int .i64 B.2.1, .int .i64 B.2.2, .int .i64 F.1, .int .i64 F.2.1, .int .i64 F.2.2, .int .i64 E.1, .int .i64 E.2.1, .int .i64 E.2.2, .int .i64 u, .int .i64 v, .int .i64 n] 41)).setCell ⟨k7, 0, none⟩ (.slice (some ⟨wc.heap.size, 0, none⟩) 2 2)).heap[D]? = some (.deferred (some [])) := ((KeepsOthers.alloc wc _).trans (KeepsOthers.setCell _ _ _)).same D _ hKc rfl
      have hO3 := ownsRow_putObj hO2 (.deferred none) hK2 rfl
      have HTA := HT.alloc (.cells #[.int .i64 A.1, .int .i64 A.2.1, .int .i64 A.2.2, .int .i64 B.1, .int .i64 B.2.1, .int .i64 B.2.2, .int .i64 E.1, .int .i64 E.2.1, .int .i64 E.2.2, .int .i64 u, .int .i64 v, .int .i64 n, .int .i64 B.1, .int .i64 B.2.1, .int .i64 B.2.2, .int .i64 F.1, .int .i64 F.2.1, .int .i64 F.2.2, .int .i64 E.1, .int .i64 E.2.1, .int .i64 E.2.2, .int .i64 u, .int .i64 v, .int .i64 n] 41)
      have c7a := (HTA.box 2).c 0
      have f7a := (HTA.box 2).f 0
      have hc5 := cell_kept (World.cell?_setCell_same' (wc.alloc (.cells #[.int .i64 A.1, .int .i64 A.2.1, .int .i64 A.2.2, .int .i64 B.1, .int .i64 B.2.1, .int .i64 B.2.2, .int .i64 E.1, .int .i64 E.2.1, .int .i64 E.2.2, .int .i64 u, .int .i64 v, .int .i64 n, .int .i64 B.1, .int .i64 B.2.1, .int .i64 B.2.2, .int .i64 F.1, .int .i64 F.2.1, .int .i64 F.2.2, .int .i64 E.1, .int .i64 E.2.1, .int .i64 E.2.2, .int .i64 u, .int .i64 v, .int .i64 n] 41)) ⟨k7, 0, none⟩ (.slice (some ⟨wc.heap.size, 0, none⟩) 2 2) (by rw [World.cell?_alloc_lt _ _ _ h7, c7]; rfl)) (grownBy_putObj' _ D (.deferred none)) (fun r e => by cases e; exact ⟨_, hK2, rfl⟩)
      have hBB : Below w.heap.size w ((wc.alloc (.cells #[.int .i64 A.1, .int .i64 A.2.1, .int .i64 A.2.2, .int .i64 B.1, .int .i64 B.2.1, .int .i64 B.2.2, .int .i64 E.1, .int .i64 E.2.1, .int .i64 E.2.2, .int .i64 u, .int .i64 v, .int .i64 n, .int .i64 B.1, .int .i64 B.2.1, .int .i64 B.2.2, .int .i64 F.1, .int .i64 F.2.1, .int .i64 F.2.2, .int .i64 E.1, .int .i64 E.2.1, .int .i64 E.2.2, .int .i64 u, .int .i64 v, .int .i64 n] 41)).setCell ⟨k7, 0, none⟩ (.slice (some ⟨wc.heap.size, 0, none⟩) 2 2)) := (HT.below.alloc HT.size _).setCell (p := ⟨k7, 0, none⟩) HB9.out.1 _
      have HO3 := Lib.hid hO3
      have HC5 := Lib.hid hc5
      have HBB := Lib.hid hBB
      have HK2 := Lib.hid hK2
      have HD := Lib.hid (show w.heap.size ≤ D by have := HB9.out; omega)
      clear c7 f7 HTA hO hO2 hO3 hc5 hBB hK2 HT hbc hKc hK hDlt h7 hW7 HC8 hD hs0
      gi_wp2
      rw [HV.out]
      refine ⟨by simp, .inl ⟨_, _, rfl, run_takeDeferred HK2.out, ?_⟩⟩
      refine ⟨.slice (some ⟨wc.heap.size, 0, none⟩) 2 2, ?_, some ⟨wc.heap.size, 0, none⟩, 2, rfl, HO3.out, HBB.out.trans (belowK_b (w := w) (Nat.le_refl _) _ D _ _ HD.out HK2.out rfl rfl)⟩
      have hc5 := HC5.out
      simp [results, Try.results8, go_sem, hc5]
  case stop =>
    rintro D c W hD ⟨rfl, hno, HT⟩ hK
    have HE : cellL C P lx ly u v n = [] := by unfold cellL; rw [hno, Bool.and_false]; rfl
    rw [HE]
    have c7 := (HT.box 0).c 0
    gi_wp2
    refine ⟨by simp, .inl ⟨_, _, rfl, run_takeDeferred hK, ?_⟩⟩
    have hc5 := cell_kept c7 (grownBy_putObj' _ D (.deferred none)) (fun r e => by cases e; exact ⟨_, hK, rfl⟩)
    refine ⟨.slice none 0 0, ?_, none, 0, rfl, World.ownsRow_nil _ _ _ _, HT.below.trans (belowK_b (w := w) (Nat.le_refl _) W D _ _ (by omega) hK rfl rfl)⟩
    simp [results, Try.results8, go_sem, hc5]

theorem diceCell_any (C : CV) (P : PV) (u v n lx ly : Int) (w : World) :
    Calls Try.prog 8 #[C.v, P.v, .int .i64 u, .int .i64 v, .int .i64 n, .int .i64 lx, .int .i64 ly] w (MicOut (cellL C P lx ly u v n) w) := by
  rcases hk : inCell n u v with _ | _
  · exact diceCell_bad C P u v n lx ly w hk
  · exact (callsIn_wide (n := 3)).1 (diceCell_go C P u v n lx ly w hk)
end Go.Proofs.Ytolinlcihddkoab
