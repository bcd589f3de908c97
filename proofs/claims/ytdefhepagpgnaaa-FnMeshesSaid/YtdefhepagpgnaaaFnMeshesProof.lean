/-
  Proved: the law FnMeshes returns true for every input and its arguments read behind the call as they read before. Conditions: none of our own; those of the given row alone.
-/
import Derived.Test.YtdefhepagpgnaaaRows
import Derived.WalkKit
import Derived.ProofKit
import Derived.OpenShut
import Derived.ShutString
import Derived.SliceStrings
import Derived.ChangeOld
import Derived.Below
import Derived.Test.YtdefhepagpgnaaaMem
import Derived.Test.YtdefhepagpgnaaaInts
import Derived.Test.YtdefhepagpgnaaaIntS
import Derived.Test.YtdefhepagpgnaaaCur
import Derived.Test.YtdefhepagpgnaaaFlat
import Derived.Test.YtdefhepagpgnaaaVbox
import Derived.Test.YtdefhepagpgnaaaVec
import Derived.Test.YtdefhepagpgnaaaHeld
import Derived.Test.YtdefhepagpgnaaaRowC
import Derived.Test.YtdefhepagpgnaaaVecS
import Derived.Test.YtdefhepagpgnaaaSS
import Derived.Test.YtdefhepagpgnaaaMkA
import Derived.Test.YtdefhepagpgnaaaMkB
import Derived.Test.YtdefhepagpgnaaaMkC
import Derived.Test.YtdefhepagpgnaaaMkD
import Derived.Test.YtdefhepagpgnaaaMF
import Derived.Test.YtdefhepagpgnaaaMH
import Derived.Test.YtdefhepagpgnaaaMM
import Derived.Test.YtdefhepagpgnaaaMV
import Derived.Test.YtdefhepagpgnaaaMEd
import Derived.Test.YtdefhepagpgnaaaMLw
import Derived.Test.YtdefhepagpgnaaaMBd
import Derived.Test.YtdefhepagpgnaaaMEu
import Derived.Test.YtdefhepagpgnaaaMFw
import Derived.Test.YtdefhepagpgnaaaMFp
import Derived.Test.YtdefhepagpgnaaaKp
import Derived.Test.YtdefhepagpgnaaaKx
import Derived.Test.YtdefhepagpgnaaaLf
import Derived.Test.YtdefhepagpgnaaaLn
import Derived.Test.YtdefhepagpgnaaaKd
import Derived.Handy
import Derived.Deep.RegionHeld3
import Derived.Deep.DeepCutAuto
namespace Go.Proofs.Ytdefhepagpgnaaa.fnMeshes
open Go.ChangeShapes Go.WideShapes Go.ChangeAt Go.RowKit
open Go.ChangeMaps (open_string shut_string)
set_option linter.unusedVariables false

theorem own : ownKnob Try.prog.godebug = none := by kernel_rfl
theorem laidOut : laidOutB Try.prog = true := by kernel_rfl
def MsOut (P : List V3) (F : List (List Int)) (w : World) (e : Ending) (w' : World) : Prop := ∃ A1 c1 A2 c2, e = .returned (.tuple #[mv A1 A2 P.length c1 F.length c2, .bool true]) ∧ MeshIn w' A1 A2 P F ∧ Below w.heap.size w w'
def LnOut (n : Nat) (w : World) (e : Ending) (w' : World) : Prop := ∃ A c, e = .returned (.slice A n c) ∧ Below w.heap.size w w'
def BlOut (b : Bool) (w : World) (e : Ending) (w' : World) : Prop := e = .returned (.bool b) ∧ Below w.heap.size w w'
def InOut (n : Int) (w : World) (e : Ending) (w' : World) : Prop := e = .returned (.int .i64 n) ∧ Below w.heap.size w w'
theorem ln_d {n : Nat} {w w' : World} {e : Ending} (h : LnOut n w e w') : ∃ A c, e = .returned (.slice A n c) ∧ Below w.heap.size w w' := h
theorem bl_d {b : Bool} {w w' : World} {e : Ending} (h : BlOut b w e w') : e = .returned (.bool b) ∧ Below w.heap.size w w' := h
theorem in_d {n : Int} {w w' : World} {e : Ending} (h : InOut n w e w') : e = .returned (.int .i64 n) ∧ Below w.heap.size w w' := h
theorem ln_of {w w' : World} {xss : List (List Int)} {e : Ending} {n : Nat} (h : SSOut w xss e w') (hn : xss.length = n) : LnOut n w e w' := by
  obtain ⟨A, c, _, he, _, _, hb⟩ := h.own
  exact ⟨A, c, by rw [he, hn], hb⟩
theorem ln_pat {w w' : World} {xs : List Q4} {e : Ending} {n : Nat} (h : PatsOut w xs e w') (hn : xs.length = n) : LnOut n w e w' := by
  obtain ⟨A, c, he, _, hb⟩ := h
  exact ⟨A, c, by rw [he, hn], hb⟩
/-- what a mesh and its subdivision answer -/
def Answers (vs P : List V3) (fs F : List (List Int)) (ne nb nb2 : Nat) (E : Int) (C : Bool) : Prop :=
  (∀ A1 A2 c1 c2 (w : World), MeshIn w A1 A2 vs fs → Calls Try.prog 11 #[mv A1 A2 vs.length c1 fs.length c2] w (LnOut ne w)) ∧
  (∀ A1 A2 c1 c2 (w : World), MeshIn w A1 A2 P F → Calls Try.prog 12 #[mv A1 A2 P.length c1 F.length c2] w (BlOut true w)) ∧
  (∀ A1 A2 c1 c2 (w : World), MeshIn w A1 A2 vs fs → Calls Try.prog 13 #[mv A1 A2 vs.length c1 fs.length c2] w (InOut E w)) ∧
  (∀ A1 A2 c1 c2 (w : World), MeshIn w A1 A2 P F → Calls Try.prog 13 #[mv A1 A2 P.length c1 F.length c2] w (InOut E w)) ∧
  (∀ A1 A2 c1 c2 (w : World), MeshIn w A1 A2 vs fs → Calls Try.prog 14 #[mv A1 A2 vs.length c1 fs.length c2] w (BlOut C w)) ∧
  (∀ A1 A2 c1 c2 (w : World), MeshIn w A1 A2 P F → Calls Try.prog 14 #[mv A1 A2 P.length c1 F.length c2] w (BlOut C w)) ∧
  (∀ A1 A2 c1 c2 (w : World), MeshIn w A1 A2 vs fs → Calls Try.prog 15 #[mv A1 A2 vs.length c1 fs.length c2] w (LnOut nb w)) ∧
  (∀ A1 A2 c1 c2 (w : World), MeshIn w A1 A2 P F → Calls Try.prog 15 #[mv A1 A2 P.length c1 F.length c2] w (LnOut nb2 w)) ∧
  (∀ A1 A2 c1 c2 (w : World), MeshIn w A1 A2 P F → Calls Try.prog 16 #[mv A1 A2 P.length c1 F.length c2] w (LnOut F.length w))
set_option maxHeartbeats 8000000 in
theorem mesh_calls {vs : List V3} {fs : List (List Int)} (hmm : MadeMesh vs fs) : ∃ ne nb nb2 nq E C P F, P.length = vs.length + ne + fs.length ∧ F.length = nq ∧ nq = 4 * fs.length ∧ nb2 = 2 * nb ∧ ne ≤ 1000 ∧ nb ≤ 1000 ∧
    (∀ A1 A2 c1 c2 (w : World), MeshIn w A1 A2 vs fs → Calls Try.prog 10 #[mv A1 A2 vs.length c1 fs.length c2] w (MsOut P F w)) ∧ Answers vs P fs F ne nb nb2 E C := by
  obtain ⟨hok, hsb, hok2, heu, hcl, hbd, hin, h0⟩ := meshes_ok hmm.1 hmm.chk
  have hf := made_fits hmm
  have hf2 := sub_fits hsb
  obtain ⟨_, _, h80⟩ := (subOk_iff _ _).1 hsb
  have hbl : (bdL vs fs).length ≤ 1000 := by
    have h1 : (bdL vs fs).length ≤ (edL vs fs).length := by rw [bdL_ok hok, edL_ok hok]; exact List.length_filter_le _ _
    omega
  refine ⟨(edL vs fs).length, (bdL vs fs).length, (bdL (subP vs fs) (subF vs fs)).length, (subF vs fs).length, eulerI vs fs, closedB vs fs, subP vs fs, subF vs fs, subP_len _ _, rfl, subF_len _ _, hbd, by omega, hbl, fun A1 A2 c1 c2 w hI => ?_, fun A1 A2 c1 c2 w hI => ?_, fun A1 A2 c1 c2 w hI => ?_, fun A1 A2 c1 c2 w hI => ?_, fun A1 A2 c1 c2 w hI => ?_, fun A1 A2 c1 c2 w hI => ?_, fun A1 A2 c1 c2 w hI => ?_, fun A1 A2 c1 c2 w hI => ?_, fun A1 A2 c1 c2 w hI => ?_, fun A1 A2 c1 c2 w hI => ?_⟩
  · refine (subdivide_any A1 A2 c1 c2 vs fs w hI hf).mono ?_
    rintro e w' hp
    unfold sbP sbF at hp
    rw [hsb] at hp
    exact mesh_read hp (fun f hf => by have := subF_four f hf; omega)
  · exact (edges_any A1 A2 c1 c2 vs fs w hI hf).mono fun _ _ h => ln_of h (by simp)
  · have h := isValidMesh_any A1 A2 c1 c2 _ _ w hI hf2
    rw [hok2] at h
    exact h
  · exact euler_any A1 A2 c1 c2 vs fs w hI hf
  · have h := euler_any A1 A2 c1 c2 _ _ w hI hf2
    rw [heu] at h
    exact h
  · exact isClosed_any A1 A2 c1 c2 vs fs w hI hf
  · have h := isClosed_any A1 A2 c1 c2 _ _ w hI hf2
    rw [hcl] at h
    exact h
  · exact (boundary_any A1 A2 c1 c2 vs fs w hI hf).mono fun _ _ h => ln_of h (by simp)
  · exact (boundary_any A1 A2 c1 c2 _ _ w hI hf2).mono fun _ _ h => ln_of h (by simp)
  · exact (facePatches_any A1 A2 c1 c2 _ _ w hI hf2).mono fun _ _ h => ln_pat h (by unfold patL; rw [if_pos hok2, List.length_map])
/-- two meshes and their boxes -/
def Both (w W : World) (bs : List (Nat × List Value)) (A1 A2 A3 A4 : Option Addr) (vs P : List V3) (fs F : List (List Int)) : Prop := Held w W bs ∧ MeshIn W A1 A2 vs fs ∧ MeshIn W A3 A4 P F
theorem Both.later {w W W' : World} {bs : List (Nat × List Value)} {A1 A2 A3 A4 : Option Addr} {vs P : List V3} {fs F : List (List Int)} (h : Both w W bs A1 A2 A3 A4 vs P fs F) (hb : Below W.heap.size W W') : Both w W' bs A1 A2 A3 A4 vs P fs F := ⟨h.1.later hb, h.2.1.later hb, h.2.2.later hb⟩
theorem Both.drew {w W : World} {bs : List (Nat × List Value)} {A1 A2 A3 A4 : Option Addr} {vs P : List V3} {fs F : List (List Int)} (h : Both w W bs A1 A2 A3 A4 vs P fs F) : Both w W.drew bs A1 A2 A3 A4 vs P fs F := ⟨h.1.drew, h.2.1.drew, h.2.2.drew⟩
set_option maxRecDepth 100000 in
set_option maxHeartbeats 32000000 in
theorem walk (w : World) (a0 : Option Addr) (c0 : Nat) (x0 : List Int) (r0 : Row (Value.int .u8) w w.heap.size a0 x0) (m0 : x0.length ≤ maxLen) (w0 : ∀ x ∈ x0, (Lit.int .u8 x).wf = true) :
    Calls Try.prog 3 #[.slice a0 x0.length c0] w fun e w' => e = .returned (.bool true) ∧ Below w.heap.size w w' := by
  have H8 : Hid (∀ x ∈ x0, 0 ≤ x ∧ x ≤ 255) := Lib.hid (fun x hx => bounds_u8 (w0 x hx))
  have HR : Hid (Row U8 w w.heap.size a0 x0) := Lib.hid r0
  clear w0 r0
  by_cases hbig : x0.length ≤ 1048576
  · go_enter Try.func3, Try.ntmps3
    go_wp2_with fail
    refine (makeMesh_any _ _ x0 _ HR.out H8.out hbig).mono ?_
    rintro e w1 ⟨A1, c1, A2, c2, vs, fs, rfl, hmm, hin, hb1, hc1⟩
    obtain ⟨ne, nb, nb2, nq, E, C, P, F, hP, hF, hq4, hb22, hne, hnb, hS, hAN⟩ := mesh_calls hmm
    obtain ⟨n, hn⟩ : ∃ n, n = vs.length := ⟨_, rfl⟩
    obtain ⟨nf, hnf⟩ : ∃ n, n = fs.length := ⟨_, rfl⟩
    obtain ⟨np, hnp⟩ : ∃ n, n = P.length := ⟨_, rfl⟩
    have hS1 : ∀ (w : World), MeshIn w A1 A2 vs fs → Calls Try.prog 10 #[mv A1 A2 n c1 nf c2] w (fun e w' => ∃ A1 c1 A2 c2, e = .returned (.tuple #[mv A1 A2 np c1 nq c2, .bool true]) ∧ MeshIn w' A1 A2 P F ∧ Below w.heap.size w w') := fun w h => by
      rw [hn, hnf, hnp, ← hF]; exact hS A1 A2 c1 c2 w h
    have hn8 : n ≤ 8 := by have := (made_four hmm).1; omega
    have hnf8 : nf ≤ 6 := by have := (made_four hmm).2.2.1; omega
    rw [← hn, ← hnf]
    rw [← hn, ← hnf, ← hnp] at hP
    rw [← hnf] at hq4
    have HSU := Lib.hid hS1
    have HAN := Lib.hid (And.intro hAN (And.intro hn (And.intro hnf (And.intro hnp hF))))
    have HNN := Lib.hid (And.intro hP (And.intro hq4 hb22))
    have hnq : nq ≤ 24 := by omega
    have hnp1 : np ≤ 2000 := by omega
    have HM := Lib.hid (hin.alloc (.cells #[.slice A1 n c1, .slice A2 nf c2] 26))
    have HT := Lib.hid (((Held.nil w).later hb1).new #[.slice A1 n c1, .slice A2 nf c2] 26)
    clear hS hS1 hAN hin hb1 hmm hn hnf hnp hc1 hP hF hq4 hb22 HR H8
    have c0 := (HT.out.box 0).c 0
    have c1' := (HT.out.box 0).c 1
    go_wp2_with fail
    refine (HSU.out _ HM.out).mono ?_
    rintro e w3 ⟨A3, c3, A4, c4, rfl, hin, hb3⟩
    generalize w1.heap.size = k1 at HT ⊢
    have HQ : Both w (w3.alloc (.cells #[.slice A3 np c3, .slice A4 nq c4] 26)) [(w3.heap.size, [.slice A3 np c3, .slice A4 nq c4]), (k1, [.slice A1 n c1, .slice A2 nf c2])] A1 A2 A3 A4 vs P fs F := ⟨(HT.out.later hb3).new #[.slice A3 np c3, .slice A4 nq c4] 26, (HM.out.later hb3).alloc _, hin.alloc _⟩
    clear hin hb3 HSU c0 c1' HT HM
    have HC : ∀ W, Both w W [(w3.heap.size, [.slice A3 np c3, .slice A4 nq c4]), (k1, [.slice A1 n c1, .slice A2 nf c2])] A1 A2 A3 A4 vs P fs F → (W.cell? ⟨k1, 0, none⟩ = some (.slice A1 n c1) ∧ W.cell? ⟨k1, 1, none⟩ = some (.slice A2 nf c2) ∧ W.cell? ⟨w3.heap.size, 0, none⟩ = some (.slice A3 np c3) ∧ W.cell? ⟨w3.heap.size, 1, none⟩ = some (.slice A4 nq c4)) := fun W h => ⟨(h.1.box 1).c 0, (h.1.box 1).c 1, (h.1.box 0).c 0, (h.1.box 0).c 1⟩
    obtain ⟨⟨hE1, hV2, hU1, hU2, hC1, hC2, hB1, hB2, hP2⟩, hn, hnf, hnp, hF⟩ := HAN.out
    have HE1 : Hid (∀ W : World, Both w W [(w3.heap.size, [.slice A3 np c3, .slice A4 nq c4]), (k1, [.slice A1 n c1, .slice A2 nf c2])] A1 A2 A3 A4 vs P fs F → Calls Try.prog 11 #[mv A1 A2 n c1 nf c2] W (LnOut ne W)) := Lib.hid (fun W h => by rw [hn, hnf]; exact hE1 _ _ _ _ W h.2.1)
    have HV2 : Hid (∀ W : World, Both w W [(w3.heap.size, [.slice A3 np c3, .slice A4 nq c4]), (k1, [.slice A1 n c1, .slice A2 nf c2])] A1 A2 A3 A4 vs P fs F → Calls Try.prog 12 #[mv A3 A4 np c3 nq c4] W (BlOut true W)) := Lib.hid (fun W h => by rw [hnp, ← hF]; exact hV2 _ _ _ _ W h.2.2)
    have HU1 : Hid (∀ W : World, Both w W [(w3.heap.size, [.slice A3 np c3, .slice A4 nq c4]), (k1, [.slice A1 n c1, .slice A2 nf c2])] A1 A2 A3 A4 vs P fs F → Calls Try.prog 13 #[mv A1 A2 n c1 nf c2] W (InOut E W)) := Lib.hid (fun W h => by rw [hn, hnf]; exact hU1 _ _ _ _ W h.2.1)
    have HU2 : Hid (∀ W : World, Both w W [(w3.heap.size, [.slice A3 np c3, .slice A4 nq c4]), (k1, [.slice A1 n c1, .slice A2 nf c2])] A1 A2 A3 A4 vs P fs F → Calls Try.prog 13 #[mv A3 A4 np c3 nq c4] W (InOut E W)) := Lib.hid (fun W h => by rw [hnp, ← hF]; exact hU2 _ _ _ _ W h.2.2)
    have HC1 : Hid (∀ W : World, Both w W [(w3.heap.size, [.slice A3 np c3, .slice A4 nq c4]), (k1, [.slice A1 n c1, .slice A2 nf c2])] A1 A2 A3 A4 vs P fs F → Calls Try.prog 14 #[mv A1 A2 n c1 nf c2] W (BlOut C W)) := Lib.hid (fun W h => by rw [hn, hnf]; exact hC1 _ _ _ _ W h.2.1)
    have HC2 : Hid (∀ W : World, Both w W [(w3.heap.size, [.slice A3 np c3, .slice A4 nq c4]), (k1, [.slice A1 n c1, .slice A2 nf c2])] A1 A2 A3 A4 vs P fs F → Calls Try.prog 14 #[mv A3 A4 np c3 nq c4] W (BlOut C W)) := Lib.hid (fun W h => by rw [hnp, ← hF]; exact hC2 _ _ _ _ W h.2.2)
    have HB1 : Hid (∀ W : World, Both w W [(w3.heap.size, [.slice A3 np c3, .slice A4 nq c4]), (k1, [.slice A1 n c1, .slice A2 nf c2])] A1 A2 A3 A4 vs P fs F → Calls Try.prog 15 #[mv A1 A2 n c1 nf c2] W (LnOut nb W)) := Lib.hid (fun W h => by rw [hn, hnf]; exact hB1 _ _ _ _ W h.2.1)
    have HB2 : Hid (∀ W : World, Both w W [(w3.heap.size, [.slice A3 np c3, .slice A4 nq c4]), (k1, [.slice A1 n c1, .slice A2 nf c2])] A1 A2 A3 A4 vs P fs F → Calls Try.prog 15 #[mv A3 A4 np c3 nq c4] W (LnOut nb2 W)) := Lib.hid (fun W h => by rw [hnp, ← hF]; exact hB2 _ _ _ _ W h.2.2)
    have HP2 : Hid (∀ W : World, Both w W [(w3.heap.size, [.slice A3 np c3, .slice A4 nq c4]), (k1, [.slice A1 n c1, .slice A2 nf c2])] A1 A2 A3 A4 vs P fs F → Calls Try.prog 16 #[mv A3 A4 np c3 nq c4] W (LnOut nq W)) := Lib.hid (fun W h => by rw [hnp, ← hF]; exact hP2 _ _ _ _ W h.2.2)
    clear HAN hE1 hV2 hU1 hU2 hC1 hC2 hB1 hB2 hP2 hn hnf hnp hF
    have z1 : IntKind.i64.wrap ((n : Int) + (ne : Int)) = (n : Int) + (ne : Int) := wrap_in (by omega)
    have z2 : IntKind.i64.wrap ((n : Int) + (ne : Int) + (nf : Int)) = (np : Int) := by have := HNN.out.1; rw [wrap_in (by omega)]; omega
    go_upto_region 5 with fail
    go_cut [6] (fun x wx => x = .int .i64 np ∧ Both w wx [(w3.heap.size, [.slice A3 np c3, .slice A4 nq c4]), (k1, [.slice A1 n c1, .slice A2 nf c2])] A1 A2 A3 A4 vs P fs F)
    case first =>
      clear HV2 HU1 HU2 HC1 HC2 HB1 HB2 HP2
      go_region_held3 (fun W => (W.cell? ⟨k1, 0, none⟩ = some (.slice A1 n c1) ∧ W.cell? ⟨k1, 1, none⟩ = some (.slice A2 nf c2) ∧ W.cell? ⟨w3.heap.size, 0, none⟩ = some (.slice A3 np c3) ∧ W.cell? ⟨w3.heap.size, 1, none⟩ = some (.slice A4 nq c4)))
        (first | (with_reducible exact HC _ HQ) | (with_reducible exact HC _ HQ.drew))
        (first | (go_at_call 11; with_reducible refine (HE1.out _ (by first | with_reducible exact HQ | with_reducible exact HQ.drew)).mono ?_; rintro e w6 hl9; obtain ⟨A9, c9, rfl, hb1⟩ := ln_d hl9; (first | (have HQ := HQ.later hb1) | (have HQ := HQ.drew.later hb1))))
      all_goals (go_wp2_with fail; go_meet)
      all_goals (first | with_reducible exact ⟨rfl, HQ⟩ | with_reducible exact ⟨rfl, HQ.drew⟩)
    case rest =>
      clear HQ z1 z2 HE1
      obtain ⟨rfl, HQ⟩ := hcut
      have z1 : IntKind.i64.wrap (4 * (nf : Int)) = (nq : Int) := by have := HNN.out.2.1; rw [wrap_in (by omega)]; omega
      have z2 : IntKind.i64.wrap (2 * (nb : Int)) = (nb2 : Int) := by have := HNN.out.2.2; rw [wrap_in (by omega)]; omega
      go_upto_region 8 with fail
      go_region_held3 (fun W => (W.cell? ⟨k1, 0, none⟩ = some (.slice A1 n c1) ∧ W.cell? ⟨k1, 1, none⟩ = some (.slice A2 nf c2) ∧ W.cell? ⟨w3.heap.size, 0, none⟩ = some (.slice A3 np c3) ∧ W.cell? ⟨w3.heap.size, 1, none⟩ = some (.slice A4 nq c4)))
        (first | (with_reducible exact HC _ HQ) | (with_reducible exact HC _ HQ.drew))
        (first | (go_at_call 12; with_reducible refine (HV2.out _ (by first | with_reducible exact HQ | with_reducible exact HQ.drew)).mono ?_; rintro e w6 hl9; obtain ⟨rfl, hb1⟩ := bl_d hl9; (first | (have HQ := HQ.later hb1) | (have HQ := HQ.drew.later hb1))) | (go_at_call 13; with_reducible refine (HU1.out _ (by first | with_reducible exact HQ | with_reducible exact HQ.drew)).mono ?_; rintro e w6 hl9; obtain ⟨rfl, hb1⟩ := in_d hl9; (first | (have HQ := HQ.later hb1) | (have HQ := HQ.drew.later hb1))) | (go_at_call 13; with_reducible refine (HU2.out _ (by first | with_reducible exact HQ | with_reducible exact HQ.drew)).mono ?_; rintro e w6 hl9; obtain ⟨rfl, hb1⟩ := in_d hl9; (first | (have HQ := HQ.later hb1) | (have HQ := HQ.drew.later hb1))) | (go_at_call 14; with_reducible refine (HC1.out _ (by first | with_reducible exact HQ | with_reducible exact HQ.drew)).mono ?_; rintro e w6 hl9; obtain ⟨rfl, hb1⟩ := bl_d hl9; (first | (have HQ := HQ.later hb1) | (have HQ := HQ.drew.later hb1))) | (go_at_call 14; with_reducible refine (HC2.out _ (by first | with_reducible exact HQ | with_reducible exact HQ.drew)).mono ?_; rintro e w6 hl9; obtain ⟨rfl, hb1⟩ := bl_d hl9; (first | (have HQ := HQ.later hb1) | (have HQ := HQ.drew.later hb1))) | (go_at_call 15; with_reducible refine (HB1.out _ (by first | with_reducible exact HQ | with_reducible exact HQ.drew)).mono ?_; rintro e w6 hl9; obtain ⟨A9, c9, rfl, hb1⟩ := ln_d hl9; (first | (have HQ := HQ.later hb1) | (have HQ := HQ.drew.later hb1))) | (go_at_call 15; with_reducible refine (HB2.out _ (by first | with_reducible exact HQ | with_reducible exact HQ.drew)).mono ?_; rintro e w6 hl9; obtain ⟨A9, c9, rfl, hb1⟩ := ln_d hl9; (first | (have HQ := HQ.later hb1) | (have HQ := HQ.drew.later hb1))) | (go_at_call 16; with_reducible refine (HP2.out _ (by first | with_reducible exact HQ | with_reducible exact HQ.drew)).mono ?_; rintro e w6 hl9; obtain ⟨A9, c9, rfl, hb1⟩ := ln_d hl9; (first | (have HQ := HQ.later hb1) | (have HQ := HQ.drew.later hb1))))
      all_goals clear z1 z2
      all_goals go_wp2_with fail
      all_goals go_ret
      all_goals exact ⟨rfl, HQ.1.below⟩
  · go_enter Try.func3, Try.ntmps3
    go_wp2_with fail
    go_ret
    exact ⟨rfl, Below.refl _ _⟩

set_option maxRecDepth 100000 in
theorem lifted (os : Os) (started : os.Started) (H : Type) (enc : TypeId × Value → H) :
    ReturnsInHanded {} Try.checked os 3 .any (Rows.fnMeshesSpec.pre6 enc Try.prog Try.f3 Rows.fnMeshesRow.domain false) (Rows.fnMeshesSpec.post enc Try.prog Try.f3 false true false false) := by
  refine returnsInHanded_of_change (C := Try.checked) own started (by kernel_rfl) Try.func3
    (ChangeSpec.witness6 (enc := enc) (C := Try.checked) false ⟨#[], #[.slice none 0 0], []⟩ 8 (by kernel_rfl) (by kernel_rfl) (by kernel_rfl) (by kernel_rfl)) ?_
  intro W base args ds gs before hval0 hW hcnd _
  have hval : ∀ (j : Nat) t v, Try.f3.params[j]? = some t → args[j]? = some v → Value.okWide Try.prog W .any base t v := hval0
  have hW' := hW
  obtain ⟨p, q, hA0, hV, rfl, hfz, hnd⟩ := hW
  have hA : DataW.TrodAll enc Try.prog W 0 (fun _ => true) true Try.f3.params.toList args.toList ds p := hA0
  rw [Try.params3] at hA hval
  obtain ⟨v0, vs0, d0, ds0, p0, q0, hargs, rfl, rfl, h0, r1000⟩ := trodAll_cons hA
  obtain ⟨rfl, rfl, rfl⟩ := trodAll_nil r1000
  obtain rfl : args = #[v0] := by cases args; simp_all
  obtain ⟨rfl, rfl⟩ := trodVars_none hV
  obtain ⟨a0, len0, cap0, rfl⟩ := okWide_slice Try.underlying22 (hval 0 22 v0 rfl rfl)
  have k0 := h0
  have lt0 : ∀ x ∈ p0, x.block < W.heap.size := by obtain ⟨m, hm⟩ := k0; exact DataW.trod_lt m _ _ _ hm
  obtain ⟨x0, rfl, r0, m0, w0⟩ : ∃ xs : List Int, len0 = xs.length ∧ Row (Value.int .u8) W W.heap.size a0 xs ∧ xs.length ≤ maxLen ∧ ∀ x ∈ xs, (Lit.int .u8 x).wf = true := by
    obtain ⟨fuel, hf⟩ := h0
    rcases open_ints Try.underlying22 Try.underlying5 (by kernel_rfl) hf with ⟨hcs, _⟩ | ⟨x, l, c, zs, hcs, _, hl, hm, hz, _, hcell, hwz⟩
    · simp [Value.cells] at hcs
      obtain ⟨rfl, rfl, rfl⟩ := hcs
      exact ⟨[], rfl, Row.nil, Nat.zero_le _, fun x hx => by cases hx⟩
    · simp [Value.cells] at hcs
      obtain ⟨rfl, rfl, rfl⟩ := hcs
      exact row_of_cells (d := (0 : Int)) hl hm (by simpa using hz) hcell hwz
  clear hA0
  refine (walk W a0 cap0 x0 r0 m0 w0).mono fun e W' ⟨he, bel⟩ => ?_
  subst he
  exact ⟨_, rfl, _, _, _, [], _, [], hW', trodAll_mk1 (shut_bool Try.underlying4 _), (trodAll_cons_mk (Below.trod laidOut (by kernel_rfl) (of_decide_eq_true (by kernel_rfl)) k0 bel lt0) trodAll_mk0), rfl, bel.frame _, fun h => by cases h⟩

theorem proved : Rows.FnMeshesSaid :=
  OpenClaim.holds_of_wide 3 Try.f3 rfl rfl rfl rfl rfl rfl rfl ⟨rfl, rfl, rfl, rfl, rfl⟩ rfl rfl rfl rfl rfl (by kernel_rfl) Try.func3 (by kernel_rfl)
    (of_decide_eq_true (by kernel_rfl)) (by unfold Func.isWrapper; first | (rw [if_pos (by decide +kernel)]; kernel_rfl) | (rw [if_neg (by decide +kernel)]; exact ⟨rfl, rfl⟩))
    (fun os started H enc _ => lifted os started H enc)
#print axioms proved
end Go.Proofs.Ytdefhepagpgnaaa.fnMeshes
