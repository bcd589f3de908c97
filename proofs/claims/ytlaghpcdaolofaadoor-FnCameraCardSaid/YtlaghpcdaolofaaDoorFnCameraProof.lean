/-
  Proved: the law FnCamera returns true for every input and its arguments read behind the call as they read before. Conditions: none of our own; those of the given row alone.
-/
import Derived.Test.YtlaghpcdaolofaaDoorRows
import Derived.Test.YtlaghpcdaolofaaDoorCards
import Derived.Test.YtlaghpcdaolofaaDoorTie
import Derived.WalkKit
import Derived.ProofKit
import Derived.OpenShut
import Derived.ShutString
import Derived.SliceStrings
import Derived.ChangeOld
import Derived.Below
import Derived.Deep.DeepHandedRow
import Derived.Lib.LaidTab
import Derived.Test.YtlaghpcdaolofaaDoorMem
import Derived.Test.YtlaghpcdaolofaaDoorKV
import Derived.Test.YtlaghpcdaolofaaDoorInts
import Derived.Test.YtlaghpcdaolofaaDoorIntS
import Derived.Test.YtlaghpcdaolofaaDoorCur
import Derived.Test.YtlaghpcdaolofaaDoorFmt
import Derived.Test.YtlaghpcdaolofaaDoorFmts
import Derived.Test.YtlaghpcdaolofaaDoorParse
import Derived.Test.YtlaghpcdaolofaaDoorParses
import Derived.Test.YtlaghpcdaolofaaDoorRound
import Derived.Test.YtlaghpcdaolofaaDoorNumsRound
import Derived.Test.YtlaghpcdaolofaaDoorDoor
import Derived.Test.YtlaghpcdaolofaaDoorDoorErr
import Derived.Test.YtlaghpcdaolofaaDoorFlat
import Derived.Test.YtlaghpcdaolofaaDoorVbox
import Derived.Test.YtlaghpcdaolofaaDoorVec
import Derived.Test.YtlaghpcdaolofaaDoorHeld
import Derived.Test.YtlaghpcdaolofaaDoorPut
import Derived.Test.YtlaghpcdaolofaaDoorCam
import Derived.Test.YtlaghpcdaolofaaDoorCFmt
import Derived.Test.YtlaghpcdaolofaaDoorCPar
import Derived.Test.YtlaghpcdaolofaaDoorCPrj
import Derived.Test.YtlaghpcdaolofaaDoorVDraw
import Derived.Test.YtlaghpcdaolofaaDoorCDraw
import Derived.Handy
import Derived.Deep.RegionHeld3
import Derived.Laws.StructEq
import Derived.Outline
namespace Go.Proofs.YtlaghpcdaolofaaDoor.fnCamera
open Go.ChangeShapes Go.WideShapes Go.ChangeAt Go.RowKit
open Go.ChangeMaps (open_string shut_string)
set_option linter.unusedVariables false

theorem own : ownKnob Tryd.prog.godebug = none := by kernel_rfl
theorem laidOut : laidOutB Tryd.prog = true := by kernel_rfl
theorem cam_selfI (a b c d : Int) (q : Bool) (f g : Int) (w : World) : (Op.equalIn 10000 24 (cam a b c d q f g) (cam a b c d q f g)).run Tryd.prog w = .ok true w := by
  have u3 := Tryd.underlying3
  have a3 := Tryd.isAgg3
  have z3 := Tryd.sizeOf3
  have u4 := Tryd.underlying4
  have a4 := Tryd.isAgg4
  have z4 := Tryd.sizeOf4
  have hS : Tryd.prog.underlying 24 = some (.struct (Tryd.prog.fieldsOf 24)) := by kernel_rfl
  have hp : Tryd.prog.stoodInHeld 24 = false := by kernel_rfl
  rw [show (10000 : Nat) = 9999 + 1 from rfl, run_equalIn_agg w 9999 24 _ _ hS hp]
  simp only [Program.fieldsOf, Tryd.underlying24]
  (cases q <;> go_simp) <;> simp
theorem cam_selfN (a b c d : Int) (q : Bool) (f g : Int) (w : World) : (binOp .neq 24 (cam a b c d q f g) (cam a b c d q f g)).run Tryd.prog w = .ok (.bool false) w := by
  rw [run_neq_struct, cam_selfI]; rfl
theorem veq_selfI (a b c : Int) (w : World) : (Op.equalIn 10000 30 (vec a b c) (vec a b c)).run Tryd.prog w = .ok true w := by
  rw [veq_in]; simp [veqB]
theorem veq_selfQ (a b c : Int) (w : World) : (binOp .eql 30 (vec a b c) (vec a b c)).run Tryd.prog w = .ok (.bool true) w := by
  rw [veq_run]; simp [veqB]
theorem shf_zero (f l g : Int) : shf f g l g = 0 := by
  unfold shf
  rw [Int.sub_self, Int.mul_zero]
  rfl
theorem at_focus {a b c d f g x y : Int} {q : Bool} (hG : CamGood a b c d f g) (hS : Small x y 0) {k : Bool} (hk : decide (d ≤ g) = k) :
    ∃ X Y Z : Int, ∀ (l m : Int), -16 ≤ l → l ≤ 16 → -16 ≤ m → m ≤ 16 → ∀ w : World, Calls Tryd.prog 11 #[cam a b c d q f g, vec x y g, .int .i64 l, .int .i64 m] w (fun E w' => E = .returned (.tuple #[vec X Y Z, .bool k]) ∧ Below w.heap.size w w') := by
  refine ⟨pjV k (pjc a c q 0 g x), pjV k (pjc b c q 0 g y), pjV k g, fun l m l0 l1 m0 m1 w => ?_⟩
  have h := project_any a b c d q f g x y g l m w
  have hok := camGood_ok hG
  unfold CamGood at hG
  obtain ⟨hx, hy, _⟩ := hS
  have e : pjB a b c d f g x y g l m = k := by
    unfold pjB
    rw [hok, (okB_iff x y g).2 ⟨by omega, by omega, by omega⟩, hk, (inC_iff ..).2 ⟨l0, l1⟩, (inC_iff ..).2 ⟨m0, m1⟩]
    cases k <;> rfl
  rw [e, shf_zero, shf_zero] at h
  exact h
theorem at_front {a b c d f g x y z : Int} {q : Bool} (hG : CamGood a b c d f g) (hS : Small x y 0) (h0 : d ≤ z) (h1 : z ≤ 1000) :
    ∃ X Y : Int, ∀ w : World, Calls Tryd.prog 11 #[cam a b c d q f g, vec x y z, .int .i64 0, .int .i64 0] w (fun E w' => E = .returned (.tuple #[vec X Y z, .bool true]) ∧ Below w.heap.size w w') := by
  refine ⟨pjc a c q (shf f g 0 z) z x, pjc b c q (shf f g 0 z) z y, fun w => ?_⟩
  have h := project_any a b c d q f g x y z 0 0 w
  have hok := camGood_ok hG
  unfold CamGood at hG
  obtain ⟨hx, hy, _⟩ := hS
  have e : pjB a b c d f g x y z 0 0 = true := by
    unfold pjB
    rw [hok, (okB_iff x y z).2 ⟨by omega, by omega, by omega⟩, decide_eq_true h0]
    rfl
  rw [e] at h
  exact h
theorem rem300 (n : Int) (h : 0 ≤ n) : 0 ≤ n.tmod 300 ∧ n.tmod 300 < 300 := ⟨Int.tmod_nonneg _ h, Int.tmod_lt_of_pos _ (by omega)⟩
theorem rem33 (n : Int) (h : 0 ≤ n) : 0 ≤ n.tmod 33 ∧ n.tmod 33 < 33 := ⟨Int.tmod_nonneg _ h, Int.tmod_lt_of_pos _ (by omega)⟩
set_option maxRecDepth 100000 in
set_option maxHeartbeats 20000000 in
theorem walk (w : World) (a0 : Option Addr) (c0 : Nat) (x0 : List Int) (r0 : Row (Value.int .u8) w w.heap.size a0 x0) (m0 : x0.length ≤ maxLen) (w0 : ∀ x ∈ x0, (Lit.int .u8 x).wf = true) (HP : Hid (Pow w)) (HE : Hid (Errs w)) :
    Calls Tryd.prog 3 #[.slice a0 x0.length c0] w fun e w' => e = .returned (.bool true) ∧ Below w.heap.size w w' := by
  have H8 : Hid (∀ x ∈ x0, 0 ≤ x ∧ x ≤ 255) := Lib.hid (fun x hx => bounds_u8 (w0 x hx))
  have HR : Hid (Row U8 w w.heap.size a0 x0) := Lib.hid r0
  clear w0 r0
  by_cases hbig : x0.length ≤ 1048576
  · go_enter Tryd.func3, Tryd.ntmps3
    go_wp2_with fail
    refine (makeCamera_any _ _ x0 _ HR.out H8.out hbig).mono ?_
    rintro e w1 ⟨a, b, c, d, q, f, g, hG, rfl, hb1⟩
    have HT := ((Held.nil w).later hb1).new #[.int .i64 a, .int .i64 b, .int .i64 c, .int .i64 d, .bool q, .int .i64 f, .int .i64 g] 24
    have HCG := Lib.hid hG
    have HI : Hid (w.heap.size ≤ w1.heap.size) := Lib.hid hb1.size
    clear hb1 hG
    have c0 := (HT.box 0).c 0
    have c1 := (HT.box 0).c 1
    have c2 := (HT.box 0).c 2
    have c3 := (HT.box 0).c 3
    have c4 := (HT.box 0).c 4
    have c5 := (HT.box 0).c 5
    have c6 := (HT.box 0).c 6
    go_wp2_with fail
    refine (formatCamera_any a b c d q f g _ (HP.out.later HT.below)).mono ?_
    rintro e w2 ⟨rfl, hb2⟩
    have HT := HT.later hb2
    have HOF := Lib.hid (camOf_fmt (e := q) (camGood_ok HCG.out))
    have HSZ := Lib.hid (fmtK_size a b c d q f g)
    obtain ⟨fs, hfs⟩ : ∃ fs, fs = fmtK a b c d q f g := ⟨_, rfl⟩
    rw [← hfs] at HOF HSZ ⊢
    clear hfs hb2 c0 c1 c2 c3 c4 c5 c6
    go_wp2_with fail
    refine (parseCamera_any fs _ HSZ.out (HP.out.later HT.below) (HE.out.later HT.below)).mono ?_
    rintro e w3 ⟨k, a', b', c', d', q', f', g', rfl, h1, h2, hb3⟩
    obtain rfl : k = true := by
      cases k
      · exact absurd HOF.out ((h2 rfl).2 _ _ _ _ _ _ _)
      · rfl
    obtain ⟨rfl, rfl, rfl, rfl, rfl, rfl, rfl⟩ := camOf_inj HOF.out (h1 rfl)
    have HT := HT.later hb3
    have hi := (HT.box 0).lt
    have hi0 := HI.out
    have HT := HT.new #[.int .i64 a, .int .i64 b, .int .i64 c, .int .i64 d, .bool q, .int .i64 f, .int .i64 g] 24
    have HR3 := Lib.hid (HR.out.later HT.below)
    have HI := Lib.hid (And.intro hi0 hi)
    clear hb3 h1 h2 HOF HSZ HP HE hi0 hi
    go_wp2_with fail
    refine (makeVec_any _ _ x0 _ _ HR3.out H8.out hbig (by omega) (by omega)).mono ?_
    rintro e w4 ⟨x, y, z, hS, rfl, hb4⟩
    have HT := HT.later hb4
    have hj := (HT.box 0).lt
    have hi := HI.out
    have HT := HT.new #[.int .i64 x, .int .i64 y, .int .i64 z] 30
    have HSM : Hid (Small x y 0) := Lib.hid ⟨hS.1, hS.2.1, by omega, by omega⟩
    have hG := HCG.out
    unfold CamGood at hG
    clear hb4 hS HI HR3
    go_upto_region 6 with fail
    generalize w4.alloc (.cells #[.int .i64 x, .int .i64 y, .int .i64 z] 30) = W at HT ⊢
    generalize w1.heap.size = i at HT hi hj ⊢
    generalize w3.heap.size = j at HT hi hj ⊢
    generalize w4.heap.size = kv at HT hi hj ⊢
    have HC : ∀ W, Held w W [(j, [.int .i64 a, .int .i64 b, .int .i64 c, .int .i64 d, .bool q, .int .i64 f, .int .i64 g]), (i, [.int .i64 a, .int .i64 b, .int .i64 c, .int .i64 d, .bool q, .int .i64 f, .int .i64 g])] → (W.cell? ⟨i, 0, none⟩ = some (.int .i64 a) ∧ W.cell? ⟨i, 1, none⟩ = some (.int .i64 b) ∧ W.cell? ⟨i, 2, none⟩ = some (.int .i64 c) ∧ W.cell? ⟨i, 3, none⟩ = some (.int .i64 d) ∧ W.cell? ⟨i, 4, none⟩ = some (.bool q) ∧ W.cell? ⟨i, 5, none⟩ = some (.int .i64 f) ∧ W.cell? ⟨i, 6, none⟩ = some (.int .i64 g)) := fun W h => ⟨(h.box 1).c 0, (h.box 1).c 1, (h.box 1).c 2, (h.box 1).c 3, (h.box 1).c 4, (h.box 1).c 5, (h.box 1).c 6⟩
    go_region_held3 (fun w' => w'.cell? ⟨i, 0, none⟩ = some (.int .i64 a) ∧ w'.cell? ⟨i, 1, none⟩ = some (.int .i64 b) ∧ w'.cell? ⟨i, 2, none⟩ = some (.int .i64 c) ∧ w'.cell? ⟨i, 3, none⟩ = some (.int .i64 d) ∧ w'.cell? ⟨i, 4, none⟩ = some (.bool q) ∧ w'.cell? ⟨i, 5, none⟩ = some (.int .i64 f) ∧ w'.cell? ⟨i, 6, none⟩ = some (.int .i64 g))
      (first | (with_reducible exact HC _ HT.tail) | (with_reducible exact HC _ HT.drew.tail) | (with_reducible exact HC _ (HT.tail.far (by omega) (by simp <;> omega) _)) | (with_reducible exact HC _ (HT.drew.tail.far (by omega) (by simp <;> omega) _)))
      (first | (go_at_call 10; refine (makeNum_any _ _ x0 _ _ (by first | with_reducible exact HR.out.later HT.below | with_reducible exact HR.out.later HT.drew.below) H8.out hbig (by omega) (by omega)).mono ?_; rintro E w5 ⟨n, n0, n1, rfl, hb1⟩; (first | (have HT := HT.later hb1) | (have HT := HT.drew.later hb1)); have v2 := (HT.box 0).c 2; have f2 := (HT.box 0).f 2; have hn := rem300 n n0; have wn : IntKind.i64.wrap (d + n.tmod 300) = d + n.tmod 300 := wrap_in (by omega)))
    have HT := HT.put (by omega) (by simp <;> omega) 2 (.int .i64 (d + n.tmod 300))
    simp only [List.set_cons_zero, List.set_cons_succ] at HT
    have hZ0 : d ≤ d + n.tmod 300 := by omega
    have hZ1 : d + n.tmod 300 ≤ 1000 := by omega
    clear v2 f2 wn hn n0 n1
    generalize w5.setCell ⟨kv, 2, none⟩ (.int .i64 (d + n.tmod 300)) = W6 at HT ⊢
    generalize d + n.tmod 300 = Z at HT hZ0 hZ1 ⊢
    obtain ⟨X, Y, HPF⟩ := at_front (q := q) HCG.out HSM.out hZ0 hZ1
    have HPF := Lib.hid HPF
    obtain ⟨k, hk⟩ : ∃ k, decide (d ≤ g) = k := ⟨_, rfl⟩
    obtain ⟨X2, Y2, Z2, HPG⟩ := at_focus (q := q) HCG.out HSM.out hk
    have HPG := Lib.hid HPG
    have HK := Lib.hid hk
    clear hk hZ0 hZ1 HC
    have c0 := (HT.box 2).c 0
    have c1 := (HT.box 2).c 1
    have c2 := (HT.box 2).c 2
    have c3 := (HT.box 2).c 3
    have c4 := (HT.box 2).c 4
    have c5 := (HT.box 2).c 5
    have c6 := (HT.box 2).c 6
    have v0 := (HT.box 0).c 0
    have v1 := (HT.box 0).c 1
    have v2 := (HT.box 0).c 2
    go_wp2_with fail
    refine (HPF.out _).mono ?_
    rintro E w7 ⟨rfl, hb7⟩
    have HT := HT.later hb7
    have hv := (HT.box 0).lt
    have HT := HT.new #[.int .i64 X, .int .i64 Y, .int .i64 Z] 30
    have hka : w.heap.size ≤ w7.heap.size := by omega
    have HVA := Lib.hid (And.intro hv hka)
    clear hb7 HPF c0 c1 c2 c3 c4 c5 c6 v0 v1 v2 hv hka
    go_upto_region 8 with fail
    generalize w7.alloc (.cells #[.int .i64 X, .int .i64 Y, .int .i64 Z] 30) = W7 at HT ⊢
    generalize w7.heap.size = ka at HT HVA ⊢
    have hv := HVA.out.1
    have hka := HVA.out.2
    have e1 := cam_selfN a b c d q f g
    have c0 := (HT.box 3).c 0
    have c1 := (HT.box 3).c 1
    have c2 := (HT.box 3).c 2
    have c3 := (HT.box 3).c 3
    have c4 := (HT.box 3).c 4
    have c5 := (HT.box 3).c 5
    have c6 := (HT.box 3).c 6
    have d0 := (HT.box 2).c 0
    have d1 := (HT.box 2).c 1
    have d2 := (HT.box 2).c 2
    have d3 := (HT.box 2).c 3
    have d4 := (HT.box 2).c 4
    have d5 := (HT.box 2).c 5
    have d6 := (HT.box 2).c 6
    have v0 := (HT.box 1).c 0
    have v1 := (HT.box 1).c 1
    have v2 := (HT.box 1).c 2
    have u0 := (HT.box 0).c 0
    have u1 := (HT.box 0).c 1
    have u2 := (HT.box 0).c 2
    have fv2 := (HT.box 1).f 2
    go_upto_region 11 with fail
    have HT := (HT.pick (cs := [(kv, [.int .i64 x, .int .i64 y, .int .i64 Z]), (ka, [.int .i64 X, .int .i64 Y, .int .i64 Z]), (j, [.int .i64 a, .int .i64 b, .int .i64 c, .int .i64 d, .bool q, .int .i64 f, .int .i64 g]), (i, [.int .i64 a, .int .i64 b, .int .i64 c, .int .i64 d, .bool q, .int .i64 f, .int .i64 g])]) (by simp)).put (by omega) (by simp <;> omega) 2 (.int .i64 g)
    simp only [List.set_cons_zero, List.set_cons_succ] at HT
    clear fv2 e1 c0 d0 c1 d1 c2 d2 c3 d3 c4 d4 c5 d5 c6 d6 v0 v1 v2 u0 u1 u2
    generalize W7.setCell ⟨kv, 2, none⟩ (.int .i64 g) = W8 at HT ⊢
    have c0 := (HT.box 3).c 0
    have c1 := (HT.box 3).c 1
    have c2 := (HT.box 3).c 2
    have c3 := (HT.box 3).c 3
    have c4 := (HT.box 3).c 4
    have c5 := (HT.box 3).c 5
    have c6 := (HT.box 3).c 6
    have v0 := (HT.box 0).c 0
    have v1 := (HT.box 0).c 1
    have v2 := (HT.box 0).c 2
    go_wp2_with fail
    refine (HPG.out 0 0 (by omega) (by omega) (by omega) (by omega) _).mono ?_
    rintro E w9 ⟨rfl, hb9⟩
    have HT := (HT.pick (cs := [(ka, [.int .i64 X, .int .i64 Y, .int .i64 Z]), (kv, [.int .i64 x, .int .i64 y, .int .i64 g]), (j, [.int .i64 a, .int .i64 b, .int .i64 c, .int .i64 d, .bool q, .int .i64 f, .int .i64 g]), (i, [.int .i64 a, .int .i64 b, .int .i64 c, .int .i64 d, .bool q, .int .i64 f, .int .i64 g])]) (by simp)).later hb9
    clear hb9 c0 c1 c2 c3 c4 c5 c6 v0 v1 v2
    have u0 := (HT.box 0).c 0
    have u1 := (HT.box 0).c 1
    have u2 := (HT.box 0).c 2
    have fu0 := (HT.box 0).f 0
    have fu1 := (HT.box 0).f 1
    have fu2 := (HT.box 0).f 2
    go_upto_region 12 with fail
    have HT := ((HT.put (by omega) (by simp <;> omega) 0 (.int .i64 X2)).put (by omega) (by simp <;> omega) 1 (.int .i64 Y2)).put (by omega) (by simp <;> omega) 2 (.int .i64 Z2)
    simp only [List.set_cons_zero, List.set_cons_succ] at HT
    clear u0 u1 u2 fu0 fu1 fu2
    generalize ((w9.setCell ⟨ka, 0, none⟩ (.int .i64 X2)).setCell ⟨ka, 1, none⟩ (.int .i64 Y2)).setCell ⟨ka, 2, none⟩ (.int .i64 Z2) = W10 at HT ⊢
    have HC : ∀ W, Held w W [(ka, [.int .i64 X2, .int .i64 Y2, .int .i64 Z2]), (kv, [.int .i64 x, .int .i64 y, .int .i64 g]), (j, [.int .i64 a, .int .i64 b, .int .i64 c, .int .i64 d, .bool q, .int .i64 f, .int .i64 g]), (i, [.int .i64 a, .int .i64 b, .int .i64 c, .int .i64 d, .bool q, .int .i64 f, .int .i64 g])] → (W.cell? ⟨i, 0, none⟩ = some (.int .i64 a) ∧ W.cell? ⟨i, 1, none⟩ = some (.int .i64 b) ∧ W.cell? ⟨i, 2, none⟩ = some (.int .i64 c) ∧ W.cell? ⟨i, 3, none⟩ = some (.int .i64 d) ∧ W.cell? ⟨i, 4, none⟩ = some (.bool q) ∧ W.cell? ⟨i, 5, none⟩ = some (.int .i64 f) ∧ W.cell? ⟨i, 6, none⟩ = some (.int .i64 g) ∧ W.cell? ⟨kv, 0, none⟩ = some (.int .i64 x) ∧ W.cell? ⟨kv, 1, none⟩ = some (.int .i64 y) ∧ W.cell? ⟨kv, 2, none⟩ = some (.int .i64 g)) := fun W h => ⟨(h.box 3).c 0, (h.box 3).c 1, (h.box 3).c 2, (h.box 3).c 3, (h.box 3).c 4, (h.box 3).c 5, (h.box 3).c 6, (h.box 1).c 0, (h.box 1).c 1, (h.box 1).c 2⟩
    have hz0 := (HT.box 0).lt
    have hz1 := (HT.box 1).lt
    have hz2 := (HT.box 2).lt
    have hz3 := (HT.box 3).lt
    go_cut [9, 10] (fun s p wx => ∃ gg : Nat, s = .pointer (some ⟨gg, 0, none⟩) ∧ p = .bool k ∧ Mbox wx gg [.int .i64 X2, .int .i64 Y2, .int .i64 Z2] ∧ Held w wx [(ka, [.int .i64 X2, .int .i64 Y2, .int .i64 Z2]), (kv, [.int .i64 x, .int .i64 y, .int .i64 g]), (j, [.int .i64 a, .int .i64 b, .int .i64 c, .int .i64 d, .bool q, .int .i64 f, .int .i64 g]), (i, [.int .i64 a, .int .i64 b, .int .i64 c, .int .i64 d, .bool q, .int .i64 f, .int .i64 g])])
    case first =>
      go_region_held3 (fun w' => w'.cell? ⟨i, 0, none⟩ = some (.int .i64 a) ∧ w'.cell? ⟨i, 1, none⟩ = some (.int .i64 b) ∧ w'.cell? ⟨i, 2, none⟩ = some (.int .i64 c) ∧ w'.cell? ⟨i, 3, none⟩ = some (.int .i64 d) ∧ w'.cell? ⟨i, 4, none⟩ = some (.bool q) ∧ w'.cell? ⟨i, 5, none⟩ = some (.int .i64 f) ∧ w'.cell? ⟨i, 6, none⟩ = some (.int .i64 g) ∧ w'.cell? ⟨kv, 0, none⟩ = some (.int .i64 x) ∧ w'.cell? ⟨kv, 1, none⟩ = some (.int .i64 y) ∧ w'.cell? ⟨kv, 2, none⟩ = some (.int .i64 g))
        (first | (with_reducible exact HC _ HT) | (with_reducible exact HC _ HT.drew) | (with_reducible exact HC _ (HT.alloc _)) | (with_reducible exact HC _ (HT.alloc _).drew) | (with_reducible exact HC _ (HT.far3 (by omega) (by simp <;> omega) _ _ _)) | (with_reducible exact HC _ (HT.far3 (by omega) (by simp <;> omega) _ _ _).drew))
        (first | (go_at_call 10; refine (makeNum_any _ _ x0 _ _ (by first | with_reducible exact HR.out.later HT.below | with_reducible exact HR.out.later HT.drew.below | with_reducible exact HR.out.later (HT.alloc _).below | with_reducible exact HR.out.later (HT.alloc _).drew.below) H8.out hbig (by omega) (by omega)).mono ?_; rintro E w1 ⟨n, n0, n1, rfl, hb1⟩; (first | (have HT := HT.later hb1) | (have HT := HT.drew.later hb1) | (have HT := (HT.alloc _).later hb1) | (have HT := (HT.alloc _).drew.later hb1)); have hn := rem33 n n0; have wn : IntKind.i64.wrap (n.tmod 33 - 16) = n.tmod 33 - 16 := wrap_in (by omega); have hz0 := (HT.box 0).lt; have hz1 := (HT.box 1).lt; have hz2 := (HT.box 2).lt; have hz3 := (HT.box 3).lt; (first | (have HG := (Mbox.newV _ (.int .i64 0) (.int .i64 0) (.int .i64 0) 30).later hb1) | (have HG := (Mbox.newV _ (.int .i64 0) (.int .i64 0) (.int .i64 0) 30).drew.later hb1) | (have HG := HG.later hb1) | skip); (try simp only [World.size_alloc] at HG); (try (have hg0 := HG.c 0; have gg0 := HG.f 0; have hg1 := HG.c 1; have gg1 := HG.f 1; have hg2 := HG.c 2; have gg2 := HG.f 2))) | (go_at_call 11; refine (HPG.out _ _ (by omega) (by omega) (by omega) (by omega) _).mono ?_; rintro E w1 ⟨rfl, hb1⟩; (first | (have HT := HT.later hb1) | (have HT := HT.drew.later hb1) | (have HT := (HT.alloc _).later hb1) | (have HT := (HT.alloc _).drew.later hb1)); have hz0 := (HT.box 0).lt; have hz1 := (HT.box 1).lt; have hz2 := (HT.box 2).lt; have hz3 := (HT.box 3).lt; (first | (have HG := (Mbox.newV _ (.int .i64 0) (.int .i64 0) (.int .i64 0) 30).later hb1) | (have HG := (Mbox.newV _ (.int .i64 0) (.int .i64 0) (.int .i64 0) 30).drew.later hb1) | (have HG := HG.later hb1) | skip); (try simp only [World.size_alloc] at HG); (try (have hg0 := HG.c 0; have gg0 := HG.f 0; have hg1 := HG.c 1; have gg1 := HG.f 1; have hg2 := HG.c 2; have gg2 := HG.f 2))))
      all_goals (go_wp2_with fail; go_meet)
      all_goals (first | with_reducible exact ⟨_, rfl, rfl, Mbox.newV _ _ _ _ _, HT.alloc _⟩ | with_reducible exact ⟨_, rfl, rfl, HG.putV _ _ _, HT.far3 (by omega) (by simp <;> omega) _ _ _⟩)
    case rest =>
      clear HC HT hz0 hz1 hz2 hz3
      obtain ⟨gb, rfl, rfl, HV, HT⟩ := hcut
      have HT := HT.cons HV
      have hk := HK.out
      clear HV HK HPG
      have e2 := veq_selfI X2 Y2 Z2
      have e3 := veq_selfQ X2 Y2 Z2
      have c0 := (HT.box 4).c 0
      have c1 := (HT.box 4).c 1
      have c2 := (HT.box 4).c 2
      have c3 := (HT.box 4).c 3
      have c4 := (HT.box 4).c 4
      have c5 := (HT.box 4).c 5
      have c6 := (HT.box 4).c 6
      have u0 := (HT.box 1).c 0
      have u1 := (HT.box 1).c 1
      have u2 := (HT.box 1).c 2
      have v0 := (HT.box 0).c 0
      have v1 := (HT.box 0).c 1
      have v2 := (HT.box 0).c 2
      cases k
      · have hk' : ¬ d ≤ g := by simpa using hk
        go_wp2_with fail
        go_ret
        exact ⟨rfl, HT.below⟩
      · have hk' : d ≤ g := by simpa using hk
        go_wp2_with fail
        go_ret
        exact ⟨rfl, HT.below⟩
  · go_enter Tryd.func3, Tryd.ntmps3
    go_wp2_with fail
    go_ret
    exact ⟨rfl, Below.refl _ _⟩

set_option maxRecDepth 100000 in
theorem contract (H : Type) (enc : TypeId × Value → H) (W : World) (base : Nat) (args : Array Value) (ds gs : List (DataW H)) (before : List MemPlace)
    (hval : ∀ (j : Nat) t v, Tryd.f3.params[j]? = some t → args[j]? = some v → Value.okWide Tryd.prog W .any base t v)
    (hW : DataW.Whole enc Tryd.prog Tryd.f3.params.toList Rows.fnCameraSpec.vars false W args.toList ds gs before) (hL : laidMetH Tryd.prog Rows.fnCameraRow.laid W) :
    Calls Tryd.prog 3 args W fun e W' => ∃ v, e = .returned v ∧ Rows.fnCameraSpec.post enc Tryd.prog Tryd.f3 false true false false W args v W' := by
  have hW' := hW
  obtain ⟨p, q, hA0, hV, rfl, hfz, hnd⟩ := hW
  have hA : DataW.TrodAll enc Tryd.prog W 0 (fun _ => true) true Tryd.f3.params.toList args.toList ds p := hA0
  rw [Tryd.params3] at hA hval
  obtain ⟨v0, vs0, d0, ds0, p0, q0, hargs, rfl, rfl, h0, r1000⟩ := trodAll_cons hA
  obtain ⟨rfl, rfl, rfl⟩ := trodAll_nil r1000
  obtain rfl : args = #[v0] := by cases args; simp_all
  obtain ⟨rfl, rfl⟩ := trodVars_none hV
  obtain ⟨a0, len0, cap0, rfl⟩ := okWide_slice Tryd.underlying22 (hval 0 22 v0 rfl rfl)
  have k0 := h0
  have lt0 : ∀ x ∈ p0, x.block < W.heap.size := by obtain ⟨m, hm⟩ := k0; exact DataW.trod_lt m _ _ _ hm
  obtain ⟨x0, rfl, r0, m0, w0⟩ : ∃ xs : List Int, len0 = xs.length ∧ Row (Value.int .u8) W W.heap.size a0 xs ∧ xs.length ≤ maxLen ∧ ∀ x ∈ xs, (Lit.int .u8 x).wf = true := by
    obtain ⟨fuel, hf⟩ := h0
    rcases open_ints Tryd.underlying22 Tryd.underlying5 (by kernel_rfl) hf with ⟨hcs, _⟩ | ⟨x, l, c, zs, hcs, _, hl, hm, hz, _, hcell, hwz⟩
    · simp [Value.cells] at hcs
      obtain ⟨rfl, rfl, rfl⟩ := hcs
      exact ⟨[], rfl, Row.nil, Nat.zero_le _, fun x hx => by cases hx⟩
    · simp [Value.cells] at hcs
      obtain ⟨rfl, rfl, rfl⟩ := hcs
      exact row_of_cells (d := (0 : Int)) hl hm (by simpa using hz) hcell hwz
  clear hA0
  refine (walk W a0 cap0 x0 r0 m0 w0 (Lib.hid (pow_of _ (by kernel_rfl) hL)) (Lib.hid (errs_of _ (by kernel_rfl) (by kernel_rfl) hL))).mono fun e W' ⟨he, bel⟩ => ?_
  subst he
  exact ⟨_, rfl, _, _, _, [], _, [], hW', trodAll_mk1 (shut_bool Tryd.underlying4 _), (trodAll_cons_mk (Below.trod laidOut (by kernel_rfl) (of_decide_eq_true (by kernel_rfl)) k0 bel lt0) trodAll_mk0), rfl, bel.frame _, fun h => by cases h⟩

theorem laid_met (os : Os) : laidMet Tryd.prog Rows.fnCameraRow.laid ((laidWorldE os).forCall (fun _ _ => 0) ⟨#[], #[.slice none 0 0], []⟩).memory :=
  laidMet_of_run' 8 (by kernel_rfl) (by kernel_rfl)
theorem reads (os : Os) {H : Type} (enc : TypeId × Value → H) : ∃ d places, DataW.whole enc Tryd.prog ((laidWorldE os).forCall (fun _ _ => 0) ⟨#[], #[.slice none 0 0], []⟩).memory Tryd.f3.params.toList Rows.fnCameraSpec.vars false (#[.slice none 0 0] : Array Value).toList 8 = some (d, [], places) :=
  ⟨[.nil], [], by kernel_rfl⟩
set_option maxRecDepth 100000 in
theorem lifted (os : Os) (started : os.Started) (H : Type) (enc : TypeId × Value → H) (F : Stop.Interp) :
    ReturnsInHanded {} Tryd.checked os 3 .any ((OpenSpec.ofChange Rows.fnCameraSpec).preRow enc Tryd.prog Tryd.f3 Rows.fnCameraRow.domain false Rows.fnCameraRow.laid) (((OpenSpec.ofChange Rows.fnCameraSpec).at F).post enc Tryd.prog Tryd.f3 false true false false) := by
  obtain ⟨d, places, hx⟩ := reads os enc
  refine returnsInHanded_of_row (C := Tryd.checked) (s := OpenSpec.ofChange Rows.fnCameraSpec) own started (by kernel_rfl) Tryd.func3
    (witness_row_atRef (enc := enc) (C := Tryd.checked) false (laidWorldE os) #[.slice none 0 0] rfl (by kernel_rfl) (by kernel_rfl) (by kernel_rfl)
      (OpenSpec.preRow_of_cond 8 hx (by kernel_rfl) (fun k hk => by cases hk) (by kernel_rfl) (laid_met os))) ?_
  intro W base args ds gs before hval hW _ _ _ hL _ _
  exact contract H enc W base args ds gs before hval hW hL
theorem said : Rows.FnCameraSaid :=
  OpenClaim.holds_of_cond 3 Tryd.f3 rfl rfl rfl rfl rfl rfl rfl ⟨rfl, rfl, rfl, rfl, rfl⟩ rfl rfl rfl rfl rfl (by kernel_rfl) Tryd.func3 (by kernel_rfl)
    (of_decide_eq_true (by kernel_rfl)) (by unfold Func.isWrapper; first | (rw [if_pos (by decide +kernel)]; kernel_rfl) | (rw [if_neg (by decide +kernel)]; exact ⟨rfl, rfl⟩))
    (fun os started H enc _ F => by rw [OpenClaim.pre_eq_preRow]; exact lifted os started H enc F)
theorem plain (f : FuncId) (fn : Func) (hf : Tryd.pinned.checked.prog.funcNamed "loop.example/g00809/laws.FnCamera" = some f) (hfn : Tryd.pinned.checked.prog.funcs[f]? = some fn) :
    true = Tryd.pinned.checked.prog.looks [] ∧ ∀ (j : Nat) t, fn.params[j]? = some t → Tryd.pinned.checked.prog.wantsStandIn t = false := by
  obtain rfl : f = 3 := Option.some.inj ((show Tryd.prog.funcNamed "loop.example/g00809/laws.FnCamera" = some 3 by kernel_rfl).symm.trans hf) |>.symm
  obtain rfl : fn = Tryd.f3 := (Option.some.inj (Tryd.func3.symm.trans hfn)).symm
  refine ⟨by kernel_rfl, fun j t ht => ?_⟩
  rw [Tryd.params3] at ht
  have hm := Array.mem_of_getElem? ht
  simp only [List.mem_toArray, List.mem_cons, List.not_mem_nil, or_false] at hm
  rcases hm with rfl
  · exact (show Tryd.prog.wantsStandIn 22 = false by kernel_rfl)
theorem proved : Rows.FnCameraCardSaid :=
  Claim7.holds_tied_plain_at .later [] _ _ _ _ said (fun _ h => by cases h) (by kernel_rfl) (fun _ h => by cases h) fnCamera_row_tie rfl ⟨rfl, rfl⟩ (by kernel_rfl) rfl plain (by kernel_rfl)
#print axioms proved
end Go.Proofs.YtlaghpcdaolofaaDoor.fnCamera
