/-
  Proved: the law FnRaster returns true for every input and its arguments read behind the call as they read before. Conditions: none of our own; those of the given row alone.
-/
import Derived.Test.YtjjafbcfmijppaaRows
import Derived.WalkKit
import Derived.ProofKit
import Derived.OpenShut
import Derived.ShutString
import Derived.SliceStrings
import Derived.ChangeOld
import Derived.Below
import Derived.Test.YtjjafbcfmijppaaMem
import Derived.Test.YtjjafbcfmijppaaInts
import Derived.Test.YtjjafbcfmijppaaIntS
import Derived.Test.YtjjafbcfmijppaaCur
import Derived.Test.YtjjafbcfmijppaaFlat
import Derived.Test.YtjjafbcfmijppaaVbox
import Derived.Test.YtjjafbcfmijppaaVec
import Derived.Test.YtjjafbcfmijppaaHeld
import Derived.Test.YtjjafbcfmijppaaArr
import Derived.Test.YtjjafbcfmijppaaTr
import Derived.Test.YtjjafbcfmijppaaRowC
import Derived.Test.YtjjafbcfmijppaaPat
import Derived.Test.YtjjafbcfmijppaaCam
import Derived.Test.YtjjafbcfmijppaaCPrj
import Derived.Test.YtjjafbcfmijppaaTri
import Derived.Test.YtjjafbcfmijppaaTCl
import Derived.Test.YtjjafbcfmijppaaTEd
import Derived.Test.YtjjafbcfmijppaaTSd
import Derived.Test.YtjjafbcfmijppaaTAr
import Derived.Test.YtjjafbcfmijppaaTPu
import Derived.Test.YtjjafbcfmijppaaTCo
import Derived.Test.YtjjafbcfmijppaaTDr
import Derived.Test.YtjjafbcfmijppaaTAt
import Derived.Handy
import Derived.Deep.RegionHeld3
import Derived.BigQuiet
import Derived.Deep.QuietTactic
namespace Go.Proofs.Ytjjafbcfmijppaa.fnRaster
open Go.ChangeShapes Go.WideShapes Go.ChangeAt Go.RowKit
open Go.ChangeMaps (open_string shut_string)
set_option linter.unusedVariables false

theorem own : ownKnob Try.prog.godebug = none := by kernel_rfl
theorem laidOut : laidOutB Try.prog = true := by kernel_rfl
set_option maxRecDepth 100000 in
set_option maxHeartbeats 20000000 in
theorem walk (w : World) (a0 : Option Addr) (c0 : Nat) (x0 : List Int) (r0 : Row (Value.int .u8) w w.heap.size a0 x0) (m0 : x0.length ≤ maxLen) (w0 : ∀ x ∈ x0, (Lit.int .u8 x).wf = true) :
    Calls Try.prog 3 #[.slice a0 x0.length c0] w fun e w' => e = .returned (.bool true) ∧ Below w.heap.size w w' := by
  have H8 : Hid (∀ x ∈ x0, 0 ≤ x ∧ x ≤ 255) := Lib.hid (fun x hx => bounds_u8 (w0 x hx))
  have HR : Hid (Row U8 w w.heap.size a0 x0) := Lib.hid r0
  clear w0 r0
  by_cases hbig : x0.length ≤ 1048576
  · go_enter Try.func3, Try.ntmps3
    go_wp2_with fail
    refine (makeTri_any _ _ x0 _ HR.out H8.out hbig).mono ?_
    rintro e w1 ⟨a0, a1, a2, a3, a4, a5, a6, a7, a8, p, q, x, y, hv, rfl, hb1⟩
    have HT : Held w (((w1.alloc (.cells #[.int .i64 a0, .int .i64 a1, .int .i64 a2, .int .i64 a3, .int .i64 a4, .int .i64 a5, .int .i64 a6, .int .i64 a7, .int .i64 a8] 27)).alloc (.cells #[.int .i64 p, .int .i64 q, .int .i64 0] 24)).alloc (.cells #[.int .i64 x, .int .i64 y, .int .i64 0] 24)) [(w1.heap.size + 1 + 1, [.int .i64 x, .int .i64 y, .int .i64 0]), (w1.heap.size + 1, [.int .i64 p, .int .i64 q, .int .i64 0]), (w1.heap.size, [.int .i64 a0, .int .i64 a1, .int .i64 a2, .int .i64 a3, .int .i64 a4, .int .i64 a5, .int .i64 a6, .int .i64 a7, .int .i64 a8])] := by
      have h := ((((Held.nil w).later hb1).new #[.int .i64 a0, .int .i64 a1, .int .i64 a2, .int .i64 a3, .int .i64 a4, .int .i64 a5, .int .i64 a6, .int .i64 a7, .int .i64 a8] 27).new #[.int .i64 p, .int .i64 q, .int .i64 0] 24).new #[.int .i64 x, .int .i64 y, .int .i64 0] 24
      simpa only [World.size_alloc] using h
    have hs1 := hb1.size
    clear H8 HR hbig hb1
    go_upto_region 4 with fail
    obtain ⟨W1, hW1⟩ : ∃ W, W = ((w1.alloc (.cells #[.int .i64 a0, .int .i64 a1, .int .i64 a2, .int .i64 a3, .int .i64 a4, .int .i64 a5, .int .i64 a6, .int .i64 a7, .int .i64 a8] 27)).alloc (.cells #[.int .i64 p, .int .i64 q, .int .i64 0] 24)).alloc (.cells #[.int .i64 x, .int .i64 y, .int .i64 0] 24) := ⟨_, rfl⟩
    rw [← hW1] at HT ⊢
    clear hW1
    generalize w1.heap.size = k1 at HT hs1 ⊢
    have i0 : inS a0 ∧ inS a1 := by obtain ⟨h, _, _⟩ := hv; unfold cor at h; unfold inS; omega
    have i1 : inS a3 ∧ inS a4 := by obtain ⟨_, h, _⟩ := hv; unfold cor at h; unfold inS; omega
    have i2 : inS a6 ∧ inS a7 := by obtain ⟨_, _, h⟩ := hv; unfold cor at h; unfold inS; omega
    have HK : ∀ w : World, Calls Try.prog 12 #[mat 0 0 0 8 0 0 0 8 0, .int .i64 2, .int .i64 2] w (BOut true w) := fun w => covers_any 0 0 0 8 0 0 0 8 0 2 2 w
    obtain ⟨cp, ep⟩ : ∃ b, b = covP a0 a1 a3 a4 a6 a7 p q := ⟨_, rfl⟩
    obtain ⟨cq, eq_⟩ : ∃ b, b = covP a0 a1 a3 a4 a6 a7 x y := ⟨_, rfl⟩
    have HP : ∀ w : World, Calls Try.prog 12 #[mat a0 a1 a2 a3 a4 a5 a6 a7 a8, .int .i64 p, .int .i64 q] w (BOut cp w) := fun w => by rw [ep]; exact covers_any a0 a1 a2 a3 a4 a5 a6 a7 a8 p q w
    have HQ : ∀ w : World, Calls Try.prog 12 #[mat a0 a1 a2 a3 a4 a5 a6 a7 a8, .int .i64 x, .int .i64 y] w (BOut cq w) := fun w => by rw [eq_]; exact covers_any a0 a1 a2 a3 a4 a5 a6 a7 a8 x y w
    have HF : ∀ w : World, Calls Try.prog 12 #[mat a0 a1 a2 a6 a7 a8 a3 a4 a5, .int .i64 x, .int .i64 y] w (BOut cq w) := fun w => by
      have h := covers_any a0 a1 a2 a6 a7 a8 a3 a4 a5 x y w
      rw [cov_flip i0 i1 i2, ← eq_] at h
      exact h
    obtain ⟨g0, eg0⟩ : ∃ b, b = covP a0 a1 a3 a4 p q x y := ⟨_, rfl⟩
    have HG0 : ∀ w : World, Calls Try.prog 12 #[mat a0 a1 a2 a3 a4 a5 p q 0, .int .i64 x, .int .i64 y] w (BOut g0 w) := fun w => by rw [eg0]; exact covers_any a0 a1 a2 a3 a4 a5 p q 0 x y w
    obtain ⟨g1, eg1⟩ : ∃ b, b = covP a3 a4 a6 a7 p q x y := ⟨_, rfl⟩
    have HG1 : ∀ w : World, Calls Try.prog 12 #[mat a3 a4 a5 a6 a7 a8 p q 0, .int .i64 x, .int .i64 y] w (BOut g1 w) := fun w => by rw [eg1]; exact covers_any a3 a4 a5 a6 a7 a8 p q 0 x y w
    obtain ⟨g2, eg2⟩ : ∃ b, b = covP a6 a7 a0 a1 p q x y := ⟨_, rfl⟩
    have HG2 : ∀ w : World, Calls Try.prog 12 #[mat a6 a7 a8 a0 a1 a2 p q 0, .int .i64 x, .int .i64 y] w (BOut g2 w) := fun w => by rw [eg2]; exact covers_any a6 a7 a8 a0 a1 a2 p q 0 x y w
    have HRS : cp = true → (g0 && g1) = false ∧ (g1 && g2) = false ∧ (g0 && g2) = false ∧ (g0 || (g1 || g2)) = cq := fun h => by
      rw [eg0, eg1, eg2, eq_]
      exact raster i0 i1 i2 (ep.symm.trans h) x y
    clear ep eq_ eg0 eg1 eg2 i0 i1 i2 hv
    have HK := Lib.hid HK
    have HP := Lib.hid HP
    have HQ := Lib.hid HQ
    have HF := Lib.hid HF
    have HG0 := Lib.hid HG0
    have HG1 := Lib.hid HG1
    have HG2 := Lib.hid HG2
    have HRS := Lib.hid HRS
    have HS1 := Lib.hid hs1
    clear hs1
    go_wp2_with fail
    refine (HK.out _).mono ?_
    rintro e w2 ⟨rfl, hb2⟩
    have HT := HT.later hb2
    clear hb2 HK
    have c0 := (HT.box 2).c 0
    have c1 := (HT.box 2).c 1
    have c2 := (HT.box 2).c 2
    have c3 := (HT.box 2).c 3
    have c4 := (HT.box 2).c 4
    have c5 := (HT.box 2).c 5
    have c6 := (HT.box 2).c 6
    have c7 := (HT.box 2).c 7
    have c8 := (HT.box 2).c 8
    have d0 := (HT.box 1).c 0
    have d1 := (HT.box 1).c 1
    have d2 := (HT.box 1).c 2
    go_wp2_with fail
    refine (HP.out _).mono ?_
    rintro e w3 ⟨rfl, hb3⟩
    have HT := HT.later hb3
    clear hb3 c0 c1 c2 c3 c4 c5 c6 c7 c8 d0 d1 d2 HP
    rcases cp with _ | _
    · have HC : ∀ W, Held w W [(k1 + 1 + 1, [.int .i64 x, .int .i64 y, .int .i64 0]), (k1 + 1, [.int .i64 p, .int .i64 q, .int .i64 0]), (k1, [.int .i64 a0, .int .i64 a1, .int .i64 a2, .int .i64 a3, .int .i64 a4, .int .i64 a5, .int .i64 a6, .int .i64 a7, .int .i64 a8])] → (W.cell? ⟨k1, 0, none⟩ = some (.int .i64 a0) ∧ W.cell? ⟨k1, 1, none⟩ = some (.int .i64 a1) ∧ W.cell? ⟨k1, 2, none⟩ = some (.int .i64 a2) ∧ W.cell? ⟨k1, 3, none⟩ = some (.int .i64 a3) ∧ W.cell? ⟨k1, 4, none⟩ = some (.int .i64 a4) ∧ W.cell? ⟨k1, 5, none⟩ = some (.int .i64 a5) ∧ W.cell? ⟨k1, 6, none⟩ = some (.int .i64 a6) ∧ W.cell? ⟨k1, 7, none⟩ = some (.int .i64 a7) ∧ W.cell? ⟨k1, 8, none⟩ = some (.int .i64 a8) ∧ W.cell? ⟨k1 + 1 + 1, 0, none⟩ = some (.int .i64 x) ∧ W.cell? ⟨k1 + 1 + 1, 1, none⟩ = some (.int .i64 y) ∧ W.cell? ⟨k1 + 1 + 1, 2, none⟩ = some (.int .i64 0)) := fun W h => ⟨(h.box 2).c 0, (h.box 2).c 1, (h.box 2).c 2, (h.box 2).c 3, (h.box 2).c 4, (h.box 2).c 5, (h.box 2).c 6, (h.box 2).c 7, (h.box 2).c 8, (h.box 0).c 0, (h.box 0).c 1, (h.box 0).c 2⟩
      go_wp2_with fail
      go_region_held3 (fun w' => w'.cell? ⟨k1, 0, none⟩ = some (.int .i64 a0) ∧ w'.cell? ⟨k1, 1, none⟩ = some (.int .i64 a1) ∧ w'.cell? ⟨k1, 2, none⟩ = some (.int .i64 a2) ∧ w'.cell? ⟨k1, 3, none⟩ = some (.int .i64 a3) ∧ w'.cell? ⟨k1, 4, none⟩ = some (.int .i64 a4) ∧ w'.cell? ⟨k1, 5, none⟩ = some (.int .i64 a5) ∧ w'.cell? ⟨k1, 6, none⟩ = some (.int .i64 a6) ∧ w'.cell? ⟨k1, 7, none⟩ = some (.int .i64 a7) ∧ w'.cell? ⟨k1, 8, none⟩ = some (.int .i64 a8) ∧ w'.cell? ⟨k1 + 1 + 1, 0, none⟩ = some (.int .i64 x) ∧ w'.cell? ⟨k1 + 1 + 1, 1, none⟩ = some (.int .i64 y) ∧ w'.cell? ⟨k1 + 1 + 1, 2, none⟩ = some (.int .i64 0))
        (first | (with_reducible exact HC _ HT) | (with_reducible exact HC _ HT.drew))
        (first | (go_at_call 12; (with_reducible refine (HQ.out _).mono ?_); rintro e w1 ⟨rfl, hb1⟩; (first | (have HT := HT.later hb1) | (have HT := HT.drew.later hb1))) | (go_at_call 13; (with_reducible refine (flipTriangle_any _ _ _ _ _ _ _ _ _ _).mono ?_); rintro e w1 ⟨rfl, hb1⟩; (first | (have HT := HT.later hb1) | (have HT := HT.drew.later hb1))) | (go_at_call 12; (with_reducible refine (HF.out _).mono ?_); rintro e w1 ⟨rfl, hb1⟩; (first | (have HT := HT.later hb1) | (have HT := HT.drew.later hb1))))
      go_wp2_with fail
      go_ret
      exact ⟨by simp, HT.below⟩
    · have HR3 := Lib.hid (HRS.out rfl)
      clear HRS
      obtain ⟨s0, s1, s2, H0, H1, H2⟩ : ∃ s0 s1 s2 : Int, ((s0 = 1 ∧ g0 = true) ∨ (s0 = 0 ∧ g0 = false)) ∧ ((s1 = 1 ∧ g1 = true) ∨ (s1 = 0 ∧ g1 = false)) ∧ ((s2 = 1 ∧ g2 = true) ∨ (s2 = 0 ∧ g2 = false)) :=
        ⟨if g0 = true then 1 else 0, if g1 = true then 1 else 0, if g2 = true then 1 else 0, by cases g0 <;> simp, by cases g1 <;> simp, by cases g2 <;> simp⟩
      have b0 : 0 ≤ s0 ∧ s0 ≤ 1 := by omega
      have b1 : 0 ≤ s1 ∧ s1 ≤ 1 := by omega
      have HH := Lib.hid HT
      clear HT
      go_wp2
      go_loopw [7, 6] (fun i nn wr => (i = .int .i64 0 ∧ nn = .int .i64 0 ∧ Held w wr [(k1 + 1 + 1, [.int .i64 x, .int .i64 y, .int .i64 0]), (k1 + 1, [.int .i64 p, .int .i64 q, .int .i64 0]), (k1, [.int .i64 a0, .int .i64 a1, .int .i64 a2, .int .i64 a3, .int .i64 a4, .int .i64 a5, .int .i64 a6, .int .i64 a7, .int .i64 a8])]) ∨ (i = .int .i64 1 ∧ nn = .int .i64 s0 ∧ Held w wr [(k1 + 1 + 1, [.int .i64 x, .int .i64 y, .int .i64 0]), (k1 + 1, [.int .i64 p, .int .i64 q, .int .i64 0]), (k1, [.int .i64 a0, .int .i64 a1, .int .i64 a2, .int .i64 a3, .int .i64 a4, .int .i64 a5, .int .i64 a6, .int .i64 a7, .int .i64 a8])]) ∨ (i = .int .i64 2 ∧ nn = .int .i64 (s0 + s1) ∧ Held w wr [(k1 + 1 + 1, [.int .i64 x, .int .i64 y, .int .i64 0]), (k1 + 1, [.int .i64 p, .int .i64 q, .int .i64 0]), (k1, [.int .i64 a0, .int .i64 a1, .int .i64 a2, .int .i64 a3, .int .i64 a4, .int .i64 a5, .int .i64 a6, .int .i64 a7, .int .i64 a8])]) ∨ (i = .int .i64 3 ∧ nn = .int .i64 (s0 + s1 + s2) ∧ Held w wr [(k1 + 1 + 1, [.int .i64 x, .int .i64 y, .int .i64 0]), (k1 + 1, [.int .i64 p, .int .i64 q, .int .i64 0]), (k1, [.int .i64 a0, .int .i64 a1, .int .i64 a2, .int .i64 a3, .int .i64 a4, .int .i64 a5, .int .i64 a6, .int .i64 a7, .int .i64 a8])])) (fun i _ _ => 3 - (intOf i).toNat)
      case atStart => exact Or.inl ⟨rfl, rfl, HH.out⟩
      case round =>
        clear HH
        rcases hrel with ⟨rfl, rfl, HT⟩ | ⟨rfl, rfl, HT⟩ | ⟨rfl, rfl, HT⟩ | ⟨rfl, rfl, HT⟩
        · have nk : IntKind.i64.wrap (0 + 1) = 1 := by rfl
          have nk2 : IntKind.i64.wrap 1 = 1 := by rfl
          have nk3 : Int.tmod 1 3 = 1 := by rfl
          have HC : ∀ W, Held w W [(k1 + 1 + 1, [.int .i64 x, .int .i64 y, .int .i64 0]), (k1 + 1, [.int .i64 p, .int .i64 q, .int .i64 0]), (k1, [.int .i64 a0, .int .i64 a1, .int .i64 a2, .int .i64 a3, .int .i64 a4, .int .i64 a5, .int .i64 a6, .int .i64 a7, .int .i64 a8])] → (W.cell? ⟨k1, 0, none⟩ = some (.int .i64 a0) ∧ W.cell? ⟨k1, 1, none⟩ = some (.int .i64 a1) ∧ W.cell? ⟨k1, 2, none⟩ = some (.int .i64 a2) ∧ W.cell? ⟨k1, 3, none⟩ = some (.int .i64 a3) ∧ W.cell? ⟨k1, 4, none⟩ = some (.int .i64 a4) ∧ W.cell? ⟨k1, 5, none⟩ = some (.int .i64 a5) ∧ W.cell? ⟨k1, 6, none⟩ = some (.int .i64 a6) ∧ W.cell? ⟨k1, 7, none⟩ = some (.int .i64 a7) ∧ W.cell? ⟨k1, 8, none⟩ = some (.int .i64 a8) ∧ W.cell? ⟨k1 + 1, 0, none⟩ = some (.int .i64 p) ∧ W.cell? ⟨k1 + 1, 1, none⟩ = some (.int .i64 q) ∧ W.cell? ⟨k1 + 1, 2, none⟩ = some (.int .i64 0) ∧ W.cell? ⟨k1 + 1 + 1, 0, none⟩ = some (.int .i64 x) ∧ W.cell? ⟨k1 + 1 + 1, 1, none⟩ = some (.int .i64 y) ∧ W.cell? ⟨k1 + 1 + 1, 2, none⟩ = some (.int .i64 0)) := fun W h => ⟨(h.box 2).c 0, (h.box 2).c 1, (h.box 2).c 2, (h.box 2).c 3, (h.box 2).c 4, (h.box 2).c 5, (h.box 2).c 6, (h.box 2).c 7, (h.box 2).c 8, (h.box 1).c 0, (h.box 1).c 1, (h.box 1).c 2, (h.box 0).c 0, (h.box 0).c 1, (h.box 0).c 2⟩
          rcases H0 with ⟨hy, hx⟩ | ⟨hy, hx⟩
          all_goals
            have hy := Lib.hid hy
            go_wp2_with fail
            go_region_held3 (fun w' => w'.cell? ⟨k1, 0, none⟩ = some (.int .i64 a0) ∧ w'.cell? ⟨k1, 1, none⟩ = some (.int .i64 a1) ∧ w'.cell? ⟨k1, 2, none⟩ = some (.int .i64 a2) ∧ w'.cell? ⟨k1, 3, none⟩ = some (.int .i64 a3) ∧ w'.cell? ⟨k1, 4, none⟩ = some (.int .i64 a4) ∧ w'.cell? ⟨k1, 5, none⟩ = some (.int .i64 a5) ∧ w'.cell? ⟨k1, 6, none⟩ = some (.int .i64 a6) ∧ w'.cell? ⟨k1, 7, none⟩ = some (.int .i64 a7) ∧ w'.cell? ⟨k1, 8, none⟩ = some (.int .i64 a8) ∧ w'.cell? ⟨k1 + 1, 0, none⟩ = some (.int .i64 p) ∧ w'.cell? ⟨k1 + 1, 1, none⟩ = some (.int .i64 q) ∧ w'.cell? ⟨k1 + 1, 2, none⟩ = some (.int .i64 0) ∧ w'.cell? ⟨k1 + 1 + 1, 0, none⟩ = some (.int .i64 x) ∧ w'.cell? ⟨k1 + 1 + 1, 1, none⟩ = some (.int .i64 y) ∧ w'.cell? ⟨k1 + 1 + 1, 2, none⟩ = some (.int .i64 0))
              (first | (with_reducible exact HC _ HT) | (with_reducible exact HC _ HT.drew))
              (first | (go_at_call 12; (with_reducible refine (HG0.out _).mono ?_); rintro e w1 ⟨rfl, hb1⟩; rw [hx]; (first | (have HT := HT.later hb1) | (have HT := HT.drew.later hb1))))
            clear HC
            go_wp2_with fail
            go_roundw
          · exact (Or.inr (Or.inl ⟨by first | rfl | go_num, by rw [hy.out] <;> first | rfl | go_num, by first | exact HT | exact HT.drew⟩))
          · simp [intOf]
          · exact (Or.inr (Or.inl ⟨by first | rfl | go_num, by rw [hy.out] <;> first | rfl | (simp only [Int.add_zero]) | go_num, by first | exact HT | exact HT.drew⟩))
          · simp [intOf]
        · have nk : IntKind.i64.wrap (1 + 1) = 2 := by rfl
          have nk2 : IntKind.i64.wrap 2 = 2 := by rfl
          have nk3 : Int.tmod 2 3 = 2 := by rfl
          have HC : ∀ W, Held w W [(k1 + 1 + 1, [.int .i64 x, .int .i64 y, .int .i64 0]), (k1 + 1, [.int .i64 p, .int .i64 q, .int .i64 0]), (k1, [.int .i64 a0, .int .i64 a1, .int .i64 a2, .int .i64 a3, .int .i64 a4, .int .i64 a5, .int .i64 a6, .int .i64 a7, .int .i64 a8])] → (W.cell? ⟨k1, 0, none⟩ = some (.int .i64 a0) ∧ W.cell? ⟨k1, 1, none⟩ = some (.int .i64 a1) ∧ W.cell? ⟨k1, 2, none⟩ = some (.int .i64 a2) ∧ W.cell? ⟨k1, 3, none⟩ = some (.int .i64 a3) ∧ W.cell? ⟨k1, 4, none⟩ = some (.int .i64 a4) ∧ W.cell? ⟨k1, 5, none⟩ = some (.int .i64 a5) ∧ W.cell? ⟨k1, 6, none⟩ = some (.int .i64 a6) ∧ W.cell? ⟨k1, 7, none⟩ = some (.int .i64 a7) ∧ W.cell? ⟨k1, 8, none⟩ = some (.int .i64 a8) ∧ W.cell? ⟨k1 + 1, 0, none⟩ = some (.int .i64 p) ∧ W.cell? ⟨k1 + 1, 1, none⟩ = some (.int .i64 q) ∧ W.cell? ⟨k1 + 1, 2, none⟩ = some (.int .i64 0) ∧ W.cell? ⟨k1 + 1 + 1, 0, none⟩ = some (.int .i64 x) ∧ W.cell? ⟨k1 + 1 + 1, 1, none⟩ = some (.int .i64 y) ∧ W.cell? ⟨k1 + 1 + 1, 2, none⟩ = some (.int .i64 0)) := fun W h => ⟨(h.box 2).c 0, (h.box 2).c 1, (h.box 2).c 2, (h.box 2).c 3, (h.box 2).c 4, (h.box 2).c 5, (h.box 2).c 6, (h.box 2).c 7, (h.box 2).c 8, (h.box 1).c 0, (h.box 1).c 1, (h.box 1).c 2, (h.box 0).c 0, (h.box 0).c 1, (h.box 0).c 2⟩
          rcases H1 with ⟨hy, hx⟩ | ⟨hy, hx⟩
          all_goals
            have hy := Lib.hid hy
            go_wp2_with fail
            go_region_held3 (fun w' => w'.cell? ⟨k1, 0, none⟩ = some (.int .i64 a0) ∧ w'.cell? ⟨k1, 1, none⟩ = some (.int .i64 a1) ∧ w'.cell? ⟨k1, 2, none⟩ = some (.int .i64 a2) ∧ w'.cell? ⟨k1, 3, none⟩ = some (.int .i64 a3) ∧ w'.cell? ⟨k1, 4, none⟩ = some (.int .i64 a4) ∧ w'.cell? ⟨k1, 5, none⟩ = some (.int .i64 a5) ∧ w'.cell? ⟨k1, 6, none⟩ = some (.int .i64 a6) ∧ w'.cell? ⟨k1, 7, none⟩ = some (.int .i64 a7) ∧ w'.cell? ⟨k1, 8, none⟩ = some (.int .i64 a8) ∧ w'.cell? ⟨k1 + 1, 0, none⟩ = some (.int .i64 p) ∧ w'.cell? ⟨k1 + 1, 1, none⟩ = some (.int .i64 q) ∧ w'.cell? ⟨k1 + 1, 2, none⟩ = some (.int .i64 0) ∧ w'.cell? ⟨k1 + 1 + 1, 0, none⟩ = some (.int .i64 x) ∧ w'.cell? ⟨k1 + 1 + 1, 1, none⟩ = some (.int .i64 y) ∧ w'.cell? ⟨k1 + 1 + 1, 2, none⟩ = some (.int .i64 0))
              (first | (with_reducible exact HC _ HT) | (with_reducible exact HC _ HT.drew))
              (first | (go_at_call 12; (with_reducible refine (HG1.out _).mono ?_); rintro e w1 ⟨rfl, hb1⟩; rw [hx]; (first | (have HT := HT.later hb1) | (have HT := HT.drew.later hb1))))
            clear HC
            go_wp2_with fail
            go_roundw
          · exact (Or.inr (Or.inr (Or.inl ⟨by first | rfl | go_num, by rw [hy.out] <;> first | rfl | go_num, by first | exact HT | exact HT.drew⟩)))
          · simp [intOf]
          · exact (Or.inr (Or.inr (Or.inl ⟨by first | rfl | go_num, by rw [hy.out] <;> first | rfl | (simp only [Int.add_zero]) | go_num, by first | exact HT | exact HT.drew⟩)))
          · simp [intOf]
        · have nk : IntKind.i64.wrap (2 + 1) = 3 := by rfl
          have nk2 : IntKind.i64.wrap 3 = 3 := by rfl
          have nk3 : Int.tmod 3 3 = 0 := by rfl
          have HC : ∀ W, Held w W [(k1 + 1 + 1, [.int .i64 x, .int .i64 y, .int .i64 0]), (k1 + 1, [.int .i64 p, .int .i64 q, .int .i64 0]), (k1, [.int .i64 a0, .int .i64 a1, .int .i64 a2, .int .i64 a3, .int .i64 a4, .int .i64 a5, .int .i64 a6, .int .i64 a7, .int .i64 a8])] → (W.cell? ⟨k1, 0, none⟩ = some (.int .i64 a0) ∧ W.cell? ⟨k1, 1, none⟩ = some (.int .i64 a1) ∧ W.cell? ⟨k1, 2, none⟩ = some (.int .i64 a2) ∧ W.cell? ⟨k1, 3, none⟩ = some (.int .i64 a3) ∧ W.cell? ⟨k1, 4, none⟩ = some (.int .i64 a4) ∧ W.cell? ⟨k1, 5, none⟩ = some (.int .i64 a5) ∧ W.cell? ⟨k1, 6, none⟩ = some (.int .i64 a6) ∧ W.cell? ⟨k1, 7, none⟩ = some (.int .i64 a7) ∧ W.cell? ⟨k1, 8, none⟩ = some (.int .i64 a8) ∧ W.cell? ⟨k1 + 1, 0, none⟩ = some (.int .i64 p) ∧ W.cell? ⟨k1 + 1, 1, none⟩ = some (.int .i64 q) ∧ W.cell? ⟨k1 + 1, 2, none⟩ = some (.int .i64 0) ∧ W.cell? ⟨k1 + 1 + 1, 0, none⟩ = some (.int .i64 x) ∧ W.cell? ⟨k1 + 1 + 1, 1, none⟩ = some (.int .i64 y) ∧ W.cell? ⟨k1 + 1 + 1, 2, none⟩ = some (.int .i64 0)) := fun W h => ⟨(h.box 2).c 0, (h.box 2).c 1, (h.box 2).c 2, (h.box 2).c 3, (h.box 2).c 4, (h.box 2).c 5, (h.box 2).c 6, (h.box 2).c 7, (h.box 2).c 8, (h.box 1).c 0, (h.box 1).c 1, (h.box 1).c 2, (h.box 0).c 0, (h.box 0).c 1, (h.box 0).c 2⟩
          rcases H2 with ⟨hy, hx⟩ | ⟨hy, hx⟩
          all_goals
            have hy := Lib.hid hy
            go_wp2_with fail
            go_region_held3 (fun w' => w'.cell? ⟨k1, 0, none⟩ = some (.int .i64 a0) ∧ w'.cell? ⟨k1, 1, none⟩ = some (.int .i64 a1) ∧ w'.cell? ⟨k1, 2, none⟩ = some (.int .i64 a2) ∧ w'.cell? ⟨k1, 3, none⟩ = some (.int .i64 a3) ∧ w'.cell? ⟨k1, 4, none⟩ = some (.int .i64 a4) ∧ w'.cell? ⟨k1, 5, none⟩ = some (.int .i64 a5) ∧ w'.cell? ⟨k1, 6, none⟩ = some (.int .i64 a6) ∧ w'.cell? ⟨k1, 7, none⟩ = some (.int .i64 a7) ∧ w'.cell? ⟨k1, 8, none⟩ = some (.int .i64 a8) ∧ w'.cell? ⟨k1 + 1, 0, none⟩ = some (.int .i64 p) ∧ w'.cell? ⟨k1 + 1, 1, none⟩ = some (.int .i64 q) ∧ w'.cell? ⟨k1 + 1, 2, none⟩ = some (.int .i64 0) ∧ w'.cell? ⟨k1 + 1 + 1, 0, none⟩ = some (.int .i64 x) ∧ w'.cell? ⟨k1 + 1 + 1, 1, none⟩ = some (.int .i64 y) ∧ w'.cell? ⟨k1 + 1 + 1, 2, none⟩ = some (.int .i64 0))
              (first | (with_reducible exact HC _ HT) | (with_reducible exact HC _ HT.drew))
              (first | (go_at_call 12; (with_reducible refine (HG2.out _).mono ?_); rintro e w1 ⟨rfl, hb1⟩; rw [hx]; (first | (have HT := HT.later hb1) | (have HT := HT.drew.later hb1))))
            clear HC
            go_wp2_with fail
            go_roundw
          · exact (Or.inr (Or.inr (Or.inr ⟨by first | rfl | go_num, by rw [hy.out] <;> first | rfl | go_num, by first | exact HT | exact HT.drew⟩)))
          · simp [intOf]
          · exact (Or.inr (Or.inr (Or.inr ⟨by first | rfl | go_num, by rw [hy.out] <;> first | rfl | (simp only [Int.add_zero]) | go_num, by first | exact HT | exact HT.drew⟩)))
          · simp [intOf]
        · skip
          have c0 := (HT.box 2).c 0
          have c1 := (HT.box 2).c 1
          have c2 := (HT.box 2).c 2
          have c3 := (HT.box 2).c 3
          have c4 := (HT.box 2).c 4
          have c5 := (HT.box 2).c 5
          have c6 := (HT.box 2).c 6
          have c7 := (HT.box 2).c 7
          have c8 := (HT.box 2).c 8
          have d0 := (HT.box 0).c 0
          have d1 := (HT.box 0).c 1
          have d2 := (HT.box 0).c 2
          obtain ⟨r0, r1, r2, r3⟩ := HR3.out
          have hfin : (((s0 + s1 + s2 : Int) == 1) == cq) = true ∧ decide (s0 + s1 + s2 ≤ 1) = true := by
            rw [← r3]
            rcases H0 with ⟨rfl, rfl⟩ | ⟨rfl, rfl⟩ <;> rcases H1 with ⟨rfl, rfl⟩ | ⟨rfl, rfl⟩ <;> rcases H2 with ⟨rfl, rfl⟩ | ⟨rfl, rfl⟩ <;> simp at r0 r1 r2 ⊢
          obtain ⟨hf1, hf2⟩ := hfin
          clear r0 r1 r2 r3 H0 H1 H2 b0 b1 HR3
          generalize s0 + s1 + s2 = sm at hf1 hf2 ⊢
          go_wp2_with fail
          refine (HQ.out _).mono ?_
          rintro e w5 ⟨rfl, hb5⟩
          have HT := HT.later hb5
          clear hb5 c0 c1 c2 c3 c4 c5 c6 c7 c8 d0 d1 d2
          go_wp2_with fail
          go_ret
          exact ⟨by simp, HT.below⟩
  · have hlt2 : (1048576 : Int) < (x0.length : Int) := by omega
    clear hbig H8 HR
    go_enter Try.func3, Try.ntmps3
    go_wp2_with fail
    go_ret
    exact ⟨rfl, Below.refl _ _⟩

set_option maxRecDepth 100000 in
theorem lifted (os : Os) (started : os.Started) (H : Type) (enc : TypeId × Value → H) :
    ReturnsInHanded {} Try.checked os 3 .any (Rows.fnRasterSpec.pre6 enc Try.prog Try.f3 Rows.fnRasterRow.domain false) (Rows.fnRasterSpec.post enc Try.prog Try.f3 false true false false) := by
  refine returnsInHanded_of_change (C := Try.checked) own started (by kernel_rfl) Try.func3
    (ChangeSpec.witness6 (enc := enc) (C := Try.checked) false ⟨#[], #[.slice none 0 0], []⟩ 8 (by kernel_rfl) (by kernel_rfl) (by kernel_rfl) (by kernel_rfl)) ?_
  intro W base args ds gs before hval0 hW hcnd _
  have hval : ∀ (j : Nat) t v, Try.f3.params[j]? = some t → args[j]? = some v → Value.okWide Try.prog W .any base t v := hval0
  have hW' := hW
  obtain ⟨p, q, hA0, hV, rfl, hfz, hnd⟩ := hW
  have hA : DataW.TrodAll enc Try.prog W 0 (fun _ => true) true Try.f3.params.toList args.toList ds p := hA0
  rw [Try.params3] at hA hval
  obtain ⟨v0, vs0, d0, ds0, p0, q0, hargs, rfl, rfl, h0, r1000⟩ := trodAll_cons hA
  obtain ⟨rfl, rfl, rfl⟩ := trodAll_nil r1000
  obtain rfl : args = #[v0] := by cases args; simp_all
  obtain ⟨rfl, rfl⟩ := trodVars_none hV
  obtain ⟨a0, len0, cap0, rfl⟩ := okWide_slice Try.underlying22 (hval 0 22 v0 rfl rfl)
  have k0 := h0
  have lt0 : ∀ x ∈ p0, x.block < W.heap.size := by obtain ⟨m, hm⟩ := k0; exact DataW.trod_lt m _ _ _ hm
  obtain ⟨x0, rfl, r0, m0, w0⟩ : ∃ xs : List Int, len0 = xs.length ∧ Row (Value.int .u8) W W.heap.size a0 xs ∧ xs.length ≤ maxLen ∧ ∀ x ∈ xs, (Lit.int .u8 x).wf = true := by
    obtain ⟨fuel, hf⟩ := h0
    rcases open_ints Try.underlying22 Try.underlying5 (by kernel_rfl) hf with ⟨hcs, _⟩ | ⟨x, l, c, zs, hcs, _, hl, hm, hz, _, hcell, hwz⟩
    · simp [Value.cells] at hcs
      obtain ⟨rfl, rfl, rfl⟩ := hcs
      exact ⟨[], rfl, Row.nil, Nat.zero_le _, fun x hx => by cases hx⟩
    · simp [Value.cells] at hcs
      obtain ⟨rfl, rfl, rfl⟩ := hcs
      exact row_of_cells (d := (0 : Int)) hl hm (by simpa using hz) hcell hwz
  clear hA0
  refine (walk W a0 cap0 x0 r0 m0 w0).mono fun e W' ⟨he, bel⟩ => ?_
  subst he
  exact ⟨_, rfl, _, _, _, [], _, [], hW', trodAll_mk1 (shut_bool Try.underlying4 _), (trodAll_cons_mk (Below.trod laidOut (by kernel_rfl) (of_decide_eq_true (by kernel_rfl)) k0 bel lt0) trodAll_mk0), rfl, bel.frame _, fun h => by cases h⟩

theorem proved : Rows.FnRasterSaid :=
  OpenClaim.holds_of_wide 3 Try.f3 rfl rfl rfl rfl rfl rfl rfl ⟨rfl, rfl, rfl, rfl, rfl⟩ rfl rfl rfl rfl rfl (by kernel_rfl) Try.func3 (by kernel_rfl)
    (of_decide_eq_true (by kernel_rfl)) (by unfold Func.isWrapper; first | (rw [if_pos (by decide +kernel)]; kernel_rfl) | (rw [if_neg (by decide +kernel)]; exact ⟨rfl, rfl⟩))
    (fun os started H enc _ => lifted os started H enc)
#print axioms proved
end Go.Proofs.Ytjjafbcfmijppaa.fnRaster
