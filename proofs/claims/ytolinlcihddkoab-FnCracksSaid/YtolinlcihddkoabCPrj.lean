/- Contracts of Project: the program and its model. -/
import Derived.Test.YtolinlcihddkoabProg
import Derived.Test.YtolinlcihddkoabInts
import Derived.Test.YtolinlcihddkoabVbox
import Derived.Test.YtolinlcihddkoabVec
import Derived.Test.YtolinlcihddkoabHeld
import Derived.Test.YtolinlcihddkoabCam
import Derived.WalkKit
import Derived.WalkSpells
import Derived.WalkLawsBesides
import Derived.Lib.Hide
import Derived.Deep.RegionHeld3
import Derived.Deep.QuietTactic
import Derived.BigQuiet
import Derived.Handy
import Derived.Deep.DeepCutAuto
namespace Go.Proofs.Ytolinlcihddkoab
open Go.RowKit

/-- the shift at a lens position; the division of a projection; a place on the screen -/
def shf (f g l z : Int) : Int := fdivP (l * f * (z - g)) 4096
def prj (e : Bool) (z n : Int) : Int := fdivP n (if e = true then z else 256)
def scr (n : Int) : Int := clampP n (-100000) 100000
def pjc (a c : Int) (e : Bool) (s z v : Int) : Int := scr (prj e z ((v + s) * c) + a * 8)
/-- a point is projected -/
def pjB (a b c d f g x y z l m : Int) : Bool := okC a b c d f g && (okB x y z && (decide (d ≤ z) && (inC (-16) 16 l && inC (-16) 16 m)))
def pjV (k : Bool) (n : Int) : Int := if k = true then n else 0
def PjOut (k : Bool) (X Y Z : Int) (w : World) (e : Ending) (w' : World) : Prop := e = .returned (.tuple #[vec (pjV k X) (pjV k Y) (pjV k Z), .bool k]) ∧ Below w.heap.size w w'
theorem ret_pj {X Y Z : Int} {k k' : Bool} (h : k = k') : Ending.returned (.tuple #[vec (pjV k X) (pjV k Y) (pjV k Z), .bool k]) = .returned (.tuple #[vec (pjV k' X) (pjV k' Y) (pjV k' Z), .bool k']) := by rw [h]
theorem pj_z {a b c d f g x y z l m : Int} (hk : okC a b c d f g = true) (hv : okB x y z = true) (hz : decide (d ≤ z) = false) : false = pjB a b c d f g x y z l m := by unfold pjB; rw [hk, hv, hz]; rfl
theorem pj_l {a b c d f g x y z l m : Int} (h : inC (-16) 16 l = false) : false = pjB a b c d f g x y z l m := by unfold pjB; rw [h]; cases okC a b c d f g <;> cases okB x y z <;> cases decide (d ≤ z) <;> rfl
theorem pj_m {a b c d f g x y z l m : Int} (h : inC (-16) 16 m = false) : false = pjB a b c d f g x y z l m := by unfold pjB; rw [h]; cases okC a b c d f g <;> cases okB x y z <;> cases decide (d ≤ z) <;> cases inC (-16) 16 l <;> rfl
theorem pj_yes {a b c d f g x y z l m : Int} (hk : okC a b c d f g = true) (hv : okB x y z = true) (hz : decide (d ≤ z) = true) (hl : inC (-16) 16 l = true) (hm : inC (-16) 16 m = true) : true = pjB a b c d f g x y z l m := by unfold pjB; rw [hk, hv, hz, hl, hm]; rfl
theorem fdiv_le (n z M : Int) (hM : 0 ≤ M) (h0 : -M ≤ n) (h1 : n ≤ M) (hz : 1 ≤ z) : -M ≤ fdivP n z ∧ fdivP n z ≤ M := by
  unfold fdivP
  rw [if_neg (by omega)]
  have hm : M ≤ M * z := by
    have := Int.mul_le_mul_of_nonneg_left hz hM
    omega
  refine ⟨(Int.le_ediv_iff_mul_le (by omega)).2 ?_, ?_⟩
  · have e : -M * z = -(M * z) := Int.neg_mul ..
    omega
  · have := Int.ediv_lt_of_lt_mul (a := n) (b := M + 1) (c := z) (by omega) (by rw [Int.add_mul]; omega)
    omega
theorem shf_bd (f g l z : Int) (hf : 0 ≤ f ∧ f ≤ 64) (hg : 0 ≤ g ∧ g ≤ 1000000) (hl : -16 ≤ l ∧ l ≤ 16) (hz : -1000000 ≤ z ∧ z ≤ 1000000) :
    (-1024 ≤ l * f ∧ l * f ≤ 1024) ∧ (-2048000000 ≤ l * f * (z - g) ∧ l * f * (z - g) ≤ 2048000000) ∧ -500001 ≤ shf f g l z ∧ shf f g l z ≤ 500001 := by
  have h1 := mul_bd (a := l) (b := f) (m := 16) (n := 64) (by omega) (by omega)
  have h2 := mul_bd (a := l * f) (b := z - g) (m := 1024) (n := 2000000) (by omega) (by omega)
  have h3 := fdivP_mul (l * f * (z - g)) 4096 (by omega)
  unfold shf
  omega
theorem prj_bd (e : Bool) (z n : Int) (hz : 1 ≤ z) (h0 : -100000000000 ≤ n) (h1 : n ≤ 100000000000) : -100000000000 ≤ prj e z n ∧ prj e z n ≤ 100000000000 := by
  unfold prj
  split
  · exact fdiv_le n z _ (by omega) h0 h1 hz
  · exact fdiv_le n 256 _ (by omega) h0 h1 (by omega)
theorem arm_bd (s v c : Int) (hs : -500001 ≤ s ∧ s ≤ 500001) (hv : -1000000 ≤ v ∧ v ≤ 1000000) (hc : 1 ≤ c ∧ c ≤ 65536) : -100000000000 ≤ (v + s) * c ∧ (v + s) * c ≤ 100000000000 := by
  have := mul_bd (a := v + s) (b := c) (m := 1500001) (n := 65536) (by omega) (by omega)
  omega
theorem half_a (a : Int) : (a * 16).tdiv 2 = a * 8 := by
  rw [show a * 16 = a * 8 * 2 by omega]
  exact Int.mul_tdiv_cancel _ (by decide)

set_option maxHeartbeats 2000000 in
theorem perspective_any (n z : Int) (h0 : -9223372036854775808 ≤ n) (h1 : n ≤ 9223372036854775807) (w : World) :
    Calls Try.prog 36 #[.int .i64 n, .int .i64 z] w (fun x w' => x = .returned (.int .i64 (prj true z n)) ∧ w = w') := by
  go_enter Try.func36, Try.ntmps36
  go_wp2_with (go_at_call 25; refine (floorDiv_any _ _ _ h0 h1).mono ?_; rintro e w' ⟨rfl, rfl⟩)
  go_ret
  exact ⟨ret_int rfl, rfl⟩

set_option maxHeartbeats 2000000 in
theorem orthographic_any (n z : Int) (h0 : -9223372036854775808 ≤ n) (h1 : n ≤ 9223372036854775807) (w : World) :
    Calls Try.prog 37 #[.int .i64 n, .int .i64 z] w (fun x w' => x = .returned (.int .i64 (prj false z n)) ∧ w = w') := by
  go_enter Try.func37, Try.ntmps37
  go_wp2_with (go_at_call 25; refine (floorDiv_any _ _ _ h0 h1).mono ?_; rintro e w' ⟨rfl, rfl⟩)
  go_ret
  exact ⟨ret_int rfl, rfl⟩

set_option maxHeartbeats 2000000 in
theorem clampScreen_any (n : Int) (w : World) :
    Calls Try.prog 32 #[.int .i64 n] w (fun x w' => x = .returned (.int .i64 (scr n)) ∧ w = w') := by
  go_enter Try.func32, Try.ntmps32
  go_wp2_with (go_at_call 38; refine (clamp_any _ _ _ _).mono ?_; rintro e w' ⟨rfl, rfl⟩)
  go_ret
  exact ⟨ret_int rfl, rfl⟩

set_option maxHeartbeats 2000000 in
theorem isLens_any (n : Int) (w : World) :
    Calls Try.prog 29 #[.int .i64 n] w (fun x w' => x = .returned (.bool (inC (-16) 16 n)) ∧ w = w') := by
  go_enter Try.func29, Try.ntmps29
  go_wp2_with (go_at_call 19; refine (isWithin_any _ _ _ _).mono ?_; rintro e w' ⟨rfl, rfl⟩)
  go_ret
  exact ⟨rfl, rfl⟩

set_option maxHeartbeats 2000000 in
theorem proj_true (a b c d f g : Int) (w : World) :
    Calls Try.prog 30 #[cam a b c d true f g] w (fun x w' => x = .returned (.func (.func 36) #[] #[]) ∧ Below w.heap.size w w') := by
  go_enter Try.func30, Try.ntmps30
  go_wp2_with fail
  go_ret
  exact ⟨rfl, by go_grown⟩

set_option maxHeartbeats 2000000 in
theorem proj_false (a b c d f g : Int) (w : World) :
    Calls Try.prog 30 #[cam a b c d false f g] w (fun x w' => x = .returned (.func (.func 37) #[] #[]) ∧ Below w.heap.size w w') := by
  go_enter Try.func30, Try.ntmps30
  go_wp2_with fail
  go_ret
  exact ⟨rfl, by go_grown⟩

set_option maxHeartbeats 2000000 in
theorem lensShift_any (a b c d : Int) (e : Bool) (f g : Int) (l z : Int) (hf : 0 ≤ f ∧ f ≤ 64) (hg : 0 ≤ g ∧ g ≤ 1000000) (hl : -16 ≤ l ∧ l ≤ 16) (hz : -1000000 ≤ z ∧ z ≤ 1000000) (w : World) :
    Calls Try.prog 31 #[cam a b c d e f g, .int .i64 l, .int .i64 z] w (fun x w' => x = .returned (.int .i64 (shf f g l z)) ∧ Below w.heap.size w w') := by
  obtain ⟨p1, p2, _⟩ := shf_bd f g l z hf hg hl hz
  go_enter Try.func31, Try.ntmps31
  go_wp2_with fail
  refine (floorDiv_any _ _ _ (by omega) (by omega)).mono ?_
  rintro x1 w1 ⟨rfl, rfl⟩
  go_wp2_with fail
  go_ret
  exact ⟨ret_int rfl, by go_grown⟩


set_option maxRecDepth 100000 in
set_option maxHeartbeats 8000000 in
theorem project_any (a b c d : Int) (e : Bool) (f g : Int) (x y z l m : Int) (w : World) :
    Calls Try.prog 21 #[cam a b c d e f g, vec x y z, .int .i64 l, .int .i64 m] w (PjOut (pjB a b c d f g x y z l m) (pjc a c e (shf f g l z) z x) (pjc b c e (shf f g m z) z y) z w) := by
  have HT : Held w (((w.alloc (.cells #[.int .i64 a, .int .i64 b, .int .i64 c, .int .i64 d, .bool e, .int .i64 f, .int .i64 g] 24)).alloc (.cells #[.int .i64 x, .int .i64 y, .int .i64 z] 27)).alloc (.cells #[.int .i64 0, .int .i64 0, .int .i64 0] 27)) [(w.heap.size + 2, [.int .i64 0, .int .i64 0, .int .i64 0]), (w.heap.size + 1, [.int .i64 x, .int .i64 y, .int .i64 z]), (w.heap.size, [.int .i64 a, .int .i64 b, .int .i64 c, .int .i64 d, .bool e, .int .i64 f, .int .i64 g])] := by
    have h := (((Held.nil w).new #[.int .i64 a, .int .i64 b, .int .i64 c, .int .i64 d, .bool e, .int .i64 f, .int .i64 g] 24).new #[.int .i64 x, .int .i64 y, .int .i64 z] 27).new #[.int .i64 0, .int .i64 0, .int .i64 0] 27
    simpa only [World.size_alloc] using h
  have HC : ∀ W, Held w W [(w.heap.size + 1, [.int .i64 x, .int .i64 y, .int .i64 z]), (w.heap.size, [.int .i64 a, .int .i64 b, .int .i64 c, .int .i64 d, .bool e, .int .i64 f, .int .i64 g])] → (W.cell? ⟨w.heap.size, 0, none⟩ = some (.int .i64 a) ∧ W.cell? ⟨w.heap.size, 1, none⟩ = some (.int .i64 b) ∧ W.cell? ⟨w.heap.size, 2, none⟩ = some (.int .i64 c) ∧ W.cell? ⟨w.heap.size, 3, none⟩ = some (.int .i64 d) ∧ W.cell? ⟨w.heap.size, 4, none⟩ = some (.bool e) ∧ W.cell? ⟨w.heap.size, 5, none⟩ = some (.int .i64 f) ∧ W.cell? ⟨w.heap.size, 6, none⟩ = some (.int .i64 g) ∧ W.cell? ⟨w.heap.size + 1, 0, none⟩ = some (.int .i64 x) ∧ W.cell? ⟨w.heap.size + 1, 1, none⟩ = some (.int .i64 y) ∧ W.cell? ⟨w.heap.size + 1, 2, none⟩ = some (.int .i64 z)) := fun W h => ⟨(h.box 1).c 0, (h.box 1).c 1, (h.box 1).c 2, (h.box 1).c 3, (h.box 1).c 4, (h.box 1).c 5, (h.box 1).c 6, (h.box 0).c 0, (h.box 0).c 1, (h.box 0).c 2⟩
  rcases hk : okC a b c d f g with _ | _
  · go_enter Try.func21, Try.ntmps21
    go_wp2_with fail
    refine (isValidCamera_any _ _ _ _ _ _ _ _).mono ?_
    rintro x1 w1 ⟨rfl, hb1⟩
    rw [hk]
    have HT := HT.later hb1
    clear hb1
    have r0 := (HT.box 0).c 0
    have r1 := (HT.box 0).c 1
    have r2 := (HT.box 0).c 2
    have fr0 := (HT.box 0).f 0
    have fr1 := (HT.box 0).f 1
    have fr2 := (HT.box 0).f 2
    have HW := HT.below
    go_wp2_with fail
    exact bodyPost_ret (v := .tuple #[vec 0 0 0, .bool false]) (by simp [results, Try.results21, go_sem, r0, r1, r2]) rfl ⟨ret_pj (k := false) (X := pjc a c e (shf f g l z) z x) (Y := pjc b c e (shf f g m z) z y) (Z := z) (by unfold pjB; rw [hk]; rfl), bset3 HW (by omega)⟩
  obtain ⟨⟨⟨ha0, ha1⟩, hb0, hb1_⟩, ⟨⟨hc0, hc1⟩, hd0, hd1⟩, ⟨hf0, hf1⟩, hg0, hg1⟩ := (okC_iff _ _ _ _ _ _).1 hk
  rcases hv : okB x y z with _ | _
  · go_enter Try.func21, Try.ntmps21
    go_wp2_with fail
    refine (isValidCamera_any _ _ _ _ _ _ _ _).mono ?_
    rintro x1 w1 ⟨rfl, hb1⟩
    rw [hk]
    have HT := HT.later hb1
    clear hb1
    have v0 := (HT.box 1).c 0
    have v1 := (HT.box 1).c 1
    have v2 := (HT.box 1).c 2
    go_wp2_with fail
    refine (isValidVec_any _ _ _ _).mono ?_
    rintro x1 w1 ⟨rfl, hb1⟩
    rw [hv]
    have HT := HT.later hb1
    clear hb1
    clear v0 v1 v2
    have r0 := (HT.box 0).c 0
    have r1 := (HT.box 0).c 1
    have r2 := (HT.box 0).c 2
    have fr0 := (HT.box 0).f 0
    have fr1 := (HT.box 0).f 1
    have fr2 := (HT.box 0).f 2
    have HW := HT.below
    go_wp2_with fail
    exact bodyPost_ret (v := .tuple #[vec 0 0 0, .bool false]) (by simp [results, Try.results21, go_sem, r0, r1, r2]) rfl ⟨ret_pj (k := false) (X := pjc a c e (shf f g l z) z x) (Y := pjc b c e (shf f g m z) z y) (Z := z) (by unfold pjB; rw [hk, hv]; rfl), bset3 HW (by omega)⟩
  rcases hz : decide (d ≤ z) with _ | _
  · have hz' : z < d := by simpa using hz
    go_enter Try.func21, Try.ntmps21
    go_wp2_with fail
    refine (isValidCamera_any _ _ _ _ _ _ _ _).mono ?_
    rintro x1 w1 ⟨rfl, hb1⟩
    rw [hk]
    have HT := HT.later hb1
    clear hb1
    have v0 := (HT.box 1).c 0
    have v1 := (HT.box 1).c 1
    have v2 := (HT.box 1).c 2
    go_wp2_with fail
    refine (isValidVec_any _ _ _ _).mono ?_
    rintro x1 w1 ⟨rfl, hb1⟩
    rw [hv]
    have HT := HT.later hb1
    clear hb1
    clear v0 v1 v2
    have v0 := (HT.box 1).c 0
    have v1 := (HT.box 1).c 1
    have v2 := (HT.box 1).c 2
    have c0 := (HT.box 2).c 0
    have c1 := (HT.box 2).c 1
    have c2 := (HT.box 2).c 2
    have c3 := (HT.box 2).c 3
    have c4 := (HT.box 2).c 4
    have c5 := (HT.box 2).c 5
    have c6 := (HT.box 2).c 6
    have r0 := (HT.box 0).c 0
    have r1 := (HT.box 0).c 1
    have r2 := (HT.box 0).c 2
    have fr0 := (HT.box 0).f 0
    have fr1 := (HT.box 0).f 1
    have fr2 := (HT.box 0).f 2
    have HW := HT.below
    go_wp2_with fail
    exact bodyPost_ret (v := .tuple #[vec 0 0 0, .bool false]) (by simp [results, Try.results21, go_sem, r0, r1, r2]) rfl ⟨ret_pj (k := false) (X := pjc a c e (shf f g l z) z x) (Y := pjc b c e (shf f g m z) z y) (Z := z) (pj_z hk hv hz), bset3 HW (by omega)⟩
  have hz' : d ≤ z := by simpa using hz
  rcases hl : inC (-16) 16 l with _ | _
  · go_enter Try.func21, Try.ntmps21
    go_wp2_with fail
    refine (isValidCamera_any _ _ _ _ _ _ _ _).mono ?_
    rintro x1 w1 ⟨rfl, hb1⟩
    rw [hk]
    have HT := HT.later hb1
    clear hb1
    have v0 := (HT.box 1).c 0
    have v1 := (HT.box 1).c 1
    have v2 := (HT.box 1).c 2
    go_wp2_with fail
    refine (isValidVec_any _ _ _ _).mono ?_
    rintro x1 w1 ⟨rfl, hb1⟩
    rw [hv]
    have HT := HT.later hb1
    clear hb1
    clear v0 v1 v2
    have v0 := (HT.box 1).c 0
    have v1 := (HT.box 1).c 1
    have v2 := (HT.box 1).c 2
    have c0 := (HT.box 2).c 0
    have c1 := (HT.box 2).c 1
    have c2 := (HT.box 2).c 2
    have c3 := (HT.box 2).c 3
    have c4 := (HT.box 2).c 4
    have c5 := (HT.box 2).c 5
    have c6 := (HT.box 2).c 6
    have r0 := (HT.box 0).c 0
    have r1 := (HT.box 0).c 1
    have r2 := (HT.box 0).c 2
    have fr0 := (HT.box 0).f 0
    have fr1 := (HT.box 0).f 1
    have fr2 := (HT.box 0).f 2
    go_wp2_with fail
    refine (isLens_any _ _).mono ?_
    rintro x1 w1 ⟨rfl, rfl⟩
    rw [hl]
    have HW := HT.below
    go_wp2_with fail
    exact bodyPost_ret (v := .tuple #[vec 0 0 0, .bool false]) (by simp [results, Try.results21, go_sem, r0, r1, r2]) rfl ⟨ret_pj (k := false) (X := pjc a c e (shf f g l z) z x) (Y := pjc b c e (shf f g m z) z y) (Z := z) (pj_l hl), bset3 HW (by omega)⟩
  rcases hm : inC (-16) 16 m with _ | _
  · go_enter Try.func21, Try.ntmps21
    go_wp2_with fail
    refine (isValidCamera_any _ _ _ _ _ _ _ _).mono ?_
    rintro x1 w1 ⟨rfl, hb1⟩
    rw [hk]
    have HT := HT.later hb1
    clear hb1
    have v0 := (HT.box 1).c 0
    have v1 := (HT.box 1).c 1
    have v2 := (HT.box 1).c 2
    go_wp2_with fail
    refine (isValidVec_any _ _ _ _).mono ?_
    rintro x1 w1 ⟨rfl, hb1⟩
    rw [hv]
    have HT := HT.later hb1
    clear hb1
    clear v0 v1 v2
    have v0 := (HT.box 1).c 0
    have v1 := (HT.box 1).c 1
    have v2 := (HT.box 1).c 2
    have c0 := (HT.box 2).c 0
    have c1 := (HT.box 2).c 1
    have c2 := (HT.box 2).c 2
    have c3 := (HT.box 2).c 3
    have c4 := (HT.box 2).c 4
    have c5 := (HT.box 2).c 5
    have c6 := (HT.box 2).c 6
    have r0 := (HT.box 0).c 0
    have r1 := (HT.box 0).c 1
    have r2 := (HT.box 0).c 2
    have fr0 := (HT.box 0).f 0
    have fr1 := (HT.box 0).f 1
    have fr2 := (HT.box 0).f 2
    go_wp2_with fail
    refine (isLens_any _ _).mono ?_
    rintro x1 w1 ⟨rfl, rfl⟩
    rw [hl]
    go_wp2_with fail
    refine (isLens_any _ _).mono ?_
    rintro x1 w1 ⟨rfl, rfl⟩
    rw [hm]
    have HW := HT.below
    go_wp2_with fail
    exact bodyPost_ret (v := .tuple #[vec 0 0 0, .bool false]) (by simp [results, Try.results21, go_sem, r0, r1, r2]) rfl ⟨ret_pj (k := false) (X := pjc a c e (shf f g l z) z x) (Y := pjc b c e (shf f g m z) z y) (Z := z) (pj_m hm), bset3 HW (by omega)⟩
  have HB := Lib.hid (pj_yes hk hv hz hl hm)
  have kl := (inC_iff _ _ _).1 hl
  have km := (inC_iff _ _ _).1 hm
  obtain ⟨⟨vx0, vx1⟩, ⟨vy0, vy1⟩, vz0, vz1⟩ := (okB_iff _ _ _).1 hv
  obtain ⟨p1, p2, p3⟩ := shf_bd f g l z ⟨hf0, hf1⟩ ⟨hg0, hg1⟩ kl ⟨vz0, vz1⟩
  obtain ⟨q1, q2, q3⟩ := shf_bd f g m z ⟨hf0, hf1⟩ ⟨hg0, hg1⟩ km ⟨vz0, vz1⟩
  have p4 := arm_bd _ x c p3 ⟨vx0, vx1⟩ ⟨hc0, hc1⟩
  have q4 := arm_bd _ y c q3 ⟨vy0, vy1⟩ ⟨hc0, hc1⟩
  have p5 := prj_bd e z _ (by omega) p4.1 p4.2
  have q5 := prj_bd e z _ (by omega) q4.1 q4.2
  have ea := half_a a
  have eb := half_a b
  obtain ⟨s, es⟩ : ∃ s, s = shf f g l z := ⟨_, rfl⟩
  obtain ⟨u, eu⟩ : ∃ u, u = shf f g m z := ⟨_, rfl⟩
  rw [← es] at p3 p4 p5
  rw [← eu] at q3 q4 q5
  obtain ⟨X, eX⟩ : ∃ X, X = prj e z ((x + s) * c) := ⟨_, rfl⟩
  obtain ⟨Y, eY⟩ : ∃ Y, Y = prj e z ((y + u) * c) := ⟨_, rfl⟩
  rw [← eX] at p5
  rw [← eY] at q5
  have HS := Lib.hid es
  have HU := Lib.hid eu
  have HX := Lib.hid eX
  have HY := Lib.hid eY
  clear es eu eX eY p1 p2 q1 q2
  have n0 : IntKind.i64.wrap (x + s) = x + s := wrap_in (by omega)
  have n1 : IntKind.i64.wrap ((x + s) * c) = (x + s) * c := wrap_in (by omega)
  have n2 : IntKind.i64.wrap (y + u) = y + u := wrap_in (by omega)
  have n3 : IntKind.i64.wrap ((y + u) * c) = (y + u) * c := wrap_in (by omega)
  have n4 : IntKind.i64.wrap (a * 8) = a * 8 := wrap_in (by omega)
  have n5 : IntKind.i64.wrap (b * 8) = b * 8 := wrap_in (by omega)
  have n6 : IntKind.i64.wrap (X + a * 8) = X + a * 8 := wrap_in (by omega)
  have n7 : IntKind.i64.wrap (Y + b * 8) = Y + b * 8 := wrap_in (by omega)
  cases e
  · go_enter Try.func21, Try.ntmps21
    go_wp2_with fail
    refine (isValidCamera_any _ _ _ _ _ _ _ _).mono ?_
    rintro x1 w1 ⟨rfl, hb1⟩
    rw [hk]
    have HT := HT.later hb1
    clear hb1
    have v0 := (HT.box 1).c 0
    have v1 := (HT.box 1).c 1
    have v2 := (HT.box 1).c 2
    go_wp2_with fail
    refine (isValidVec_any _ _ _ _).mono ?_
    rintro x1 w1 ⟨rfl, hb1⟩
    rw [hv]
    have HT := HT.later hb1
    clear hb1
    clear v0 v1 v2
    have v0 := (HT.box 1).c 0
    have v1 := (HT.box 1).c 1
    have v2 := (HT.box 1).c 2
    have c0 := (HT.box 2).c 0
    have c1 := (HT.box 2).c 1
    have c2 := (HT.box 2).c 2
    have c3 := (HT.box 2).c 3
    have c4 := (HT.box 2).c 4
    have c5 := (HT.box 2).c 5
    have c6 := (HT.box 2).c 6
    have r0 := (HT.box 0).c 0
    have r1 := (HT.box 0).c 1
    have r2 := (HT.box 0).c 2
    have fr0 := (HT.box 0).f 0
    have fr1 := (HT.box 0).f 1
    have fr2 := (HT.box 0).f 2
    go_wp2_with fail
    refine (isLens_any _ _).mono ?_
    rintro x1 w1 ⟨rfl, rfl⟩
    rw [hl]
    go_wp2_with fail
    refine (isLens_any _ _).mono ?_
    rintro x1 w1 ⟨rfl, rfl⟩
    rw [hm]
    clear v0 r0 fr0 v1 r1 fr1 v2 r2 fr2
    go_wp2_with fail
    refine (proj_false _ _ _ _ _ _ _).mono ?_
    rintro x1 w1 ⟨rfl, hb1⟩
    have HT := HT.later hb1
    clear hb1 c0 c1 c2 c3 c4 c5 c6
    go_wp2_with fail
    go_region_held3 (fun w' => w'.cell? ⟨w.heap.size, 0, none⟩ = some (.int .i64 a) ∧ w'.cell? ⟨w.heap.size, 1, none⟩ = some (.int .i64 b) ∧ w'.cell? ⟨w.heap.size, 2, none⟩ = some (.int .i64 c) ∧ w'.cell? ⟨w.heap.size, 3, none⟩ = some (.int .i64 d) ∧ w'.cell? ⟨w.heap.size, 4, none⟩ = some (.bool false) ∧ w'.cell? ⟨w.heap.size, 5, none⟩ = some (.int .i64 f) ∧ w'.cell? ⟨w.heap.size, 6, none⟩ = some (.int .i64 g) ∧ w'.cell? ⟨w.heap.size + 1, 0, none⟩ = some (.int .i64 x) ∧ w'.cell? ⟨w.heap.size + 1, 1, none⟩ = some (.int .i64 y) ∧ w'.cell? ⟨w.heap.size + 1, 2, none⟩ = some (.int .i64 z))
      (first | (with_reducible exact HC _ HT.tail) | (with_reducible exact HC _ HT.drew.tail))
      (first | (go_at_call 31; refine (lensShift_any _ _ _ _ _ _ _ _ _ ⟨hf0, hf1⟩ ⟨hg0, hg1⟩ kl ⟨vz0, vz1⟩ _).mono ?_; rintro x1 w1 ⟨rfl, hb1⟩; (first | (have HT := HT.later hb1) | (have HT := HT.drew.later hb1)); rw [← HS.out]) | (go_at_call 37; refine (orthographic_any ((x + s) * c) z (by omega) (by omega) _).mono ?_; rintro x1 w1 ⟨rfl, rfl⟩; rw [← HX.out]))
    go_wp2_with fail
    go_region_held3 (fun w' => w'.cell? ⟨w.heap.size, 0, none⟩ = some (.int .i64 a) ∧ w'.cell? ⟨w.heap.size, 1, none⟩ = some (.int .i64 b) ∧ w'.cell? ⟨w.heap.size, 2, none⟩ = some (.int .i64 c) ∧ w'.cell? ⟨w.heap.size, 3, none⟩ = some (.int .i64 d) ∧ w'.cell? ⟨w.heap.size, 4, none⟩ = some (.bool false) ∧ w'.cell? ⟨w.heap.size, 5, none⟩ = some (.int .i64 f) ∧ w'.cell? ⟨w.heap.size, 6, none⟩ = some (.int .i64 g) ∧ w'.cell? ⟨w.heap.size + 1, 0, none⟩ = some (.int .i64 x) ∧ w'.cell? ⟨w.heap.size + 1, 1, none⟩ = some (.int .i64 y) ∧ w'.cell? ⟨w.heap.size + 1, 2, none⟩ = some (.int .i64 z))
      (first | (with_reducible exact HC _ HT.tail) | (with_reducible exact HC _ HT.drew.tail))
      (first | (go_at_call 31; refine (lensShift_any _ _ _ _ _ _ _ _ _ ⟨hf0, hf1⟩ ⟨hg0, hg1⟩ km ⟨vz0, vz1⟩ _).mono ?_; rintro x1 w1 ⟨rfl, hb1⟩; (first | (have HT := HT.later hb1) | (have HT := HT.drew.later hb1)); rw [← HU.out]) | (go_at_call 37; refine (orthographic_any ((y + u) * c) z (by omega) (by omega) _).mono ?_; rintro x1 w1 ⟨rfl, rfl⟩; rw [← HY.out]))
    go_wp2_with fail
    go_region_held3 (fun w' => w'.cell? ⟨w.heap.size, 0, none⟩ = some (.int .i64 a) ∧ w'.cell? ⟨w.heap.size, 1, none⟩ = some (.int .i64 b) ∧ w'.cell? ⟨w.heap.size, 2, none⟩ = some (.int .i64 c) ∧ w'.cell? ⟨w.heap.size, 3, none⟩ = some (.int .i64 d) ∧ w'.cell? ⟨w.heap.size, 4, none⟩ = some (.bool false) ∧ w'.cell? ⟨w.heap.size, 5, none⟩ = some (.int .i64 f) ∧ w'.cell? ⟨w.heap.size, 6, none⟩ = some (.int .i64 g) ∧ w'.cell? ⟨w.heap.size + 1, 0, none⟩ = some (.int .i64 x) ∧ w'.cell? ⟨w.heap.size + 1, 1, none⟩ = some (.int .i64 y) ∧ w'.cell? ⟨w.heap.size + 1, 2, none⟩ = some (.int .i64 z))
      (first | (with_reducible exact HC _ HT.tail) | (with_reducible exact HC _ HT.drew.tail) | (with_reducible exact HC _ (HT.tail.far3 (by omega) (by simp <;> omega) _ _ _)))
      (first | (go_at_call 33; refine (width_any _ _ _ _ _ _ _ ha0 ha1 _).mono ?_; rintro x1 w1 ⟨rfl, hb1⟩; (first | (have HT := HT.later hb1) | (have HT := HT.drew.later hb1)); have r0 := (HT.box 0).c 0; have fr0 := (HT.box 0).f 0; have r1 := (HT.box 0).c 1; have fr1 := (HT.box 0).f 1; have r2 := (HT.box 0).c 2; have fr2 := (HT.box 0).f 2; have HW := HT.below) | (go_at_call 34; refine (height_any _ _ _ _ _ _ _ hb0 hb1_ _).mono ?_; rintro x1 w1 ⟨rfl, hb1⟩; (first | (have HT := HT.later hb1) | (have HT := HT.drew.later hb1)); have r0 := (HT.box 0).c 0; have fr0 := (HT.box 0).f 0; have r1 := (HT.box 0).c 1; have fr1 := (HT.box 0).f 1; have r2 := (HT.box 0).c 2; have fr2 := (HT.box 0).f 2; have HW := HT.below) | (go_at_call 32; refine (clampScreen_any _ _).mono ?_; rintro x1 w1 ⟨rfl, rfl⟩))
    go_wp2
    exact bodyPost_ret (v := .tuple #[vec (scr (X + a * 8)) (scr (Y + b * 8)) z, .bool true]) (by simp [results, Try.results21, go_sem, r0, r1, r2]) rfl ⟨by rw [← HB.out, show pjc a c false (shf f g l z) z x = scr (X + a * 8) by rw [HX.out, HS.out]; rfl, show pjc b c false (shf f g m z) z y = scr (Y + b * 8) by rw [HY.out, HU.out]; rfl]; rfl, bset3 HW (by omega)⟩
  · go_enter Try.func21, Try.ntmps21
    go_wp2_with fail
    refine (isValidCamera_any _ _ _ _ _ _ _ _).mono ?_
    rintro x1 w1 ⟨rfl, hb1⟩
    rw [hk]
    have HT := HT.later hb1
    clear hb1
    have v0 := (HT.box 1).c 0
    have v1 := (HT.box 1).c 1
    have v2 := (HT.box 1).c 2
    go_wp2_with fail
    refine (isValidVec_any _ _ _ _).mono ?_
    rintro x1 w1 ⟨rfl, hb1⟩
    rw [hv]
    have HT := HT.later hb1
    clear hb1
    clear v0 v1 v2
    have v0 := (HT.box 1).c 0
    have v1 := (HT.box 1).c 1
    have v2 := (HT.box 1).c 2
    have c0 := (HT.box 2).c 0
    have c1 := (HT.box 2).c 1
    have c2 := (HT.box 2).c 2
    have c3 := (HT.box 2).c 3
    have c4 := (HT.box 2).c 4
    have c5 := (HT.box 2).c 5
    have c6 := (HT.box 2).c 6
    have r0 := (HT.box 0).c 0
    have r1 := (HT.box 0).c 1
    have r2 := (HT.box 0).c 2
    have fr0 := (HT.box 0).f 0
    have fr1 := (HT.box 0).f 1
    have fr2 := (HT.box 0).f 2
    go_wp2_with fail
    refine (isLens_any _ _).mono ?_
    rintro x1 w1 ⟨rfl, rfl⟩
    rw [hl]
    go_wp2_with fail
    refine (isLens_any _ _).mono ?_
    rintro x1 w1 ⟨rfl, rfl⟩
    rw [hm]
    clear v0 r0 fr0 v1 r1 fr1 v2 r2 fr2
    go_wp2_with fail
    refine (proj_true _ _ _ _ _ _ _).mono ?_
    rintro x1 w1 ⟨rfl, hb1⟩
    have HT := HT.later hb1
    clear hb1 c0 c1 c2 c3 c4 c5 c6
    go_wp2_with fail
    go_region_held3 (fun w' => w'.cell? ⟨w.heap.size, 0, none⟩ = some (.int .i64 a) ∧ w'.cell? ⟨w.heap.size, 1, none⟩ = some (.int .i64 b) ∧ w'.cell? ⟨w.heap.size, 2, none⟩ = some (.int .i64 c) ∧ w'.cell? ⟨w.heap.size, 3, none⟩ = some (.int .i64 d) ∧ w'.cell? ⟨w.heap.size, 4, none⟩ = some (.bool true) ∧ w'.cell? ⟨w.heap.size, 5, none⟩ = some (.int .i64 f) ∧ w'.cell? ⟨w.heap.size, 6, none⟩ = some (.int .i64 g) ∧ w'.cell? ⟨w.heap.size + 1, 0, none⟩ = some (.int .i64 x) ∧ w'.cell? ⟨w.heap.size + 1, 1, none⟩ = some (.int .i64 y) ∧ w'.cell? ⟨w.heap.size + 1, 2, none⟩ = some (.int .i64 z))
      (first | (with_reducible exact HC _ HT.tail) | (with_reducible exact HC _ HT.drew.tail))
      (first | (go_at_call 31; refine (lensShift_any _ _ _ _ _ _ _ _ _ ⟨hf0, hf1⟩ ⟨hg0, hg1⟩ kl ⟨vz0, vz1⟩ _).mono ?_; rintro x1 w1 ⟨rfl, hb1⟩; (first | (have HT := HT.later hb1) | (have HT := HT.drew.later hb1)); rw [← HS.out]) | (go_at_call 36; refine (perspective_any ((x + s) * c) z (by omega) (by omega) _).mono ?_; rintro x1 w1 ⟨rfl, rfl⟩; rw [← HX.out]))
    go_wp2_with fail
    go_region_held3 (fun w' => w'.cell? ⟨w.heap.size, 0, none⟩ = some (.int .i64 a) ∧ w'.cell? ⟨w.heap.size, 1, none⟩ = some (.int .i64 b) ∧ w'.cell? ⟨w.heap.size, 2, none⟩ = some (.int .i64 c) ∧ w'.cell? ⟨w.heap.size, 3, none⟩ = some (.int .i64 d) ∧ w'.cell? ⟨w.heap.size, 4, none⟩ = some (.bool true) ∧ w'.cell? ⟨w.heap.size, 5, none⟩ = some (.int .i64 f) ∧ w'.cell? ⟨w.heap.size, 6, none⟩ = some (.int .i64 g) ∧ w'.cell? ⟨w.heap.size + 1, 0, none⟩ = some (.int .i64 x) ∧ w'.cell? ⟨w.heap.size + 1, 1, none⟩ = some (.int .i64 y) ∧ w'.cell? ⟨w.heap.size + 1, 2, none⟩ = some (.int .i64 z))
      (first | (with_reducible exact HC _ HT.tail) | (with_reducible exact HC _ HT.drew.tail))
      (first | (go_at_call 31; refine (lensShift_any _ _ _ _ _ _ _ _ _ ⟨hf0, hf1⟩ ⟨hg0, hg1⟩ km ⟨vz0, vz1⟩ _).mono ?_; rintro x1 w1 ⟨rfl, hb1⟩; (first | (have HT := HT.later hb1) | (have HT := HT.drew.later hb1)); rw [← HU.out]) | (go_at_call 36; refine (perspective_any ((y + u) * c) z (by omega) (by omega) _).mono ?_; rintro x1 w1 ⟨rfl, rfl⟩; rw [← HY.out]))
    go_wp2_with fail
    go_region_held3 (fun w' => w'.cell? ⟨w.heap.size, 0, none⟩ = some (.int .i64 a) ∧ w'.cell? ⟨w.heap.size, 1, none⟩ = some (.int .i64 b) ∧ w'.cell? ⟨w.heap.size, 2, none⟩ = some (.int .i64 c) ∧ w'.cell? ⟨w.heap.size, 3, none⟩ = some (.int .i64 d) ∧ w'.cell? ⟨w.heap.size, 4, none⟩ = some (.bool true) ∧ w'.cell? ⟨w.heap.size, 5, none⟩ = some (.int .i64 f) ∧ w'.cell? ⟨w.heap.size, 6, none⟩ = some (.int .i64 g) ∧ w'.cell? ⟨w.heap.size + 1, 0, none⟩ = some (.int .i64 x) ∧ w'.cell? ⟨w.heap.size + 1, 1, none⟩ = some (.int .i64 y) ∧ w'.cell? ⟨w.heap.size + 1, 2, none⟩ = some (.int .i64 z))
      (first | (with_reducible exact HC _ HT.tail) | (with_reducible exact HC _ HT.drew.tail) | (with_reducible exact HC _ (HT.tail.far3 (by omega) (by simp <;> omega) _ _ _)))
      (first | (go_at_call 33; refine (width_any _ _ _ _ _ _ _ ha0 ha1 _).mono ?_; rintro x1 w1 ⟨rfl, hb1⟩; (first | (have HT := HT.later hb1) | (have HT := HT.drew.later hb1)); have r0 := (HT.box 0).c 0; have fr0 := (HT.box 0).f 0; have r1 := (HT.box 0).c 1; have fr1 := (HT.box 0).f 1; have r2 := (HT.box 0).c 2; have fr2 := (HT.box 0).f 2; have HW := HT.below) | (go_at_call 34; refine (height_any _ _ _ _ _ _ _ hb0 hb1_ _).mono ?_; rintro x1 w1 ⟨rfl, hb1⟩; (first | (have HT := HT.later hb1) | (have HT := HT.drew.later hb1)); have r0 := (HT.box 0).c 0; have fr0 := (HT.box 0).f 0; have r1 := (HT.box 0).c 1; have fr1 := (HT.box 0).f 1; have r2 := (HT.box 0).c 2; have fr2 := (HT.box 0).f 2; have HW := HT.below) | (go_at_call 32; refine (clampScreen_any _ _).mono ?_; rintro x1 w1 ⟨rfl, rfl⟩))
    go_wp2
    exact bodyPost_ret (v := .tuple #[vec (scr (X + a * 8)) (scr (Y + b * 8)) z, .bool true]) (by simp [results, Try.results21, go_sem, r0, r1, r2]) rfl ⟨by rw [← HB.out, show pjc a c true (shf f g l z) z x = scr (X + a * 8) by rw [HX.out, HS.out]; rfl, show pjc b c true (shf f g m z) z y = scr (Y + b * 8) by rw [HY.out, HU.out]; rfl]; rfl, bset3 HW (by omega)⟩

end Go.Proofs.Ytolinlcihddkoab
