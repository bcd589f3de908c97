/- Values of dicing: a camera, a patch, the micropolygons of a cell and of a grid of cells. -/
import Derived.Test.YtolinlcihddkoabProg
import Derived.Test.YtolinlcihddkoabInts
import Derived.Test.YtolinlcihddkoabVbox
import Derived.Test.YtolinlcihddkoabVec
import Derived.Test.YtolinlcihddkoabHeld
import Derived.Test.YtolinlcihddkoabMem
import Derived.Test.YtolinlcihddkoabFlat
import Derived.Test.YtolinlcihddkoabRowC
import Derived.Test.YtolinlcihddkoabArr
import Derived.Test.YtolinlcihddkoabTr
import Derived.Test.YtolinlcihddkoabCam
import Derived.Test.YtolinlcihddkoabPat
import Derived.Test.YtolinlcihddkoabPVal
import Derived.Test.YtolinlcihddkoabGrid
import Derived.Test.YtolinlcihddkoabPut
import Derived.Test.YtolinlcihddkoabPEv
import Derived.Test.YtolinlcihddkoabPEs
import Derived.Test.YtolinlcihddkoabCPrj
import Derived.Test.YtolinlcihddkoabSub
import Derived.WalkKit
import Derived.WalkSpells
import Derived.WalkLawsBesides
import Derived.Lib.Hide
import Derived.Handy
namespace Go.Proofs.Ytolinlcihddkoab
open Go.RowKit

/-- a camera; a patch -/
structure CV where
  (a b c d : Int) (e : Bool) (f g : Int)
structure PV where
  (p0 p1 p2 p3 p4 p5 p6 p7 p8 x y z : Int)
abbrev CV.v (C : CV) : Value := cam C.a C.b C.c C.d C.e C.f C.g
abbrev CV.cs (C : CV) : List Value := [.int .i64 C.a, .int .i64 C.b, .int .i64 C.c, .int .i64 C.d, .bool C.e, .int .i64 C.f, .int .i64 C.g]
abbrev PV.v (P : PV) : Value := tr P.p0 P.p1 P.p2 P.p3 P.p4 P.p5 P.p6 P.p7 P.p8 P.x P.y P.z
abbrev PV.cs (P : PV) : List Value := [.int .i64 P.p0, .int .i64 P.p1, .int .i64 P.p2, .int .i64 P.p3, .int .i64 P.p4, .int .i64 P.p5, .int .i64 P.p6, .int .i64 P.p7, .int .i64 P.p8, .int .i64 P.x, .int .i64 P.y, .int .i64 P.z]
def CV.ok (C : CV) : Bool := okC C.a C.b C.c C.d C.f C.g
def PV.ok (P : PV) : Bool := okP [(P.p0, P.p1, P.p2), (P.p3, P.p4, P.p5), (P.p6, P.p7, P.p8), (P.x, P.y, P.z)]
/-- a point of the patch -/
def PV.at (P : PV) (i j n : Int) : V3 := (evP (cc P.p0) (cc P.p3) (cc P.p6) (cc P.x) i j n, evP (cc P.p1) (cc P.p4) (cc P.p7) (cc P.y) i j n, evP (cc P.p2) (cc P.p5) (cc P.p8) (cc P.z) i j n)
/-- a point is projected; where -/
def CV.sees (C : CV) (v : V3) (l m : Int) : Bool := pjB C.a C.b C.c C.d C.f C.g v.1 v.2.1 v.2.2 l m
def CV.spot (C : CV) (v : V3) (l m : Int) : V3 := (pjc C.a C.c C.e (shf C.f C.g l v.2.2) v.2.2 v.1, pjc C.b C.c C.e (shf C.f C.g m v.2.2) v.2.2 v.2.1, v.2.2)
abbrev v3v (v : V3) : Value := vec v.1 v.2.1 v.2.2
def zV (k : Bool) (v : V3) : V3 := (pjV k v.1, pjV k v.2.1, pjV k v.2.2)
def VecIs (v : V3) (w : World) (e : Ending) (w' : World) : Prop := e = .returned (v3v v) ∧ Below w.heap.size w w'
def SeenIs (k : Bool) (v : V3) (w : World) (e : Ending) (w' : World) : Prop := e = .returned (.tuple #[v3v v, .bool k]) ∧ Below w.heap.size w w'
theorem zV_true (v : V3) : zV true v = v := rfl

theorem evalP (P : PV) (i j n : Int) (w : World) : Calls Try.prog 7 #[P.v, .int .i64 i, .int .i64 j, .int .i64 n] w (VecIs (P.at i j n) w) := evalPatch_any P.p0 P.p1 P.p2 P.p3 P.p4 P.p5 P.p6 P.p7 P.p8 P.x P.y P.z i j n w
theorem projC (C : CV) (v : V3) (l m : Int) (w : World) : Calls Try.prog 21 #[C.v, v3v v, .int .i64 l, .int .i64 m] w (SeenIs (C.sees v l m) (zV (C.sees v l m) (C.spot v l m)) w) := project_any C.a C.b C.c C.d C.e C.f C.g v.1 v.2.1 v.2.2 l m w

/-- the point (i, j) of the grid of n is projected from the lens position (l, m); where; with which answer -/
def gK (C : CV) (P : PV) (l m n i j : Int) : Bool := C.sees (P.at i j n) l m
def gV (C : CV) (P : PV) (l m n i j : Int) : V3 := C.spot (P.at i j n) l m
/-- a micropolygon: three corners, then U, V, N -/
abbrev M4 := V3 × V3 × V3 × V3
def mgc (p : M4) : List Value := vg p.1 ++ (vg p.2.1 ++ (vg p.2.2.1 ++ vg p.2.2.2))
theorem mgc_len (p : M4) : (mgc p).length = 12 := rfl
abbrev m4v (p : M4) : Value := tr p.1.1 p.1.2.1 p.1.2.2 p.2.1.1 p.2.1.2.1 p.2.1.2.2 p.2.2.1.1 p.2.2.1.2.1 p.2.2.1.2.2 p.2.2.2.1 p.2.2.2.2.1 p.2.2.2.2.2
/-- the two triangles of four corners -/
def twoM (a b d e q : V3) : List M4 := [(a, b, d, q), (b, e, d, q)]
/-- the corners of a cell are projected -/
def all4 (C : CV) (P : PV) (l m n u v : Int) : Bool := (gK C P l m n u v && gK C P l m n (u + 1) v) && (gK C P l m n u (v + 1) && gK C P l m n (u + 1) (v + 1))
def inCell (n u v : Int) : Bool := inC 1 64 n && (inC 0 (n - 1) u && inC 0 (n - 1) v)
/-- the micropolygons of a cell -/
def cellL (C : CV) (P : PV) (l m u v n : Int) : List M4 :=
  if inCell n u v && all4 C P l m n u v then twoM (gV C P l m n u v) (gV C P l m n (u + 1) v) (gV C P l m n u (v + 1)) (gV C P l m n (u + 1) (v + 1)) (u, v, n) else []
theorem cellL_len (C : CV) (P : PV) (l m u v n : Int) : (cellL C P l m u v n).length ≤ 2 := by unfold cellL; split <;> simp [twoM]
/-- the first t cells of s columns, row by row -/
def partL (f : Nat → Nat → List M4) (s t : Nat) : List M4 := (List.range t).flatMap fun i => f (i % s) (i / s)
theorem partL_zero (f : Nat → Nat → List M4) (s : Nat) : partL f s 0 = [] := rfl
theorem partL_step (f : Nat → Nat → List M4) (s c r : Nat) (h : c < s) : partL f s (s * r + c + 1) = partL f s (s * r + c) ++ f c r := by
  unfold partL
  rw [List.range_succ, List.flatMap_append]
  simp [Nat.mod_eq_of_lt h, Nat.mul_add_div (by omega : 0 < s), Nat.div_eq_of_lt h]
theorem partL_len (f : Nat → Nat → List M4) (s : Nat) (h : ∀ c r, (f c r).length ≤ 2) : ∀ t, (partL f s t).length ≤ 2 * t := by
  intro t
  induction t with
  | zero => simp [partL]
  | succ t ih =>
    unfold partL at ih ⊢
    rw [List.range_succ, List.flatMap_append, List.length_append]
    have := h (t % s) (t / s)
    simp only [List.flatMap_cons, List.flatMap_nil, List.append_nil]
    omega
/-- the cells of a part of a patch -/
def subF (C : CV) (P : PV) (l m U V k n : Int) (c r : Nat) : List M4 := cellL C P l m (U * k + c) (V * k + r) n
def subOkD (U V N n : Int) : Bool := okS U V N && (inC 1 8 n && (n.tmod N == 0))
def subL (C : CV) (P : PV) (l m U V N n : Int) : List M4 :=
  if subOkD U V N n then partL (subF C P l m U V (n.tdiv N) n) (n.tdiv N).toNat ((n.tdiv N).toNat * (n.tdiv N).toNat) else []
theorem subF_len (C : CV) (P : PV) (l m U V k n : Int) (c r : Nat) : (subF C P l m U V k n c r).length ≤ 2 := cellL_len ..
theorem tdiv_bd {U V N n : Int} (h : subOkD U V N n = true) : (n.tdiv N * N = n ∧ 1 ≤ n.tdiv N ∧ n.tdiv N ≤ 8) ∧ (1 ≤ n ∧ n ≤ 8) ∧ (1 ≤ N ∧ N ≤ 64) ∧ (0 ≤ U ∧ U ≤ 64) ∧ 0 ≤ V ∧ V ≤ 64 := by
  simp only [subOkD, Bool.and_eq_true, okS_iff, inC_iff, beq_iff_eq] at h
  obtain ⟨⟨hN, hU, hV⟩, hn, hm⟩ := h
  rw [Int.tmod_eq_emod_of_nonneg (by omega)] at hm
  rw [Int.tdiv_eq_ediv_of_nonneg (by omega)]
  rcases hN with rfl | rfl | rfl | rfl | rfl | rfl | rfl <;> omega
theorem subL_len (C : CV) (P : PV) (l m U V N n : Int) : (subL C P l m U V N n).length ≤ 128 := by
  unfold subL
  split
  · rename_i h
    have hb := tdiv_bd h
    have hk : (n.tdiv N).toNat ≤ 8 := by omega
    have h2 : (n.tdiv N).toNat * (n.tdiv N).toNat ≤ 8 * 8 := Nat.mul_le_mul hk hk
    have := partL_len (subF C P l m U V (n.tdiv N) n) (n.tdiv N).toNat (fun _ _ => subF_len ..) ((n.tdiv N).toNat * (n.tdiv N).toNat)
    omega
  · simp
def MicOut (xs : List M4) (w : World) (e : Ending) (w' : World) : Prop :=
  ∃ (A : Option Addr) (c : Nat), e = .returned (.slice A xs.length c) ∧ w'.ownsRow w.heap.size 41 12 (.slice A xs.length c) xs.length (xs.flatMap mgc) ∧ Below w.heap.size w w'
theorem infoMic : (Try.prog.info? 41).map (fun i => (i.zero, i.size, i.bytes)) = some (some (tr 0 0 0 0 0 0 0 0 0 0 0 0), 12, 96) := by kernel_rfl
theorem mgc_at {w : World} {b o : Nat} {p : M4} (h : ∀ j u, (mgc p)[j]? = some u → w.cell? ⟨b, o + j, none⟩ = some u) :
    w.cell? ⟨b, o, none⟩ = some (.int .i64 p.1.1) ∧ w.cell? ⟨b, o + 1, none⟩ = some (.int .i64 p.1.2.1) ∧ w.cell? ⟨b, o + 2, none⟩ = some (.int .i64 p.1.2.2) ∧ w.cell? ⟨b, o + 3, none⟩ = some (.int .i64 p.2.1.1) ∧ w.cell? ⟨b, o + 4, none⟩ = some (.int .i64 p.2.1.2.1) ∧ w.cell? ⟨b, o + 5, none⟩ = some (.int .i64 p.2.1.2.2) ∧ w.cell? ⟨b, o + 6, none⟩ = some (.int .i64 p.2.2.1.1) ∧ w.cell? ⟨b, o + 7, none⟩ = some (.int .i64 p.2.2.1.2.1) ∧ w.cell? ⟨b, o + 8, none⟩ = some (.int .i64 p.2.2.1.2.2) ∧ w.cell? ⟨b, o + 9, none⟩ = some (.int .i64 p.2.2.2.1) ∧ w.cell? ⟨b, o + 10, none⟩ = some (.int .i64 p.2.2.2.2.1) ∧ w.cell? ⟨b, o + 11, none⟩ = some (.int .i64 p.2.2.2.2.2) := ⟨h 0 _ rfl, h 1 _ rfl, h 2 _ rfl, h 3 _ rfl, h 4 _ rfl, h 5 _ rfl, h 6 _ rfl, h 7 _ rfl, h 8 _ rfl, h 9 _ rfl, h 10 _ rfl, h 11 _ rfl⟩
end Go.Proofs.Ytolinlcihddkoab
