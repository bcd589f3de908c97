/- Contracts of drawn meshes: l06Cube, l06Strip, l06Draw, MakeMesh. -/
import Derived.Test.YtdefhepagpgnaaaProg
import Derived.Test.YtdefhepagpgnaaaInts
import Derived.Test.YtdefhepagpgnaaaVbox
import Derived.Test.YtdefhepagpgnaaaVec
import Derived.Test.YtdefhepagpgnaaaHeld
import Derived.Test.YtdefhepagpgnaaaMem
import Derived.Test.YtdefhepagpgnaaaRowC
import Derived.Test.YtdefhepagpgnaaaIntS
import Derived.Test.YtdefhepagpgnaaaVecS
import Derived.Test.YtdefhepagpgnaaaSS
import Derived.Test.YtdefhepagpgnaaaMkA
import Derived.Test.YtdefhepagpgnaaaMkB
import Derived.Test.YtdefhepagpgnaaaMkC
import Derived.Test.YtdefhepagpgnaaaMkD
import Derived.Test.YtdefhepagpgnaaaMF
import Derived.Test.YtdefhepagpgnaaaMG
import Derived.Test.YtdefhepagpgnaaaMH
import Derived.Test.YtdefhepagpgnaaaMEd
import Derived.Test.YtdefhepagpgnaaaMNb
import Derived.Test.YtdefhepagpgnaaaMBd
import Derived.Test.YtdefhepagpgnaaaMEu
import Derived.Test.YtdefhepagpgnaaaKp
import Derived.Test.YtdefhepagpgnaaaKa
import Derived.Test.YtdefhepagpgnaaaKt
import Derived.Test.YtdefhepagpgnaaaKx
import Derived.Test.YtdefhepagpgnaaaLf
import Derived.Test.YtdefhepagpgnaaaCur
import Derived.WalkKit
import Derived.WalkSpells
import Derived.WalkLawsBesides
import Derived.Lib.Hide
import Derived.Deep.RegionHeld3
import Derived.Deep.QuietTactic
import Derived.BigQuiet
import Derived.Handy
import Derived.Deep.DeepCutAuto
import Derived.OwnWalk
import Derived.Deep.AppendLies
import Derived.Deep.RegionLaw
namespace Go.Proofs.Ytdefhepagpgnaaa
open Go.RowKit

def MeshDrawn (B g : Nat) (w : World) (E : Ending) (w' : World) : Prop :=
  ∃ A1 c1 A2 c2 vs fs ps, E = .returned (mv A1 A2 vs.length c1 fs.length c2) ∧ MadeMesh vs fs ∧ w'.ownsRow w.heap.size 37 3 (.slice A1 vs.length c1) vs.length (vs.flatMap vg) ∧
    w'.ownsRow w.heap.size 54 1 (.slice A2 fs.length c2) fs.length (ps.map hdr) ∧ ps.map Prod.snd = fs ∧ LotT w' ps ∧ (∀ p ∈ ps, w.heap.size ≤ p.1) ∧ Cur w' B g ∧ w.grownBy w' (some g)
theorem Mbox.grownM {w w' : World} {k g : Nat} {vs : List Value} (h : Mbox w k vs) (hg : w.grownBy w' (some g)) (hk : k ≠ g) : Mbox w' k vs := h.keep fun hl => hg.block k hl (fun e => by injection e with e; exact hk e)
theorem Cur.drewM {w : World} {B g : Nat} (h : Cur w B g) : Cur w.drew B g := h.keep (row := none) (gb_drew (gb_refl w none)) (fun r h => by cases h) (by simp)
theorem gb_app {w W W5 : World} {g : Nat} {o : Obj} {row : Option Nat} (h : w.grownBy W (some g)) (hg : (W.alloc o).grownBy W5 row) (hr : ∀ q, row = some q → w.heap.size ≤ q) : w.grownBy W5 (some g) :=
  ⟨hg.os.trans h.os, hg.tape.trans h.tape, hg.output.trans h.output, Nat.le_trans h.size (Nat.le_trans (by simp) hg.size), fun k hk hn => by
    have h1 := hg.block k (by have := h.size; simp; omega) (fun c => by have := hr k c.symm; omega)
    exact h1.trans ((Below.heap_alloc W o k (by have := h.size; omega)).trans (h.block k hk hn))⟩
theorem gb_put {w W : World} {g q i : Nat} (h : w.grownBy W (some g)) (hq : w.heap.size ≤ q) (v : Value) : w.grownBy (W.setCell ⟨q, i, none⟩ v) (some g) :=
  ⟨h.os, h.tape, h.output, by simpa using h.size, fun k hk hn => (Below.heap_setCell W ⟨q, i, none⟩ v k (by show k ≠ q; omega)).trans (h.block k hk hn)⟩
theorem Cur.app {W W5 : World} {B g : Nat} {o : Obj} {row : Option Nat} (h : Cur W B g) (hg : (W.alloc o).grownBy W5 row) (hr : ∀ q, row = some q → W.heap.size ≤ q ∨ (B ≤ q ∧ q ≠ g)) (hB : B ≤ W.heap.size) : Cur W5 B g :=
  (h.keep (row := none) (World.grownBy_alloc W o none) (fun r c => by cases c) (by simp)).keep hg (fun r c => by rcases hr r c with h1 | h1; omega; exact h1.1) (fun c => by
    rcases hr g c with h1 | h1
    · have := h.lt; omega
    · exact h1.2 rfl)
theorem Cur.put {W : World} {B g q i : Nat} (h : Cur W B g) (hq : B ≤ q) (hne : q ≠ g) (v : Value) : Cur (W.setCell ⟨q, i, none⟩ v) B g :=
  h.keep (row := some q) (gb_set (gb_refl W (some q)) v) (fun r c => by injection c with c; omega) (fun c => by injection c with c; exact hne c)
/-- the state behind 'm.f = append(m.f, x)' -/
def Step (w : World) (B g : Nat) (F : List Value) (n : Nat) (xs : List Value) (e : TypeId) (m : Nat) (nv : Value) (W : World) : Prop :=
  W.ownsRow (w.heap.size + 2) e m nv n xs ∧ Mbox W (w.heap.size + 1) F ∧ Mbox W w.heap.size [.slice none 0 0, .slice none 0 0] ∧ Cur W B g ∧ w.grownBy W (some g) ∧ w.heap.size + 2 ≤ W.heap.size
theorem step_of {w W W5 : World} {B g m n j : Nat} {F F' xs : List Value} {e : TypeId} {v nv : Value} {o : Obj} (hM : Mbox W (w.heap.size + 1) F) (hR : Mbox W w.heap.size [.slice none 0 0, .slice none 0 0]) (hC : Cur W B g) (hG : w.grownBy W (some g)) (hz : w.heap.size + 2 ≤ W.heap.size) (hB : B ≤ w.heap.size) (hgl : g < w.heap.size)
    (hop : ∀ q, v.ownBlock = some q → w.heap.size + 2 ≤ q) (hg : (W.alloc o).grownBy W5 v.ownBlock) (hown : W5.ownsRow (w.heap.size + 2) e m nv n xs) (hF : F.set j nv = F') : Step w B g F' n xs e m nv (W5.setCell ⟨w.heap.size + 1, j, none⟩ nv) := by
  have hz5 : W.heap.size ≤ W5.heap.size := Nat.le_trans (by simp) hg.size
  have hk : ∀ q, q < w.heap.size + 2 → some q ≠ v.ownBlock := fun q hq c => by have := hop q c.symm; omega
  have hM5 : Mbox W5 (w.heap.size + 1) F := (hM.alloc o).keep (fun hl => hg.block _ hl (hk _ (by omega)))
  have hR5 : Mbox W5 w.heap.size [.slice none 0 0, .slice none 0 0] := (hR.alloc o).keep (fun hl => hg.block _ hl (hk _ (by omega)))
  refine ⟨own_keep hown (gb_set (gb_refl W5 (some (w.heap.size + 1))) nv) (by omega), ?_, hR5.far (by omega) nv, ?_, gb_put (gb_app hG hg (fun q hq => by have := hop q hq; omega)) (by omega) nv, by simp; omega⟩
  · rw [← hF]; exact hM5.put j nv
  · exact (hC.app hg (fun q hq => .inr ⟨by have := hop q hq; omega, by have := hop q hq; omega⟩) (by omega)).put (by omega) (by omega) nv
theorem rem2 (k : Nat) : 0 ≤ (k : Int).tmod 2 ∧ (k : Int).tmod 2 ≤ 1 := by
  rw [Int.tmod_eq_emod_of_nonneg (by omega)]
  omega
theorem cube_in {k : Nat} (hk : k < 8) {x y z : Int} (hx : 0 ≤ x ∧ x ≤ 8) (hy : 0 ≤ y ∧ y ≤ 8) (hz : 0 ≤ z ∧ z ≤ 8) :
    InV 1000000 (IntKind.i64.wrap (IntKind.i64.wrap (IntKind.i64.wrap ((k : Int).tmod 2 * 90) - 45) + x), IntKind.i64.wrap (IntKind.i64.wrap (IntKind.i64.wrap ((IntKind.i64.wrap ((k : Int) / 2)).tmod 2 * 90) - 45) + y), IntKind.i64.wrap (IntKind.i64.wrap (100 + IntKind.i64.wrap (IntKind.i64.wrap ((k : Int) / 4) * 90)) + z)) := by
  have r0 := rem2 k
  obtain ⟨m, hm⟩ : ∃ m, m = (k : Int).tmod 2 := ⟨_, rfl⟩
  rw [← hm] at r0 ⊢
  have e1 : IntKind.i64.wrap ((k : Int) / 2) = (k : Int) / 2 := wrap_in (by omega)
  have e2 : IntKind.i64.wrap ((k : Int) / 4) = (k : Int) / 4 := wrap_in (by omega)
  have r1 := rem2 (k / 2)
  rw [Int.natCast_ediv] at r1
  rw [e1, e2]
  obtain ⟨n, hn⟩ : ∃ n, n = ((k : Int) / 2).tmod 2 := ⟨_, rfl⟩
  have r1' : 0 ≤ n ∧ n ≤ 1 := by rw [hn]; exact r1
  rw [← hn]
  obtain ⟨q, hq⟩ : ∃ q, q = (k : Int) / 4 := ⟨_, rfl⟩
  have hq' : 0 ≤ q ∧ q ≤ 1 := by omega
  rw [← hq]
  clear hm e1 e2 r1 hn hq
  have f0 : IntKind.i64.wrap (m * 90) = m * 90 := wrap_in (by omega)
  have f1 : IntKind.i64.wrap (n * 90) = n * 90 := wrap_in (by omega)
  have f2 : IntKind.i64.wrap (q * 90) = q * 90 := wrap_in (by omega)
  rw [f0, f1, f2]
  have g0 : IntKind.i64.wrap (m * 90 - 45) = m * 90 - 45 := wrap_in (by omega)
  have g1 : IntKind.i64.wrap (n * 90 - 45) = n * 90 - 45 := wrap_in (by omega)
  have g2 : IntKind.i64.wrap (100 + q * 90) = 100 + q * 90 := wrap_in (by omega)
  rw [g0, g1, g2]
  have h0 : IntKind.i64.wrap (m * 90 - 45 + x) = m * 90 - 45 + x := wrap_in (by omega)
  have h1 : IntKind.i64.wrap (n * 90 - 45 + y) = n * 90 - 45 + y := wrap_in (by omega)
  have h2 : IntKind.i64.wrap (100 + q * 90 + z) = 100 + q * 90 + z := wrap_in (by omega)
  rw [h0, h1, h2]
  unfold InV
  dsimp only
  omega
theorem strip_in {i j : Nat} (hi : i ≤ 3) (hj : j < 2) {x y z : Int} (hx : 0 ≤ x ∧ x ≤ 8) (hy : 0 ≤ y ∧ y ≤ 8) (hz : 0 ≤ z ∧ z ≤ 59) :
    InV 1000000 (IntKind.i64.wrap (IntKind.i64.wrap (IntKind.i64.wrap ((i : Int) * 40) - 60) + x), IntKind.i64.wrap (IntKind.i64.wrap (IntKind.i64.wrap ((j : Int) * 50) - 20) + y), IntKind.i64.wrap (90 + z)) := by
  have f0 : IntKind.i64.wrap ((i : Int) * 40) = (i : Int) * 40 := wrap_in (by omega)
  have f1 : IntKind.i64.wrap ((j : Int) * 50) = (j : Int) * 50 := wrap_in (by omega)
  have f2 : IntKind.i64.wrap (90 + z) = 90 + z := wrap_in (by omega)
  rw [f0, f1, f2]
  have g0 : IntKind.i64.wrap ((i : Int) * 40 - 60) = (i : Int) * 40 - 60 := wrap_in (by omega)
  have g1 : IntKind.i64.wrap ((j : Int) * 50 - 20) = (j : Int) * 50 - 20 := wrap_in (by omega)
  rw [g0, g1]
  have h0 : IntKind.i64.wrap ((i : Int) * 40 - 60 + x) = (i : Int) * 40 - 60 + x := wrap_in (by omega)
  have h1 : IntKind.i64.wrap ((j : Int) * 50 - 20 + y) = (j : Int) * 50 - 20 + y := wrap_in (by omega)
  rw [h0, h1]
  unfold InV
  dsimp only
  omega
theorem own_grownM {w w' : World} {base m n : Nat} {e : TypeId} {v : Value} {xs : List Value} {g : Nat} (h : w.ownsRow base e m v n xs) (hg : w.grownBy w' (some g)) (hlt : g < base) : w'.ownsRow base e m v n xs := own_keep h hg hlt
set_option maxRecDepth 100000 in
set_option maxHeartbeats 16000000 in
theorem cube_any (B g : Nat) (w : World) (hC : Cur w B g) (hB : B ≤ w.heap.size) :
    Calls Try.prog 77 #[.pointer (some ⟨g, 0, none⟩)] w (MeshDrawn B g w) := by
  have hge := hC.ge
  have hgl := hC.lt
  have HH0 := ((Held.nil w).new #[.slice none 0 0, .slice none 0 0] 26).new #[.slice none 0 0, .slice none 0 0] 26
  rw [World.size_alloc] at HH0
  have HH : Held w ((w.alloc (.cells #[.slice none 0 0, .slice none 0 0] 26)).alloc (.cells #[.slice none 0 0, .slice none 0 0] 26)) [(w.heap.size + 1, [.slice none 0 0, .slice none 0 0]), (w.heap.size, [.slice none 0 0, .slice none 0 0])] := HH0
  have HM0 := Lib.hid (HH.box 0)
  have HR0 := Lib.hid (HH.box 1)
  have hgb : w.grownBy ((w.alloc (.cells #[.slice none 0 0, .slice none 0 0] 26)).alloc (.cells #[.slice none 0 0, .slice none 0 0] 26)) (some g) := gb_of_below HH.below
  have HC0 := Lib.hid (hC.keep (row := none) (gb_of_below HH.below) (fun r h => by cases h) (by simp))
  have HGB := Lib.hid hgb
  have HO0 := Lib.hid (nilOwn ((w.alloc (.cells #[.slice none 0 0, .slice none 0 0] 26)).alloc (.cells #[.slice none 0 0, .slice none 0 0] 26)) (w.heap.size + 2) 37 3)
  clear hC HH0 HH hgb
  go_enter Try.func77, Try.ntmps77
  go_wp2_with fail
  go_loopw [4] (fun i wr => ∃ (k : Nat) (vs : List V3) (v : Value), k ≤ 8 ∧ i = .int .i64 k ∧ vs.length = k ∧ (∀ x ∈ vs, InV 1000000 x) ∧ wr.ownsRow (w.heap.size + 2) 37 3 v k (vs.flatMap vg) ∧ Mbox wr (w.heap.size + 1) [v, .slice none 0 0] ∧ Mbox wr w.heap.size [.slice none 0 0, .slice none 0 0] ∧ Cur wr B g ∧ w.grownBy wr (some g) ∧ w.heap.size + 2 ≤ wr.heap.size) (fun i _ => 8 - (intOf i).toNat)
  case atStart => exact ⟨0, [], _, Nat.zero_le _, rfl, rfl, (fun x h => by cases h), HO0.out, HM0.out, HR0.out, HC0.out, HGB.out, by simp⟩
  case round =>
    clear HO0 HM0 HR0 HC0 HGB
    obtain ⟨k, vs, v, hk, rfl, hvl, hin, hown, hm, hr, hC, hgb, hsz⟩ := hrel
    have HIN := Lib.hid hin
    have HO := Lib.hid hown
    have HM := Lib.hid hm
    have HR := Lib.hid hr
    have HC := Lib.hid hC
    have HG := Lib.hid hgb
    clear hin hown hm hr hC hgb
    by_cases hlt : k < 8
    · have hQM := HM.out
      have hQC := HC.out
      have hQO := HO.out
      have hQR := HR.out
      have hQG := HG.out
      have hop : ∀ q, v.ownBlock = some q → w.heap.size + 2 ≤ q := own_block hQO
      have HCC : ∀ W, Mbox W (w.heap.size + 1) [v, .slice none 0 0] → W.cell? ⟨w.heap.size + 1, 0, none⟩ = some v := fun W h => h.c 0
      obtain ⟨i9, hi9, hz90, hz91, hz92⟩ := info_parts infoVec
      clear HO HM HR HC HG
      go_upto_region 5 with fail
      have hqz := hsz
      have HN0 := Lib.hid True.intro
      have k0 := hQM.c 0
      have f0 := hQM.f 0
      have k0' := hQM.drew.c 0
      have k3 := hQM.c 0
      have f0' := hQM.drew.f 0
      clear HCC
      go_region_law (first | (have hn := HN0; clear hn HN0; have HN1 := Lib.hid True.intro; go_simp; refine (below_any B g 9 _ (by first | with_reducible exact hQC | with_reducible exact hQC.drewM) (by omega) (by omega)).mono ?_; rintro e w6 ⟨x0, xl0, xh0, rfl, hC1, hg1⟩; have hQC := hC1; (first | (have hQM := hQM.grownM hg1 (by omega)) | (have hQM := hQM.drew.grownM hg1 (by omega))); (first | (have hQR := hQR.grownM hg1 (by omega)) | (have hQR := hQR.drew.grownM hg1 (by omega))); (first | (have hQO := own_grownM hQO hg1 (by omega)) | (have hQO := own_grownM hQO.drew hg1 (by omega))); (first | (have hQG := gb_trans hQG hg1) | (have hQG := gb_trans (gb_drew hQG) hg1)); have hqz := Nat.le_trans hqz hg1.size; clear k0 k0' f0 f0' k3; have k3 : ∀ o, (w6.alloc o).cell? ⟨w.heap.size + 1, 0, none⟩ = some v := fun o => (hQM.alloc o).c 0; have k0 := hQM.c 0; have f0 := hQM.f 0; have k0' := hQM.drew.c 0; have f0' := hQM.drew.f 0; try dsimp only) | (have hn := HN1; clear hn HN1; have HN2 := Lib.hid True.intro; go_simp; refine (below_any B g 9 _ (by first | with_reducible exact hQC | with_reducible exact hQC.drewM) (by omega) (by omega)).mono ?_; rintro e w6 ⟨x1, xl1, xh1, rfl, hC1, hg1⟩; have hQC := hC1; (first | (have hQM := hQM.grownM hg1 (by omega)) | (have hQM := hQM.drew.grownM hg1 (by omega))); (first | (have hQR := hQR.grownM hg1 (by omega)) | (have hQR := hQR.drew.grownM hg1 (by omega))); (first | (have hQO := own_grownM hQO hg1 (by omega)) | (have hQO := own_grownM hQO.drew hg1 (by omega))); (first | (have hQG := gb_trans hQG hg1) | (have hQG := gb_trans (gb_drew hQG) hg1)); have hqz := Nat.le_trans hqz hg1.size; clear k0 k0' f0 f0' k3; have k3 : ∀ o, (w6.alloc o).cell? ⟨w.heap.size + 1, 0, none⟩ = some v := fun o => (hQM.alloc o).c 0; have k0 := hQM.c 0; have f0 := hQM.f 0; have k0' := hQM.drew.c 0; have f0' := hQM.drew.f 0; try dsimp only) | (have hn := HN2; clear hn HN2; have HN3 := Lib.hid True.intro; go_simp; refine (below_any B g 9 _ (by first | with_reducible exact hQC | with_reducible exact hQC.drewM) (by omega) (by omega)).mono ?_; rintro e w6 ⟨x2, xl2, xh2, rfl, hC1, hg1⟩; have hQC := hC1; (first | (have hQM := hQM.grownM hg1 (by omega)) | (have hQM := hQM.drew.grownM hg1 (by omega))); (first | (have hQR := hQR.grownM hg1 (by omega)) | (have hQR := hQR.drew.grownM hg1 (by omega))); (first | (have hQO := own_grownM hQO hg1 (by omega)) | (have hQO := own_grownM hQO.drew hg1 (by omega))); (first | (have hQG := gb_trans hQG hg1) | (have hQG := gb_trans (gb_drew hQG) hg1)); have hqz := Nat.le_trans hqz hg1.size; clear k0 k0' f0 f0' k3; have k3 : ∀ o, (w6.alloc o).cell? ⟨w.heap.size + 1, 0, none⟩ = some v := fun o => (hQM.alloc o).c 0; have k0 := hQM.c 0; have f0 := hQM.f 0; have k0' := hQM.drew.c 0; have f0' := hQM.drew.f 0; try dsimp only) | (have hn := HN3; clear hn HN3; refine step_append_lies _ (by rfl) _ _ _ (by rfl) (w.heap.size + 2) 37 i9 _ 3 24 Try.underlying23 hi9 hz90 hz91 hz92 rfl (by omega) v k _ (by rfl) (by first | with_reducible exact hQO.alloc _ | with_reducible exact (hQO.alloc _).drew) ⟨_, 0, none⟩ 1 1 [.int .i64 (IntKind.i64.wrap (IntKind.i64.wrap (IntKind.i64.wrap ((k : Int).tmod 2 * 90) - 45) + x0)), .int .i64 (IntKind.i64.wrap (IntKind.i64.wrap (IntKind.i64.wrap ((IntKind.i64.wrap ((k : Int) / 2)).tmod 2 * 90) - 45) + x1)), .int .i64 (IntKind.i64.wrap (IntKind.i64.wrap (100 + IntKind.i64.wrap (IntKind.i64.wrap ((k : Int) / 4) * 90)) + x2))] (by rfl) (by rfl) (World.news_of_block (cs := #[.int .i64 (IntKind.i64.wrap (IntKind.i64.wrap (IntKind.i64.wrap ((k : Int).tmod 2 * 90) - 45) + x0)), .int .i64 (IntKind.i64.wrap (IntKind.i64.wrap (IntKind.i64.wrap ((IntKind.i64.wrap ((k : Int) / 2)).tmod 2 * 90) - 45) + x1)), .int .i64 (IntKind.i64.wrap (IntKind.i64.wrap (100 + IntKind.i64.wrap (IntKind.i64.wrap ((k : Int) / 4) * 90)) + x2))]) (t := 37) (fr := (0, 0)) (heap_alloc_new _ _)) (by simp [Value.oneCell']) (by omega) (by unfold maxLen; omega) (by omega) (by simp; omega) _ rfl ?_; intro gg cap w5 hown5 hgrow hat hlt5; have hQM5 : Mbox w5 (w.heap.size + 1) [v, .slice none 0 0] := (hQM.alloc _).keep (fun hl => hgrow.block _ hl (fun c => by have := hop _ c.symm; omega)); have k5 := hQM5.c 0; have f5 := hQM5.f 0))
      all_goals
        have HST : Hid (Step w B g [.slice (some ⟨gg, 0, none⟩) (k + 1) cap, .slice none 0 0] (k + 1) (vs.flatMap vg ++ [.int .i64 (IntKind.i64.wrap (IntKind.i64.wrap (IntKind.i64.wrap ((k : Int).tmod 2 * 90) - 45) + x0)), .int .i64 (IntKind.i64.wrap (IntKind.i64.wrap (IntKind.i64.wrap ((IntKind.i64.wrap ((k : Int) / 2)).tmod 2 * 90) - 45) + x1)), .int .i64 (IntKind.i64.wrap (IntKind.i64.wrap (100 + IntKind.i64.wrap (IntKind.i64.wrap ((k : Int) / 4) * 90)) + x2))]) 37 3 (.slice (some ⟨gg, 0, none⟩) (k + 1) cap) _) := Lib.hid (by first | exact step_of (j := 0) hQM hQR hQC hQG hqz hB hgl hop hgrow hown5 rfl | exact step_of (j := 0) hQM.drew hQR.drew hQC.drewM (gb_drew hQG) hqz hB hgl hop hgrow hown5 rfl)
        have HVI := Lib.hid (cube_in hlt ⟨xl0, xh0⟩ ⟨xl1, xh1⟩ ⟨xl2, xh2⟩)
        clear k0 k0' f0 f0' k3 k5 f5 hQM hQR hQC hQO hQG hqz hgrow hown5 hat hlt5 hQM5 hg1 hC1
        go_wp2_with fail
        go_roundw
        case rel => exact ⟨k + 1, vs ++ [_], _, by omega, by go_num, by simp [hvl], (fun x hx => by
          rcases List.mem_append.1 hx with hx | hx
          · exact HIN.out x hx
          · rw [List.mem_singleton] at hx; rw [hx]; exact HVI.out), by rw [flat_one]; exact HST.out.1, HST.out.2.1, HST.out.2.2.1, HST.out.2.2.2.1, HST.out.2.2.2.2.1, HST.out.2.2.2.2.2⟩
        case measure => simp [intOf]; omega
    · have e : k = 8 := by omega
      subst e
      obtain ⟨A8, c8, rfl⟩ := own_shape HO.out
      have L0 := LotT.nil wr
      have L1 := L0.new [0, 2, 3, 1] #[.int .i64 0, .int .i64 2, .int .i64 3, .int .i64 1] rfl
      have L2 := L1.new [4, 5, 7, 6] #[.int .i64 4, .int .i64 5, .int .i64 7, .int .i64 6] rfl
      have L3 := L2.new [0, 1, 5, 4] #[.int .i64 0, .int .i64 1, .int .i64 5, .int .i64 4] rfl
      have L4 := L3.new [2, 6, 7, 3] #[.int .i64 2, .int .i64 6, .int .i64 7, .int .i64 3] rfl
      have L5 := L4.new [0, 4, 6, 2] #[.int .i64 0, .int .i64 4, .int .i64 6, .int .i64 2] rfl
      have L6 := L5.new [1, 3, 7, 5] #[.int .i64 1, .int .i64 3, .int .i64 7, .int .i64 5] rfl
      simp only [World.size_alloc, List.nil_append, List.cons_append, Nat.add_assoc, Nat.reduceAdd] at L6
      have hM7 := ((((((HM.out.alloc (.cells #[.int .i64 0, .int .i64 2, .int .i64 3, .int .i64 1] 3)).alloc (.cells #[.int .i64 4, .int .i64 5, .int .i64 7, .int .i64 6] 3)).alloc (.cells #[.int .i64 0, .int .i64 1, .int .i64 5, .int .i64 4] 3)).alloc (.cells #[.int .i64 2, .int .i64 6, .int .i64 7, .int .i64 3] 3)).alloc (.cells #[.int .i64 0, .int .i64 4, .int .i64 6, .int .i64 2] 3)).alloc (.cells #[.int .i64 1, .int .i64 3, .int .i64 7, .int .i64 5] 3)).alloc (.cells #[.slice (some ⟨wr.heap.size, 0, none⟩) 4 4, .slice (some ⟨wr.heap.size + 1, 0, none⟩) 4 4, .slice (some ⟨wr.heap.size + 2, 0, none⟩) 4 4, .slice (some ⟨wr.heap.size + 3, 0, none⟩) 4 4, .slice (some ⟨wr.heap.size + 4, 0, none⟩) 4 4, .slice (some ⟨wr.heap.size + 5, 0, none⟩) 4 4] 54)
      have hR7 := ((((((HR.out.alloc (.cells #[.int .i64 0, .int .i64 2, .int .i64 3, .int .i64 1] 3)).alloc (.cells #[.int .i64 4, .int .i64 5, .int .i64 7, .int .i64 6] 3)).alloc (.cells #[.int .i64 0, .int .i64 1, .int .i64 5, .int .i64 4] 3)).alloc (.cells #[.int .i64 2, .int .i64 6, .int .i64 7, .int .i64 3] 3)).alloc (.cells #[.int .i64 0, .int .i64 4, .int .i64 6, .int .i64 2] 3)).alloc (.cells #[.int .i64 1, .int .i64 3, .int .i64 7, .int .i64 5] 3)).alloc (.cells #[.slice (some ⟨wr.heap.size, 0, none⟩) 4 4, .slice (some ⟨wr.heap.size + 1, 0, none⟩) 4 4, .slice (some ⟨wr.heap.size + 2, 0, none⟩) 4 4, .slice (some ⟨wr.heap.size + 3, 0, none⟩) 4 4, .slice (some ⟨wr.heap.size + 4, 0, none⟩) 4 4, .slice (some ⟨wr.heap.size + 5, 0, none⟩) 4 4] 54)
      have hO7 := own_keep' HO.out (show Below wr.heap.size wr (((((((wr.alloc (.cells #[.int .i64 0, .int .i64 2, .int .i64 3, .int .i64 1] 3)).alloc (.cells #[.int .i64 4, .int .i64 5, .int .i64 7, .int .i64 6] 3)).alloc (.cells #[.int .i64 0, .int .i64 1, .int .i64 5, .int .i64 4] 3)).alloc (.cells #[.int .i64 2, .int .i64 6, .int .i64 7, .int .i64 3] 3)).alloc (.cells #[.int .i64 0, .int .i64 4, .int .i64 6, .int .i64 2] 3)).alloc (.cells #[.int .i64 1, .int .i64 3, .int .i64 7, .int .i64 5] 3)).alloc (.cells #[.slice (some ⟨wr.heap.size, 0, none⟩) 4 4, .slice (some ⟨wr.heap.size + 1, 0, none⟩) 4 4, .slice (some ⟨wr.heap.size + 2, 0, none⟩) 4 4, .slice (some ⟨wr.heap.size + 3, 0, none⟩) 4 4, .slice (some ⟨wr.heap.size + 4, 0, none⟩) 4 4, .slice (some ⟨wr.heap.size + 5, 0, none⟩) 4 4] 54)) by go_grown)
      have hC7 : Cur (((((((wr.alloc (.cells #[.int .i64 0, .int .i64 2, .int .i64 3, .int .i64 1] 3)).alloc (.cells #[.int .i64 4, .int .i64 5, .int .i64 7, .int .i64 6] 3)).alloc (.cells #[.int .i64 0, .int .i64 1, .int .i64 5, .int .i64 4] 3)).alloc (.cells #[.int .i64 2, .int .i64 6, .int .i64 7, .int .i64 3] 3)).alloc (.cells #[.int .i64 0, .int .i64 4, .int .i64 6, .int .i64 2] 3)).alloc (.cells #[.int .i64 1, .int .i64 3, .int .i64 7, .int .i64 5] 3)).alloc (.cells #[.slice (some ⟨wr.heap.size, 0, none⟩) 4 4, .slice (some ⟨wr.heap.size + 1, 0, none⟩) 4 4, .slice (some ⟨wr.heap.size + 2, 0, none⟩) 4 4, .slice (some ⟨wr.heap.size + 3, 0, none⟩) 4 4, .slice (some ⟨wr.heap.size + 4, 0, none⟩) 4 4, .slice (some ⟨wr.heap.size + 5, 0, none⟩) 4 4] 54)) B g := HC.out.keep (row := none) (gb_of_below (show Below wr.heap.size wr (((((((wr.alloc (.cells #[.int .i64 0, .int .i64 2, .int .i64 3, .int .i64 1] 3)).alloc (.cells #[.int .i64 4, .int .i64 5, .int .i64 7, .int .i64 6] 3)).alloc (.cells #[.int .i64 0, .int .i64 1, .int .i64 5, .int .i64 4] 3)).alloc (.cells #[.int .i64 2, .int .i64 6, .int .i64 7, .int .i64 3] 3)).alloc (.cells #[.int .i64 0, .int .i64 4, .int .i64 6, .int .i64 2] 3)).alloc (.cells #[.int .i64 1, .int .i64 3, .int .i64 7, .int .i64 5] 3)).alloc (.cells #[.slice (some ⟨wr.heap.size, 0, none⟩) 4 4, .slice (some ⟨wr.heap.size + 1, 0, none⟩) 4 4, .slice (some ⟨wr.heap.size + 2, 0, none⟩) 4 4, .slice (some ⟨wr.heap.size + 3, 0, none⟩) 4 4, .slice (some ⟨wr.heap.size + 4, 0, none⟩) 4 4, .slice (some ⟨wr.heap.size + 5, 0, none⟩) 4 4] 54)) by go_grown)) (fun r c => by cases c) (by simp)
      have hG7 : w.grownBy (((((((wr.alloc (.cells #[.int .i64 0, .int .i64 2, .int .i64 3, .int .i64 1] 3)).alloc (.cells #[.int .i64 4, .int .i64 5, .int .i64 7, .int .i64 6] 3)).alloc (.cells #[.int .i64 0, .int .i64 1, .int .i64 5, .int .i64 4] 3)).alloc (.cells #[.int .i64 2, .int .i64 6, .int .i64 7, .int .i64 3] 3)).alloc (.cells #[.int .i64 0, .int .i64 4, .int .i64 6, .int .i64 2] 3)).alloc (.cells #[.int .i64 1, .int .i64 3, .int .i64 7, .int .i64 5] 3)).alloc (.cells #[.slice (some ⟨wr.heap.size, 0, none⟩) 4 4, .slice (some ⟨wr.heap.size + 1, 0, none⟩) 4 4, .slice (some ⟨wr.heap.size + 2, 0, none⟩) 4 4, .slice (some ⟨wr.heap.size + 3, 0, none⟩) 4 4, .slice (some ⟨wr.heap.size + 4, 0, none⟩) 4 4, .slice (some ⟨wr.heap.size + 5, 0, none⟩) 4 4] 54)) (some g) := gb_trans HG.out (gb_of_below (show Below wr.heap.size wr (((((((wr.alloc (.cells #[.int .i64 0, .int .i64 2, .int .i64 3, .int .i64 1] 3)).alloc (.cells #[.int .i64 4, .int .i64 5, .int .i64 7, .int .i64 6] 3)).alloc (.cells #[.int .i64 0, .int .i64 1, .int .i64 5, .int .i64 4] 3)).alloc (.cells #[.int .i64 2, .int .i64 6, .int .i64 7, .int .i64 3] 3)).alloc (.cells #[.int .i64 0, .int .i64 4, .int .i64 6, .int .i64 2] 3)).alloc (.cells #[.int .i64 1, .int .i64 3, .int .i64 7, .int .i64 5] 3)).alloc (.cells #[.slice (some ⟨wr.heap.size, 0, none⟩) 4 4, .slice (some ⟨wr.heap.size + 1, 0, none⟩) 4 4, .slice (some ⟨wr.heap.size + 2, 0, none⟩) 4 4, .slice (some ⟨wr.heap.size + 3, 0, none⟩) 4 4, .slice (some ⟨wr.heap.size + 4, 0, none⟩) 4 4, .slice (some ⟨wr.heap.size + 5, 0, none⟩) 4 4] 54)) by go_grown))
      have hl7 : LotT (((((((wr.alloc (.cells #[.int .i64 0, .int .i64 2, .int .i64 3, .int .i64 1] 3)).alloc (.cells #[.int .i64 4, .int .i64 5, .int .i64 7, .int .i64 6] 3)).alloc (.cells #[.int .i64 0, .int .i64 1, .int .i64 5, .int .i64 4] 3)).alloc (.cells #[.int .i64 2, .int .i64 6, .int .i64 7, .int .i64 3] 3)).alloc (.cells #[.int .i64 0, .int .i64 4, .int .i64 6, .int .i64 2] 3)).alloc (.cells #[.int .i64 1, .int .i64 3, .int .i64 7, .int .i64 5] 3)).alloc (.cells #[.slice (some ⟨wr.heap.size, 0, none⟩) 4 4, .slice (some ⟨wr.heap.size + 1, 0, none⟩) 4 4, .slice (some ⟨wr.heap.size + 2, 0, none⟩) 4 4, .slice (some ⟨wr.heap.size + 3, 0, none⟩) 4 4, .slice (some ⟨wr.heap.size + 4, 0, none⟩) 4 4, .slice (some ⟨wr.heap.size + 5, 0, none⟩) 4 4] 54)) _ := L6.alloc (.cells #[.slice (some ⟨wr.heap.size, 0, none⟩) 4 4, .slice (some ⟨wr.heap.size + 1, 0, none⟩) 4 4, .slice (some ⟨wr.heap.size + 2, 0, none⟩) 4 4, .slice (some ⟨wr.heap.size + 3, 0, none⟩) 4 4, .slice (some ⟨wr.heap.size + 4, 0, none⟩) 4 4, .slice (some ⟨wr.heap.size + 5, 0, none⟩) 4 4] 54)
      have hq7 := World.ownsRow_lit ((((((wr.alloc (.cells #[.int .i64 0, .int .i64 2, .int .i64 3, .int .i64 1] 3)).alloc (.cells #[.int .i64 4, .int .i64 5, .int .i64 7, .int .i64 6] 3)).alloc (.cells #[.int .i64 0, .int .i64 1, .int .i64 5, .int .i64 4] 3)).alloc (.cells #[.int .i64 2, .int .i64 6, .int .i64 7, .int .i64 3] 3)).alloc (.cells #[.int .i64 0, .int .i64 4, .int .i64 6, .int .i64 2] 3)).alloc (.cells #[.int .i64 1, .int .i64 3, .int .i64 7, .int .i64 5] 3)) (e := 54) (size := 1) #[.slice (some ⟨wr.heap.size, 0, none⟩) 4 4, .slice (some ⟨wr.heap.size + 1, 0, none⟩) 4 4, .slice (some ⟨wr.heap.size + 2, 0, none⟩) 4 4, .slice (some ⟨wr.heap.size + 3, 0, none⟩) 4 4, .slice (some ⟨wr.heap.size + 4, 0, none⟩) 4 4, .slice (some ⟨wr.heap.size + 5, 0, none⟩) 4 4] 6 (Nat.le_refl _) (by unfold maxLen; omega) rfl
      have hs6 : ((((((wr.alloc (.cells #[.int .i64 0, .int .i64 2, .int .i64 3, .int .i64 1] 3)).alloc (.cells #[.int .i64 4, .int .i64 5, .int .i64 7, .int .i64 6] 3)).alloc (.cells #[.int .i64 0, .int .i64 1, .int .i64 5, .int .i64 4] 3)).alloc (.cells #[.int .i64 2, .int .i64 6, .int .i64 7, .int .i64 3] 3)).alloc (.cells #[.int .i64 0, .int .i64 4, .int .i64 6, .int .i64 2] 3)).alloc (.cells #[.int .i64 1, .int .i64 3, .int .i64 7, .int .i64 5] 3)).heap.size = wr.heap.size + 6 := by simp
      rw [hs6] at hq7
      have hM8 := hM7.put 1 (.slice (some ⟨wr.heap.size + 6, 0, none⟩) 6 6)
      have hR8 := hR7.far (g := w.heap.size + 1) (i := 1) (by omega) (.slice (some ⟨wr.heap.size + 6, 0, none⟩) 6 6)
      have m0 := hM7.c 1
      have m1 := hM7.f 1
      have d0 := hM8.c 0
      have d1 := hM8.c 1
      have r0 := hR8.c 0
      have r1 := hR8.c 1
      have f0 := hR8.f 0
      have f1 := hR8.f 1
      clear L0 L1 L2 L3 L4 L5 L6
      have HFIN := Lib.hid (And.intro hO7 (And.intro hC7 (And.intro hG7 (And.intro hl7 hq7))))
      clear hM7 hR7 hO7 hC7 hG7 hl7 hq7 hM8 hR8 hs6 HO HM HR HC HG
      go_wp2_with fail
      have hgb : ∀ (W : World) (q i : Nat) (v : Value), W.grownBy (W.setCell ⟨q, i, none⟩ v) (some q) := fun W q i v => gb_set (gb_refl W (some q)) v
      have hl : ∀ {W : World}, LotT W [(wr.heap.size, [0, 2, 3, 1]), (wr.heap.size + 1, [4, 5, 7, 6]), (wr.heap.size + 2, [0, 1, 5, 4]), (wr.heap.size + 3, [2, 6, 7, 3]), (wr.heap.size + 4, [0, 4, 6, 2]), (wr.heap.size + 5, [1, 3, 7, 5])] → ∀ (q i : Nat) (v : Value), q < w.heap.size + 2 → LotT (W.setCell ⟨q, i, none⟩ v) _ := fun h q i v hq => h.grown (hgb _ q i v) (fun p hp c => by injection c with c; simp only [List.mem_cons, List.not_mem_nil, or_false] at hp; rcases hp with rfl | rfl | rfl | rfl | rfl | rfl <;> simp at c <;> omega)
      refine bodyPost_ret (v := mv A8 (some ⟨wr.heap.size + 6, 0, none⟩) 8 c8 6 6) (by simp [results, Try.results77, go_sem, r0, r1]) rfl ⟨A8, c8, some ⟨wr.heap.size + 6, 0, none⟩, 6, vs, cubeF, [(wr.heap.size, [0, 2, 3, 1]), (wr.heap.size + 1, [4, 5, 7, 6]), (wr.heap.size + 2, [0, 1, 5, 4]), (wr.heap.size + 3, [2, 6, 7, 3]), (wr.heap.size + 4, [0, 4, 6, 2]), (wr.heap.size + 5, [1, 3, 7, 5])], by rw [hvl]; rfl, ⟨HIN.out, .inl ⟨hvl, rfl⟩⟩, ?_, ?_, rfl, hl (hl (hl HFIN.out.2.2.2.1 _ _ _ (by omega)) _ _ _ (by omega)) _ _ _ (by omega), ?_, ?_, ?_⟩
      · rw [hvl]
        exact own_base (own_keep (own_keep (own_keep HFIN.out.1 (hgb _ _ _ _) (by omega)) (hgb _ _ _ _) (by omega)) (hgb _ _ _ _) (by omega)) (by omega)
      · exact own_base (own_keep (own_keep (own_keep HFIN.out.2.2.2.2 (hgb _ _ _ _) (by omega)) (hgb _ _ _ _) (by omega)) (hgb _ _ _ _) (by omega)) (by omega)
      · intro p hp
        simp only [List.mem_cons, List.not_mem_nil, or_false] at hp
        rcases hp with rfl | rfl | rfl | rfl | rfl | rfl <;> simp <;> omega
      · exact ((HFIN.out.2.1.put (by omega) (by omega) _).put (by omega) (by omega) _).put (by omega) (by omega) _
      · exact gb_put (gb_put (gb_put HFIN.out.2.2.1 (by omega) _) (by omega) _) (by omega) _

set_option maxRecDepth 100000 in
set_option maxHeartbeats 32000000 in
theorem strip_any (B g : Nat) (w : World) (hC : Cur w B g) (hB : B ≤ w.heap.size) :
    Calls Try.prog 78 #[.pointer (some ⟨g, 0, none⟩)] w (MeshDrawn B g w) := by
  have hge := hC.ge
  have hgl := hC.lt
  have HH0 := ((Held.nil w).new #[.slice none 0 0, .slice none 0 0] 26).new #[.slice none 0 0, .slice none 0 0] 26
  rw [World.size_alloc] at HH0
  have HH : Held w ((w.alloc (.cells #[.slice none 0 0, .slice none 0 0] 26)).alloc (.cells #[.slice none 0 0, .slice none 0 0] 26)) [(w.heap.size + 1, [.slice none 0 0, .slice none 0 0]), (w.heap.size, [.slice none 0 0, .slice none 0 0])] := HH0
  have HM0 := Lib.hid (HH.box 0)
  have HR0 := Lib.hid (HH.box 1)
  have hgb : w.grownBy ((w.alloc (.cells #[.slice none 0 0, .slice none 0 0] 26)).alloc (.cells #[.slice none 0 0, .slice none 0 0] 26)) (some g) := gb_of_below HH.below
  have HC0 := Lib.hid (hC.keep (row := none) (gb_of_below HH.below) (fun r h => by cases h) (by simp))
  have HGB := Lib.hid hgb
  have HO0 := Lib.hid (nilOwn ((w.alloc (.cells #[.slice none 0 0, .slice none 0 0] 26)).alloc (.cells #[.slice none 0 0, .slice none 0 0] 26)) (w.heap.size + 2) 37 3)
  clear hC HH0 HH hgb
  go_enter Try.func78, Try.ntmps78
  go_wp2_with fail
  refine (below_any B g 3 _ HC0.out (by omega) (by omega)).mono ?_
  rintro e w0 ⟨n', nl, nh, rfl, hC1, hg1⟩
  have hs0 : Step w B g [.slice none 0 0, .slice none 0 0] 0 [] 37 3 (.slice none 0 0) w0 := ⟨own_grownM HO0.out hg1 (by omega), HM0.out.grownM hg1 (by omega), HR0.out.grownM hg1 (by omega), hC1, gb_trans HGB.out hg1, Nat.le_trans (by simp) hg1.size⟩
  have HS0 := Lib.hid hs0
  obtain ⟨n, hn⟩ : ∃ n : Nat, n = (1 + n').toNat := ⟨_, rfl⟩
  have hn1 : 1 + n' = (n : Int) := by omega
  have HNB : Hid (1 ≤ n ∧ n ≤ 3) := Lib.hid (by omega)
  have ew : IntKind.i64.wrap (1 + n') = (n : Int) := by rw [hn1]; exact wrap_in (by omega)
  clear HO0 HM0 HR0 HC0 HGB hC1 hg1 hs0 hn hn1 nl nh
  have hnb := HNB.out
  go_wp2_with fail
  go_loopw [5] (fun i wr => ∃ (k : Nat) (vs : List V3) (v : Value), k ≤ n + 1 ∧ i = .int .i64 k ∧ vs.length = 2 * k ∧ (∀ x ∈ vs, InV 1000000 x) ∧ Step w B g [v, .slice none 0 0] (2 * k) (vs.flatMap vg) 37 3 v wr) (fun i _ => n + 1 - (intOf i).toNat)
  case atStart => exact ⟨0, [], _, Nat.zero_le _, rfl, rfl, (fun x h => by cases h), HS0.out⟩
  case round =>
    clear HS0
    obtain ⟨i, vs, v, hi, rfl, hvl, hin, hs⟩ := hrel
    have HIN := Lib.hid hin
    have HS := Lib.hid hs
    clear hin hs
    by_cases hlt : i ≤ n
    · have hlt' : (i : Int) ≤ (n : Int) := by omega
      have HVL := Lib.hid hvl
      have HS1 : Hid (Step w B g [v, .slice none 0 0] (2 * i + 0) (vs.flatMap vg) 37 3 v wr) := HS
      clear ew hvl HS
      go_wp2_with fail
      go_loopw [6] (fun j wi => ∃ (k : Nat) (us : List V3) (u : Value), k ≤ 2 ∧ j = .int .i64 k ∧ us.length = 2 * i + k ∧ (∀ x ∈ us, InV 1000000 x) ∧ Step w B g [u, .slice none 0 0] (2 * i + k) (us.flatMap vg) 37 3 u wi) (fun j _ => 2 - (intOf j).toNat)
      case atStart => exact ⟨0, vs, v, by omega, rfl, HVL.out, HIN.out, HS1.out⟩
      case round =>
        clear HS1 HIN HVL
        obtain ⟨k, us, u, hk, rfl, hul, hin, hs⟩ := hrel
        have HIN := Lib.hid hin
        have HS := Lib.hid hs
        clear hin hs
        by_cases hlk : k < 2
        · obtain ⟨hQO, hQM, hQR, hQC, hQG, hqz⟩ := HS.out
          have hop : ∀ q, u.ownBlock = some q → w.heap.size + 2 ≤ q := own_block hQO
          obtain ⟨i9, hi9, hz90, hz91, hz92⟩ := info_parts infoVec
          clear HS
          go_upto_region 9 with fail
          have HN0 := Lib.hid True.intro
          have k0 := hQM.c 0
          have f0 := hQM.f 0
          have k0' := hQM.drew.c 0
          have k3 := hQM.c 0
          have f0' := hQM.drew.f 0
          go_region_law (first | (have hn := HN0; clear hn HN0; have HN1 := Lib.hid True.intro; go_simp; refine (below_any B g 9 _ (by first | with_reducible exact hQC | with_reducible exact hQC.drewM) (by omega) (by omega)).mono ?_; rintro e w6 ⟨x0, xl0, xh0, rfl, hC1, hg1⟩; have hQC := hC1; (first | (have hQM := hQM.grownM hg1 (by omega)) | (have hQM := hQM.drew.grownM hg1 (by omega))); (first | (have hQR := hQR.grownM hg1 (by omega)) | (have hQR := hQR.drew.grownM hg1 (by omega))); (first | (have hQO := own_grownM hQO hg1 (by omega)) | (have hQO := own_grownM hQO.drew hg1 (by omega))); (first | (have hQG := gb_trans hQG hg1) | (have hQG := gb_trans (gb_drew hQG) hg1)); have hqz := Nat.le_trans hqz hg1.size; clear k0 k0' f0 f0' k3; have k3 : ∀ o, (w6.alloc o).cell? ⟨w.heap.size + 1, 0, none⟩ = some u := fun o => (hQM.alloc o).c 0; have k0 := hQM.c 0; have f0 := hQM.f 0; have k0' := hQM.drew.c 0; have f0' := hQM.drew.f 0; try dsimp only) | (have hn := HN1; clear hn HN1; have HN2 := Lib.hid True.intro; go_simp; refine (below_any B g 9 _ (by first | with_reducible exact hQC | with_reducible exact hQC.drewM) (by omega) (by omega)).mono ?_; rintro e w6 ⟨x1, xl1, xh1, rfl, hC1, hg1⟩; have hQC := hC1; (first | (have hQM := hQM.grownM hg1 (by omega)) | (have hQM := hQM.drew.grownM hg1 (by omega))); (first | (have hQR := hQR.grownM hg1 (by omega)) | (have hQR := hQR.drew.grownM hg1 (by omega))); (first | (have hQO := own_grownM hQO hg1 (by omega)) | (have hQO := own_grownM hQO.drew hg1 (by omega))); (first | (have hQG := gb_trans hQG hg1) | (have hQG := gb_trans (gb_drew hQG) hg1)); have hqz := Nat.le_trans hqz hg1.size; clear k0 k0' f0 f0' k3; have k3 : ∀ o, (w6.alloc o).cell? ⟨w.heap.size + 1, 0, none⟩ = some u := fun o => (hQM.alloc o).c 0; have k0 := hQM.c 0; have f0 := hQM.f 0; have k0' := hQM.drew.c 0; have f0' := hQM.drew.f 0; try dsimp only) | (have hn := HN2; clear hn HN2; have HN3 := Lib.hid True.intro; go_simp; refine (below_any B g 60 _ (by first | with_reducible exact hQC | with_reducible exact hQC.drewM) (by omega) (by omega)).mono ?_; rintro e w6 ⟨x2, xl2, xh2, rfl, hC1, hg1⟩; have hQC := hC1; (first | (have hQM := hQM.grownM hg1 (by omega)) | (have hQM := hQM.drew.grownM hg1 (by omega))); (first | (have hQR := hQR.grownM hg1 (by omega)) | (have hQR := hQR.drew.grownM hg1 (by omega))); (first | (have hQO := own_grownM hQO hg1 (by omega)) | (have hQO := own_grownM hQO.drew hg1 (by omega))); (first | (have hQG := gb_trans hQG hg1) | (have hQG := gb_trans (gb_drew hQG) hg1)); have hqz := Nat.le_trans hqz hg1.size; clear k0 k0' f0 f0' k3; have k3 : ∀ o, (w6.alloc o).cell? ⟨w.heap.size + 1, 0, none⟩ = some u := fun o => (hQM.alloc o).c 0; have k0 := hQM.c 0; have f0 := hQM.f 0; have k0' := hQM.drew.c 0; have f0' := hQM.drew.f 0; try dsimp only) | (have hn := HN3; clear hn HN3; refine step_append_lies _ (by rfl) _ _ _ (by rfl) (w.heap.size + 2) 37 i9 _ 3 24 Try.underlying23 hi9 hz90 hz91 hz92 rfl (by omega) u (2 * i + k) _ (by rfl) (by first | with_reducible exact hQO.alloc _ | with_reducible exact (hQO.alloc _).drew) ⟨_, 0, none⟩ 1 1 [.int .i64 (IntKind.i64.wrap (IntKind.i64.wrap (IntKind.i64.wrap ((i : Int) * 40) - 60) + x0)), .int .i64 (IntKind.i64.wrap (IntKind.i64.wrap (IntKind.i64.wrap ((k : Int) * 50) - 20) + x1)), .int .i64 (IntKind.i64.wrap (90 + x2))] (by rfl) (by rfl) (World.news_of_block (cs := #[.int .i64 (IntKind.i64.wrap (IntKind.i64.wrap (IntKind.i64.wrap ((i : Int) * 40) - 60) + x0)), .int .i64 (IntKind.i64.wrap (IntKind.i64.wrap (IntKind.i64.wrap ((k : Int) * 50) - 20) + x1)), .int .i64 (IntKind.i64.wrap (90 + x2))]) (t := 37) (fr := (0, 0)) (heap_alloc_new _ _)) (by simp [Value.oneCell']) (by omega) (by unfold maxLen; omega) (by omega) (by simp; omega) _ rfl ?_; intro gg cap w5 hown5 hgrow hat hlt5; have hQM5 : Mbox w5 (w.heap.size + 1) [u, .slice none 0 0] := (hQM.alloc _).keep (fun hl => hgrow.block _ hl (fun c => by have := hop _ c.symm; omega)); have k5 := hQM5.c 0; have f5 := hQM5.f 0))
          all_goals
            have HST : Hid (Step w B g [.slice (some ⟨gg, 0, none⟩) (2 * i + k + 1) cap, .slice none 0 0] (2 * i + k + 1) (us.flatMap vg ++ [.int .i64 (IntKind.i64.wrap (IntKind.i64.wrap (IntKind.i64.wrap ((i : Int) * 40) - 60) + x0)), .int .i64 (IntKind.i64.wrap (IntKind.i64.wrap (IntKind.i64.wrap ((k : Int) * 50) - 20) + x1)), .int .i64 (IntKind.i64.wrap (90 + x2))]) 37 3 (.slice (some ⟨gg, 0, none⟩) (2 * i + k + 1) cap) _) := Lib.hid (by first | exact step_of (j := 0) hQM hQR hQC hQG hqz hB hgl hop hgrow hown5 rfl | exact step_of (j := 0) hQM.drew hQR.drew hQC.drewM (gb_drew hQG) hqz hB hgl hop hgrow hown5 rfl)
            have HVI := Lib.hid (strip_in (i := i) (j := k) (by omega) hlk ⟨xl0, xh0⟩ ⟨xl1, xh1⟩ ⟨xl2, xh2⟩)
            clear k0 k0' f0 f0' k3 k5 f5 hQM hQR hQC hQO hQG hqz hgrow hown5 hat hlt5 hQM5 hg1 hC1
            go_wp2_with fail
            go_roundw
            case rel => exact ⟨k + 1, us ++ [_], _, by omega, by go_num, by simp [hul]; omega, (fun x hx => by
              rcases List.mem_append.1 hx with hx | hx
              · exact HIN.out x hx
              · rw [List.mem_singleton] at hx; rw [hx]; exact HVI.out), by rw [flat_one]; exact HST.out⟩
            case measure => simp [intOf]; omega
        · have e : k = 2 := by omega
          subst e
          have HS2 : Hid (Step w B g [u, .slice none 0 0] (2 * (i + 1)) (us.flatMap vg) 37 3 u wr) := HS
          have hul2 : us.length = 2 * (i + 1) := by omega
          clear HS
          go_wp2_with fail
          go_roundw
          case rel => exact ⟨i + 1, us, u, by omega, by go_num, hul2, HIN.out, HS2.out⟩
          case measure => simp [intOf]; omega
    · have e : i = n + 1 := by omega
      have hlt' : ¬ ((i : Int) ≤ (n : Int)) := by omega
      obtain ⟨hQO, hQM, hQR, hQC, hQG, hqz⟩ := HS.out
      have HV := Lib.hid (show wr.ownsRow (w.heap.size + 2) 37 3 v (2 * n + 2) (vs.flatMap vg) by rw [show 2 * n + 2 = 2 * i by omega]; exact hQO)
      have HVL : Hid (vs.length = 2 * n + 2) := Lib.hid (by omega)
      have HS3 : Hid (Step w B g [v, .slice none 0 0] 0 [] 54 1 (.slice none 0 0) wr) := Lib.hid ⟨nilOwn _ _ _ _, hQM, hQR, hQC, hQG, hqz⟩
      clear e hQO hQM hQR hQC hQG hqz HS hvl ew
      go_wp2_with fail
      clear hlt'
      go_loopw [7] (fun j wi => ∃ (k : Nat) (ps : Lot) (u : Value), k ≤ n ∧ j = .int .i64 k ∧ ps.length = k ∧ ps.map Prod.snd = stripF k ∧ LotT wi ps ∧ (∀ p ∈ ps, w.heap.size + 2 ≤ p.1) ∧ wi.ownsRow (w.heap.size + 2) 37 3 v (2 * n + 2) (vs.flatMap vg) ∧ Step w B g [v, u] k (ps.map hdr) 54 1 u wi) (fun j _ => n - (intOf j).toNat)
      case atStart => exact ⟨0, [], _, Nat.zero_le _, rfl, rfl, rfl, LotT.nil _, (fun p h => by cases h), HV.out, HS3.out⟩
      case round =>
        clear HS3 HV
        obtain ⟨k, ps, u, hk, rfl, hpl, hsnd, hlots, hge, hv, hs⟩ := hrel
        have HPL := Lib.hid hpl
        have HSN := Lib.hid hsnd
        have HL := Lib.hid hlots
        have HGE := Lib.hid hge
        have HV := Lib.hid hv
        have HS := Lib.hid hs
        clear hpl hsnd hlots hge hv hs
        by_cases hlk : k < n
        · have hlk' : (k : Int) < (n : Int) := by omega
          obtain ⟨hQO, hQM, hQR, hQC, hQG, hqz⟩ := HS.out
          have HO := Lib.hid hQO
          have HQM := Lib.hid hQM
          have HQ := Lib.hid (And.intro hQR (And.intro hQC (And.intro hQG hqz)))
          have hop : ∀ q, u.ownBlock = some q → w.heap.size + 2 ≤ q := own_block hQO
          have m1 := hQM.c 1
          have e0 := wrap_in (a := 2 * (k : Int)) (by omega)
          have e1 := wrap_in (a := 2 * (k : Int) + 2) (by omega)
          have e2 := wrap_in (a := 2 * (k : Int) + 3) (by omega)
          have e3 := wrap_in (a := 2 * (k : Int) + 1) (by omega)
          have hk3 : k ≤ 3 := by omega
          clear hQO hQM hQR hQC hQG HS
          go_wp2_with (at_builtin; (refine wpList_app1 (wr.alloc (.cells #[.int .i64 (2 * (k : Int)), .int .i64 (2 * (k : Int) + 2), .int .i64 (2 * (k : Int) + 3), .int .i64 (2 * (k : Int) + 1)] 3)) rfl _ _ 24 rfl (w.heap.size + 2) 54 nilS 24 Try.underlying24 infoSS rfl _ _ _ (by rfl) (HO.out.alloc _) (.slice (some ⟨wr.heap.size, 0, none⟩) 4 4) (by rw [World.size_alloc]; rfl) (by rfl) (by unfold maxLen; omega) (by omega) (by simp; omega) ?_))
          intro v' w4 ho4 hg4
          have HL4 := Lib.hid ((HL.out.new [2 * (k : Int), 2 * (k : Int) + 2, 2 * (k : Int) + 3, 2 * (k : Int) + 1] #[.int .i64 (2 * (k : Int)), .int .i64 (2 * (k : Int) + 2), .int .i64 (2 * (k : Int) + 3), .int .i64 (2 * (k : Int) + 1)] rfl).row (HO.out.alloc _) hg4)
          have hM4 : Mbox w4 (w.heap.size + 1) [v, u] := (HQM.out.alloc (.cells #[.int .i64 (2 * (k : Int)), .int .i64 (2 * (k : Int) + 2), .int .i64 (2 * (k : Int) + 3), .int .i64 (2 * (k : Int) + 1)] 3)).keep (fun hl => hg4.block _ hl (fun c => by have := hop _ c.symm; omega))
          have m1 := hM4.c 1
          have f1 := hM4.f 1
          have hsv : v'.oneCell' = true := by obtain ⟨a, b, rfl⟩ := own_shape ho4; rfl
          have ho4' : w4.ownsRow (w.heap.size + 2) 54 1 v' (k + 1) ((ps ++ [(wr.heap.size, [2 * (k : Int), 2 * (k : Int) + 2, 2 * (k : Int) + 3, 2 * (k : Int) + 1])]).map hdr) := by rw [List.map_append]; exact ho4
          obtain ⟨a4, b4, rfl⟩ := own_shape ho4
          have HS4 := Lib.hid (step_of (j := 1) (F' := [v, .slice a4 (k + 1) b4]) HQM.out HQ.out.1 HQ.out.2.1 HQ.out.2.2.1 HQ.out.2.2.2 hB hgl hop hg4 ho4' rfl)
          have HV4 := Lib.hid (own_keep ((HV.out.alloc (.cells #[.int .i64 (2 * (k : Int)), .int .i64 (2 * (k : Int) + 2), .int .i64 (2 * (k : Int) + 3), .int .i64 (2 * (k : Int) + 1)] 3)).kept hg4 (own_ne (HV.out.alloc (.cells #[.int .i64 (2 * (k : Int)), .int .i64 (2 * (k : Int) + 2), .int .i64 (2 * (k : Int) + 3), .int .i64 (2 * (k : Int) + 1)] 3)) (HO.out.alloc (.cells #[.int .i64 (2 * (k : Int)), .int .i64 (2 * (k : Int) + 2), .int .i64 (2 * (k : Int) + 3), .int .i64 (2 * (k : Int) + 1)] 3)) (by decide))) (gb_set (i := 1) (gb_refl w4 (some (w.heap.size + 1))) (.slice a4 (k + 1) b4)) (by omega))
          have HG4 : Hid (∀ p ∈ ps ++ [(wr.heap.size, [2 * (k : Int), 2 * (k : Int) + 2, 2 * (k : Int) + 3, 2 * (k : Int) + 1])], w.heap.size + 2 ≤ p.1) := Lib.hid fun p hp => by
            rcases List.mem_append.1 hp with hp | hp
            · exact HGE.out p hp
            · rw [List.mem_singleton] at hp
              subst hp
              exact HQ.out.2.2.2
          have HL5 := Lib.hid (HL4.out.grown (gb_set (i := 1) (gb_refl w4 (some (w.heap.size + 1))) (.slice a4 (k + 1) b4)) (fun p hp c => by injection c with c; have := HG4.out p hp; omega))
          have HSN4 : Hid ((ps ++ [(wr.heap.size, [2 * (k : Int), 2 * (k : Int) + 2, 2 * (k : Int) + 3, 2 * (k : Int) + 1])]).map Prod.snd = stripF (k + 1)) := Lib.hid (by
            unfold stripF at *
            rw [range_take_map, List.map_append, HSN.out]
            rfl)
          clear ho4 ho4' hg4 hM4 HL4 HO HV HL HQM HQ HSN HGE hsv
          go_wp2_with fail
          go_roundw
          case rel => exact ⟨k + 1, ps ++ [(wr.heap.size, [2 * (k : Int), 2 * (k : Int) + 2, 2 * (k : Int) + 3, 2 * (k : Int) + 1])], _, by omega, by go_num, by simp [HPL.out], HSN4.out, HL5.out, HG4.out, HV4.out, HS4.out⟩
          case measure => simp [intOf]; omega
        · have e : k = n := by omega
          subst e
          have hlk' : ¬ ((k : Int) < (k : Int)) := by omega
          obtain ⟨hQO, hQM, hQR, hQC, hQG, hqz⟩ := HS.out
          obtain ⟨A8, c8, rfl⟩ := own_shape HV.out
          obtain ⟨A9, c9, rfl⟩ := own_shape hQO
          have d0 := hQM.c 0
          have d1 := hQM.c 1
          have r0 := hQR.c 0
          have r1 := hQR.c 1
          have f0 := hQR.f 0
          have f1 := hQR.f 1
          have HO := Lib.hid hQO
          have HQ := Lib.hid (And.intro hQC (And.intro hQG hqz))
          have hsl : (stripF k).length = k := by simp [stripF]
          clear HS hQO hQM hQR hQC hQG
          go_wp2_with fail
          have hgb : ∀ (W : World) (q i : Nat) (v : Value), W.grownBy (W.setCell ⟨q, i, none⟩ v) (some q) := fun W q i v => gb_set (gb_refl W (some q)) v
          have hl : ∀ {W : World}, LotT W ps → ∀ (q i : Nat) (v : Value), q < w.heap.size + 2 → LotT (W.setCell ⟨q, i, none⟩ v) ps := fun h q i v hq => h.grown (hgb _ q i v) (fun p hp c => by injection c with c; have := HGE.out p hp; omega)
          refine bodyPost_ret (v := mv A8 A9 (2 * k + 2) c8 k c9) (by simp [results, Try.results78, go_sem, r0, r1]) rfl ⟨A8, c8, A9, c9, vs, stripF k, ps, by rw [HVL.out, hsl], ⟨HIN.out, .inr ⟨k, HNB.out.1, HNB.out.2, HVL.out, rfl⟩⟩, ?_, ?_, HSN.out, hl (hl HL.out _ _ _ (by omega)) _ _ _ (by omega), (fun p hp => by have := HGE.out p hp; omega), ?_, ?_⟩
          · rw [HVL.out]
            exact own_base (own_keep (own_keep HV.out (hgb _ _ _ _) (by omega)) (hgb _ _ _ _) (by omega)) (by omega)
          · rw [hsl]
            exact own_base (own_keep (own_keep HO.out (hgb _ _ _ _) (by omega)) (hgb _ _ _ _) (by omega)) (by omega)
          · exact (HQ.out.1.put (by omega) (by omega) _).put (by omega) (by omega) _
          · exact gb_put (gb_put HQ.out.2.1 (by omega) _) (by omega) _

theorem once_any (B g : Nat) (n : Int) (w : World) (hC : Cur w B g) (hn : 1 ≤ n) (hn2 : n ≤ 256) :
    Calls Try.prog 76 #[.pointer (some ⟨g, 0, none⟩), .int .i64 n] w fun e w' => ∃ b : Bool, e = .returned (.bool b) ∧ Cur w' B g ∧ w.grownBy w' (some g) := by
  go_enter Try.func76, Try.ntmps76
  go_wp2_with fail
  refine (below_any B g n _ hC hn (by omega)).mono ?_
  rintro e w1 ⟨x, xl, xh, rfl, hC1, hg1⟩
  go_wp2_with fail
  go_ret
  exact ⟨_, rfl, hC1, hg1⟩

set_option maxRecDepth 100000 in
set_option maxHeartbeats 4000000 in
theorem draw6_any (B g : Nat) (w : World) (hC : Cur w B g) (hB : B ≤ w.heap.size) :
    Calls Try.prog 35 #[.pointer (some ⟨g, 0, none⟩)] w (MeshDrawn B g w) := by
  have hge := hC.ge
  have hgl := hC.lt
  have HR : Mbox (w.alloc (.cells #[.slice none 0 0, .slice none 0 0] 26)) w.heap.size [.slice none 0 0, .slice none 0 0] := Mbox.new w #[.slice none 0 0, .slice none 0 0] 26
  have hG0 : w.grownBy (w.alloc (.cells #[.slice none 0 0, .slice none 0 0] 26)) (some g) := World.grownBy_alloc w _ _
  have hC0 := hC.keep (row := none) (World.grownBy_alloc w (.cells #[.slice none 0 0, .slice none 0 0] 26) none) (fun r c => by cases c) (by simp)
  clear hC
  go_enter Try.func35, Try.ntmps35
  go_wp2_with fail
  refine (once_any B g 2 _ hC0 (by omega) (by omega)).mono ?_
  rintro e w1 ⟨b, rfl, hC1, hg1⟩
  have HR := HR.grownM hg1 (by omega)
  have hG := gb_trans hG0 hg1
  have hz1 : w.heap.size + 1 ≤ w1.heap.size := Nat.le_trans (by simp) hg1.size
  clear hC0 hG0 hg1
  cases b
  · go_wp2_with fail
    refine (strip_any B g _ hC1 (by omega)).mono ?_
    rintro e w2 ⟨A1, c1, A2, c2, vs, fs, ps, rfl, hmm, ho1, ho2, hps, hlt, hge2, hC2, hg2⟩
    have HR := HR.grownM hg2 (by omega)
    have hG := gb_trans hG hg2
    have r0 := HR.c 0
    have r1 := HR.c 1
    have f0 := HR.f 0
    have f1 := HR.f 1
    have HX := Lib.hid (And.intro hmm (And.intro ho1 (And.intro ho2 (And.intro hps (And.intro hlt (And.intro hge2 (And.intro hC2 hG)))))))
    clear hmm ho1 ho2 hps hlt hge2 hC2 hG hg2
    go_wp2_with fail
    have hgb : ∀ (W : World) (q i : Nat) (v : Value), W.grownBy (W.setCell ⟨q, i, none⟩ v) (some q) := fun W q i v => gb_set (gb_refl W (some q)) v
    have hl : ∀ {W : World}, LotT W ps → ∀ (i : Nat) (v : Value), LotT (W.setCell ⟨w.heap.size, i, none⟩ v) ps := fun h i v => h.grown (hgb _ _ i v) (fun p hp c => by injection c with c; have := HX.out.2.2.2.2.2.1 p hp; omega)
    exact bodyPost_ret (v := mv A1 A2 vs.length c1 fs.length c2) (by simp [results, Try.results35, go_sem, r0, r1]) rfl ⟨A1, c1, A2, c2, vs, fs, ps, rfl, HX.out.1, own_base (own_keep (own_keep HX.out.2.1 (hgb _ _ _ _) (by omega)) (hgb _ _ _ _) (by omega)) (by omega), own_base (own_keep (own_keep HX.out.2.2.1 (hgb _ _ _ _) (by omega)) (hgb _ _ _ _) (by omega)) (by omega), HX.out.2.2.2.1, hl (hl HX.out.2.2.2.2.1 _ _) _ _, (fun p hp => by have := HX.out.2.2.2.2.2.1 p hp; omega), (HX.out.2.2.2.2.2.2.1.put (by omega) (by omega) _).put (by omega) (by omega) _, gb_put (gb_put HX.out.2.2.2.2.2.2.2 (by omega) _) (by omega) _⟩
  · go_wp2_with fail
    refine (cube_any B g _ hC1 (by omega)).mono ?_
    rintro e w2 ⟨A1, c1, A2, c2, vs, fs, ps, rfl, hmm, ho1, ho2, hps, hlt, hge2, hC2, hg2⟩
    have HR := HR.grownM hg2 (by omega)
    have hG := gb_trans hG hg2
    have r0 := HR.c 0
    have r1 := HR.c 1
    have f0 := HR.f 0
    have f1 := HR.f 1
    have HX := Lib.hid (And.intro hmm (And.intro ho1 (And.intro ho2 (And.intro hps (And.intro hlt (And.intro hge2 (And.intro hC2 hG)))))))
    clear hmm ho1 ho2 hps hlt hge2 hC2 hG hg2
    go_wp2_with fail
    have hgb : ∀ (W : World) (q i : Nat) (v : Value), W.grownBy (W.setCell ⟨q, i, none⟩ v) (some q) := fun W q i v => gb_set (gb_refl W (some q)) v
    have hl : ∀ {W : World}, LotT W ps → ∀ (i : Nat) (v : Value), LotT (W.setCell ⟨w.heap.size, i, none⟩ v) ps := fun h i v => h.grown (hgb _ _ i v) (fun p hp c => by injection c with c; have := HX.out.2.2.2.2.2.1 p hp; omega)
    exact bodyPost_ret (v := mv A1 A2 vs.length c1 fs.length c2) (by simp [results, Try.results35, go_sem, r0, r1]) rfl ⟨A1, c1, A2, c2, vs, fs, ps, rfl, HX.out.1, own_base (own_keep (own_keep HX.out.2.1 (hgb _ _ _ _) (by omega)) (hgb _ _ _ _) (by omega)) (by omega), own_base (own_keep (own_keep HX.out.2.2.1 (hgb _ _ _ _) (by omega)) (hgb _ _ _ _) (by omega)) (by omega), HX.out.2.2.2.1, hl (hl HX.out.2.2.2.2.1 _ _) _ _, (fun p hp => by have := HX.out.2.2.2.2.2.1 p hp; omega), (HX.out.2.2.2.2.2.2.1.put (by omega) (by omega) _).put (by omega) (by omega) _, gb_put (gb_put HX.out.2.2.2.2.2.2.2 (by omega) _) (by omega) _⟩

/-- a mesh that a law makes -/
def MeshMade (w : World) (E : Ending) (w' : World) : Prop :=
  ∃ A1 c1 A2 c2 vs fs, E = .returned (mv A1 A2 vs.length c1 fs.length c2) ∧ MadeMesh vs fs ∧ MeshIn w' A1 A2 vs fs ∧ Below w.heap.size w w' ∧ vs.length ≤ c1
theorem own_cap {w : World} {base m n : Nat} {e : TypeId} {A : Option Addr} {c : Nat} {xs : List Value} (h : w.ownsRow base e m (.slice A n c) n xs) : n ≤ c := by
  rcases h.2 with ⟨e1, e2⟩ | ⟨g, cap, cur, e1, _, _, h1, _⟩
  · omega
  · injection e1 with _ _ e3
    omega
theorem MadeMesh.four {vs : List V3} {fs : List (List Int)} (h : MadeMesh vs fs) : vs.length ≤ 8 ∧ fs.length ≤ 6 ∧ ∀ f ∈ fs, f.length = 4 := by
  rcases h.2 with ⟨h1, rfl⟩ | ⟨n, h1, h2, h3, rfl⟩
  · refine ⟨by omega, by decide, ?_⟩
    decide
  · have hn : n = 1 ∨ n = 2 ∨ n = 3 := by omega
    refine ⟨by omega, by simp [stripF]; omega, fun f hf => ?_⟩
    unfold stripF at hf
    obtain ⟨i, _, rfl⟩ := List.mem_map.1 hf
    rfl
theorem meshIn_of {w : World} {base : Nat} {A1 A2 : Option Addr} {c1 c2 : Nat} {vs : List V3} {fs : List (List Int)} {ps : Lot} (hmm : MadeMesh vs fs) (ho1 : w.ownsRow base 37 3 (.slice A1 vs.length c1) vs.length (vs.flatMap vg))
    (ho2 : w.ownsRow base 54 1 (.slice A2 fs.length c2) fs.length (ps.map hdr)) (hps : ps.map Prod.snd = fs) (hl : LotT w ps) : MeshIn w A1 A2 vs fs := by
  refine ⟨RowC.of_own vg_len ho1 rfl, ?_⟩
  have hpl : ps.length = fs.length := by rw [← hps, List.length_map]
  rw [← hpl] at ho2
  have h := hl.1.rowSS (Row.of_own ho2) (fun p hp => by
    have h1 : p.2 ∈ fs := by rw [← hps]; exact List.mem_map.2 ⟨p, hp, rfl⟩
    rw [hmm.four.2.2 _ h1]
    unfold maxLen
    omega)
  rw [hps] at h
  exact h
set_option maxRecDepth 100000 in
set_option maxHeartbeats 4000000 in
theorem makeMesh_any (A : Option Addr) (c : Nat) (bs : List Int) (w : World) (hR : Row U8 w w.heap.size A bs) (h8 : ∀ x ∈ bs, 0 ≤ x ∧ x ≤ 255) (hl : bs.length ≤ 1048576) :
    Calls Try.prog 9 #[.slice A bs.length c] w (MeshMade w) := by
  have HR : Mbox (w.alloc (.cells #[.slice none 0 0, .slice none 0 0] 26)) w.heap.size [.slice none 0 0, .slice none 0 0] := Mbox.new w #[.slice none 0 0, .slice none 0 0] 26
  have HW : Below w.heap.size w (w.alloc (.cells #[.slice none 0 0, .slice none 0 0] 26)) := (Below.refl _ _).alloc (Nat.le_refl _) _
  have hR1 := hR.later HW
  clear hR
  go_enter Try.func9, Try.ntmps9
  go_wp2_with fail
  refine (new_any _ _ bs _ hR1 h8 hl).mono ?_
  rintro e w1 ⟨g, rfl, hC, hb⟩
  have HR := HR.later hb
  have HW := bcall HW hb (by simp)
  have hs := hb.size
  have HC := Lib.hid hC
  have HS := Lib.hid hs
  clear hR1 h8 hb hC hs
  go_wp2_with fail
  refine (draw6_any _ g _ HC.out HS.out).mono ?_
  rintro e w2 ⟨A1, c1, A2, c2, vs, fs, ps, rfl, hmm, ho1, ho2, hps, hlt, hge2, hC2, hg2⟩
  have hgge := HC.out.ge
  simp only [World.size_alloc] at hgge
  have HR := HR.grownM hg2 (by omega)
  have HW := HW.grown hg2 HW.size (fun k h => by injection h with h; omega)
  have r0 := HR.c 0
  have r1 := HR.c 1
  have f0 := HR.f 0
  have f1 := HR.f 1
  have hs1 : w.heap.size + 1 ≤ w1.heap.size := by have := HS.out; simpa using this
  have HX := Lib.hid (And.intro hmm (And.intro ho1 (And.intro ho2 (And.intro hps (And.intro hlt hge2)))))
  clear hmm ho1 ho2 hps hlt hge2 hC2 hg2
  go_wp2_with fail
  have hgb : ∀ (W : World) (q i : Nat) (v : Value), W.grownBy (W.setCell ⟨q, i, none⟩ v) (some q) := fun W q i v => gb_set (gb_refl W (some q)) v
  have hl : ∀ {W : World}, LotT W ps → ∀ (i : Nat) (v : Value), LotT (W.setCell ⟨w.heap.size, i, none⟩ v) ps := fun h i v => h.grown (hgb _ _ i v) (fun p hp c => by injection c with c; have := HX.out.2.2.2.2.2 p hp; omega)
  exact bodyPost_ret (v := mv A1 A2 vs.length c1 fs.length c2) (by simp [results, Try.results9, go_sem, r0, r1]) rfl ⟨A1, c1, A2, c2, vs, fs, rfl, HX.out.1, meshIn_of HX.out.1 (own_keep (own_keep HX.out.2.1 (hgb _ _ _ _) (by omega)) (hgb _ _ _ _) (by omega)) (own_keep (own_keep HX.out.2.2.1 (hgb _ _ _ _) (by omega)) (hgb _ _ _ _) (by omega)) HX.out.2.2.2.1 (hl (hl HX.out.2.2.2.2.1 _ _) _ _), (HW.grown (gb_set (gb_set (gb_refl _ (some w.heap.size)) _) _) HW.size (fun k h => by injection h with h; omega)), own_cap HX.out.2.1⟩


end Go.Proofs.Ytdefhepagpgnaaa
