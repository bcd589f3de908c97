/- Contracts of ApplyAll: the program and its model. -/
import Derived.Test.YtjflkapdnnecjaaProg
import Derived.Test.YtjflkapdnnecjaaInts
import Derived.Test.YtjflkapdnnecjaaVbox
import Derived.Test.YtjflkapdnnecjaaVec
import Derived.Test.YtjflkapdnnecjaaHeld
import Derived.Test.YtjflkapdnnecjaaMem
import Derived.Test.YtjflkapdnnecjaaFlat
import Derived.Test.YtjflkapdnnecjaaRowC
import Derived.Test.YtjflkapdnnecjaaArr
import Derived.Test.YtjflkapdnnecjaaTr
import Derived.Test.YtjflkapdnnecjaaTMat
import Derived.Test.YtjflkapdnnecjaaVDot
import Derived.Test.YtjflkapdnnecjaaVAdd
import Derived.Test.YtjflkapdnnecjaaTAw
import Derived.Test.YtjflkapdnnecjaaTApp
import Derived.Test.YtjflkapdnnecjaaTsApp
import Derived.Test.YtjflkapdnnecjaaTApA
import Derived.Test.YtjflkapdnnecjaaVecS
import Derived.Test.YtjflkapdnnecjaaT12
import Derived.WalkKit
import Derived.WalkSpells
import Derived.WalkLawsBesides
import Derived.Lib.Hide
import Derived.Deep.RegionHeld3
import Derived.Deep.QuietTactic
import Derived.BigQuiet
import Derived.Handy
import Derived.Deep.DeepCutAuto
namespace Go.Proofs.Ytjflkapdnnecjaa
open Go.RowKit
/-- a transform applied to a vector -/
def apT (v : V3) (x : V12) : V3 := (apV (okT [x.1.1, x.1.2.1, x.1.2.2, x.2.1.1, x.2.1.2.1, x.2.1.2.2, x.2.2.1.1, x.2.2.1.2.1, x.2.2.1.2.2] x.2.2.2.1 x.2.2.2.2.1 x.2.2.2.2.2) (apP x.1.1 x.1.2.1 x.1.2.2 v.1 v.2.1 v.2.2 x.2.2.2.1) v.1, apV (okT [x.1.1, x.1.2.1, x.1.2.2, x.2.1.1, x.2.1.2.1, x.2.1.2.2, x.2.2.1.1, x.2.2.1.2.1, x.2.2.1.2.2] x.2.2.2.1 x.2.2.2.2.1 x.2.2.2.2.2) (apP x.2.1.1 x.2.1.2.1 x.2.1.2.2 v.1 v.2.1 v.2.2 x.2.2.2.2.1) v.2.1, apV (okT [x.1.1, x.1.2.1, x.1.2.2, x.2.1.1, x.2.1.2.1, x.2.1.2.2, x.2.2.1.1, x.2.2.1.2.1, x.2.2.1.2.2] x.2.2.2.1 x.2.2.2.2.1 x.2.2.2.2.2) (apP x.2.2.1.1 x.2.2.1.2.1 x.2.2.1.2.2 v.1 v.2.1 v.2.2 x.2.2.2.2.2) v.2.2)
theorem fold_step (xs : List V12) (u : V3) (k : Nat) (h : k < xs.length) : (xs.take (k + 1)).foldl apT u = apT ((xs.take k).foldl apT u) xs[k] := by
  rw [List.take_succ_eq_append_getElem h, List.foldl_append]; rfl

theorem apply_v (x : V12) (v : V3) (w : World) : Calls Try.prog 78 #[tr x.1.1 x.1.2.1 x.1.2.2 x.2.1.1 x.2.1.2.1 x.2.1.2.2 x.2.2.1.1 x.2.2.1.2.1 x.2.2.1.2.2 x.2.2.2.1 x.2.2.2.2.1 x.2.2.2.2.2, vec v.1 v.2.1 v.2.2] w (VecOut (apT v x).1 (apT v x).2.1 (apT v x).2.2 w) :=
  apply_any x.1.1 x.1.2.1 x.1.2.2 x.2.1.1 x.2.1.2.1 x.2.1.2.2 x.2.2.1.1 x.2.2.1.2.1 x.2.2.1.2.2 x.2.2.2.1 x.2.2.2.2.1 x.2.2.2.2.2 v.1 v.2.1 v.2.2 w

theorem sApply_v (x : V12) (v : V3) (w : World) : Calls Try.prog 76 #[tr x.1.1 x.1.2.1 x.1.2.2 x.2.1.1 x.2.1.2.1 x.2.1.2.2 x.2.2.1.1 x.2.2.1.2.1 x.2.2.1.2.2 x.2.2.2.1 x.2.2.2.2.1 x.2.2.2.2.2, vec v.1 v.2.1 v.2.2] w (VecOut (apT v x).1 (apT v x).2.1 (apT v x).2.2 w) :=
  sApply_any x.1.1 x.1.2.1 x.1.2.2 x.2.1.1 x.2.1.2.1 x.2.1.2.2 x.2.2.1.1 x.2.2.1.2.1 x.2.2.1.2.2 x.2.2.2.1 x.2.2.2.2.1 x.2.2.2.2.2 v.1 v.2.1 v.2.2 w

set_option maxHeartbeats 4000000 in
theorem applyAll_any (A : Option Addr) (c : Nat) (xs : List V12) (p q r : Int) (w : World) (hR : RowC 12 tg w w.heap.size A xs) (hl : xs.length ≤ 1099511627776) :
    Calls Try.prog 62 #[.slice A xs.length c, vec p q r] w (VecOut (xs.foldl apT (p, q, r)).1 (xs.foldl apT (p, q, r)).2.1 (xs.foldl apT (p, q, r)).2.2 w) := by
  have HT : Held w ((w.alloc (.cells #[.int .i64 p, .int .i64 q, .int .i64 r] 24)).alloc (.cells #[.int .i64 0, .int .i64 0, .int .i64 0] 24)) [(w.heap.size + 1, [.int .i64 0, .int .i64 0, .int .i64 0]), (w.heap.size, [.int .i64 p, .int .i64 q, .int .i64 r])] := by
    have h := ((Held.nil w).new #[.int .i64 p, .int .i64 q, .int .i64 r] 24).new #[.int .i64 0, .int .i64 0, .int .i64 0] 24
    simpa only [World.size_alloc] using h
  have HT0 : Held w ((w.alloc (.cells #[.int .i64 p, .int .i64 q, .int .i64 r] 24)).alloc (.cells #[.int .i64 0, .int .i64 0, .int .i64 0] 24)) [(w.heap.size, vg ((xs.take 0).foldl apT (p, q, r))), (w.heap.size + 1, [.int .i64 0, .int .i64 0, .int .i64 0])] := HT.pick (cs := [(w.heap.size, [.int .i64 p, .int .i64 q, .int .i64 r]), (w.heap.size + 1, [.int .i64 0, .int .i64 0, .int .i64 0])]) (by simp)
  clear HT
  go_enter Try.func62, Try.ntmps62
  go_wp2
  go_loopw [9] (fun i wr => ∃ k : Nat, k ≤ xs.length ∧ i = .int .i64 k ∧ Held w wr [(w.heap.size, vg ((xs.take k).foldl apT (p, q, r))), (w.heap.size + 1, [.int .i64 0, .int .i64 0, .int .i64 0])]) (fun i _ => xs.length - (intOf i).toNat)
  case atStart => exact ⟨0, Nat.zero_le _, rfl, HT0⟩
  case round =>
    clear HT0
    obtain ⟨k, hk, rfl, HT⟩ := hrel
    by_cases hlt : k < xs.length
    · obtain ⟨b, o, rfl, hbl, hc⟩ := hR.at hlt
      have hs := fold_step xs (p, q, r) k hlt
      obtain ⟨c0, c1, c2, c3, c4, c5, c6, c7, c8, c9, c10, c11⟩ := tg_at hc
      have c0 := (HT.below.cell (p := ⟨b, o + k * 12, none⟩) hbl).trans c0
      have c1 := (HT.below.cell (p := ⟨b, o + k * 12 + 1, none⟩) hbl).trans c1
      have c2 := (HT.below.cell (p := ⟨b, o + k * 12 + 2, none⟩) hbl).trans c2
      have c3 := (HT.below.cell (p := ⟨b, o + k * 12 + 3, none⟩) hbl).trans c3
      have c4 := (HT.below.cell (p := ⟨b, o + k * 12 + 4, none⟩) hbl).trans c4
      have c5 := (HT.below.cell (p := ⟨b, o + k * 12 + 5, none⟩) hbl).trans c5
      have c6 := (HT.below.cell (p := ⟨b, o + k * 12 + 6, none⟩) hbl).trans c6
      have c7 := (HT.below.cell (p := ⟨b, o + k * 12 + 7, none⟩) hbl).trans c7
      have c8 := (HT.below.cell (p := ⟨b, o + k * 12 + 8, none⟩) hbl).trans c8
      have c9 := (HT.below.cell (p := ⟨b, o + k * 12 + 9, none⟩) hbl).trans c9
      have c10 := (HT.below.cell (p := ⟨b, o + k * 12 + 10, none⟩) hbl).trans c10
      have c11 := (HT.below.cell (p := ⟨b, o + k * 12 + 11, none⟩) hbl).trans c11
      obtain ⟨x, hx⟩ : ∃ x, x = xs[k] := ⟨_, rfl⟩
      rw [← hx] at hs c0 c1 c2 c3 c4 c5 c6 c7 c8 c9 c10 c11
      generalize (xs.take k).foldl apT (p, q, r) = u at hs HT
      have HS := Lib.hid hs
      have hlt' : (k : Int) < (xs.length : Int) := by omega
      have hge' : (0 : Int) ≤ (k : Int) := by omega
      have hz := Lib.hid (HT.box 1).lt
      clear hx hs hR hc hbl
      go_upto_region 4 with fail
      have HT := (HT.new #[.int .i64 (x.1.1), .int .i64 (x.1.2.1), .int .i64 (x.1.2.2), .int .i64 (x.2.1.1), .int .i64 (x.2.1.2.1), .int .i64 (x.2.1.2.2), .int .i64 (x.2.2.1.1), .int .i64 (x.2.2.1.2.1), .int .i64 (x.2.2.1.2.2), .int .i64 (x.2.2.2.1), .int .i64 (x.2.2.2.2.1), .int .i64 (x.2.2.2.2.2)] 90).pick (cs := [(w.heap.size, vg u), (w.heap.size + 1, [.int .i64 0, .int .i64 0, .int .i64 0]), (wr.heap.size, tg x)]) (by simp [tg])
      clear c0 c1 c2 c3 c4 c5 c6 c7 c8 c9 c10 c11
      generalize wr.alloc _ = W1 at HT ⊢
      generalize wr.heap.size = k1 at HT hz ⊢
      have c0 := (HT.box 2).c 0
      have c1 := (HT.box 2).c 1
      have c2 := (HT.box 2).c 2
      have c3 := (HT.box 2).c 3
      have c4 := (HT.box 2).c 4
      have c5 := (HT.box 2).c 5
      have c6 := (HT.box 2).c 6
      have c7 := (HT.box 2).c 7
      have c8 := (HT.box 2).c 8
      have c9 := (HT.box 2).c 9
      have c10 := (HT.box 2).c 10
      have c11 := (HT.box 2).c 11
      have d0 := (HT.box 0).c 0
      have d1 := (HT.box 0).c 1
      have d2 := (HT.box 0).c 2
      go_wp2_with fail
      refine (apply_v _ _ _).mono ?_
      rintro e w2 ⟨rfl, hb2⟩
      have HT := HT.later hb2
      clear hb2 c0 c1 c2 c3 c4 c5 c6 c7 c8 c9 c10 c11 d0 d1 d2
      have hz2 := hz.out
      have HT := HT.pick (cs := [(w.heap.size, vg u), (w.heap.size + 1, [.int .i64 0, .int .i64 0, .int .i64 0])]) (by simp)
      clear hz hz2
      have d0 := (HT.box 0).c 0
      have d1 := (HT.box 0).c 1
      have d2 := (HT.box 0).c 2
      have f0 := (HT.box 0).f 0
      have f1 := (HT.box 0).f 1
      have f2 := (HT.box 0).f 2
      have HP := ((HT.put (Nat.le_refl _) (by simp) 0 (.int .i64 (apT u x).1)).put (Nat.le_refl _) (by simp) 1 (.int .i64 (apT u x).2.1)).put (Nat.le_refl _) (by simp) 2 (.int .i64 (apT u x).2.2)
      have HH := Lib.hid HP
      clear HP HT
      go_wp2
      go_roundw
      case rel => exact ⟨k + 1, by omega, by go_num, by rw [HS.out]; exact HH.out⟩
      case measure => simp [intOf]; omega
    · have e : k = xs.length := by omega
      subst e
      rw [List.take_length] at HT
      obtain ⟨u, hu⟩ : ∃ u, u = xs.foldl apT (p, q, r) := ⟨_, rfl⟩
      rw [← hu] at HT
      have HU := Lib.hid hu
      clear hu
      have d0 := (HT.box 0).c 0
      have d1 := (HT.box 0).c 1
      have d2 := (HT.box 0).c 2
      have r0 := (HT.box 1).c 0
      have r1 := (HT.box 1).c 1
      have r2 := (HT.box 1).c 2
      have g0 := (HT.box 1).f 0
      have g1 := (HT.box 1).f 1
      have g2 := (HT.box 1).f 2
      have HW := HT.below
      clear HT
      clear hR hlt hk
      go_wp2_with fail
      exact bodyPost_ret (v := vec u.1 u.2.1 u.2.2) (by simp [results, Try.results62, go_sem, r0, r1, r2]) rfl ⟨by rw [HU.out], bset3 HW (by omega)⟩

set_option maxHeartbeats 4000000 in
theorem sApplyAll_any (A : Option Addr) (c : Nat) (xs : List V12) (p q r : Int) (w : World) (hR : RowC 12 tg w w.heap.size A xs) (hl : xs.length ≤ 1099511627776) :
    Calls Try.prog 60 #[.slice A xs.length c, vec p q r] w (VecOut (xs.foldl apT (p, q, r)).1 (xs.foldl apT (p, q, r)).2.1 (xs.foldl apT (p, q, r)).2.2 w) := by
  have HT : Held w ((w.alloc (.cells #[.int .i64 p, .int .i64 q, .int .i64 r] 24)).alloc (.cells #[.int .i64 0, .int .i64 0, .int .i64 0] 24)) [(w.heap.size + 1, [.int .i64 0, .int .i64 0, .int .i64 0]), (w.heap.size, [.int .i64 p, .int .i64 q, .int .i64 r])] := by
    have h := ((Held.nil w).new #[.int .i64 p, .int .i64 q, .int .i64 r] 24).new #[.int .i64 0, .int .i64 0, .int .i64 0] 24
    simpa only [World.size_alloc] using h
  have HT0 : Held w ((w.alloc (.cells #[.int .i64 p, .int .i64 q, .int .i64 r] 24)).alloc (.cells #[.int .i64 0, .int .i64 0, .int .i64 0] 24)) [(w.heap.size, vg ((xs.take 0).foldl apT (p, q, r))), (w.heap.size + 1, [.int .i64 0, .int .i64 0, .int .i64 0])] := HT.pick (cs := [(w.heap.size, [.int .i64 p, .int .i64 q, .int .i64 r]), (w.heap.size + 1, [.int .i64 0, .int .i64 0, .int .i64 0])]) (by simp)
  clear HT
  go_enter Try.func60, Try.ntmps60
  go_wp2
  go_loopw [9] (fun i wr => ∃ k : Nat, k ≤ xs.length ∧ i = .int .i64 k ∧ Held w wr [(w.heap.size, vg ((xs.take k).foldl apT (p, q, r))), (w.heap.size + 1, [.int .i64 0, .int .i64 0, .int .i64 0])]) (fun i _ => xs.length - (intOf i).toNat)
  case atStart => exact ⟨0, Nat.zero_le _, rfl, HT0⟩
  case round =>
    clear HT0
    obtain ⟨k, hk, rfl, HT⟩ := hrel
    by_cases hlt : k < xs.length
    · obtain ⟨b, o, rfl, hbl, hc⟩ := hR.at hlt
      have hs := fold_step xs (p, q, r) k hlt
      obtain ⟨c0, c1, c2, c3, c4, c5, c6, c7, c8, c9, c10, c11⟩ := tg_at hc
      have c0 := (HT.below.cell (p := ⟨b, o + k * 12, none⟩) hbl).trans c0
      have c1 := (HT.below.cell (p := ⟨b, o + k * 12 + 1, none⟩) hbl).trans c1
      have c2 := (HT.below.cell (p := ⟨b, o + k * 12 + 2, none⟩) hbl).trans c2
      have c3 := (HT.below.cell (p := ⟨b, o + k * 12 + 3, none⟩) hbl).trans c3
      have c4 := (HT.below.cell (p := ⟨b, o + k * 12 + 4, none⟩) hbl).trans c4
      have c5 := (HT.below.cell (p := ⟨b, o + k * 12 + 5, none⟩) hbl).trans c5
      have c6 := (HT.below.cell (p := ⟨b, o + k * 12 + 6, none⟩) hbl).trans c6
      have c7 := (HT.below.cell (p := ⟨b, o + k * 12 + 7, none⟩) hbl).trans c7
      have c8 := (HT.below.cell (p := ⟨b, o + k * 12 + 8, none⟩) hbl).trans c8
      have c9 := (HT.below.cell (p := ⟨b, o + k * 12 + 9, none⟩) hbl).trans c9
      have c10 := (HT.below.cell (p := ⟨b, o + k * 12 + 10, none⟩) hbl).trans c10
      have c11 := (HT.below.cell (p := ⟨b, o + k * 12 + 11, none⟩) hbl).trans c11
      obtain ⟨x, hx⟩ : ∃ x, x = xs[k] := ⟨_, rfl⟩
      rw [← hx] at hs c0 c1 c2 c3 c4 c5 c6 c7 c8 c9 c10 c11
      generalize (xs.take k).foldl apT (p, q, r) = u at hs HT
      have HS := Lib.hid hs
      have hlt' : (k : Int) < (xs.length : Int) := by omega
      have hge' : (0 : Int) ≤ (k : Int) := by omega
      have hz := Lib.hid (HT.box 1).lt
      clear hx hs hR hc hbl
      go_upto_region 4 with fail
      have HT := (HT.new #[.int .i64 (x.1.1), .int .i64 (x.1.2.1), .int .i64 (x.1.2.2), .int .i64 (x.2.1.1), .int .i64 (x.2.1.2.1), .int .i64 (x.2.1.2.2), .int .i64 (x.2.2.1.1), .int .i64 (x.2.2.1.2.1), .int .i64 (x.2.2.1.2.2), .int .i64 (x.2.2.2.1), .int .i64 (x.2.2.2.2.1), .int .i64 (x.2.2.2.2.2)] 90).pick (cs := [(w.heap.size, vg u), (w.heap.size + 1, [.int .i64 0, .int .i64 0, .int .i64 0]), (wr.heap.size, tg x)]) (by simp [tg])
      clear c0 c1 c2 c3 c4 c5 c6 c7 c8 c9 c10 c11
      generalize wr.alloc _ = W1 at HT ⊢
      generalize wr.heap.size = k1 at HT hz ⊢
      have c0 := (HT.box 2).c 0
      have c1 := (HT.box 2).c 1
      have c2 := (HT.box 2).c 2
      have c3 := (HT.box 2).c 3
      have c4 := (HT.box 2).c 4
      have c5 := (HT.box 2).c 5
      have c6 := (HT.box 2).c 6
      have c7 := (HT.box 2).c 7
      have c8 := (HT.box 2).c 8
      have c9 := (HT.box 2).c 9
      have c10 := (HT.box 2).c 10
      have c11 := (HT.box 2).c 11
      have d0 := (HT.box 0).c 0
      have d1 := (HT.box 0).c 1
      have d2 := (HT.box 0).c 2
      go_wp2_with fail
      refine (sApply_v _ _ _).mono ?_
      rintro e w2 ⟨rfl, hb2⟩
      have HT := HT.later hb2
      clear hb2 c0 c1 c2 c3 c4 c5 c6 c7 c8 c9 c10 c11 d0 d1 d2
      have hz2 := hz.out
      have HT := HT.pick (cs := [(w.heap.size, vg u), (w.heap.size + 1, [.int .i64 0, .int .i64 0, .int .i64 0])]) (by simp)
      clear hz hz2
      have d0 := (HT.box 0).c 0
      have d1 := (HT.box 0).c 1
      have d2 := (HT.box 0).c 2
      have f0 := (HT.box 0).f 0
      have f1 := (HT.box 0).f 1
      have f2 := (HT.box 0).f 2
      have HP := ((HT.put (Nat.le_refl _) (by simp) 0 (.int .i64 (apT u x).1)).put (Nat.le_refl _) (by simp) 1 (.int .i64 (apT u x).2.1)).put (Nat.le_refl _) (by simp) 2 (.int .i64 (apT u x).2.2)
      have HH := Lib.hid HP
      clear HP HT
      go_wp2
      go_roundw
      case rel => exact ⟨k + 1, by omega, by go_num, by rw [HS.out]; exact HH.out⟩
      case measure => simp [intOf]; omega
    · have e : k = xs.length := by omega
      subst e
      rw [List.take_length] at HT
      obtain ⟨u, hu⟩ : ∃ u, u = xs.foldl apT (p, q, r) := ⟨_, rfl⟩
      rw [← hu] at HT
      have HU := Lib.hid hu
      clear hu
      have d0 := (HT.box 0).c 0
      have d1 := (HT.box 0).c 1
      have d2 := (HT.box 0).c 2
      have r0 := (HT.box 1).c 0
      have r1 := (HT.box 1).c 1
      have r2 := (HT.box 1).c 2
      have g0 := (HT.box 1).f 0
      have g1 := (HT.box 1).f 1
      have g2 := (HT.box 1).f 2
      have HW := HT.below
      clear HT
      clear hR hlt hk
      go_wp2_with fail
      exact bodyPost_ret (v := vec u.1 u.2.1 u.2.2) (by simp [results, Try.results60, go_sem, r0, r1, r2]) rfl ⟨by rw [HU.out], bset3 HW (by omega)⟩
end Go.Proofs.Ytjflkapdnnecjaa
