/- Contract of DiceCell, in the model. -/
import Derived.Test.YtmhcpjednogegaaProg
import Derived.Test.YtmhcpjednogegaaInts
import Derived.Test.YtmhcpjednogegaaVbox
import Derived.Test.YtmhcpjednogegaaVec
import Derived.Test.YtmhcpjednogegaaHeld
import Derived.Test.YtmhcpjednogegaaMem
import Derived.Test.YtmhcpjednogegaaFlat
import Derived.Test.YtmhcpjednogegaaRowC
import Derived.Test.YtmhcpjednogegaaArr
import Derived.Test.YtmhcpjednogegaaTr
import Derived.Test.YtmhcpjednogegaaPat
import Derived.Test.YtmhcpjednogegaaVecS
import Derived.Test.YtmhcpjednogegaaPut
import Derived.Test.YtmhcpjednogegaaSub
import Derived.Test.YtmhcpjednogegaaSplW
import Derived.Test.YtmhcpjednogegaaGrid
import Derived.Test.YtmhcpjednogegaaPEv
import Derived.Test.YtmhcpjednogegaaPEs
import Derived.Test.YtmhcpjednogegaaCam
import Derived.Test.YtmhcpjednogegaaCPrj
import Derived.Test.YtmhcpjednogegaaPVal
import Derived.Test.YtmhcpjednogegaaDv
import Derived.Test.YtmhcpjednogegaaDp
import Derived.WalkKit
import Derived.WalkSpells
import Derived.WalkLawsBesides
import Derived.Lib.Hide
import Derived.Deep.RegionHeld3
import Derived.Deep.QuietTactic
import Derived.BigQuiet
import Derived.Handy
import Derived.Deep.DeepCutAuto
import Derived.Laws.RangeAny
import Derived.BigRegion
namespace Go.Proofs.Ytmhcpjednogegaa
open Go.RowKit

set_option maxRecDepth 100000 in
set_option maxHeartbeats 16000000 in
theorem sDiceCell_any (C : CV) (P : PV) (u v n lx ly : Int) (w : World) :
    Calls Try.prog 19 #[C.v, P.v, .int .i64 u, .int .i64 v, .int .i64 n, .int .i64 lx, .int .i64 ly] w (MicOut (cellL C P lx ly u v n) w) := by
  have HT : Held w ((w.alloc (.cells #[.int .i64 C.a, .int .i64 C.b, .int .i64 C.c, .int .i64 C.d, .bool C.e, .int .i64 C.f, .int .i64 C.g] 24)).alloc (.cells #[.int .i64 P.p0, .int .i64 P.p1, .int .i64 P.p2, .int .i64 P.p3, .int .i64 P.p4, .int .i64 P.p5, .int .i64 P.p6, .int .i64 P.p7, .int .i64 P.p8, .int .i64 P.x, .int .i64 P.y, .int .i64 P.z] 30)) [(w.heap.size + 1, [.int .i64 P.p0, .int .i64 P.p1, .int .i64 P.p2, .int .i64 P.p3, .int .i64 P.p4, .int .i64 P.p5, .int .i64 P.p6, .int .i64 P.p7, .int .i64 P.p8, .int .i64 P.x, .int .i64 P.y, .int .i64 P.z]), (w.heap.size, [.int .i64 C.a, .int .i64 C.b, .int .i64 C.c, .int .i64 C.d, .bool C.e, .int .i64 C.f, .int .i64 C.g])] := by
    have h := ((Held.nil w).new #[.int .i64 C.a, .int .i64 C.b, .int .i64 C.c, .int .i64 C.d, .bool C.e, .int .i64 C.f, .int .i64 C.g] 24).new #[.int .i64 P.p0, .int .i64 P.p1, .int .i64 P.p2, .int .i64 P.p3, .int .i64 P.p4, .int .i64 P.p5, .int .i64 P.p6, .int .i64 P.p7, .int .i64 P.p8, .int .i64 P.x, .int .i64 P.y, .int .i64 P.z] 30
    simpa only [World.size_alloc] using h
  rcases h0 : inC 1 64 n with _ | _
  · skip
    have HE : cellL C P lx ly u v n = [] := by unfold cellL inCell; rw [h0] <;> rfl
    have HW := HT.below
    clear HT
    go_enter Try.func19, Try.ntmps19
    go_wp2_with (go_at_call 46; refine (l01In_any _ _ _ _).mono ?_; rintro x w' ⟨rfl, rfl⟩; (try simp only [h0]))
    go_ret
    exact ⟨none, 0, by rw [HE]; rfl, by rw [HE]; exact World.ownsRow_nil _ _ _ _, HW⟩
  · have hn := (inC_iff ..).1 h0
    have ew : IntKind.i64.wrap (n - 1) = n - 1 := wrap_in (by omega)
    rcases h1 : inC 0 (n - 1) u with _ | _
    · skip
      have HE : cellL C P lx ly u v n = [] := by unfold cellL inCell; rw [h0, h1] <;> rfl
      have HW := HT.below
      clear HT
      go_enter Try.func19, Try.ntmps19
      go_wp2_with (go_at_call 46; refine (l01In_any _ _ _ _).mono ?_; rintro x w' ⟨rfl, rfl⟩; (try simp only [h0, h1]))
      go_ret
      exact ⟨none, 0, by rw [HE]; rfl, by rw [HE]; exact World.ownsRow_nil _ _ _ _, HW⟩
    rcases h2 : inC 0 (n - 1) v with _ | _
    · skip
      have HE : cellL C P lx ly u v n = [] := by unfold cellL inCell; rw [h0, h1, h2] <;> rfl
      have HW := HT.below
      clear HT
      go_enter Try.func19, Try.ntmps19
      go_wp2_with (go_at_call 46; refine (l01In_any _ _ _ _).mono ?_; rintro x w' ⟨rfl, rfl⟩; (try simp only [h0, h1, h2]))
      go_ret
      exact ⟨none, 0, by rw [HE]; rfl, by rw [HE]; exact World.ownsRow_nil _ _ _ _, HW⟩
    have hu := (inC_iff ..).1 h1
    have hv := (inC_iff ..).1 h2
    have hk : inCell n u v = true := by unfold inCell; rw [h0, h1, h2]; rfl
    have HO0 := own_row0 (size := 3) (w.alloc (.cells #[.int .i64 C.a, .int .i64 C.b, .int .i64 C.c, .int .i64 C.d, .bool C.e, .int .i64 C.f, .int .i64 C.g] 24) |>.alloc (.cells #[.int .i64 P.p0, .int .i64 P.p1, .int .i64 P.p2, .int .i64 P.p3, .int .i64 P.p4, .int .i64 P.p5, .int .i64 P.p6, .int .i64 P.p7, .int .i64 P.p8, .int .i64 P.x, .int .i64 P.y, .int .i64 P.z] 30)) 27
    have HT0 := HT.alloc (.cells #[] 27)
    simp only [World.size_alloc] at HO0
    have HO0 := Lib.hid HO0
    have HT0 := Lib.hid HT0
    clear HT
    go_enter Try.func19, Try.ntmps19
    go_wp2_with (go_at_call 46; refine (l01In_any _ _ _ _).mono ?_; rintro x w' ⟨rfl, rfl⟩; (try simp only [h0, h1, h2]))
    have HB := Lib.hid (show (1 ≤ n ∧ n ≤ 64) ∧ (0 ≤ u ∧ u ≤ 63) ∧ 0 ≤ v ∧ v ≤ 63 by omega)
    clear h0 h1 h2 hn hu hv ew
    go_loopw [15, 16] (fun s i wr => ∃ k : Nat, k ≤ 4 ∧ i = .int .i64 k ∧ wr.ownsRow (w.heap.size + 2) 27 3 s k (((pts4 C P lx ly n u v).take k).flatMap vg) ∧ (∀ j, j < k → (kts4 C P lx ly n u v)[j]? = some true) ∧ Held w wr [(w.heap.size + 1, [.int .i64 P.p0, .int .i64 P.p1, .int .i64 P.p2, .int .i64 P.p3, .int .i64 P.p4, .int .i64 P.p5, .int .i64 P.p6, .int .i64 P.p7, .int .i64 P.p8, .int .i64 P.x, .int .i64 P.y, .int .i64 P.z]), (w.heap.size, [.int .i64 C.a, .int .i64 C.b, .int .i64 C.c, .int .i64 C.d, .bool C.e, .int .i64 C.f, .int .i64 C.g])]) (fun _ i _ => 4 - (intOf i).toNat)
    case atStart => exact ⟨0, Nat.zero_le _, rfl, HO0.out, fun j hj => absurd hj (Nat.not_lt_zero _), HT0.out⟩
    case round =>
      obtain ⟨k, hk4, rfl, hown, hgood, HT⟩ := hrel
      clear HO0 HT0
      have HO := Lib.hid hown
      have HG := Lib.hid hgood
      clear hown hgood
      by_cases hlt : k < 4
      · have hlt' : (k : Int) < 4 := by omega
        obtain ⟨c, hc⟩ : ∃ c, c = k % 2 := ⟨_, rfl⟩
        obtain ⟨r, hr⟩ : ∃ r, r = k / 2 := ⟨_, rfl⟩
        have ek : 2 * r + c = k := by omega
        have hp := pts4_at C P lx ly n u v c r (by omega) (by omega)
        have hq := kts4_at C P lx ly n u v c r (by omega) (by omega)
        rw [ek] at hp hq
        have hb := HB.out
        have hcr : c < 2 ∧ r < 2 := by omega
        have e1 : Int.tmod (k : Int) 2 = (c : Int) := by rw [Int.tmod_eq_emod_of_nonneg (by omega)]; omega
        have e2 : Int.tdiv (k : Int) 2 = (r : Int) := by rw [Int.tdiv_eq_ediv_of_nonneg (by omega)]; omega
        have w1' : IntKind.i64.wrap (c : Int) = (c : Int) := wrap_in (by omega)
        have w2' : IntKind.i64.wrap (r : Int) = (r : Int) := wrap_in (by omega)
        have eu : IntKind.i64.wrap (u + (c : Int)) = u + c := wrap_in (by omega)
        have ev : IntKind.i64.wrap (v + (r : Int)) = v + r := wrap_in (by omega)
        obtain ⟨pt, HPT⟩ : ∃ pt, pt = P.at (u + c) (v + r) n := ⟨_, rfl⟩
        have HE : Hid (∀ w, Calls Try.prog 51 #[P.v, .int .i64 (u + c), .int .i64 (v + r), .int .i64 n] w (VecIs pt w)) := Lib.hid (fun w => by rw [HPT]; exact sEvalP P _ _ n w)
        obtain ⟨kk, ekk⟩ : ∃ k, k = gK C P lx ly n (u + c) (v + r) := ⟨_, rfl⟩
        obtain ⟨zz, ezz⟩ : ∃ z, z = zV kk (gV C P lx ly n (u + c) (v + r)) := ⟨_, rfl⟩
        have HJ : Hid (∀ w, Calls Try.prog 50 #[C.v, v3v pt, .int .i64 lx, .int .i64 ly] w (SeenIs kk zz w)) := Lib.hid (fun w => by rw [ezz, ekk, HPT]; exact sProjC C _ lx ly w)
        have HKK := Lib.hid ekk
        have HZZ := Lib.hid ezz
        have HP := Lib.hid hp
        have HQQ := Lib.hid hq
        have HCR := Lib.hid hcr
        have hbx : w.heap.size + 1 < wr.heap.size := (HT.box 0).lt
        have HQ : Held wr wr [(w.heap.size + 1, [.int .i64 P.p0, .int .i64 P.p1, .int .i64 P.p2, .int .i64 P.p3, .int .i64 P.p4, .int .i64 P.p5, .int .i64 P.p6, .int .i64 P.p7, .int .i64 P.p8, .int .i64 P.x, .int .i64 P.y, .int .i64 P.z]), (w.heap.size, [.int .i64 C.a, .int .i64 C.b, .int .i64 C.c, .int .i64 C.d, .bool C.e, .int .i64 C.f, .int .i64 C.g])] := ⟨Below.refl _ _, HT.2⟩
        have HTT := Lib.hid HT
        have HKL := Lib.hid hlt
        clear HPT ekk ezz hp hq hcr hb hc hr ek HT hlt hk4
        go_upto_region 7 with fail
        have HC : ∀ W, Held wr W [(w.heap.size + 1, [.int .i64 P.p0, .int .i64 P.p1, .int .i64 P.p2, .int .i64 P.p3, .int .i64 P.p4, .int .i64 P.p5, .int .i64 P.p6, .int .i64 P.p7, .int .i64 P.p8, .int .i64 P.x, .int .i64 P.y, .int .i64 P.z]), (w.heap.size, [.int .i64 C.a, .int .i64 C.b, .int .i64 C.c, .int .i64 C.d, .bool C.e, .int .i64 C.f, .int .i64 C.g])] → (W.cell? ⟨w.heap.size, 0, none⟩ = some (.int .i64 C.a) ∧ W.cell? ⟨w.heap.size, 1, none⟩ = some (.int .i64 C.b) ∧ W.cell? ⟨w.heap.size, 2, none⟩ = some (.int .i64 C.c) ∧ W.cell? ⟨w.heap.size, 3, none⟩ = some (.int .i64 C.d) ∧ W.cell? ⟨w.heap.size, 4, none⟩ = some (.bool C.e) ∧ W.cell? ⟨w.heap.size, 5, none⟩ = some (.int .i64 C.f) ∧ W.cell? ⟨w.heap.size, 6, none⟩ = some (.int .i64 C.g) ∧ W.cell? ⟨w.heap.size + 1, 0, none⟩ = some (.int .i64 P.p0) ∧ W.cell? ⟨w.heap.size + 1, 1, none⟩ = some (.int .i64 P.p1) ∧ W.cell? ⟨w.heap.size + 1, 2, none⟩ = some (.int .i64 P.p2) ∧ W.cell? ⟨w.heap.size + 1, 3, none⟩ = some (.int .i64 P.p3) ∧ W.cell? ⟨w.heap.size + 1, 4, none⟩ = some (.int .i64 P.p4) ∧ W.cell? ⟨w.heap.size + 1, 5, none⟩ = some (.int .i64 P.p5) ∧ W.cell? ⟨w.heap.size + 1, 6, none⟩ = some (.int .i64 P.p6) ∧ W.cell? ⟨w.heap.size + 1, 7, none⟩ = some (.int .i64 P.p7) ∧ W.cell? ⟨w.heap.size + 1, 8, none⟩ = some (.int .i64 P.p8) ∧ W.cell? ⟨w.heap.size + 1, 9, none⟩ = some (.int .i64 P.x) ∧ W.cell? ⟨w.heap.size + 1, 10, none⟩ = some (.int .i64 P.y) ∧ W.cell? ⟨w.heap.size + 1, 11, none⟩ = some (.int .i64 P.z)) := fun W h => ⟨(h.box 1).c 0, (h.box 1).c 1, (h.box 1).c 2, (h.box 1).c 3, (h.box 1).c 4, (h.box 1).c 5, (h.box 1).c 6, (h.box 0).c 0, (h.box 0).c 1, (h.box 0).c 2, (h.box 0).c 3, (h.box 0).c 4, (h.box 0).c 5, (h.box 0).c 6, (h.box 0).c 7, (h.box 0).c 8, (h.box 0).c 9, (h.box 0).c 10, (h.box 0).c 11⟩
        have hz0 := (HQ.box 0).lt
        have hz1 := (HQ.box 1).lt
        go_cut [17, 18] (fun s x wx => ∃ gg : Nat, s = .pointer (some ⟨gg, 0, none⟩) ∧ x = .bool kk ∧ Mbox wx gg [.int .i64 zz.1, .int .i64 zz.2.1, .int .i64 zz.2.2] ∧ Below wr.heap.size wr wx)
        case first =>
          go_region_held3 (fun w' => w'.cell? ⟨w.heap.size, 0, none⟩ = some (.int .i64 C.a) ∧ w'.cell? ⟨w.heap.size, 1, none⟩ = some (.int .i64 C.b) ∧ w'.cell? ⟨w.heap.size, 2, none⟩ = some (.int .i64 C.c) ∧ w'.cell? ⟨w.heap.size, 3, none⟩ = some (.int .i64 C.d) ∧ w'.cell? ⟨w.heap.size, 4, none⟩ = some (.bool C.e) ∧ w'.cell? ⟨w.heap.size, 5, none⟩ = some (.int .i64 C.f) ∧ w'.cell? ⟨w.heap.size, 6, none⟩ = some (.int .i64 C.g) ∧ w'.cell? ⟨w.heap.size + 1, 0, none⟩ = some (.int .i64 P.p0) ∧ w'.cell? ⟨w.heap.size + 1, 1, none⟩ = some (.int .i64 P.p1) ∧ w'.cell? ⟨w.heap.size + 1, 2, none⟩ = some (.int .i64 P.p2) ∧ w'.cell? ⟨w.heap.size + 1, 3, none⟩ = some (.int .i64 P.p3) ∧ w'.cell? ⟨w.heap.size + 1, 4, none⟩ = some (.int .i64 P.p4) ∧ w'.cell? ⟨w.heap.size + 1, 5, none⟩ = some (.int .i64 P.p5) ∧ w'.cell? ⟨w.heap.size + 1, 6, none⟩ = some (.int .i64 P.p6) ∧ w'.cell? ⟨w.heap.size + 1, 7, none⟩ = some (.int .i64 P.p7) ∧ w'.cell? ⟨w.heap.size + 1, 8, none⟩ = some (.int .i64 P.p8) ∧ w'.cell? ⟨w.heap.size + 1, 9, none⟩ = some (.int .i64 P.x) ∧ w'.cell? ⟨w.heap.size + 1, 10, none⟩ = some (.int .i64 P.y) ∧ w'.cell? ⟨w.heap.size + 1, 11, none⟩ = some (.int .i64 P.z))
            (first | (with_reducible exact HC _ HQ) | (with_reducible exact HC _ HQ.drew) | (with_reducible exact HC _ (HQ.alloc _)) | (with_reducible exact HC _ (HQ.alloc _).drew) | (with_reducible exact HC _ (HQ.far3 (by omega) (by simp <;> omega) _ _ _)) | (with_reducible exact HC _ (HQ.far3 (by omega) (by simp <;> omega) _ _ _).drew))
            (first | (go_at_call 51; (with_reducible refine (HE.out _).mono ?_); rintro e w1 ⟨rfl, hb1⟩; (first | (have HQ := HQ.later hb1) | (have HQ := HQ.drew.later hb1) | (have HQ := (HQ.alloc _).later hb1) | (have HQ := (HQ.alloc _).drew.later hb1)); have hz0 := (HQ.box 0).lt; have hz1 := (HQ.box 1).lt; have hzs := HQ.size; (first | (have HG := (Mbox.newV _ (.int .i64 0) (.int .i64 0) (.int .i64 0) 27).later hb1) | (have HG := (Mbox.newV _ (.int .i64 0) (.int .i64 0) (.int .i64 0) 27).drew.later hb1) | (have HG := HG.later hb1) | skip); (try simp only [World.size_alloc] at HG); (try (have hg0 := HG.c 0; have gg0 := HG.f 0; have hg1 := HG.c 1; have gg1 := HG.f 1; have hg2 := HG.c 2; have gg2 := HG.f 2))) | (go_at_call 50; (with_reducible refine (HJ.out _).mono ?_); rintro e w1 ⟨rfl, hb1⟩; (first | (have HQ := HQ.later hb1) | (have HQ := HQ.drew.later hb1) | (have HQ := (HQ.alloc _).later hb1) | (have HQ := (HQ.alloc _).drew.later hb1)); have hz0 := (HQ.box 0).lt; have hz1 := (HQ.box 1).lt; have hzs := HQ.size; (first | (have HG := (Mbox.newV _ (.int .i64 0) (.int .i64 0) (.int .i64 0) 27).later hb1) | (have HG := (Mbox.newV _ (.int .i64 0) (.int .i64 0) (.int .i64 0) 27).drew.later hb1) | (have HG := HG.later hb1) | skip); (try simp only [World.size_alloc] at HG); (try (have hg0 := HG.c 0; have gg0 := HG.f 0; have hg1 := HG.c 1; have gg1 := HG.f 1; have hg2 := HG.c 2; have gg2 := HG.f 2))))
          all_goals (go_wp2_with fail; go_meet)
          all_goals (first | with_reducible exact ⟨_, rfl, rfl, Mbox.newV _ _ _ _ _, (HQ.alloc _).below⟩ | with_reducible exact ⟨_, rfl, rfl, HG.putV _ _ _, (HQ.far3 (by omega) (by simp <;> omega) _ _ _).below⟩)
        case rest =>
          clear HC HQ hz0 hz1
          obtain ⟨gg, rfl, rfl, HV, hbw⟩ := hcut
          have HT := HTT.out.later hbw
          have HO := Lib.hid (own_keep' HO.out hbw)
          have hbx2 : w.heap.size + 2 ≤ wc.heap.size := (HT.box 0).lt
          clear HTT hbw HE HJ hbx
          have n0 := HV.c 0
          have n1 := HV.c 1
          have n2 := HV.c 2
          rcases kk with _ | _
          · have HEm : Hid (cellL C P lx ly u v n = []) := Lib.hid (by unfold cellL; rw [all4_not C P lx ly n u v c r HCR.out.1 HCR.out.2 HKK.out.symm, Bool.and_false]; rfl)
            go_wp2_with fail
            go_ret
            exact ⟨none, 0, by rw [HEm.out]; rfl, by rw [HEm.out]; exact World.ownsRow_nil _ _ _ _, HT.below⟩
          · have HK4 := HKL.out
            have HBX := Lib.hid hbx2
            clear hbx2
            go_wp2_with (at_builtin; refine wpList_app3 _ rfl _ _ 81 rfl (w.heap.size + 2) 27 (vec 0 0 0) 24 Try.underlying81 infoVec rfl _ _ _ (by rfl) HO.out _ _ _ (by rfl) ⟨by rfl, by rfl, by rfl⟩ (by unfold maxLen; omega) (by omega) HBX.out ?_)
            intro v' w4 ho4 hg4
            have HB4 := (Below.refl (w.heap.size + 2) _).grown hg4 HBX.out (own_block HO.out)
            have HT4 := Lib.hid (HT.laterS HB4 (by omega) (by simp <;> omega))
            have HO4 : Hid (w4.ownsRow (w.heap.size + 2) 27 3 v' (k + 1) (((pts4 C P lx ly n u v).take (k + 1)).flatMap vg)) := Lib.hid (by
              have e := HP.out
              have hlen : k < (pts4 C P lx ly n u v).length := by simp [pts4]; omega
              rw [List.getElem?_eq_getElem hlen, Option.some.injEq] at e
              rw [List.take_succ_eq_append_getElem hlen, List.flatMap_append, e, ← zV_true (gV C P lx ly n (u + c) (v + r)), ← HZZ.out]
              exact ho4)
            clear ho4 hg4 HB4 HT n0 n1 n2 HV HO
            go_wp2_with fail
            go_roundw
            case rel => exact ⟨k + 1, HKL.out, by go_num, HO4.out, fun j hj => by
              by_cases e : j < k
              · exact HG.out j e
              · obtain rfl : j = k := by omega
                rw [HQQ.out, ← HKK.out], HT4.out⟩
            case measure => have := HKL.out; simp [intOf]; omega
      · obtain rfl : k = 4 := by omega
        have HALL := all4_of C P lx ly n u v (fun j hj => HG.out j hj)
        have HVV : Hid (cellL C P lx ly u v n = twoM (gV C P lx ly n u v) (gV C P lx ly n (u + 1) v) (gV C P lx ly n u (v + 1)) (gV C P lx ly n (u + 1) (v + 1)) (u, v, n)) := Lib.hid (by unfold cellL; rw [hk, HALL]; rfl)
        obtain ⟨A, hA⟩ : ∃ A, A = gV C P lx ly n u v := ⟨_, rfl⟩
        obtain ⟨B, hB⟩ : ∃ A, A = gV C P lx ly n (u + 1) v := ⟨_, rfl⟩
        obtain ⟨E, hE⟩ : ∃ A, A = gV C P lx ly n u (v + 1) := ⟨_, rfl⟩
        obtain ⟨F, hF⟩ : ∃ A, A = gV C P lx ly n (u + 1) (v + 1) := ⟨_, rfl⟩
        have ho : wr.ownsRow (w.heap.size + 2) 27 3 u15 4 (([A, B, E, F] : List V3).flatMap vg) := by
          have h := HO.out
          rw [hA, hB, hE, hF]
          exact h
        rw [← hA, ← hB, ← hE, ← hF] at HVV
        clear hA hB hE hF HALL hlt hk4 HG HO
        obtain ⟨A2, c2, rfl⟩ := own_shape ho
        obtain ⟨g0, hg0⟩ : ∃ g, A2 = some ⟨g, 0, none⟩ := by
          rcases ho.2 with ⟨h, h0⟩ | ⟨g, cap, cur, h, _⟩
          · omega
          · injection h with h; exact ⟨g, h⟩
        subst hg0
        have m0 : wr.cell? ⟨g0, 0, none⟩ = some (.int .i64 A.1) := ho.cellAt 0 (by omega)
        have m1 : wr.cell? ⟨g0, 1, none⟩ = some (.int .i64 A.2.1) := ho.cellAt 1 (by omega)
        have m2 : wr.cell? ⟨g0, 2, none⟩ = some (.int .i64 A.2.2) := ho.cellAt 2 (by omega)
        have m3 : wr.cell? ⟨g0, 3, none⟩ = some (.int .i64 B.1) := ho.cellAt 3 (by omega)
        have m4 : wr.cell? ⟨g0, 4, none⟩ = some (.int .i64 B.2.1) := ho.cellAt 4 (by omega)
        have m5 : wr.cell? ⟨g0, 5, none⟩ = some (.int .i64 B.2.2) := ho.cellAt 5 (by omega)
        have m6 : wr.cell? ⟨g0, 6, none⟩ = some (.int .i64 E.1) := ho.cellAt 6 (by omega)
        have m7 : wr.cell? ⟨g0, 7, none⟩ = some (.int .i64 E.2.1) := ho.cellAt 7 (by omega)
        have m8 : wr.cell? ⟨g0, 8, none⟩ = some (.int .i64 E.2.2) := ho.cellAt 8 (by omega)
        have m9 : wr.cell? ⟨g0, 9, none⟩ = some (.int .i64 F.1) := ho.cellAt 9 (by omega)
        have m10 : wr.cell? ⟨g0, 10, none⟩ = some (.int .i64 F.2.1) := ho.cellAt 10 (by omega)
        have m11 : wr.cell? ⟨g0, 11, none⟩ = some (.int .i64 F.2.2) := ho.cellAt 11 (by omega)
        have HW := Lib.hid HT.below
        have HS := Lib.hid HT.size
        have hg0 : g0 < wr.heap.size := World.block_lt_of_cell? wr _ m0
        have HCM : ∀ W, Below wr.heap.size wr W → (W.cell? ⟨g0, 0, none⟩ = some (.int .i64 A.1) ∧ W.cell? ⟨g0, 1, none⟩ = some (.int .i64 A.2.1) ∧ W.cell? ⟨g0, 2, none⟩ = some (.int .i64 A.2.2) ∧ W.cell? ⟨g0, 3, none⟩ = some (.int .i64 B.1) ∧ W.cell? ⟨g0, 4, none⟩ = some (.int .i64 B.2.1) ∧ W.cell? ⟨g0, 5, none⟩ = some (.int .i64 B.2.2) ∧ W.cell? ⟨g0, 6, none⟩ = some (.int .i64 E.1) ∧ W.cell? ⟨g0, 7, none⟩ = some (.int .i64 E.2.1) ∧ W.cell? ⟨g0, 8, none⟩ = some (.int .i64 E.2.2) ∧ W.cell? ⟨g0, 9, none⟩ = some (.int .i64 F.1) ∧ W.cell? ⟨g0, 10, none⟩ = some (.int .i64 F.2.1) ∧ W.cell? ⟨g0, 11, none⟩ = some (.int .i64 F.2.2)) := fun W h => ⟨(h.cell (p := ⟨g0, 0, none⟩) hg0).trans m0, (h.cell (p := ⟨g0, 1, none⟩) hg0).trans m1, (h.cell (p := ⟨g0, 2, none⟩) hg0).trans m2, (h.cell (p := ⟨g0, 3, none⟩) hg0).trans m3, (h.cell (p := ⟨g0, 4, none⟩) hg0).trans m4, (h.cell (p := ⟨g0, 5, none⟩) hg0).trans m5, (h.cell (p := ⟨g0, 6, none⟩) hg0).trans m6, (h.cell (p := ⟨g0, 7, none⟩) hg0).trans m7, (h.cell (p := ⟨g0, 8, none⟩) hg0).trans m8, (h.cell (p := ⟨g0, 9, none⟩) hg0).trans m9, (h.cell (p := ⟨g0, 10, none⟩) hg0).trans m10, (h.cell (p := ⟨g0, 11, none⟩) hg0).trans m11⟩
        clear HT ho m0 m1 m2 m3 m4 m5 m6 m7 m8 m9 m10 m11 hg0
        go_upto_region 11 with fail
        go_region_held3 (fun w' => w'.cell? ⟨g0, 0, none⟩ = some (.int .i64 A.1) ∧ w'.cell? ⟨g0, 1, none⟩ = some (.int .i64 A.2.1) ∧ w'.cell? ⟨g0, 2, none⟩ = some (.int .i64 A.2.2) ∧ w'.cell? ⟨g0, 3, none⟩ = some (.int .i64 B.1) ∧ w'.cell? ⟨g0, 4, none⟩ = some (.int .i64 B.2.1) ∧ w'.cell? ⟨g0, 5, none⟩ = some (.int .i64 B.2.2) ∧ w'.cell? ⟨g0, 6, none⟩ = some (.int .i64 E.1) ∧ w'.cell? ⟨g0, 7, none⟩ = some (.int .i64 E.2.1) ∧ w'.cell? ⟨g0, 8, none⟩ = some (.int .i64 E.2.2) ∧ w'.cell? ⟨g0, 9, none⟩ = some (.int .i64 F.1) ∧ w'.cell? ⟨g0, 10, none⟩ = some (.int .i64 F.2.1) ∧ w'.cell? ⟨g0, 11, none⟩ = some (.int .i64 F.2.2)) (exact HCM _ (by go_grown)) (fail)
        all_goals
          go_wp2_with fail
          go_ret
          refine ⟨some ⟨wr.heap.size, 0, none⟩, 2, by rw [HVV.out]; rfl, ?_, HW.out.trans ((show Below wr.heap.size wr _ by go_grown).mono HS.out)⟩
          rw [HVV.out]
          exact World.ownsRow_lit (base := w.heap.size) (size := 12) (e := 45) wr #[.int .i64 A.1, .int .i64 A.2.1, .int .i64 A.2.2, .int .i64 B.1, .int .i64 B.2.1, .int .i64 B.2.2, .int .i64 E.1, .int .i64 E.2.1, .int .i64 E.2.2, .int .i64 u, .int .i64 v, .int .i64 n, .int .i64 B.1, .int .i64 B.2.1, .int .i64 B.2.2, .int .i64 F.1, .int .i64 F.2.1, .int .i64 F.2.2, .int .i64 E.1, .int .i64 E.2.1, .int .i64 E.2.2, .int .i64 u, .int .i64 v, .int .i64 n] 2 HS.out (by unfold maxLen; omega) rfl
end Go.Proofs.Ytmhcpjednogegaa
