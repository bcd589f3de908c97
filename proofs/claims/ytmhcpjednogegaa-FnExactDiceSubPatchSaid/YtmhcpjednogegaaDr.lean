/- Contracts of DicePatch and DiceSubPatch, in the model. -/
import Derived.Test.YtmhcpjednogegaaProg
import Derived.Test.YtmhcpjednogegaaInts
import Derived.Test.YtmhcpjednogegaaVbox
import Derived.Test.YtmhcpjednogegaaVec
import Derived.Test.YtmhcpjednogegaaHeld
import Derived.Test.YtmhcpjednogegaaMem
import Derived.Test.YtmhcpjednogegaaFlat
import Derived.Test.YtmhcpjednogegaaRowC
import Derived.Test.YtmhcpjednogegaaArr
import Derived.Test.YtmhcpjednogegaaTr
import Derived.Test.YtmhcpjednogegaaPat
import Derived.Test.YtmhcpjednogegaaVecS
import Derived.Test.YtmhcpjednogegaaPut
import Derived.Test.YtmhcpjednogegaaSub
import Derived.Test.YtmhcpjednogegaaSplW
import Derived.Test.YtmhcpjednogegaaGrid
import Derived.Test.YtmhcpjednogegaaCam
import Derived.Test.YtmhcpjednogegaaPVal
import Derived.Test.YtmhcpjednogegaaDv
import Derived.Test.YtmhcpjednogegaaDp
import Derived.Test.YtmhcpjednogegaaDa
import Derived.Test.YtmhcpjednogegaaDs
import Derived.WalkKit
import Derived.WalkSpells
import Derived.WalkLawsBesides
import Derived.Lib.Hide
import Derived.Deep.RegionHeld3
import Derived.Deep.QuietTactic
import Derived.BigQuiet
import Derived.Handy
import Derived.Deep.DeepCutAuto
import Derived.Laws.RangeAny
namespace Go.Proofs.Ytmhcpjednogegaa
open Go.RowKit
theorem mgc_one6 (xs : List M4) : ∀ u ∈ xs.flatMap mgc, u.oneCell' = true := fun u hu => by
  obtain ⟨v, _, hv⟩ := List.mem_flatMap.1 hu
  simp only [mgc, vg, List.cons_append, List.nil_append, List.mem_cons, List.not_mem_nil, or_false] at hv
  rcases hv with rfl | rfl | rfl | rfl | rfl | rfl | rfl | rfl | rfl | rfl | rfl | rfl <;> rfl
theorem subOk_whole (n : Int) : subOkD 0 0 1 n = inC 1 8 n := by
  unfold subOkD
  rw [show okS 0 0 1 = true from rfl, Int.tmod_one]
  simp
/-- the whole patch as a part of itself -/
theorem sub_whole (C : CV) (P : PV) (l m : Int) (S : Nat) (h : inC 1 8 (S : Int) = true) : subL C P l m 0 0 1 (S : Int) = partL (fun c r => cellL C P l m (c : Int) (r : Int) (S : Int)) S (S * S) := by
  unfold subL
  rw [subOk_whole, if_pos h, Int.tdiv_one, Int.toNat_natCast]
  congr 1
  funext c r
  simp [subF]

set_option maxRecDepth 100000 in
set_option maxHeartbeats 8000000 in
theorem sDicePatch_any (C : CV) (P : PV) (n lx ly : Int) (w : World) :
    Calls Try.prog 24 #[C.v, P.v, .int .i64 n, .int .i64 lx, .int .i64 ly] w (MicOut (subL C P lx ly 0 0 1 n) w) := by
  have HT : Held w ((w.alloc (.cells #[.int .i64 C.a, .int .i64 C.b, .int .i64 C.c, .int .i64 C.d, .bool C.e, .int .i64 C.f, .int .i64 C.g] 24)).alloc (.cells #[.int .i64 P.p0, .int .i64 P.p1, .int .i64 P.p2, .int .i64 P.p3, .int .i64 P.p4, .int .i64 P.p5, .int .i64 P.p6, .int .i64 P.p7, .int .i64 P.p8, .int .i64 P.x, .int .i64 P.y, .int .i64 P.z] 30)) [(w.heap.size + 1, [.int .i64 P.p0, .int .i64 P.p1, .int .i64 P.p2, .int .i64 P.p3, .int .i64 P.p4, .int .i64 P.p5, .int .i64 P.p6, .int .i64 P.p7, .int .i64 P.p8, .int .i64 P.x, .int .i64 P.y, .int .i64 P.z]), (w.heap.size, [.int .i64 C.a, .int .i64 C.b, .int .i64 C.c, .int .i64 C.d, .bool C.e, .int .i64 C.f, .int .i64 C.g])] := by
    have h := ((Held.nil w).new #[.int .i64 C.a, .int .i64 C.b, .int .i64 C.c, .int .i64 C.d, .bool C.e, .int .i64 C.f, .int .i64 C.g] 24).new #[.int .i64 P.p0, .int .i64 P.p1, .int .i64 P.p2, .int .i64 P.p3, .int .i64 P.p4, .int .i64 P.p5, .int .i64 P.p6, .int .i64 P.p7, .int .i64 P.p8, .int .i64 P.x, .int .i64 P.y, .int .i64 P.z] 30
    simpa only [World.size_alloc] using h
  have HT0 := Lib.hid (HT.alloc (.cells #[] 45))
  have HO0 := own_row0 (size := 12) ((w.alloc (.cells #[.int .i64 C.a, .int .i64 C.b, .int .i64 C.c, .int .i64 C.d, .bool C.e, .int .i64 C.f, .int .i64 C.g] 24)).alloc (.cells #[.int .i64 P.p0, .int .i64 P.p1, .int .i64 P.p2, .int .i64 P.p3, .int .i64 P.p4, .int .i64 P.p5, .int .i64 P.p6, .int .i64 P.p7, .int .i64 P.p8, .int .i64 P.x, .int .i64 P.y, .int .i64 P.z] 30)) 45
  simp only [World.size_alloc] at HO0
  have HO0 := Lib.hid HO0
  clear HT
  rcases h1 : inC 1 8 n with _ | _
  · have HE : Hid (subL C P lx ly 0 0 1 n = []) := Lib.hid (by unfold subL; rw [subOk_whole, h1]; rfl)
    go_enter Try.func24, Try.ntmps24
    go_wp2_with (go_at_call 46; refine (l01In_any _ _ _ _).mono ?_; rintro x w' ⟨rfl, rfl⟩; (try simp only [h1]))
    go_ret
    rw [HE.out]
    exact ⟨none, 0, rfl, World.ownsRow_nil _ _ _ _, HT0.out.below⟩
  · have hn := (inC_iff ..).1 h1
    obtain ⟨S, rfl⟩ := Int.eq_ofNat_of_zero_le (show 0 ≤ n by omega)
    have HS8 : Hid (1 ≤ S ∧ S ≤ 8) := Lib.hid (by omega)
    have HVV := Lib.hid (sub_whole C P lx ly S h1)
    have HS0 := Lib.hid (show w.heap.size + 2 ≤ (((w.alloc (.cells #[.int .i64 C.a, .int .i64 C.b, .int .i64 C.c, .int .i64 C.d, .bool C.e, .int .i64 C.f, .int .i64 C.g] 24)).alloc (.cells #[.int .i64 P.p0, .int .i64 P.p1, .int .i64 P.p2, .int .i64 P.p3, .int .i64 P.p4, .int .i64 P.p5, .int .i64 P.p6, .int .i64 P.p7, .int .i64 P.p8, .int .i64 P.x, .int .i64 P.y, .int .i64 P.z] 30)).alloc (.cells #[] 45)).heap.size by simp)
    go_enter Try.func24, Try.ntmps24
    go_wp2_with (go_at_call 46; refine (l01In_any _ _ _ _).mono ?_; rintro x w' ⟨rfl, rfl⟩; (try simp only [h1]))
    clear h1 hn
    go_loopw [11, 12] (fun s i wr => ∃ r : Nat, r ≤ S ∧ i = .int .i64 r ∧ wr.ownsRow (w.heap.size + 2) 45 12 s (partL (fun c r => cellL C P lx ly (c : Int) (r : Int) (S : Int)) S (S * r)).length ((partL (fun c r => cellL C P lx ly (c : Int) (r : Int) (S : Int)) S (S * r)).flatMap mgc) ∧ Held w wr [(w.heap.size + 1, [.int .i64 P.p0, .int .i64 P.p1, .int .i64 P.p2, .int .i64 P.p3, .int .i64 P.p4, .int .i64 P.p5, .int .i64 P.p6, .int .i64 P.p7, .int .i64 P.p8, .int .i64 P.x, .int .i64 P.y, .int .i64 P.z]), (w.heap.size, [.int .i64 C.a, .int .i64 C.b, .int .i64 C.c, .int .i64 C.d, .bool C.e, .int .i64 C.f, .int .i64 C.g])] ∧ w.heap.size + 2 ≤ wr.heap.size) (fun _ i _ => S - (intOf i).toNat)
    case atStart => exact ⟨0, Nat.zero_le _, rfl, HO0.out, HT0.out, HS0.out⟩
    case round =>
      obtain ⟨r, hr, rfl, hown, HT, hsz⟩ := hrel
      have hS8 : S ≤ 8 := HS8.out.2
      have HO := Lib.hid hown
      have HSZ := Lib.hid hsz
      clear hown hsz HO0 HT0 HS0
      by_cases hrt : r < S
      · have hrt' : (r : Int) < (S : Int) := by omega
        have HRT := Lib.hid hrt
        go_wp2
        go_loopw [11, 13] (fun s i wr => ∃ c : Nat, c ≤ S ∧ i = .int .i64 c ∧ wr.ownsRow (w.heap.size + 2) 45 12 s (partL (fun c r => cellL C P lx ly (c : Int) (r : Int) (S : Int)) S (S * r + c)).length ((partL (fun c r => cellL C P lx ly (c : Int) (r : Int) (S : Int)) S (S * r + c)).flatMap mgc) ∧ Held w wr [(w.heap.size + 1, [.int .i64 P.p0, .int .i64 P.p1, .int .i64 P.p2, .int .i64 P.p3, .int .i64 P.p4, .int .i64 P.p5, .int .i64 P.p6, .int .i64 P.p7, .int .i64 P.p8, .int .i64 P.x, .int .i64 P.y, .int .i64 P.z]), (w.heap.size, [.int .i64 C.a, .int .i64 C.b, .int .i64 C.c, .int .i64 C.d, .bool C.e, .int .i64 C.f, .int .i64 C.g])] ∧ w.heap.size + 2 ≤ wr.heap.size) (fun _ i _ => S - (intOf i).toNat)
        case atStart => exact ⟨0, Nat.zero_le _, rfl, HO.out, HT, HSZ.out⟩
        case round =>
          clear HT HO HSZ
          obtain ⟨c, hc, rfl, hown, HT, hsz⟩ := hrel
          have HSZ := Lib.hid hsz
          by_cases hct : c < S
          · have hct' : (c : Int) < (S : Int) := by omega
            have HLS : Hid (partL (fun c r => cellL C P lx ly (c : Int) (r : Int) (S : Int)) S (S * r + c + 1) = _) := Lib.hid (partL_step (fun c r => cellL C P lx ly (c : Int) (r : Int) (S : Int)) S c r hct)
            have hlen := partL_len (fun c r => cellL C P lx ly (c : Int) (r : Int) (S : Int)) S (fun _ _ => cellL_len ..) (S * r + c)
            have hle : S * r + c < 64 := by
              have h1 : S * r + S ≤ S * S := by rw [← Nat.mul_succ]; exact Nat.mul_le_mul_left S hrt
              have h2 : S * S ≤ 8 * 8 := Nat.mul_le_mul HS8.out.2 HS8.out.2
              omega
            have hlm := cellL_len C P lx ly (c : Int) (r : Int) (S : Int)
            have HD : Hid (∀ w, Calls Try.prog 19 #[C.v, P.v, .int .i64 (c : Int), .int .i64 (r : Int), .int .i64 (S : Int), .int .i64 lx, .int .i64 ly] w (MicOut (cellL C P lx ly (c : Int) (r : Int) (S : Int)) w)) := Lib.hid (fun w => sDiceCell_any C P _ _ _ lx ly w)
            have HLS : Hid (partL (fun c r => cellL C P lx ly (c : Int) (r : Int) (S : Int)) S (S * r + c + 1) = partL (fun c r => cellL C P lx ly (c : Int) (r : Int) (S : Int)) S (S * r + c) ++ cellL C P lx ly (c : Int) (r : Int) (S : Int)) := Lib.hid HLS.out
            generalize partL (fun c r => cellL C P lx ly (c : Int) (r : Int) (S : Int)) S (S * r + c) = L at hown hlen HLS
            generalize hM : cellL C P lx ly (c : Int) (r : Int) (S : Int) = M at hlm HLS HD
            have hLM : L.length + M.length ≤ 200 := by omega
            have HO := Lib.hid hown
            have HCT := Lib.hid hct
            have b0_0 := (HT.box 1).c 0
            have b0_1 := (HT.box 1).c 1
            have b0_2 := (HT.box 1).c 2
            have b0_3 := (HT.box 1).c 3
            have b0_4 := (HT.box 1).c 4
            have b0_5 := (HT.box 1).c 5
            have b0_6 := (HT.box 1).c 6
            have b1_0 := (HT.box 0).c 0
            have b1_1 := (HT.box 0).c 1
            have b1_2 := (HT.box 0).c 2
            have b1_3 := (HT.box 0).c 3
            have b1_4 := (HT.box 0).c 4
            have b1_5 := (HT.box 0).c 5
            have b1_6 := (HT.box 0).c 6
            have b1_7 := (HT.box 0).c 7
            have b1_8 := (HT.box 0).c 8
            have b1_9 := (HT.box 0).c 9
            have b1_10 := (HT.box 0).c 10
            have b1_11 := (HT.box 0).c 11
            clear hown hsz hlen hle hlm hM hct hrt
            go_wp2_with (first | (go_at_call 19; (with_reducible refine (HD.out _).mono ?_); rintro e w1 ⟨A1, c1, rfl, ho1, hb1⟩; have HT := HT.later hb1; have HO := Lib.hid (own_keep' HO.out hb1); have HO1 := Lib.hid ho1; have HSZ := Lib.hid (Nat.le_trans HSZ.out hb1.size); clear hb1 ho1 b0_0 b0_1 b0_2 b0_3 b0_4 b0_5 b0_6 b1_0 b1_1 b1_2 b1_3 b1_4 b1_5 b1_6 b1_7 b1_8 b1_9 b1_10 b1_11) | (at_builtin; refine wpList_append_rows rfl _ _ 34 rfl (w.heap.size + 2) 45 _ 12 96 Try.underlying34 infoMic rfl (by omega) _ _ _ (by rfl) HO.out _ A1 _ c1 _ (by rfl) HO1.out (mgc_one6 _) (by unfold maxLen; omega) (by omega) HSZ.out ?_))
            intro v3 w3 ho3 hg3
            have HB3 := (Below.refl (w.heap.size + 2) _).grown hg3 HSZ.out (own_block HO.out)
            have HT3 := Lib.hid (HT.laterS HB3 (by omega) (by simp <;> omega))
            have HS3 := Lib.hid (Nat.le_trans HSZ.out hg3.size)
            have HO3 := Lib.hid ho3
            clear ho3 hg3 HB3 HT HO HSZ
            go_wp2_with fail
            go_roundw
            case rel => exact ⟨c + 1, HCT.out, by go_num, by rw [← Nat.add_assoc, HLS.out, List.length_append, List.flatMap_append]; exact HO3.out, HT3.out, HS3.out⟩
            case measure => have := HCT.out; simp [intOf]; omega
          · have e : c = S := by omega
            have HO : Hid (wr.ownsRow (w.heap.size + 2) 45 12 u11 (partL (fun c r => cellL C P lx ly (c : Int) (r : Int) (S : Int)) S (S * (r + 1))).length ((partL (fun c r => cellL C P lx ly (c : Int) (r : Int) (S : Int)) S (S * (r + 1))).flatMap mgc)) := Lib.hid (by rw [Nat.mul_succ]; rw [e] at hown; exact hown)
            have hnc : ¬ ((c : Int) < (S : Int)) := by omega
            clear hown hsz hc hr hct hrt e
            go_wp2
            go_roundw
            case rel => exact ⟨r + 1, HRT.out, by go_num, HO.out, HT, HSZ.out⟩
            case measure => have := HRT.out; simp [intOf]; omega
      · obtain rfl : r = S := by omega
        obtain ⟨A2, c2, e2⟩ := own_shape HO.out
        have HE2 := Lib.hid e2
        have hnr : ¬ ((r : Int) < (r : Int)) := by omega
        clear hr hrt e2
        go_wp2
        go_ret
        rw [HVV.out]
        have ho := own_base HO.out (base' := w.heap.size) (by omega)
        rw [HE2.out] at ho ⊢
        exact ⟨A2, c2, rfl, ho, HT.below⟩

set_option maxRecDepth 100000 in
set_option maxHeartbeats 8000000 in
theorem sDiceSub_any (C : CV) (P : PV) (U V N n lx ly : Int) (w : World) :
    Calls Try.prog 25 #[C.v, P.v, vec U V N, .int .i64 n, .int .i64 lx, .int .i64 ly] w (MicOut (subL C P lx ly U V N n) w) := by
  have HT : Held w (((w.alloc (.cells #[.int .i64 C.a, .int .i64 C.b, .int .i64 C.c, .int .i64 C.d, .bool C.e, .int .i64 C.f, .int .i64 C.g] 24)).alloc (.cells #[.int .i64 P.p0, .int .i64 P.p1, .int .i64 P.p2, .int .i64 P.p3, .int .i64 P.p4, .int .i64 P.p5, .int .i64 P.p6, .int .i64 P.p7, .int .i64 P.p8, .int .i64 P.x, .int .i64 P.y, .int .i64 P.z] 30)).alloc (.cells #[.int .i64 U, .int .i64 V, .int .i64 N] 39)) [(w.heap.size + 2, [.int .i64 U, .int .i64 V, .int .i64 N]), (w.heap.size + 1, [.int .i64 P.p0, .int .i64 P.p1, .int .i64 P.p2, .int .i64 P.p3, .int .i64 P.p4, .int .i64 P.p5, .int .i64 P.p6, .int .i64 P.p7, .int .i64 P.p8, .int .i64 P.x, .int .i64 P.y, .int .i64 P.z]), (w.heap.size, [.int .i64 C.a, .int .i64 C.b, .int .i64 C.c, .int .i64 C.d, .bool C.e, .int .i64 C.f, .int .i64 C.g])] := by
    have h := (((Held.nil w).new #[.int .i64 C.a, .int .i64 C.b, .int .i64 C.c, .int .i64 C.d, .bool C.e, .int .i64 C.f, .int .i64 C.g] 24).new #[.int .i64 P.p0, .int .i64 P.p1, .int .i64 P.p2, .int .i64 P.p3, .int .i64 P.p4, .int .i64 P.p5, .int .i64 P.p6, .int .i64 P.p7, .int .i64 P.p8, .int .i64 P.x, .int .i64 P.y, .int .i64 P.z] 30).new #[.int .i64 U, .int .i64 V, .int .i64 N] 39
    simpa only [World.size_alloc] using h
  have HO0 := own_row0 (size := 12) (((w.alloc (.cells #[.int .i64 C.a, .int .i64 C.b, .int .i64 C.c, .int .i64 C.d, .bool C.e, .int .i64 C.f, .int .i64 C.g] 24)).alloc (.cells #[.int .i64 P.p0, .int .i64 P.p1, .int .i64 P.p2, .int .i64 P.p3, .int .i64 P.p4, .int .i64 P.p5, .int .i64 P.p6, .int .i64 P.p7, .int .i64 P.p8, .int .i64 P.x, .int .i64 P.y, .int .i64 P.z] 30)).alloc (.cells #[.int .i64 U, .int .i64 V, .int .i64 N] 39)) 45
  simp only [World.size_alloc] at HO0
  have HO := Lib.hid HO0
  have HT := HT.alloc (.cells #[] 45)
  clear HO0
  rcases hs : okS U V N with _ | _
  · skip
    have HE : Hid (subL C P lx ly U V N n = []) := Lib.hid (by unfold subL subOkD; rw [hs] <;> rfl)
    go_enter Try.func25, Try.ntmps25
    go_wp2_with (first | (go_at_call 53; refine (sIsValidSub_any _ _ _ _).mono ?_; rintro e w1 ⟨rfl, hb1⟩; have HT := HT.later hb1; have HO := Lib.hid (own_keep' HO.out hb1); have hs1 := hb1.size; clear hb1; rw [hs]; have b2 := (HT.box 0).c 2) | (go_at_call 46; refine (l01In_any _ _ _ _).mono ?_; rintro x w' ⟨rfl, rfl⟩; (try simp only [h1])))
    go_ret
    rw [HE.out]
    exact ⟨none, 0, rfl, World.ownsRow_nil _ _ _ _, HT.below⟩
  rcases h1 : inC 1 8 n with _ | _
  · skip
    have HE : Hid (subL C P lx ly U V N n = []) := Lib.hid (by unfold subL subOkD; rw [hs, h1] <;> rfl)
    go_enter Try.func25, Try.ntmps25
    go_wp2_with (first | (go_at_call 53; refine (sIsValidSub_any _ _ _ _).mono ?_; rintro e w1 ⟨rfl, hb1⟩; have HT := HT.later hb1; have HO := Lib.hid (own_keep' HO.out hb1); have hs1 := hb1.size; clear hb1; rw [hs]; have b2 := (HT.box 0).c 2) | (go_at_call 46; refine (l01In_any _ _ _ _).mono ?_; rintro x w' ⟨rfl, rfl⟩; (try simp only [h1])))
    go_ret
    rw [HE.out]
    exact ⟨none, 0, rfl, World.ownsRow_nil _ _ _ _, HT.below⟩
  rcases hm : (n.tmod N == 0) with _ | _
  · have hb := (okS_iff U V N).1 hs
    have hn := (inC_iff ..).1 h1
    have hN0 : ¬ N = 0 := by omega
    have hN1 : (N == 0) = false := by simpa using hN0
    have hmb : 0 ≤ n.tmod N ∧ n.tmod N ≤ 64 := by
      rw [Int.tmod_eq_emod_of_nonneg (by omega)]
      have h0 := Int.emod_nonneg n (show N ≠ 0 from hN0)
      have h1 := Int.emod_lt_of_pos n (show 0 < N by omega)
      omega
    have ew : IntKind.i64.wrap (n.tmod N) = n.tmod N := wrap_in (by omega)
    clear hb hn
    have HE : Hid (subL C P lx ly U V N n = []) := Lib.hid (by unfold subL subOkD; rw [hs, h1, hm] <;> rfl)
    go_enter Try.func25, Try.ntmps25
    go_wp2_with (first | (go_at_call 53; refine (sIsValidSub_any _ _ _ _).mono ?_; rintro e w1 ⟨rfl, hb1⟩; have HT := HT.later hb1; have HO := Lib.hid (own_keep' HO.out hb1); have hs1 := hb1.size; clear hb1; rw [hs]; have b2 := (HT.box 0).c 2) | (go_at_call 46; refine (l01In_any _ _ _ _).mono ?_; rintro x w' ⟨rfl, rfl⟩; (try simp only [h1])))
    go_ret
    rw [HE.out]
    exact ⟨none, 0, rfl, World.ownsRow_nil _ _ _ _, HT.below⟩
  · have hk : subOkD U V N n = true := by unfold subOkD; rw [hs, h1, hm]; rfl
    obtain ⟨⟨hmul, hq1, hq8⟩, hn, hN, hU, hV⟩ := tdiv_bd hk
    have hsUV := (okS_iff U V N).1 hs
    obtain ⟨S, es⟩ : ∃ S : Nat, (S : Int) = n.tdiv N := ⟨(n.tdiv N).toNat, by omega⟩
    have hs8 : 1 ≤ S ∧ S ≤ 8 := by omega
    have HVV : Hid (subL C P lx ly U V N n = partL (fun c r => cellL C P lx ly (U * S + c) (V * S + r) n) S (S * S)) := Lib.hid (by unfold subL; rw [if_pos hk, ← es, Int.toNat_natCast]; rfl)
    have ew : IntKind.i64.wrap (n.tmod N) = n.tmod N := by rw [eq_of_beq hm]; rfl
    have hN0 : ¬ N = 0 := by omega
    have hN1 : (N == 0) = false := by simpa using hN0
    have he0 : n % N = 0 := by rw [← Int.tmod_eq_emod_of_nonneg (by omega)]; exact eq_of_beq hm
    have hd0 : n / N = (S : Int) := by rw [← Int.tdiv_eq_ediv_of_nonneg (by omega), es]
    have hUs : 0 ≤ U * S ∧ U * S + S ≤ 8 := by
      have h2 : U * S ≤ (N - 1) * S := Int.mul_le_mul_of_nonneg_right (by omega) (by omega)
      have h3 : (N - 1) * S = n.tdiv N * N - S := by rw [es]; grind
      have h4 : 0 ≤ U * S := Int.mul_nonneg (by omega) (by omega)
      omega
    have hVs : 0 ≤ V * S ∧ V * S + S ≤ 8 := by
      have h2 : V * S ≤ (N - 1) * S := Int.mul_le_mul_of_nonneg_right (by omega) (by omega)
      have h3 : (N - 1) * S = n.tdiv N * N - S := by rw [es]; grind
      have h4 : 0 ≤ V * S := Int.mul_nonneg (by omega) (by omega)
      omega
    have eq : IntKind.i64.wrap (n.tdiv N) = (S : Int) := by rw [← es]; exact wrap_in (by omega)
    have HB := Lib.hid (show (0 ≤ U * S ∧ U * S + S ≤ 8) ∧ (0 ≤ V * S ∧ V * S + S ≤ 8) from ⟨hUs, hVs⟩)
    have HS8 := Lib.hid hs8
    clear hmul hsUV hk hU hV hUs hVs
    go_enter Try.func25, Try.ntmps25
    go_wp2_with (first | (go_at_call 53; refine (sIsValidSub_any _ _ _ _).mono ?_; rintro e w1 ⟨rfl, hb1⟩; have HT := HT.later hb1; have HO := Lib.hid (own_keep' HO.out hb1); have hs1 := hb1.size; clear hb1; rw [hs]; have b2 := (HT.box 0).c 2) | (go_at_call 46; refine (l01In_any _ _ _ _).mono ?_; rintro x w' ⟨rfl, rfl⟩; (try simp only [h1])))
    rw [← es]
    simp only [World.size_alloc] at hs1
    have HO0 := HO
    have HT0 := Lib.hid HT
    have HS0 := Lib.hid (show w.heap.size + 3 ≤ w1.heap.size by omega)
    clear es eq hd0 he0 ew hm hs h1 HO HT b2 hs1 hn hq1 hq8 hs8
    go_loopw [13, 15] (fun s i wr => ∃ r : Nat, r ≤ S ∧ i = .int .i64 r ∧ wr.ownsRow (w.heap.size + 3) 45 12 s (partL (fun c r => cellL C P lx ly (U * (S : Int) + (c : Int)) (V * (S : Int) + (r : Int)) n) S (S * r)).length ((partL (fun c r => cellL C P lx ly (U * (S : Int) + (c : Int)) (V * (S : Int) + (r : Int)) n) S (S * r)).flatMap mgc) ∧ Held w wr [(w.heap.size + 2, [.int .i64 U, .int .i64 V, .int .i64 N]), (w.heap.size + 1, [.int .i64 P.p0, .int .i64 P.p1, .int .i64 P.p2, .int .i64 P.p3, .int .i64 P.p4, .int .i64 P.p5, .int .i64 P.p6, .int .i64 P.p7, .int .i64 P.p8, .int .i64 P.x, .int .i64 P.y, .int .i64 P.z]), (w.heap.size, [.int .i64 C.a, .int .i64 C.b, .int .i64 C.c, .int .i64 C.d, .bool C.e, .int .i64 C.f, .int .i64 C.g])] ∧ w.heap.size + 3 ≤ wr.heap.size) (fun _ i _ => S - (intOf i).toNat)
    case atStart => exact ⟨0, Nat.zero_le _, rfl, HO0.out, HT0.out, HS0.out⟩
    case round =>
      obtain ⟨r, hr, rfl, hown, HT, hsz⟩ := hrel
      have hS8 : S ≤ 8 := HS8.out.2
      have HO := Lib.hid hown
      have HSZ := Lib.hid hsz
      clear hown hsz HO0 HT0 HS0
      by_cases hrt : r < S
      · have hrt' : (r : Int) < (S : Int) := by omega
        have HRT := Lib.hid hrt
        go_wp2
        go_loopw [13, 16] (fun s i wr => ∃ c : Nat, c ≤ S ∧ i = .int .i64 c ∧ wr.ownsRow (w.heap.size + 3) 45 12 s (partL (fun c r => cellL C P lx ly (U * (S : Int) + (c : Int)) (V * (S : Int) + (r : Int)) n) S (S * r + c)).length ((partL (fun c r => cellL C P lx ly (U * (S : Int) + (c : Int)) (V * (S : Int) + (r : Int)) n) S (S * r + c)).flatMap mgc) ∧ Held w wr [(w.heap.size + 2, [.int .i64 U, .int .i64 V, .int .i64 N]), (w.heap.size + 1, [.int .i64 P.p0, .int .i64 P.p1, .int .i64 P.p2, .int .i64 P.p3, .int .i64 P.p4, .int .i64 P.p5, .int .i64 P.p6, .int .i64 P.p7, .int .i64 P.p8, .int .i64 P.x, .int .i64 P.y, .int .i64 P.z]), (w.heap.size, [.int .i64 C.a, .int .i64 C.b, .int .i64 C.c, .int .i64 C.d, .bool C.e, .int .i64 C.f, .int .i64 C.g])] ∧ w.heap.size + 3 ≤ wr.heap.size) (fun _ i _ => S - (intOf i).toNat)
        case atStart => exact ⟨0, Nat.zero_le _, rfl, HO.out, HT, HSZ.out⟩
        case round =>
          clear HT HO HSZ
          obtain ⟨c, hc, rfl, hown, HT, hsz⟩ := hrel
          have HSZ := Lib.hid hsz
          by_cases hct : c < S
          · have hct' : (c : Int) < (S : Int) := by omega
            have HLS : Hid (partL (fun c r => cellL C P lx ly (U * (S : Int) + (c : Int)) (V * (S : Int) + (r : Int)) n) S (S * r + c + 1) = _) := Lib.hid (partL_step (fun c r => cellL C P lx ly (U * (S : Int) + (c : Int)) (V * (S : Int) + (r : Int)) n) S c r hct)
            have hlen := partL_len (fun c r => cellL C P lx ly (U * (S : Int) + (c : Int)) (V * (S : Int) + (r : Int)) n) S (fun _ _ => cellL_len ..) (S * r + c)
            have hle : S * r + c < 64 := by
              have h1 : S * r + S ≤ S * S := by rw [← Nat.mul_succ]; exact Nat.mul_le_mul_left S hrt
              have h2 : S * S ≤ 8 * 8 := Nat.mul_le_mul HS8.out.2 HS8.out.2
              omega
            have hlm := cellL_len C P lx ly (U * (S : Int) + (c : Int)) (V * (S : Int) + (r : Int)) n
            have HD : Hid (∀ w, Calls Try.prog 19 #[C.v, P.v, .int .i64 (U * (S : Int) + (c : Int)), .int .i64 (V * (S : Int) + (r : Int)), .int .i64 n, .int .i64 lx, .int .i64 ly] w (MicOut (cellL C P lx ly (U * (S : Int) + (c : Int)) (V * (S : Int) + (r : Int)) n) w)) := Lib.hid (fun w => sDiceCell_any C P _ _ _ lx ly w)
            have HLS : Hid (partL (fun c r => cellL C P lx ly (U * (S : Int) + (c : Int)) (V * (S : Int) + (r : Int)) n) S (S * r + c + 1) = partL (fun c r => cellL C P lx ly (U * (S : Int) + (c : Int)) (V * (S : Int) + (r : Int)) n) S (S * r + c) ++ cellL C P lx ly (U * (S : Int) + (c : Int)) (V * (S : Int) + (r : Int)) n) := Lib.hid HLS.out
            generalize partL (fun c r => cellL C P lx ly (U * (S : Int) + (c : Int)) (V * (S : Int) + (r : Int)) n) S (S * r + c) = L at hown hlen HLS
            generalize hM : cellL C P lx ly (U * (S : Int) + (c : Int)) (V * (S : Int) + (r : Int)) n = M at hlm HLS HD
            have hb := HB.out
            have e1 : IntKind.i64.wrap (U * (S : Int)) = U * S := wrap_in (by omega)
            have e2 : IntKind.i64.wrap (U * (S : Int) + (c : Int)) = U * S + c := wrap_in (by omega)
            have e3 : IntKind.i64.wrap (V * (S : Int)) = V * S := wrap_in (by omega)
            have e4 : IntKind.i64.wrap (V * (S : Int) + (r : Int)) = V * S + r := wrap_in (by omega)
            clear hb
            have hLM : L.length + M.length ≤ 200 := by omega
            have HO := Lib.hid hown
            have HCT := Lib.hid hct
            have b0_0 := (HT.box 2).c 0
            have b0_1 := (HT.box 2).c 1
            have b0_2 := (HT.box 2).c 2
            have b0_3 := (HT.box 2).c 3
            have b0_4 := (HT.box 2).c 4
            have b0_5 := (HT.box 2).c 5
            have b0_6 := (HT.box 2).c 6
            have b1_0 := (HT.box 1).c 0
            have b1_1 := (HT.box 1).c 1
            have b1_2 := (HT.box 1).c 2
            have b1_3 := (HT.box 1).c 3
            have b1_4 := (HT.box 1).c 4
            have b1_5 := (HT.box 1).c 5
            have b1_6 := (HT.box 1).c 6
            have b1_7 := (HT.box 1).c 7
            have b1_8 := (HT.box 1).c 8
            have b1_9 := (HT.box 1).c 9
            have b1_10 := (HT.box 1).c 10
            have b1_11 := (HT.box 1).c 11
            have b2_0 := (HT.box 0).c 0
            have b2_1 := (HT.box 0).c 1
            have b2_2 := (HT.box 0).c 2
            clear hown hsz hlen hle hlm hM hct hrt
            go_wp2_with (first | (go_at_call 19; (with_reducible refine (HD.out _).mono ?_); rintro e w1 ⟨A1, c1, rfl, ho1, hb1⟩; have HT := HT.later hb1; have HO := Lib.hid (own_keep' HO.out hb1); have HO1 := Lib.hid ho1; have HSZ := Lib.hid (Nat.le_trans HSZ.out hb1.size); clear hb1 ho1 b0_0 b0_1 b0_2 b0_3 b0_4 b0_5 b0_6 b1_0 b1_1 b1_2 b1_3 b1_4 b1_5 b1_6 b1_7 b1_8 b1_9 b1_10 b1_11 b2_0 b2_1 b2_2) | (at_builtin; refine wpList_append_rows rfl _ _ 34 rfl (w.heap.size + 3) 45 _ 12 96 Try.underlying34 infoMic rfl (by omega) _ _ _ (by rfl) HO.out _ A1 _ c1 _ (by rfl) HO1.out (mgc_one6 _) (by unfold maxLen; omega) (by omega) HSZ.out ?_))
            intro v3 w3 ho3 hg3
            have HB3 := (Below.refl (w.heap.size + 3) _).grown hg3 HSZ.out (own_block HO.out)
            have HT3 := Lib.hid (HT.laterS HB3 (by omega) (by simp <;> omega))
            have HS3 := Lib.hid (Nat.le_trans HSZ.out hg3.size)
            have HO3 := Lib.hid ho3
            clear ho3 hg3 HB3 HT HO HSZ
            go_wp2_with fail
            go_roundw
            case rel => exact ⟨c + 1, HCT.out, by go_num, by rw [← Nat.add_assoc, HLS.out, List.length_append, List.flatMap_append]; exact HO3.out, HT3.out, HS3.out⟩
            case measure => have := HCT.out; simp [intOf]; omega
          · have e : c = S := by omega
            have HO : Hid (wr.ownsRow (w.heap.size + 3) 45 12 u13 (partL (fun c r => cellL C P lx ly (U * (S : Int) + (c : Int)) (V * (S : Int) + (r : Int)) n) S (S * (r + 1))).length ((partL (fun c r => cellL C P lx ly (U * (S : Int) + (c : Int)) (V * (S : Int) + (r : Int)) n) S (S * (r + 1))).flatMap mgc)) := Lib.hid (by rw [Nat.mul_succ]; rw [e] at hown; exact hown)
            have hnc : ¬ ((c : Int) < (S : Int)) := by omega
            clear hown hsz hc hr hct hrt e
            go_wp2
            go_roundw
            case rel => exact ⟨r + 1, HRT.out, by go_num, HO.out, HT, HSZ.out⟩
            case measure => have := HRT.out; simp [intOf]; omega
      · obtain rfl : r = S := by omega
        obtain ⟨A2, c2, e2⟩ := own_shape HO.out
        have HE2 := Lib.hid e2
        have hnr : ¬ ((r : Int) < (r : Int)) := by omega
        clear hr hrt e2
        go_wp2
        go_ret
        rw [HVV.out]
        have ho := own_base HO.out (base' := w.heap.size) (by omega)
        rw [HE2.out] at ho ⊢
        exact ⟨A2, c2, rfl, ho, HT.below⟩
end Go.Proofs.Ytmhcpjednogegaa
