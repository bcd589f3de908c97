/- Contracts of DiceSubPatch and DicePatch, in the program. -/
import Derived.Test.YtmhcpjednogegaaProg
import Derived.Test.YtmhcpjednogegaaInts
import Derived.Test.YtmhcpjednogegaaVbox
import Derived.Test.YtmhcpjednogegaaVec
import Derived.Test.YtmhcpjednogegaaHeld
import Derived.Test.YtmhcpjednogegaaMem
import Derived.Test.YtmhcpjednogegaaFlat
import Derived.Test.YtmhcpjednogegaaRowC
import Derived.Test.YtmhcpjednogegaaArr
import Derived.Test.YtmhcpjednogegaaTr
import Derived.Test.YtmhcpjednogegaaPat
import Derived.Test.YtmhcpjednogegaaVecS
import Derived.Test.YtmhcpjednogegaaPut
import Derived.Test.YtmhcpjednogegaaSub
import Derived.Test.YtmhcpjednogegaaGrid
import Derived.Test.YtmhcpjednogegaaCam
import Derived.Test.YtmhcpjednogegaaPVal
import Derived.Test.YtmhcpjednogegaaDv
import Derived.Test.YtmhcpjednogegaaDp
import Derived.Test.YtmhcpjednogegaaDg
import Derived.Test.YtmhcpjednogegaaDa
import Derived.Test.YtmhcpjednogegaaDc
import Derived.WalkKit
import Derived.WalkSpells
import Derived.WalkLawsBesides
import Derived.Lib.Hide
import Derived.Deep.RegionHeld3
import Derived.Deep.QuietTactic
import Derived.BigQuiet
import Derived.Handy
import Derived.Deep.DeepCutAuto
import Derived.Laws.RangeAny
import Derived.RangeFuncBox
import Derived.RangeFuncLeaves
import Derived.RangeFuncNested
import Derived.Shelf.Abstract
import Derived.OwnWalkIn
import Derived.TacticsInMore
import Derived.LoopNIn
import Derived.LoopIn
import Derived.Maps.AppendAt
import Derived.RangeFuncCalls
namespace Go.Proofs.Ytmhcpjednogegaa
open Go.RowKit Go.Shelf
attribute [local go_sem] Oper.semAt_some
section
variable {B : Nat} {w W0 W W' : World} {bs : List (Nat × List Value)}
/-- an append onto a row of the loop's own -/
theorem RH.grow {e : TypeId} {size n Bq : Nat} {v : Value} {xs : List Value} (h : RH B w W0 W bs) (ho : W.ownsRow Bq e size v n xs) (hg : W.grownBy W' v.ownBlock) (hB : w.heap.size ≤ Bq) (hlt : ∀ p ∈ bs, p.1 < Bq) : RH B w W0 W' bs := by
  have hrow : ∀ k, v.ownBlock = some k → Bq ≤ k := own_block ho
  refine ⟨⟨below_own h.held.1 hg h.held.size (fun k e => Nat.le_trans hB (hrow k e)), fun i k vs e => (h.held.2 i k vs e).keep fun hk => hg.block k hk (fun e2 => ?_)⟩, h.keep.trans ((KeepsOthers.of_grownBy hg (fun j o hj hjo => ?_)).from B)⟩
  · have h1 := hlt _ (List.mem_of_getElem? e)
    have h2 := hrow k e2.symm
    simp only at h1
    omega
  · rcases ho.2 with ⟨rfl, _⟩ | ⟨b, cap, cur, rfl, _, hh, _⟩
    · cases hj
    · injection hj with hj
      subst hj
      rw [hh] at hjo
      cases hjo
      rfl
end
theorem mgc_one (xs : List M4) : ∀ u ∈ xs.flatMap mgc, u.oneCell' = true := fun u hu => by
  obtain ⟨v, _, hv⟩ := List.mem_flatMap.1 hu
  simp only [mgc, vg, List.cons_append, List.nil_append, List.mem_cons, List.not_mem_nil, or_false] at hv
  rcases hv with rfl | rfl | rfl | rfl | rfl | rfl | rfl | rfl | rfl | rfl | rfl | rfl <;> rfl

set_option maxHeartbeats 4000000 in
theorem diceSub_bad (C : CV) (P : PV) (U V N n lx ly : Int) (w : World) (hk : subOkD U V N n = false) :
    Calls Try.prog 14 #[C.v, P.v, vec U V N, .int .i64 n, .int .i64 lx, .int .i64 ly] w (MicOut (subL C P lx ly U V N n) w) := by
  have HT : Held w ((((((w.alloc (.cells #[.int .i64 C.a, .int .i64 C.b, .int .i64 C.c, .int .i64 C.d, .bool C.e, .int .i64 C.f, .int .i64 C.g] 24)).alloc (.cells #[.int .i64 P.p0, .int .i64 P.p1, .int .i64 P.p2, .int .i64 P.p3, .int .i64 P.p4, .int .i64 P.p5, .int .i64 P.p6, .int .i64 P.p7, .int .i64 P.p8, .int .i64 P.x, .int .i64 P.y, .int .i64 P.z] 30)).alloc (.cells #[.int .i64 U, .int .i64 V, .int .i64 N] 39)).alloc (.cells #[.int .i64 n] 3)).alloc (.cells #[.int .i64 lx] 3)).alloc (.cells #[.int .i64 ly] 3)) [(w.heap.size + 1 + 1 + 1 + 1 + 1, [.int .i64 ly]), (w.heap.size + 1 + 1 + 1 + 1, [.int .i64 lx]), (w.heap.size + 1 + 1 + 1, [.int .i64 n]), (w.heap.size + 1 + 1, [.int .i64 U, .int .i64 V, .int .i64 N]), (w.heap.size + 1, [.int .i64 P.p0, .int .i64 P.p1, .int .i64 P.p2, .int .i64 P.p3, .int .i64 P.p4, .int .i64 P.p5, .int .i64 P.p6, .int .i64 P.p7, .int .i64 P.p8, .int .i64 P.x, .int .i64 P.y, .int .i64 P.z]), (w.heap.size, [.int .i64 C.a, .int .i64 C.b, .int .i64 C.c, .int .i64 C.d, .bool C.e, .int .i64 C.f, .int .i64 C.g])] := by
    have h := ((((((Held.nil w).new #[.int .i64 C.a, .int .i64 C.b, .int .i64 C.c, .int .i64 C.d, .bool C.e, .int .i64 C.f, .int .i64 C.g] 24).new #[.int .i64 P.p0, .int .i64 P.p1, .int .i64 P.p2, .int .i64 P.p3, .int .i64 P.p4, .int .i64 P.p5, .int .i64 P.p6, .int .i64 P.p7, .int .i64 P.p8, .int .i64 P.x, .int .i64 P.y, .int .i64 P.z] 30).new #[.int .i64 U, .int .i64 V, .int .i64 N] 39).new #[.int .i64 n] 3).new #[.int .i64 lx] 3).new #[.int .i64 ly] 3
    simpa only [World.size_alloc] using h
  rcases hs : okS U V N with _ | _
  · skip
    have HE : Hid (subL C P lx ly U V N n = []) := Lib.hid (by unfold subL subOkD; rw [hs] <;> rfl)
    go_enter Try.func14, Try.ntmps14
    go_wp2_with (first | (go_at_call 36; refine (isValidSub_any _ _ _ _).mono ?_; rintro e w1 ⟨rfl, hb1⟩; have HT := HT.later hb1; (try rw [hs]); have b3 := (HT.box 2).c 0; have b2 := (HT.box 3).c 2) | (go_at_call 38; refine (isWithin_any _ _ _ _).mono ?_; rintro x w' ⟨rfl, rfl⟩; (try simp only [h1])))
    go_ret
    rw [HE.out]
    exact ⟨none, 0, rfl, World.ownsRow_nil _ _ _ _, HT.below⟩
  rcases h1 : inC 1 8 n with _ | _
  · skip
    have HE : Hid (subL C P lx ly U V N n = []) := Lib.hid (by unfold subL subOkD; rw [hs, h1] <;> rfl)
    go_enter Try.func14, Try.ntmps14
    go_wp2_with (first | (go_at_call 36; refine (isValidSub_any _ _ _ _).mono ?_; rintro e w1 ⟨rfl, hb1⟩; have HT := HT.later hb1; (try rw [hs]); have b3 := (HT.box 2).c 0; have b2 := (HT.box 3).c 2) | (go_at_call 38; refine (isWithin_any _ _ _ _).mono ?_; rintro x w' ⟨rfl, rfl⟩; (try simp only [h1])))
    go_ret
    rw [HE.out]
    exact ⟨none, 0, rfl, World.ownsRow_nil _ _ _ _, HT.below⟩
  · have hm : (n.tmod N == 0) = false := by
      unfold subOkD at hk
      rw [hs, h1] at hk
      exact hk
    have hb := (okS_iff U V N).1 hs
    have hn := (inC_iff ..).1 h1
    have hN0 : ¬ N = 0 := by omega
    have hN1 : (N == 0) = false := by simpa using hN0
    have hmb : 0 ≤ n.tmod N ∧ n.tmod N ≤ 64 := by
      rw [Int.tmod_eq_emod_of_nonneg (by omega)]
      have h0 := Int.emod_nonneg n (show N ≠ 0 from hN0)
      have h1 := Int.emod_lt_of_pos n (show 0 < N by omega)
      omega
    have ew : IntKind.i64.wrap (n.tmod N) = n.tmod N := wrap_in (by omega)
    clear hb hn
    have HE : Hid (subL C P lx ly U V N n = []) := Lib.hid (by unfold subL subOkD; rw [hs, h1, hm] <;> rfl)
    go_enter Try.func14, Try.ntmps14
    go_wp2_with (first | (go_at_call 36; refine (isValidSub_any _ _ _ _).mono ?_; rintro e w1 ⟨rfl, hb1⟩; have HT := HT.later hb1; (try rw [hs]); have b3 := (HT.box 2).c 0; have b2 := (HT.box 3).c 2) | (go_at_call 38; refine (isWithin_any _ _ _ _).mono ?_; rintro x w' ⟨rfl, rfl⟩; (try simp only [h1])))
    go_ret
    rw [HE.out]
    exact ⟨none, 0, rfl, World.ownsRow_nil _ _ _ _, HT.below⟩

set_option maxRecDepth 100000 in
set_option maxHeartbeats 16000000 in
theorem diceSub_go (C : CV) (P : PV) (U V N n lx ly : Int) (w : World) (hk : subOkD U V N n = true) :
    CallsIn Fence.wide 3 Try.prog 14 #[C.v, P.v, vec U V N, .int .i64 n, .int .i64 lx, .int .i64 ly] w (MicOut (subL C P lx ly U V N n) w) := by
  have HT : Held w ((((((w.alloc (.cells #[.int .i64 C.a, .int .i64 C.b, .int .i64 C.c, .int .i64 C.d, .bool C.e, .int .i64 C.f, .int .i64 C.g] 24)).alloc (.cells #[.int .i64 P.p0, .int .i64 P.p1, .int .i64 P.p2, .int .i64 P.p3, .int .i64 P.p4, .int .i64 P.p5, .int .i64 P.p6, .int .i64 P.p7, .int .i64 P.p8, .int .i64 P.x, .int .i64 P.y, .int .i64 P.z] 30)).alloc (.cells #[.int .i64 U, .int .i64 V, .int .i64 N] 39)).alloc (.cells #[.int .i64 n] 3)).alloc (.cells #[.int .i64 lx] 3)).alloc (.cells #[.int .i64 ly] 3)) [(w.heap.size + 1 + 1 + 1 + 1 + 1, [.int .i64 ly]), (w.heap.size + 1 + 1 + 1 + 1, [.int .i64 lx]), (w.heap.size + 1 + 1 + 1, [.int .i64 n]), (w.heap.size + 1 + 1, [.int .i64 U, .int .i64 V, .int .i64 N]), (w.heap.size + 1, [.int .i64 P.p0, .int .i64 P.p1, .int .i64 P.p2, .int .i64 P.p3, .int .i64 P.p4, .int .i64 P.p5, .int .i64 P.p6, .int .i64 P.p7, .int .i64 P.p8, .int .i64 P.x, .int .i64 P.y, .int .i64 P.z]), (w.heap.size, [.int .i64 C.a, .int .i64 C.b, .int .i64 C.c, .int .i64 C.d, .bool C.e, .int .i64 C.f, .int .i64 C.g])] := by
    have h := ((((((Held.nil w).new #[.int .i64 C.a, .int .i64 C.b, .int .i64 C.c, .int .i64 C.d, .bool C.e, .int .i64 C.f, .int .i64 C.g] 24).new #[.int .i64 P.p0, .int .i64 P.p1, .int .i64 P.p2, .int .i64 P.p3, .int .i64 P.p4, .int .i64 P.p5, .int .i64 P.p6, .int .i64 P.p7, .int .i64 P.p8, .int .i64 P.x, .int .i64 P.y, .int .i64 P.z] 30).new #[.int .i64 U, .int .i64 V, .int .i64 N] 39).new #[.int .i64 n] 3).new #[.int .i64 lx] 3).new #[.int .i64 ly] 3
    simpa only [World.size_alloc] using h
  have hs : okS U V N = true := by unfold subOkD at hk; simp only [Bool.and_eq_true] at hk; exact hk.1
  have h1 : inC 1 8 n = true := by unfold subOkD at hk; simp only [Bool.and_eq_true] at hk; exact hk.2.1
  have hm : (n.tmod N == 0) = true := by unfold subOkD at hk; simp only [Bool.and_eq_true] at hk; exact hk.2.2
  obtain ⟨⟨hmul, hq1, hq8⟩, hn, hN, hU, hV⟩ := tdiv_bd hk
  have hsUV := (okS_iff U V N).1 hs
  obtain ⟨s, es⟩ : ∃ s : Nat, (s : Int) = n.tdiv N := ⟨(n.tdiv N).toNat, by omega⟩
  have hs8 : 1 ≤ s ∧ s ≤ 8 := by omega
  have HVV : Hid (subL C P lx ly U V N n = partL (subF C P lx ly U V s n) s (s * s)) := Lib.hid (by unfold subL; rw [if_pos hk, ← es, Int.toNat_natCast])
  have ew : IntKind.i64.wrap (n.tmod N) = n.tmod N := by rw [eq_of_beq hm]; rfl
  have eq : IntKind.i64.wrap (n.tdiv N) = (s : Int) := by rw [← es]; exact wrap_in (by omega)
  have hN0 : ¬ N = 0 := by omega
  have hN1 : (N == 0) = false := by simpa using hN0
  have he0 : n % N = 0 := by rw [← Int.tmod_eq_emod_of_nonneg (by omega)]; exact eq_of_beq hm
  have hd0 : n / N = (s : Int) := by rw [← Int.tdiv_eq_ediv_of_nonneg (by omega), es]
  have es0 : IntKind.i64.wrap (s : Int) = s := wrap_in (by omega)
  have hUs : 0 ≤ U * s ∧ U * s + s ≤ 8 := by
    have h2 : U * s ≤ (N - 1) * s := Int.mul_le_mul_of_nonneg_right (by omega) (by omega)
    have h3 : (N - 1) * s = n.tdiv N * N - s := by rw [es]; grind
    have h4 : 0 ≤ U * s := Int.mul_nonneg (by omega) (by omega)
    omega
  have hVs : 0 ≤ V * s ∧ V * s + s ≤ 8 := by
    have h2 : V * s ≤ (N - 1) * s := Int.mul_le_mul_of_nonneg_right (by omega) (by omega)
    have h3 : (N - 1) * s = n.tdiv N * N - s := by rw [es]; grind
    have h4 : 0 ≤ V * s := Int.mul_nonneg (by omega) (by omega)
    omega
  have hf1 : Fence.wide.fn 38 := trivial
  have hf2 : Fence.wide.fn 37 := trivial
  have hf3 : Fence.wide.fn 36 := trivial
  have HB := Lib.hid (show (0 ≤ U * s ∧ U * s + s ≤ 8) ∧ (0 ≤ V * s ∧ V * s + s ≤ 8) from ⟨hUs, hVs⟩)
  clear hmul hsUV hk hU hV
  refine callsIn_of_wp_marks Try.func14 rfl trivial ?_ rfl
  simp only [Try.ntmps14, List.size_toArray, List.length_cons, List.length_nil, Nat.reduceAdd, Nat.reduceSub, Array.replicate_succ, Array.replicate_zero, List.push_toArray, List.append_toArray, List.nil_append, List.cons_append]
  gi_wp2_with (first | (gi_at_call 36; refine (callsIn_wide.2 (isValidSub_any _ _ _ _)).mono ?_; rintro e w1 ⟨rfl, hb1⟩; have HT := HT.later hb1; have hs1 := hb1.size; clear hb1; rw [hs]; have b3 := (HT.box 2).c 0; have b2 := (HT.box 3).c 2) | (gi_at_call 38; refine (callsIn_wide.2 (isWithin_any _ _ _ _)).mono ?_; rintro x w' ⟨rfl, rfl⟩; (try simp only [h1])) | (gi_at_call 37; refine (gridPts_in _ _ _).mono ?_; rintro e w' ⟨rfl, rfl⟩))
  rw [← es]
  simp only [World.size_alloc] at hs1
  have HT := ((HT.new #[.int .i64 s] 3).new #[.slice none 0 0] 34).new #[.int .i64 s] 3
  simp only [World.size_alloc] at HT
  obtain ⟨W0, hW0⟩ : ∃ W, W = (((w1.alloc (.cells #[.int .i64 s] 3)).alloc (.cells #[.slice none 0 0] 34)).alloc (.cells #[.int .i64 s] 3)) := ⟨_, rfl⟩
  have hs0 : W0.heap.size = w1.heap.size + 3 := by rw [hW0]; simp only [World.size_alloc]
  rw [← hW0] at HT ⊢
  clear hW0 b2 b3
  generalize g8 : w1.heap.size + 1 + 1 = k8 at HT ⊢
  generalize g7 : w1.heap.size + 1 = k7 at HT ⊢
  generalize g6 : w1.heap.size = k6 at HT ⊢
  generalize g5 : w.heap.size + 1 + 1 + 1 + 1 + 1 = k5 at HT ⊢
  generalize g4 : w.heap.size + 1 + 1 + 1 + 1 = k4 at HT ⊢
  generalize g3 : w.heap.size + 1 + 1 + 1 = k3 at HT ⊢
  generalize g2 : w.heap.size + 1 + 1 = k2 at HT ⊢
  generalize g1 : w.heap.size + 1 = k1 at HT ⊢
  generalize g0 : w.heap.size = k0 at HT ⊢
  have HT : Held w W0 ((k7, [.slice none 0 0]) :: [(k8, [.int .i64 s]), (k6, [.int .i64 s]), (k5, [.int .i64 ly]), (k4, [.int .i64 lx]), (k3, [.int .i64 n]), (k2, [.int .i64 U, .int .i64 V, .int .i64 N]), (k1, [.int .i64 P.p0, .int .i64 P.p1, .int .i64 P.p2, .int .i64 P.p3, .int .i64 P.p4, .int .i64 P.p5, .int .i64 P.p6, .int .i64 P.p7, .int .i64 P.p8, .int .i64 P.x, .int .i64 P.y, .int .i64 P.z]), (k0, [.int .i64 C.a, .int .i64 C.b, .int .i64 C.c, .int .i64 C.d, .bool C.e, .int .i64 C.f, .int .i64 C.g])]) := HT.pick (by simp)
  have HLT0 : ∀ (v : Value), ∀ p ∈ ((k7, [v]) :: [(k8, [.int .i64 s]), (k6, [.int .i64 s]), (k5, [.int .i64 ly]), (k4, [.int .i64 lx]), (k3, [.int .i64 n]), (k2, [.int .i64 U, .int .i64 V, .int .i64 N]), (k1, [.int .i64 P.p0, .int .i64 P.p1, .int .i64 P.p2, .int .i64 P.p3, .int .i64 P.p4, .int .i64 P.p5, .int .i64 P.p6, .int .i64 P.p7, .int .i64 P.p8, .int .i64 P.x, .int .i64 P.y, .int .i64 P.z]), (k0, [.int .i64 C.a, .int .i64 C.b, .int .i64 C.c, .int .i64 C.d, .bool C.e, .int .i64 C.f, .int .i64 C.g])] : List (Nat × List Value)), p.1 < W0.heap.size := fun v p hp => by
    simp only [List.mem_cons, List.not_mem_nil, or_false] at hp
    rcases hp with rfl | rfl | rfl | rfl | rfl | rfl | rfl | rfl | rfl <;> (show _ < _) <;> omega
  have HNE0 : ∀ p ∈ ([(k8, [.int .i64 s]), (k6, [.int .i64 s]), (k5, [.int .i64 ly]), (k4, [.int .i64 lx]), (k3, [.int .i64 n]), (k2, [.int .i64 U, .int .i64 V, .int .i64 N]), (k1, [.int .i64 P.p0, .int .i64 P.p1, .int .i64 P.p2, .int .i64 P.p3, .int .i64 P.p4, .int .i64 P.p5, .int .i64 P.p6, .int .i64 P.p7, .int .i64 P.p8, .int .i64 P.x, .int .i64 P.y, .int .i64 P.z]), (k0, [.int .i64 C.a, .int .i64 C.b, .int .i64 C.c, .int .i64 C.d, .bool C.e, .int .i64 C.f, .int .i64 C.g])] : List (Nat × List Value)), p.1 ≠ k7 := fun p hp => by
    simp only [List.mem_cons, List.not_mem_nil, or_false] at hp
    rcases hp with rfl | rfl | rfl | rfl | rfl | rfl | rfl | rfl <;> (show _ ≠ _) <;> omega
  have HLT := Lib.hid HLT0
  have HNE := Lib.hid HNE0
  have HK7 : Hid (k7 < W0.heap.size) := Lib.hid (by omega)
  have HW7 : Hid (w.heap.size ≤ k7) := Lib.hid (by omega)
  have HWB : Hid (w.heap.size ≤ W0.heap.size) := Lib.hid (by omega)
  have HSS := Lib.hid hs8
  have HC : ∀ {v : Value} W, Held w W ((k7, [v]) :: [(k8, [.int .i64 s]), (k6, [.int .i64 s]), (k5, [.int .i64 ly]), (k4, [.int .i64 lx]), (k3, [.int .i64 n]), (k2, [.int .i64 U, .int .i64 V, .int .i64 N]), (k1, [.int .i64 P.p0, .int .i64 P.p1, .int .i64 P.p2, .int .i64 P.p3, .int .i64 P.p4, .int .i64 P.p5, .int .i64 P.p6, .int .i64 P.p7, .int .i64 P.p8, .int .i64 P.x, .int .i64 P.y, .int .i64 P.z]), (k0, [.int .i64 C.a, .int .i64 C.b, .int .i64 C.c, .int .i64 C.d, .bool C.e, .int .i64 C.f, .int .i64 C.g])]) → (W.cell? ⟨k0, 0, none⟩ = some (.int .i64 C.a) ∧ W.cell? ⟨k0, 1, none⟩ = some (.int .i64 C.b) ∧ W.cell? ⟨k0, 2, none⟩ = some (.int .i64 C.c) ∧ W.cell? ⟨k0, 3, none⟩ = some (.int .i64 C.d) ∧ W.cell? ⟨k0, 4, none⟩ = some (.bool C.e) ∧ W.cell? ⟨k0, 5, none⟩ = some (.int .i64 C.f) ∧ W.cell? ⟨k0, 6, none⟩ = some (.int .i64 C.g) ∧ W.cell? ⟨k1, 0, none⟩ = some (.int .i64 P.p0) ∧ W.cell? ⟨k1, 1, none⟩ = some (.int .i64 P.p1) ∧ W.cell? ⟨k1, 2, none⟩ = some (.int .i64 P.p2) ∧ W.cell? ⟨k1, 3, none⟩ = some (.int .i64 P.p3) ∧ W.cell? ⟨k1, 4, none⟩ = some (.int .i64 P.p4) ∧ W.cell? ⟨k1, 5, none⟩ = some (.int .i64 P.p5) ∧ W.cell? ⟨k1, 6, none⟩ = some (.int .i64 P.p6) ∧ W.cell? ⟨k1, 7, none⟩ = some (.int .i64 P.p7) ∧ W.cell? ⟨k1, 8, none⟩ = some (.int .i64 P.p8) ∧ W.cell? ⟨k1, 9, none⟩ = some (.int .i64 P.x) ∧ W.cell? ⟨k1, 10, none⟩ = some (.int .i64 P.y) ∧ W.cell? ⟨k1, 11, none⟩ = some (.int .i64 P.z) ∧ W.cell? ⟨k2, 0, none⟩ = some (.int .i64 U) ∧ W.cell? ⟨k2, 1, none⟩ = some (.int .i64 V) ∧ W.cell? ⟨k2, 2, none⟩ = some (.int .i64 N) ∧ W.cell? ⟨k3, 0, none⟩ = some (.int .i64 n) ∧ W.cell? ⟨k4, 0, none⟩ = some (.int .i64 lx) ∧ W.cell? ⟨k5, 0, none⟩ = some (.int .i64 ly) ∧ W.cell? ⟨k6, 0, none⟩ = some (.int .i64 s)) := fun W h => ⟨(h.box 8).c 0, (h.box 8).c 1, (h.box 8).c 2, (h.box 8).c 3, (h.box 8).c 4, (h.box 8).c 5, (h.box 8).c 6, (h.box 7).c 0, (h.box 7).c 1, (h.box 7).c 2, (h.box 7).c 3, (h.box 7).c 4, (h.box 7).c 5, (h.box 7).c 6, (h.box 7).c 7, (h.box 7).c 8, (h.box 7).c 9, (h.box 7).c 10, (h.box 7).c 11, (h.box 6).c 0, (h.box 6).c 1, (h.box 6).c 2, (h.box 5).c 0, (h.box 4).c 0, (h.box 3).c 0, (h.box 2).c 0⟩
  refine' wpIn_grid (s := s) (Bn := k8) (by omega) (by omega) rfl rfl (fun T W => ∃ v, Held w W ((k7, [v]) :: [(k8, [.int .i64 s]), (k6, [.int .i64 s]), (k5, [.int .i64 ly]), (k4, [.int .i64 lx]), (k3, [.int .i64 n]), (k2, [.int .i64 U, .int .i64 V, .int .i64 N]), (k1, [.int .i64 P.p0, .int .i64 P.p1, .int .i64 P.p2, .int .i64 P.p3, .int .i64 P.p4, .int .i64 P.p5, .int .i64 P.p6, .int .i64 P.p7, .int .i64 P.p8, .int .i64 P.x, .int .i64 P.y, .int .i64 P.z]), (k0, [.int .i64 C.a, .int .i64 C.b, .int .i64 C.c, .int .i64 C.d, .bool C.e, .int .i64 C.f, .int .i64 C.g])]) ∧ W.ownsRow W0.heap.size 45 12 v (partL (subF C P lx ly U V s n) s T).length ((partL (subF C P lx ly U V s n) s T).flatMap mgc) ∧ W0.heap.size ≤ W.heap.size)
    (fun c W => False)
    (fun T A B row h hg hr => by obtain ⟨v, h1, h2, h3⟩ := h; exact ⟨v, h1.turned hg (by omega) hr, own_turned h2 hg (fun r e => (hr r e).2), Nat.le_trans h3 hg.size⟩) (fun c A B row h hg hr => h) (fun T W h => by obtain ⟨v, h1, _⟩ := h; exact (h1.box 1).c 0) ⟨_, HT, World.ownsRow_nil _ _ _ _, Nat.le_refl _⟩ _ ?assign ?body ?done ?stop
  case assign =>
    intro l c r W K hK
    gi_wp2
    exact hK
  case body =>
    rintro l c r W hc hr ⟨v, HT, hown, HSZW⟩
    have HLS : Hid (partL (subF C P lx ly U V s n) s (s * r + c + 1) = _) := Lib.hid (partL_step (subF C P lx ly U V s n) s c r hc)
    have hlen := partL_len (subF C P lx ly U V s n) s (fun _ _ => subF_len ..) (s * r + c)
    have hle : s * r + c < 64 := by
      have h1 : s * r + s ≤ s * s := by rw [← Nat.mul_succ]; exact Nat.mul_le_mul_left s hr
      have h2 : s * s ≤ 8 * 8 := Nat.mul_le_mul hs8.2 hs8.2
      omega
    have hlm := subF_len C P lx ly U V s n c r
    have HD : Hid (∀ w, Calls Try.prog 20 #[C.v, P.v, .int .i64 (U * s + c), .int .i64 (V * s + r), .int .i64 n, .int .i64 lx, .int .i64 ly] w (MicOut (subF C P lx ly U V s n c r) w)) := Lib.hid (fun w => diceCell_any C P _ _ n lx ly w)
    generalize partL (subF C P lx ly U V s n) s (s * r + c) = L at hown hlen HLS
    generalize hM : subF C P lx ly U V s n c r = M at hlm HLS HD
    have hb := HB.out
    have e1 : IntKind.i64.wrap (U * (s : Int)) = U * s := wrap_in (by omega)
    have e2 : IntKind.i64.wrap (U * (s : Int) + (c : Int)) = U * s + c := wrap_in (by omega)
    have e3 : IntKind.i64.wrap (V * (s : Int)) = V * s := wrap_in (by omega)
    have e4 : IntKind.i64.wrap (V * (s : Int) + (r : Int)) = V * s + r := wrap_in (by omega)
    have hLM : L.length + M.length ≤ 200 := by omega
    have HO := Lib.hid hown
    have HT := RH.start (B := W0.heap.size) HT
    have HSZ : Hid (W0.heap.size ≤ W.heap.size) := Lib.hid HSZW
    clear he0 hd0 es0 hown hlen hle hlm hb hM h1 hm hs ew eq hN0 hN1 hUs hVs hf1 hf2 hf3 hs0 hs1 es hc hr
    gi_wp2
    have HT := HT.drew
    have HO := Lib.hid (World.ownsRow.drew HO.out)
    refine region_round (S := fun w' => w'.cell? ⟨k0, 0, none⟩ = some (.int .i64 C.a) ∧ w'.cell? ⟨k0, 1, none⟩ = some (.int .i64 C.b) ∧ w'.cell? ⟨k0, 2, none⟩ = some (.int .i64 C.c) ∧ w'.cell? ⟨k0, 3, none⟩ = some (.int .i64 C.d) ∧ w'.cell? ⟨k0, 4, none⟩ = some (.bool C.e) ∧ w'.cell? ⟨k0, 5, none⟩ = some (.int .i64 C.f) ∧ w'.cell? ⟨k0, 6, none⟩ = some (.int .i64 C.g) ∧ w'.cell? ⟨k1, 0, none⟩ = some (.int .i64 P.p0) ∧ w'.cell? ⟨k1, 1, none⟩ = some (.int .i64 P.p1) ∧ w'.cell? ⟨k1, 2, none⟩ = some (.int .i64 P.p2) ∧ w'.cell? ⟨k1, 3, none⟩ = some (.int .i64 P.p3) ∧ w'.cell? ⟨k1, 4, none⟩ = some (.int .i64 P.p4) ∧ w'.cell? ⟨k1, 5, none⟩ = some (.int .i64 P.p5) ∧ w'.cell? ⟨k1, 6, none⟩ = some (.int .i64 P.p6) ∧ w'.cell? ⟨k1, 7, none⟩ = some (.int .i64 P.p7) ∧ w'.cell? ⟨k1, 8, none⟩ = some (.int .i64 P.p8) ∧ w'.cell? ⟨k1, 9, none⟩ = some (.int .i64 P.x) ∧ w'.cell? ⟨k1, 10, none⟩ = some (.int .i64 P.y) ∧ w'.cell? ⟨k1, 11, none⟩ = some (.int .i64 P.z) ∧ w'.cell? ⟨k2, 0, none⟩ = some (.int .i64 U) ∧ w'.cell? ⟨k2, 1, none⟩ = some (.int .i64 V) ∧ w'.cell? ⟨k2, 2, none⟩ = some (.int .i64 N) ∧ w'.cell? ⟨k3, 0, none⟩ = some (.int .i64 n) ∧ w'.cell? ⟨k4, 0, none⟩ = some (.int .i64 lx) ∧ w'.cell? ⟨k5, 0, none⟩ = some (.int .i64 ly) ∧ w'.cell? ⟨k6, 0, none⟩ = some (.int .i64 s)) (by kernel_rfl) (by rintro ⟨a, w, h⟩; exact h) (by kernel_rfl) (HC _ HT.held) (fun hHeld => ?_)
    refine wpAnyH_take (i := 1) (oi := { dst := some 41, op := Op.load 24 (Operand.tmp 6), type := 24, pos := "l10_dice.go:78", after := #[], guard := none }) (v := ?_) rfl (by kernel_rfl) (by kernel_rfl) (by kernel_rfl) (fun _ _ _ h => h) (Or.inl ⟨by rfl, ?_⟩) (by assumption) ?_
    rotate_left 1
    · (intro w hSw; (try dsimp only at hSw); go_simp <;> with_reducible rfl)
    (try simp only [Act.put, List.setIfInBounds_toArray, List.set_cons_zero, List.set_cons_succ])
    refine wpAnyH_take (i := 2) (oi := { dst := some 42, op := Op.load 30 (Operand.tmp 7), type := 30, pos := "l10_dice.go:78", after := #[], guard := none }) (v := ?_) rfl (by kernel_rfl) (by kernel_rfl) (by kernel_rfl) (fun _ _ _ h => h) (Or.inl ⟨by rfl, ?_⟩) (by assumption) ?_
    rotate_left 1
    · (intro w hSw; (try dsimp only at hSw); go_simp <;> with_reducible rfl)
    (try simp only [Act.put, List.setIfInBounds_toArray, List.set_cons_zero, List.set_cons_succ])
    refine wpAnyH_take (i := 3) (oi := { dst := some 43, op := Op.fieldAddr 39 (Operand.tmp 8) 0, type := 0, pos := "l10_dice.go:78", after := #[], guard := none }) (v := ?_) rfl (by kernel_rfl) (by kernel_rfl) (by kernel_rfl) (fun _ _ _ h => h) (Or.inl ⟨by rfl, ?_⟩) (by assumption) ?_
    rotate_left 1
    · (intro w hSw; (try dsimp only at hSw); go_simp <;> with_reducible rfl)
    (try simp only [Act.put, List.setIfInBounds_toArray, List.set_cons_zero, List.set_cons_succ])
    refine wpAnyH_take (i := 4) (oi := { dst := some 44, op := Op.load 3 (Operand.tmp 43), type := 3, pos := "l10_dice.go:78", after := #[{ on := 3, ground := Ground.data }], guard := none }) (v := ?_) rfl (by kernel_rfl) (by kernel_rfl) (by kernel_rfl) (fun _ _ _ h => h) (Or.inl ⟨by rfl, ?_⟩) (by assumption) ?_
    rotate_left 1
    · (intro w hSw; (try dsimp only at hSw); go_simp <;> with_reducible rfl)
    (try simp only [Act.put, List.setIfInBounds_toArray, List.set_cons_zero, List.set_cons_succ])
    refine wpAnyH_take (i := 5) (oi := { dst := some 45, op := Op.load 3 (Operand.tmp 13), type := 3, pos := "l10_dice.go:78", after := #[], guard := none }) (v := ?_) rfl (by kernel_rfl) (by kernel_rfl) (by kernel_rfl) (fun _ _ _ h => h) (Or.inl ⟨by rfl, ?_⟩) (by assumption) ?_
    rotate_left 1
    · (intro w hSw; (try dsimp only at hSw); go_simp <;> with_reducible rfl)
    (try simp only [Act.put, List.setIfInBounds_toArray, List.set_cons_zero, List.set_cons_succ])
    refine wpAnyH_take (i := 6) (oi := { dst := some 46, op := Op.binOp BinOp.mul 3 (Operand.tmp 44) (Operand.tmp 45) 3, type := 3, pos := "l10_dice.go:78", after := #[{ on := 4, ground := Ground.data }, { on := 5, ground := Ground.data }], guard := none }) (v := ?_) rfl (by kernel_rfl) (by kernel_rfl) (by kernel_rfl) (fun _ _ _ h => h) (Or.inl ⟨by rfl, ?_⟩) (by assumption) ?_
    rotate_left 1
    · (intro w hSw; (try dsimp only at hSw); go_simp <;> with_reducible rfl)
    (try simp only [Act.put, List.setIfInBounds_toArray, List.set_cons_zero, List.set_cons_succ])
    refine wpAnyH_take (i := 7) (oi := { dst := some 47, op := Op.move (Operand.tmp 15), type := 3, pos := "l10_dice.go:78", after := #[], guard := none }) (v := ?_) rfl (by kernel_rfl) (by kernel_rfl) (by kernel_rfl) (fun _ _ _ h => h) (Or.inl ⟨by rfl, ?_⟩) (by assumption) ?_
    rotate_left 1
    · (intro w hSw; (try dsimp only at hSw); go_simp <;> with_reducible rfl)
    (try simp only [Act.put, List.setIfInBounds_toArray, List.set_cons_zero, List.set_cons_succ])
    refine wpAnyH_take (i := 8) (oi := { dst := some 48, op := Op.binOp BinOp.add 3 (Operand.tmp 46) (Operand.tmp 47) 3, type := 3, pos := "l10_dice.go:78", after := #[{ on := 6, ground := Ground.data }, { on := 7, ground := Ground.data }], guard := none }) (v := ?_) rfl (by kernel_rfl) (by kernel_rfl) (by kernel_rfl) (fun _ _ _ h => h) (Or.inl ⟨by rfl, ?_⟩) (by assumption) ?_
    rotate_left 1
    · (intro w hSw; (try dsimp only at hSw); go_simp <;> with_reducible rfl)
    (try simp only [Act.put, List.setIfInBounds_toArray, List.set_cons_zero, List.set_cons_succ])
    refine wpAnyH_take (i := 9) (oi := { dst := some 49, op := Op.fieldAddr 39 (Operand.tmp 8) 1, type := 0, pos := "l10_dice.go:78", after := #[], guard := none }) (v := ?_) rfl (by kernel_rfl) (by kernel_rfl) (by kernel_rfl) (fun _ _ _ h => h) (Or.inl ⟨by rfl, ?_⟩) (by assumption) ?_
    rotate_left 1
    · (intro w hSw; (try dsimp only at hSw); go_simp <;> with_reducible rfl)
    (try simp only [Act.put, List.setIfInBounds_toArray, List.set_cons_zero, List.set_cons_succ])
    refine wpAnyH_take (i := 10) (oi := { dst := some 50, op := Op.load 3 (Operand.tmp 49), type := 3, pos := "l10_dice.go:78", after := #[{ on := 9, ground := Ground.data }], guard := none }) (v := ?_) rfl (by kernel_rfl) (by kernel_rfl) (by kernel_rfl) (fun _ _ _ h => h) (Or.inl ⟨by rfl, ?_⟩) (by assumption) ?_
    rotate_left 1
    · (intro w hSw; (try dsimp only at hSw); go_simp <;> with_reducible rfl)
    (try simp only [Act.put, List.setIfInBounds_toArray, List.set_cons_zero, List.set_cons_succ])
    refine wpAnyH_take (i := 11) (oi := { dst := some 51, op := Op.load 3 (Operand.tmp 13), type := 3, pos := "l10_dice.go:78", after := #[], guard := none }) (v := ?_) rfl (by kernel_rfl) (by kernel_rfl) (by kernel_rfl) (fun _ _ _ h => h) (Or.inl ⟨by rfl, ?_⟩) (by assumption) ?_
    rotate_left 1
    · (intro w hSw; (try dsimp only at hSw); go_simp <;> with_reducible rfl)
    (try simp only [Act.put, List.setIfInBounds_toArray, List.set_cons_zero, List.set_cons_succ])
    refine wpAnyH_take (i := 12) (oi := { dst := some 52, op := Op.binOp BinOp.mul 3 (Operand.tmp 50) (Operand.tmp 51) 3, type := 3, pos := "l10_dice.go:78", after := #[{ on := 10, ground := Ground.data }, { on := 11, ground := Ground.data }], guard := none }) (v := ?_) rfl (by kernel_rfl) (by kernel_rfl) (by kernel_rfl) (fun _ _ _ h => h) (Or.inl ⟨by rfl, ?_⟩) (by assumption) ?_
    rotate_left 1
    · (intro w hSw; (try dsimp only at hSw); go_simp <;> with_reducible rfl)
    (try simp only [Act.put, List.setIfInBounds_toArray, List.set_cons_zero, List.set_cons_succ])
    refine wpAnyH_take (i := 13) (oi := { dst := some 53, op := Op.move (Operand.tmp 16), type := 3, pos := "l10_dice.go:78", after := #[], guard := none }) (v := ?_) rfl (by kernel_rfl) (by kernel_rfl) (by kernel_rfl) (fun _ _ _ h => h) (Or.inl ⟨by rfl, ?_⟩) (by assumption) ?_
    rotate_left 1
    · (intro w hSw; (try dsimp only at hSw); go_simp <;> with_reducible rfl)
    (try simp only [Act.put, List.setIfInBounds_toArray, List.set_cons_zero, List.set_cons_succ])
    refine wpAnyH_take (i := 14) (oi := { dst := some 54, op := Op.binOp BinOp.add 3 (Operand.tmp 52) (Operand.tmp 53) 3, type := 3, pos := "l10_dice.go:78", after := #[{ on := 12, ground := Ground.data }, { on := 13, ground := Ground.data }], guard := none }) (v := ?_) rfl (by kernel_rfl) (by kernel_rfl) (by kernel_rfl) (fun _ _ _ h => h) (Or.inl ⟨by rfl, ?_⟩) (by assumption) ?_
    rotate_left 1
    · (intro w hSw; (try dsimp only at hSw); go_simp <;> with_reducible rfl)
    (try simp only [Act.put, List.setIfInBounds_toArray, List.set_cons_zero, List.set_cons_succ])
    refine wpAnyH_take (i := 15) (oi := { dst := some 55, op := Op.load 3 (Operand.tmp 9), type := 3, pos := "l10_dice.go:78", after := #[], guard := none }) (v := ?_) rfl (by kernel_rfl) (by kernel_rfl) (by kernel_rfl) (fun _ _ _ h => h) (Or.inl ⟨by rfl, ?_⟩) (by assumption) ?_
    rotate_left 1
    · (intro w hSw; (try dsimp only at hSw); go_simp <;> with_reducible rfl)
    (try simp only [Act.put, List.setIfInBounds_toArray, List.set_cons_zero, List.set_cons_succ])
    refine wpAnyH_take (i := 16) (oi := { dst := some 56, op := Op.load 3 (Operand.tmp 10), type := 3, pos := "l10_dice.go:78", after := #[], guard := none }) (v := ?_) rfl (by kernel_rfl) (by kernel_rfl) (by kernel_rfl) (fun _ _ _ h => h) (Or.inl ⟨by rfl, ?_⟩) (by assumption) ?_
    rotate_left 1
    · (intro w hSw; (try dsimp only at hSw); go_simp <;> with_reducible rfl)
    (try simp only [Act.put, List.setIfInBounds_toArray, List.set_cons_zero, List.set_cons_succ])
    refine wpAnyH_take (i := 17) (oi := { dst := some 57, op := Op.load 3 (Operand.tmp 11), type := 3, pos := "l10_dice.go:78", after := #[], guard := none }) (v := ?_) rfl (by kernel_rfl) (by kernel_rfl) (by kernel_rfl) (fun _ _ _ h => h) (Or.inl ⟨by rfl, ?_⟩) (by assumption) ?_
    rotate_left 1
    · (intro w hSw; (try dsimp only at hSw); go_simp <;> with_reducible rfl)
    (try simp only [Act.put, List.setIfInBounds_toArray, List.set_cons_zero, List.set_cons_succ])
    refine wpAnyH_ready (rs := [0, 18]) (by kernel_rfl) (by simp) ?_
    refine AllReadyH.cons (o := { dst := some 40, op := Op.load 34 (Operand.tmp 14), type := 34, pos := "l10_dice.go:78", after := #[], guard := none }) rfl (fun K hK => ?_) ?_
    · have c7 := (HT.box 0).c 0
      go_simp
      clear c7
      refine hK.out _ _ (by (try dsimp only); (first | with_reducible exact HC _ HT.held)) (fun hHeld => ?_)
      clear hK K
      (try simp only [Act.put, List.setIfInBounds_toArray, List.set_cons_zero, List.set_cons_succ])
      refine wpAnyH_ready (rs := [18]) (by kernel_rfl) (by simp) ?_
      refine AllReadyH.cons (o := { dst := some 58, op := Op.call { callee := Callee.value (Operand.func 20), args := #[Operand.tmp 41, Operand.tmp 42, Operand.tmp 48, Operand.tmp 54, Operand.tmp 55, Operand.tmp 56, Operand.tmp 57], argTypes := #[24, 30, 3, 3, 3, 3, 3] }, type := 34, pos := "l10_dice.go:78", after := #[{ on := 1, ground := Ground.data }, { on := 2, ground := Ground.data }, { on := 8, ground := Ground.data }, { on := 14, ground := Ground.data }, { on := 15, ground := Ground.data }, { on := 16, ground := Ground.data }, { on := 17, ground := Ground.data }], guard := none }) rfl (fun K hK => ?_) ?_
      · go_simp
        (with_reducible refine (HD.out _).mono ?_)
        rintro e w1 ⟨A1, c1, rfl, ho1, hb1⟩
        have HO := Lib.hid (own_keep' HO.out hb1)
        have HO1 := Lib.hid ho1
        have HT := HT.later hb1
        clear hb1 ho1
        (try go_wp2_with fail)
        refine hK.out _ _ (by (try dsimp only); (first | with_reducible exact HC _ HT.held)) (fun hHeld => ?_)
        clear hK K
        (try simp only [Act.put, List.setIfInBounds_toArray, List.set_cons_zero, List.set_cons_succ])
        refine wpAnyH_ready (rs := [19]) (by kernel_rfl) (by simp) ?_
        refine AllReadyH.cons (o := { dst := some 59, op := Op.call { callee := Callee.builtin Builtin.append, args := #[Operand.tmp 40, Operand.tmp 58], argTypes := #[34, 34] }, type := 34, pos := "l10_dice.go:78", after := #[{ on := 0, ground := Ground.data }, { on := 18, ground := Ground.data }, { on := 18, ground := Ground.chain }], guard := none }) rfl (fun K hK => ?_) ?_
        · refine step_append_rows rfl _ _ 34 rfl W0.heap.size 45 _ 12 96 Try.underlying34 infoMic rfl (by omega) _ _ _ (by rfl) HO.out _ A1 _ c1 _ (by rfl) HO1.out (mgc_one _) (by unfold maxLen; omega) (by omega) (Nat.le_trans HSZ.out HT.keep.size) ?_
          intro v3 w3 ho3 hg3
          obtain ⟨A3, c3, rfl⟩ := own_shape ho3
          have HT := HT.grow HO.out hg3 HWB.out (HLT.out _)
          have HO3 := Lib.hid ho3
          clear hg3 ho3
          refine hK.out _ _ (by (try dsimp only); (first | with_reducible exact HC _ HT.held)) (fun hHeld => ?_)
          clear hK K
          (try simp only [Act.put, List.setIfInBounds_toArray, List.set_cons_zero, List.set_cons_succ])
          refine wpAnyH_ready (rs := [20]) (by kernel_rfl) (by simp) ?_
          refine AllReadyH.cons (o := { dst := none, op := Op.store 34 (Operand.tmp 14) (Operand.tmp 59), type := 0, pos := "l10_dice.go:78", after := #[{ on := 19, ground := Ground.data }, { on := 19, ground := Ground.chain }, { on := 0, ground := Ground.phase }, { on := 1, ground := Ground.phase }, { on := 2, ground := Ground.phase }, { on := 3, ground := Ground.phase }, { on := 4, ground := Ground.phase }, { on := 5, ground := Ground.phase }, { on := 6, ground := Ground.phase }, { on := 7, ground := Ground.phase }, { on := 8, ground := Ground.phase }, { on := 9, ground := Ground.phase }, { on := 10, ground := Ground.phase }, { on := 11, ground := Ground.phase }, { on := 12, ground := Ground.phase }, { on := 13, ground := Ground.phase }, { on := 14, ground := Ground.phase }, { on := 15, ground := Ground.phase }, { on := 16, ground := Ground.phase }, { on := 17, ground := Ground.phase }, { on := 18, ground := Ground.phase }, { on := 19, ground := Ground.phase }], guard := none }) rfl (fun K hK => ?_) ?_
          · have c7 := (HT.box 0).c 0
            have f7 := (HT.box 0).f 0
            go_simp
            clear c7 f7
            have HT := HT.put HW7.out (HNE.out) 0 (.slice A3 (L.length + M.length) c3)
            simp only [List.set_cons_zero] at HT
            refine hK.out _ _ (by (try dsimp only); (first | with_reducible exact HC _ HT.held)) (fun hHeld => ?_)
            clear hK K
            (try simp only [Act.put, List.setIfInBounds_toArray, List.set_cons_zero, List.set_cons_succ])
            refine wpAnyH_done (by kernel_rfl) ?_ _
            gi_wp2
            refine ⟨HT.keep, .slice A3 (L.length + M.length) c3, HT.held, ?_, Nat.le_trans HSZ.out HT.keep.size⟩
            rw [HLS.out, List.length_append, List.flatMap_append]
            exact ownsRow_setCell_below HO3.out (a := ⟨k7, 0, none⟩) HK7.out _
          exact AllReadyH.nil
        exact AllReadyH.nil
      exact AllReadyH.nil
    refine AllReadyH.cons (o := { dst := some 58, op := Op.call { callee := Callee.value (Operand.func 20), args := #[Operand.tmp 41, Operand.tmp 42, Operand.tmp 48, Operand.tmp 54, Operand.tmp 55, Operand.tmp 56, Operand.tmp 57], argTypes := #[24, 30, 3, 3, 3, 3, 3] }, type := 34, pos := "l10_dice.go:78", after := #[{ on := 1, ground := Ground.data }, { on := 2, ground := Ground.data }, { on := 8, ground := Ground.data }, { on := 14, ground := Ground.data }, { on := 15, ground := Ground.data }, { on := 16, ground := Ground.data }, { on := 17, ground := Ground.data }], guard := none }) rfl (fun K hK => ?_) ?_
    · go_simp
      (with_reducible refine (HD.out _).mono ?_)
      rintro e w1 ⟨A1, c1, rfl, ho1, hb1⟩
      have HO := Lib.hid (own_keep' HO.out hb1)
      have HO1 := Lib.hid ho1
      have HT := HT.later hb1
      clear hb1 ho1
      (try go_wp2_with fail)
      refine hK.out _ _ (by (try dsimp only); (first | with_reducible exact HC _ HT.held)) (fun hHeld => ?_)
      clear hK K
      (try simp only [Act.put, List.setIfInBounds_toArray, List.set_cons_zero, List.set_cons_succ])
      refine wpAnyH_ready (rs := [0]) (by kernel_rfl) (by simp) ?_
      refine AllReadyH.cons (o := { dst := some 40, op := Op.load 34 (Operand.tmp 14), type := 34, pos := "l10_dice.go:78", after := #[], guard := none }) rfl (fun K hK => ?_) ?_
      · have c7 := (HT.box 0).c 0
        go_simp
        clear c7
        refine hK.out _ _ (by (try dsimp only); (first | with_reducible exact HC _ HT.held)) (fun hHeld => ?_)
        clear hK K
        (try simp only [Act.put, List.setIfInBounds_toArray, List.set_cons_zero, List.set_cons_succ])
        refine wpAnyH_ready (rs := [19]) (by kernel_rfl) (by simp) ?_
        refine AllReadyH.cons (o := { dst := some 59, op := Op.call { callee := Callee.builtin Builtin.append, args := #[Operand.tmp 40, Operand.tmp 58], argTypes := #[34, 34] }, type := 34, pos := "l10_dice.go:78", after := #[{ on := 0, ground := Ground.data }, { on := 18, ground := Ground.data }, { on := 18, ground := Ground.chain }], guard := none }) rfl (fun K hK => ?_) ?_
        · refine step_append_rows rfl _ _ 34 rfl W0.heap.size 45 _ 12 96 Try.underlying34 infoMic rfl (by omega) _ _ _ (by rfl) HO.out _ A1 _ c1 _ (by rfl) HO1.out (mgc_one _) (by unfold maxLen; omega) (by omega) (Nat.le_trans HSZ.out HT.keep.size) ?_
          intro v3 w3 ho3 hg3
          obtain ⟨A3, c3, rfl⟩ := own_shape ho3
          have HT := HT.grow HO.out hg3 HWB.out (HLT.out _)
          have HO3 := Lib.hid ho3
          clear hg3 ho3
          refine hK.out _ _ (by (try dsimp only); (first | with_reducible exact HC _ HT.held)) (fun hHeld => ?_)
          clear hK K
          (try simp only [Act.put, List.setIfInBounds_toArray, List.set_cons_zero, List.set_cons_succ])
          refine wpAnyH_ready (rs := [20]) (by kernel_rfl) (by simp) ?_
          refine AllReadyH.cons (o := { dst := none, op := Op.store 34 (Operand.tmp 14) (Operand.tmp 59), type := 0, pos := "l10_dice.go:78", after := #[{ on := 19, ground := Ground.data }, { on := 19, ground := Ground.chain }, { on := 0, ground := Ground.phase }, { on := 1, ground := Ground.phase }, { on := 2, ground := Ground.phase }, { on := 3, ground := Ground.phase }, { on := 4, ground := Ground.phase }, { on := 5, ground := Ground.phase }, { on := 6, ground := Ground.phase }, { on := 7, ground := Ground.phase }, { on := 8, ground := Ground.phase }, { on := 9, ground := Ground.phase }, { on := 10, ground := Ground.phase }, { on := 11, ground := Ground.phase }, { on := 12, ground := Ground.phase }, { on := 13, ground := Ground.phase }, { on := 14, ground := Ground.phase }, { on := 15, ground := Ground.phase }, { on := 16, ground := Ground.phase }, { on := 17, ground := Ground.phase }, { on := 18, ground := Ground.phase }, { on := 19, ground := Ground.phase }], guard := none }) rfl (fun K hK => ?_) ?_
          · have c7 := (HT.box 0).c 0
            have f7 := (HT.box 0).f 0
            go_simp
            clear c7 f7
            have HT := HT.put HW7.out (HNE.out) 0 (.slice A3 (L.length + M.length) c3)
            simp only [List.set_cons_zero] at HT
            refine hK.out _ _ (by (try dsimp only); (first | with_reducible exact HC _ HT.held)) (fun hHeld => ?_)
            clear hK K
            (try simp only [Act.put, List.setIfInBounds_toArray, List.set_cons_zero, List.set_cons_succ])
            refine wpAnyH_done (by kernel_rfl) ?_ _
            gi_wp2
            refine ⟨HT.keep, .slice A3 (L.length + M.length) c3, HT.held, ?_, Nat.le_trans HSZ.out HT.keep.size⟩
            rw [HLS.out, List.length_append, List.flatMap_append]
            exact ownsRow_setCell_below HO3.out (a := ⟨k7, 0, none⟩) HK7.out _
          exact AllReadyH.nil
        exact AllReadyH.nil
      exact AllReadyH.nil
    exact AllReadyH.nil
  case done =>
    rintro D W hD ⟨v, HT, hown, _⟩ hK
    clear es eq hd0 hs0 hs1
    obtain ⟨A, c, rfl⟩ := own_shape hown
    have c7 := (HT.box 0).c 0
    gi_wp2
    refine ⟨by simp, .inl ⟨_, _, rfl, run_takeDeferred hK, ?_⟩⟩
    rw [HVV.out]
    exact ⟨_, results_tmp rfl _ _ _, A, c, rfl, own_base (ownsRow_putObj hown (.deferred none) hK rfl) HWB.out, HT.below.trans (belowK_b (w := w) (Nat.le_refl _) W D _ _ (by have := HWB.out; omega) hK rfl rfl)⟩
  case stop =>
    rintro D c W _ h _
    exact h.elim

theorem diceSub_any (C : CV) (P : PV) (U V N n lx ly : Int) (w : World) :
    Calls Try.prog 14 #[C.v, P.v, vec U V N, .int .i64 n, .int .i64 lx, .int .i64 ly] w (MicOut (subL C P lx ly U V N n) w) := by
  rcases hk : subOkD U V N n with _ | _
  · exact diceSub_bad C P U V N n lx ly w hk
  · exact (callsIn_wide (n := 3)).1 (diceSub_go C P U V N n lx ly w hk)

theorem dicePatch_any (C : CV) (P : PV) (n lx ly : Int) (w : World) :
    Calls Try.prog 12 #[C.v, P.v, .int .i64 n, .int .i64 lx, .int .i64 ly] w (MicOut (subL C P lx ly 0 0 1 n) w) := by
  have HT : Held w ((w.alloc (.cells #[.int .i64 C.a, .int .i64 C.b, .int .i64 C.c, .int .i64 C.d, .bool C.e, .int .i64 C.f, .int .i64 C.g] 24)).alloc (.cells #[.int .i64 P.p0, .int .i64 P.p1, .int .i64 P.p2, .int .i64 P.p3, .int .i64 P.p4, .int .i64 P.p5, .int .i64 P.p6, .int .i64 P.p7, .int .i64 P.p8, .int .i64 P.x, .int .i64 P.y, .int .i64 P.z] 30)) [(w.heap.size + 1, [.int .i64 P.p0, .int .i64 P.p1, .int .i64 P.p2, .int .i64 P.p3, .int .i64 P.p4, .int .i64 P.p5, .int .i64 P.p6, .int .i64 P.p7, .int .i64 P.p8, .int .i64 P.x, .int .i64 P.y, .int .i64 P.z]), (w.heap.size, [.int .i64 C.a, .int .i64 C.b, .int .i64 C.c, .int .i64 C.d, .bool C.e, .int .i64 C.f, .int .i64 C.g])] := by
    have h := ((Held.nil w).new #[.int .i64 C.a, .int .i64 C.b, .int .i64 C.c, .int .i64 C.d, .bool C.e, .int .i64 C.f, .int .i64 C.g] 24).new #[.int .i64 P.p0, .int .i64 P.p1, .int .i64 P.p2, .int .i64 P.p3, .int .i64 P.p4, .int .i64 P.p5, .int .i64 P.p6, .int .i64 P.p7, .int .i64 P.p8, .int .i64 P.x, .int .i64 P.y, .int .i64 P.z] 30
    simpa only [World.size_alloc] using h
  go_enter Try.func12, Try.ntmps12
  go_wp2_with fail
  refine (diceSub_any C P 0 0 1 n lx ly _).mono ?_
  rintro e w1 ⟨A, c, rfl, ho, hb⟩
  have HT := HT.later hb
  have HO := Lib.hid (own_base ho (base' := w.heap.size) (by simp; omega))
  clear ho hb
  go_wp2_with fail
  go_ret
  exact ⟨A, c, rfl, HO.out, HT.below⟩
end Go.Proofs.Ytmhcpjednogegaa
