/- The cache of the program, third part: UseTile. -/
import Derived.Test.YtaelhbbfddcabaaProg
import Derived.Test.YtaelhbbfddcabaaInts
import Derived.Test.YtaelhbbfddcabaaVbox
import Derived.Test.YtaelhbbfddcabaaHeld
import Derived.Test.YtaelhbbfddcabaaMem
import Derived.Test.YtaelhbbfddcabaaFlat
import Derived.Test.YtaelhbbfddcabaaRowC
import Derived.Test.YtaelhbbfddcabaaKS
import Derived.Test.YtaelhbbfddcabaaStrS
import Derived.Test.YtaelhbbfddcabaaIntS
import Derived.Test.YtaelhbbfddcabaaSS
import Derived.Test.YtaelhbbfddcabaaVi
import Derived.Test.YtaelhbbfddcabaaVa
import Derived.Test.YtaelhbbfddcabaaVb
import Derived.Test.YtaelhbbfddcabaaVc
import Derived.Test.YtaelhbbfddcabaaVd
import Derived.Test.YtaelhbbfddcabaaVe
import Derived.Test.YtaelhbbfddcabaaVf
import Derived.Test.YtaelhbbfddcabaaVg
import Derived.Test.YtaelhbbfddcabaaVm
import Derived.Test.YtaelhbbfddcabaaVn
import Derived.Test.YtaelhbbfddcabaaVo
import Derived.Test.YtaelhbbfddcabaaVp
import Derived.Test.YtaelhbbfddcabaaVq
import Derived.Test.YtaelhbbfddcabaaWa
import Derived.Test.YtaelhbbfddcabaaWb
import Derived.Test.YtaelhbbfddcabaaWc
import Derived.Test.YtaelhbbfddcabaaWd
import Derived.Test.YtaelhbbfddcabaaWe
import Derived.Test.YtaelhbbfddcabaaWm
import Derived.Test.YtaelhbbfddcabaaWo
import Derived.Test.YtaelhbbfddcabaaWp
import Derived.Test.YtaelhbbfddcabaaWn
import Derived.Test.YtaelhbbfddcabaaWq
import Derived.WalkKit
import Derived.WalkSpells
import Derived.WalkLawsBesides
import Derived.Lib.Hide
import Derived.Deep.RegionHeld3
import Derived.Deep.QuietTactic
import Derived.BigQuiet
import Derived.Handy
import Derived.Deep.DeepCutAuto
import Derived.OwnWalk
import Derived.Lib.OwnBridge
import Derived.Maps.OwnSet
namespace Go.Proofs.Ytaelhbbfddcabaa
open Go.RowKit

theorem order_ok {ts ys : List V3} {x : V3} {f : V3 → Option Int} (hn : ts.Nodup) (hs : ys.Sublist ts) (hx : x ∉ ys) (hfx : f x = some (ts.length : Int)) (hfy : ∀ e ∈ ys, f e = tmF ts ts.length e) (hfo : ∀ e, e ∉ ys → e ≠ x → f e = none) :
    (∀ e, e ∈ ys ++ [x] ↔ (f e).isSome = true) ∧ (ys ++ [x]).Pairwise fun a c => (f a).getD 0 < (f c).getD 0 := by
  constructor
  · intro e
    rw [List.mem_append, List.mem_singleton]
    constructor
    · rintro (h | rfl)
      · rw [hfy e h]
        exact (tmF_some ts e ts.length (Nat.le_refl _)).2 (by rw [List.take_length]; exact hs.subset h)
      · rw [hfx]; rfl
    · intro h
      by_cases h1 : e ∈ ys
      · exact .inl h1
      · by_cases h2 : e = x
        · exact .inr h2
        · rw [hfo e h1 h2] at h
          cases h
  · have hts : ts.Pairwise fun a c => (tmF ts ts.length a).getD 0 < (tmF ts ts.length c).getD 0 := List.pairwise_iff_getElem.2 fun i j hi hj hij => by
      rw [tmF_at hn hi, tmF_at hn hj]
      simpa using hij
    have hys := hts.sublist hs
    refine List.pairwise_append.2 ⟨hys.imp_of_mem fun {a c} ha hc h => by rw [hfy a ha, hfy c hc]; exact h, List.pairwise_singleton _ _, fun a ha c hc => ?_⟩
    obtain rfl : c = x := by simpa using hc
    obtain ⟨i, hi, rfl⟩ := List.getElem_of_mem (hs.subset ha)
    rw [hfy _ ha, tmF_at hn hi, hfx]
    simpa using hi
/-- what a use of a tile leaves, and what the map holds then -/
def mapA (ts : List V3) (x : V3) (e : V3) : Option Int := if e = x then some (ts.length : Int) else tmF ts ts.length e
def mapD (ts : List V3) (d e : V3) : Option Int := if e = d then none else tmF ts ts.length e
def mapB (ts : List V3) (d x e : V3) : Option Int := if e = x then some (ts.length : Int) else mapD ts d e
theorem use_in {R : Int} {ts : List V3} {K : Int} {x : V3} (ho : okC R ts K = true) (hm : x ∈ ts) : useL R ts K x = ts.erase x ++ [x] ∧ useK R ts K x = K ∧ (∀ e, e ∈ ts.erase x ++ [x] ↔ (mapA ts x e).isSome = true) ∧ (ts.erase x ++ [x]).Pairwise fun a c => (mapA ts x a).getD 0 < (mapA ts x c).getD 0 := by
  have hn := (okC_iff.1 ho).2.2.2
  have hx : x ∉ ts.erase x := fun h => (hn.mem_erase_iff.1 h).1 rfl
  refine ⟨?_, by unfold useK; rw [if_neg (fun h => h.2 hm)], order_ok hn List.erase_sublist hx (by unfold mapA; rw [if_pos rfl]) (fun e he => ?_) (fun e he hne => ?_)⟩
  · unfold useL
    rw [if_pos ho, if_pos hm, ← List.append_assoc, List.erase_eq_eraseIdx_of_idxOf rfl, List.eraseIdx_eq_take_drop_succ]
  · unfold mapA
    rw [if_neg (fun h : e = x => hx (h ▸ he))]
  · unfold mapA
    rw [if_neg hne]
    exact tmF_no fun h => he (hn.mem_erase_iff.2 ⟨hne, h⟩)
theorem use_new {R : Int} {ts : List V3} {K : Int} {x : V3} (ho : okC R ts K = true) (hm : x ∉ ts) (hr : ¬ R < (ts.length : Int) + 1) : useL R ts K x = ts ++ [x] ∧ useK R ts K x = K + 1 ∧ (∀ e, e ∈ ts ++ [x] ↔ (mapA ts x e).isSome = true) ∧ (ts ++ [x]).Pairwise fun a c => (mapA ts x a).getD 0 < (mapA ts x c).getD 0 := by
  have hn := (okC_iff.1 ho).2.2.2
  refine ⟨by unfold useL; rw [if_pos ho, if_neg hm, if_neg hr], by unfold useK; rw [if_pos ⟨ho, hm⟩], order_ok hn (List.Sublist.refl _) hm (by unfold mapA; rw [if_pos rfl]) (fun e he => ?_) (fun e he hne => ?_)⟩
  · unfold mapA
    rw [if_neg (fun h => hm (by rw [← h]; exact he))]
  · unfold mapA
    rw [if_neg hne]
    exact tmF_no he
theorem use_full {R : Int} {ts : List V3} {K : Int} {x d : V3} (ho : okC R ts K = true) (hm : x ∉ ts) (hr : R < (ts.length : Int) + 1) (h0 : 0 < ts.length) (hd : d = ts[0]) : useL R ts K x = ts.drop 1 ++ [x] ∧ useK R ts K x = K + 1 ∧ (∀ e, e ∈ ts.drop 1 ++ [x] ↔ (mapB ts d x e).isSome = true) ∧ (ts.drop 1 ++ [x]).Pairwise fun a c => (mapB ts d x a).getD 0 < (mapB ts d x c).getD 0 := by
  have hn := (okC_iff.1 ho).2.2.2
  have hx : x ∉ ts.drop 1 := fun h => hm (List.mem_of_mem_drop h)
  have hdd : ts = d :: ts.drop 1 := by
    rw [hd]
    have := List.drop_eq_getElem_cons h0
    simpa using this
  have hdn : d ∉ ts.drop 1 := by
    have h1 := hn
    rw [hdd] at h1
    exact (List.nodup_cons.1 h1).1
  refine ⟨by unfold useL; rw [if_pos ho, if_neg hm, if_pos hr, List.drop_append_of_le_length h0], by unfold useK; rw [if_pos ⟨ho, hm⟩], order_ok hn (List.drop_sublist _ _) hx (by unfold mapB; rw [if_pos rfl]) (fun e he => ?_) (fun e he hne => ?_)⟩
  · unfold mapB mapD
    rw [if_neg (fun h => hx (by rw [← h]; exact he)), if_neg (fun h => hdn (by rw [← h]; exact he))]
  · unfold mapB mapD
    rw [if_neg hne]
    by_cases h1 : e = d
    · rw [if_pos h1]
    · rw [if_neg h1]
      refine tmF_no fun h => ?_
      rw [hdd] at h
      rcases List.mem_cons.1 h with h2 | h2
      · exact h1 h2
      · exact he h2

set_option maxRecDepth 100000 in
set_option maxHeartbeats 16000000 in
theorem useTile_any (R : Int) (A : Option Addr) (c : Nat) (ts : List V3) (K : Int) (x y z : Int) (w : World) (hR : RowC 3 vg w w.heap.size A ts) (hw : ∀ e ∈ ts, wf3 e) (hwx : wf3 (x, y, z)) (hl : ts.length ≤ 1048576) :
    Calls Try.prog 39 #[cav R A ts.length c K, tlv x y z] w (CaOut R (useL R ts K (x, y, z)) (useK R ts K (x, y, z)) w) := by
  have HT : Held w (((w.alloc (.cells #[.int .i64 R, .slice A ts.length c, .int .i64 K] 29)).alloc (.cells #[.int .i64 x, .int .i64 y, .int .i64 z] 50)).alloc (.cells #[.int .i64 0, .slice none 0 0, .int .i64 0] 29)) [(w.heap.size + 1 + 1, [.int .i64 0, .slice none 0 0, .int .i64 0]), (w.heap.size + 1, [.int .i64 x, .int .i64 y, .int .i64 z]), (w.heap.size, [.int .i64 R, .slice A ts.length c, .int .i64 K])] := by
    have h := (((Held.nil w).new #[.int .i64 R, .slice A ts.length c, .int .i64 K] 29).new #[.int .i64 x, .int .i64 y, .int .i64 z] 50).new #[.int .i64 0, .slice none 0 0, .int .i64 0] 29
    simpa only [World.size_alloc] using h
  obtain ⟨W1, hW1⟩ : ∃ W, W = ((w.alloc (.cells #[.int .i64 R, .slice A ts.length c, .int .i64 K] 29)).alloc (.cells #[.int .i64 x, .int .i64 y, .int .i64 z] 50)).alloc (.cells #[.int .i64 0, .slice none 0 0, .int .i64 0] 29) := ⟨_, rfl⟩
  rw [← hW1] at HT
  have hsz : W1.heap.size = w.heap.size + 3 := by rw [hW1]; simp
  have HWX := Lib.hid hwx
  have HWF := Lib.hid hw
  have HRI := Lib.hid (fun W (h : Below w.heap.size w W) => hR.later h)
  have HVA := Lib.hid (isValidC_any R A c ts K W1 (hR.later HT.below) hw (by omega))
  have HCP := Lib.hid (fun W (h : Below w.heap.size w W) => copied_any R A c ts K W (hR.later h) (by omega))
  have HTO := Lib.hid (fun W (h : Below w.heap.size w W) => timesOf_any A c ts W (hR.later h) hw (by omega))
  obtain ⟨n, hn⟩ : ∃ n, n = ts.length := ⟨_, rfl⟩
  have HN := Lib.hid hn
  have hnb : n ≤ 1048576 := by omega
  rw [← hn] at HT HVA HCP HTO hW1 ⊢
  clear hR hw hwx hl hn
  go_enter Try.func39, Try.ntmps39
  go_upto_region 1 with fail
  rw [← hW1]
  obtain ⟨k2, hk2⟩ : ∃ k, k = w.heap.size + 1 + 1 := ⟨_, rfl⟩
  obtain ⟨k1, hk1⟩ : ∃ k, k = w.heap.size + 1 := ⟨_, rfl⟩
  obtain ⟨k0, hk0⟩ : ∃ k, k = w.heap.size := ⟨_, rfl⟩
  rw [← hk2, ← hk1, ← hk0] at HT
  rw [← hk2, ← hk1, ← hk0]
  have HORD0 := Lib.hid (show w.heap.size ≤ k0 ∧ k0 < k1 ∧ k1 < k2 ∧ k2 < W1.heap.size by omega)
  have m0 := (HT.box 2).c 0
  have m1 := (HT.box 2).c 1
  have m2 := (HT.box 2).c 2
  have HTH := Lib.hid HT
  clear hW1 hk2 hk1 hk0 hsz HT
  go_wp2_with fail
  refine HVA.out.mono ?_
  rintro e w2 ⟨rfl, hb2⟩
  have HT := HTH.out.later hb2
  have hs2 := hb2.size
  clear hb2 m0 m1 m2
  have m0 := (HT.box 2).c 0
  have m1 := (HT.box 2).c 1
  have m2 := (HT.box 2).c 2
  have HORD2 := Lib.hid (show w.heap.size ≤ k0 ∧ k0 < k1 ∧ k1 < k2 ∧ k2 < w2.heap.size by have := HORD0.out; omega)
  clear hs2
  cases hv : okC R ts K with
  | false =>
    have HU : Hid (useL R ts K (x, y, z) = ts ∧ useK R ts K (x, y, z) = K) := Lib.hid ⟨by unfold useL; rw [if_neg (by rw [hv]; simp)], by unfold useK; rw [if_neg (by rw [hv]; simp)]⟩
    have HCC := Lib.hid (HCP.out w2 HT.below)
    have HTI := Lib.hid HT
    clear hv HT
    go_wp2_with fail
    refine HCC.out.mono ?_
    rintro e w3 ⟨A3, c3, rfl, ho, hb3⟩
    have HT := HTI.out.later hb3
    clear m0 m1 m2 hb3
    have r0 := (HT.box 0).c 0
    have r1 := (HT.box 0).c 1
    have r2 := (HT.box 0).c 2
    have o0 := (HT.box 0).f 0
    have o1 := (HT.box 0).f 1
    have o2 := (HT.box 0).f 2
    have HF := Lib.hid (And.intro ho HT.below)
    clear HT ho
    go_wp2_with fail
    have hq1 : w.heap.size ≤ k2 := by have := HORD2.out; omega
    have hlt1 : k2 < w2.heap.size := by have := HORD2.out; omega
    have ho5 := ownsRow_setCell_below (ownsRow_setCell_below (ownsRow_setCell_below HF.out.1 (a := ⟨k2, 0, none⟩) hlt1 (.int .i64 R)) (a := ⟨k2, 1, none⟩) hlt1 (.slice A3 ts.length c3)) (a := ⟨k2, 2, none⟩) hlt1 (.int .i64 K)
    exact bodyPost_ret (v := cav R A3 ts.length c3 K) (by simp [results, Try.results39, go_sem, r0, r1, r2]) rfl ⟨A3, c3, by rw [HU.out.1, HU.out.2], by rw [HU.out.1]; exact own_base ho5 (by have := HORD2.out; omega), ((HF.out.2.setCell (p := ⟨k2, 0, none⟩) hq1 _).setCell (p := ⟨k2, 1, none⟩) hq1 _).setCell (p := ⟨k2, 2, none⟩) hq1 _⟩
  | true =>
    have HV := Lib.hid hv
    have hva := okC_iff.1 hv
    have HTC := Lib.hid (HTO.out w2 HT.below)
    have hmn := (tmN_ok ts).2 hva.2.2.2
    have HTI := Lib.hid HT
    have hb : 1 ≤ R ∧ R ≤ 12 ∧ (n : Int) ≤ R ∧ 0 ≤ K ∧ K ≤ 1000000000 := by
      have h1 := hva.1
      have h2 := hva.2.1
      have h3 := hva.2.2.1
      rw [← HN.out] at h2 h3
      omega
    rw [← HN.out] at hmn
    rw [hmn] at HTC
    clear hv hva hmn HT
    go_wp2_with fail
    refine HTC.out.mono ?_
    rintro e w3 ⟨b, rfl, hbg, hT, hb3⟩
    have HT := HTI.out.later hb3
    have HORD := Lib.hid (show w.heap.size ≤ k0 ∧ k0 < k1 ∧ k1 < k2 ∧ k2 < b by have := HORD2.out; omega)
    clear m0 m1 m2 hb3 hbg
    have n0 := (HT.box 1).c 0
    have n1 := (HT.box 1).c 1
    have n2 := (HT.box 1).c 2
    have hlk := hT.lookOk (x, y, z) HWX.out
    have hin := tmF_some ts (x, y, z) n (by rw [HN.out]; exact Nat.le_refl _)
    rw [show ts.take n = ts by rw [HN.out, List.take_length]] at hin
    obtain ⟨u, hu⟩ : ∃ u, u = (tmF ts n (x, y, z)).getD 0 := ⟨_, rfl⟩
    obtain ⟨q, hq⟩ : ∃ q, q = (tmF ts n (x, y, z)).isSome := ⟨_, rfl⟩
    rw [← hu, ← hq] at hlk
    rw [← hq] at hin
    clear hu hq
    cases q with
    | true =>
      have hm : (x, y, z) ∈ ts := hin.1 rfl
      have hui := use_in HV.out hm
      have HU : Hid (useL R ts K (x, y, z) = ts.erase (x, y, z) ++ [(x, y, z)] ∧ useK R ts K (x, y, z) = K ∧ (ts.erase (x, y, z) ++ [(x, y, z)]).length ≤ 1048576 ∧ (∀ e ∈ ts.erase (x, y, z) ++ [(x, y, z)], wf3 e) ∧ (∀ e, e ∈ ts.erase (x, y, z) ++ [(x, y, z)] ↔ (mapA ts (x, y, z) e).isSome = true) ∧ (ts.erase (x, y, z) ++ [(x, y, z)]).Pairwise fun a c => (mapA ts (x, y, z) a).getD 0 < (mapA ts (x, y, z) c).getD 0) := Lib.hid ⟨hui.1, hui.2.1, by rw [List.length_append, List.length_erase_of_mem hm, ← HN.out]; simp; omega, fun e he => by
        rcases List.mem_append.1 he with h | h
        · exact HWF.out e (List.mem_of_mem_erase h)
        · obtain rfl : e = (x, y, z) := by simpa using h
          exact HWX.out, hui.2.2.1, hui.2.2.2⟩
      obtain ⟨zs, hzs⟩ : ∃ zs, zs = ts.erase (x, y, z) ++ [(x, y, z)] := ⟨_, rfl⟩
      rw [← hzs] at HU
      clear hzs
      clear hin hm hui
      go_upto_region 9 with fail
      clear n0 n1 n2 hlk
      obtain ⟨w4, hrun, hT4, hg4, hs4⟩ := hT.put (by unfold maxLen; omega) (x, y, z) HWX.out (n : Int) (mapA ts (x, y, z)) (by unfold mapA; rw [if_pos rfl, HN.out]) (fun e he => by unfold mapA; rw [if_neg he, HN.out])
      have HT4 := HT.grownX hg4 (fun g e => by injection e with e; have := HORD.out; omega) (fun p hp e => by
        have h1 := HORD.out
        injection e with e
        simp only [List.mem_cons, List.not_mem_nil, or_false] at hp
        rcases hp with rfl | rfl | rfl <;> dsimp only at e <;> omega)
      have HOR := Lib.hid (ordered_any b _ _ _ _ w4 (by split <;> omega) HU.out.2.2.1 HU.out.2.2.2.1 (fun e _ => HU.out.2.2.2.2.1 e) HU.out.2.2.2.2.2 hT4)
      have n0 := (HT.box 1).c 0
      have n1 := (HT.box 1).c 1
      have n2 := (HT.box 1).c 2
      have m1 := (HT.box 2).c 1
      have HTX := Lib.hid HT4
      clear hT hT4 hg4 hs4 HT HT4
      go_upto_region 10 with fail
      clear n0 n1 n2 m1 hrun
      go_wp2_with fail
      refine HOR.out.mono ?_
      rintro e w5 ⟨A5, c5, rfl, ho, hb5⟩
      have HT5 := HTX.out.later hb5
      have h0 := HORD.out
      have h4 : w4.heap.size ≥ k2 + 1 := (HTX.out.box 0).lt
      have HT6 := (HT5.pick (cs := [(k0, [.int .i64 R, .slice A n c, .int .i64 K]), (k2, [.int .i64 0, .slice none 0 0, .int .i64 0])]) (by simp)).put (show w.heap.size ≤ k0 by omega) (by simp; omega) 1 (.slice A5 zs.length c5)
      have ho6 := ownsRow_setCell_below ho (a := ⟨k0, 1, none⟩) (show k0 < w4.heap.size by omega) (.slice A5 zs.length c5)
      have m1 := (HT5.box 2).c 1
      have o1 := (HT5.box 2).f 1
      clear hb5 h0 ho HT5
      rw [List.set_cons_succ, List.set_cons_zero] at HT6
      obtain ⟨W6, hW6⟩ : ∃ W, W = w5.setCell ⟨k0, 1, none⟩ (.slice A5 zs.length c5) := ⟨_, rfl⟩
      rw [← hW6] at HT6 ho6
      go_upto_region 11 with fail
      rw [← hW6]
      clear hW6 m1 o1
      have m0 := (HT6.box 0).c 0
      have m1 := (HT6.box 0).c 1
      have m2 := (HT6.box 0).c 2
      have r0 := (HT6.box 1).c 0
      have r1 := (HT6.box 1).c 1
      have r2 := (HT6.box 1).c 2
      have o0 := (HT6.box 1).f 0
      have o1 := (HT6.box 1).f 1
      have o2 := (HT6.box 1).f 2
      have HF := Lib.hid (And.intro ho6 (And.intro HT6.below h4))
      clear HT6 ho6 h4
      go_wp2_with fail
      have hq1 : w.heap.size ≤ k2 := by have := HORD.out; omega
      have hlt1 : k2 < w4.heap.size := by have := HF.out.2.2; omega
      have ho7 := ownsRow_setCell_below (ownsRow_setCell_below (ownsRow_setCell_below HF.out.1 (a := ⟨k2, 0, none⟩) hlt1 (.int .i64 R)) (a := ⟨k2, 1, none⟩) hlt1 (.slice A5 zs.length c5)) (a := ⟨k2, 2, none⟩) hlt1 (.int .i64 K)
      exact bodyPost_ret (v := cav R A5 zs.length c5 K) (by simp [results, Try.results39, go_sem, r0, r1, r2]) rfl ⟨A5, c5, by rw [HU.out.1, HU.out.2.1], by rw [HU.out.1]; exact own_base ho7 (by have := HORD.out; have := HF.out.2.2; omega), ((HF.out.2.1.setCell (p := ⟨k2, 0, none⟩) hq1 _).setCell (p := ⟨k2, 1, none⟩) hq1 _).setCell (p := ⟨k2, 2, none⟩) hq1 _⟩
    | false =>
      have hm : (x, y, z) ∉ ts := fun h => by cases hin.2 h
      have e1 : IntKind.i64.wrap (K + 1) = K + 1 := wrap_v (by omega)
      have hlen := fun ty => hT.len ty
      by_cases hfull : (n : Int) = R
      · have h0 : 0 < ts.length := by rw [← HN.out]; omega
        have hfn : ((n : Int) == R) = true := by simpa using hfull
        obtain ⟨d, hd⟩ : ∃ d, d = ts[0] := ⟨_, rfl⟩
        have hwd : wf3 d := by rw [hd]; exact HWF.out _ (List.getElem_mem h0)
        have hui := use_full HV.out hm (by rw [← HN.out]; omega) h0 hd
        have HU : Hid (useL R ts K (x, y, z) = ts.drop 1 ++ [(x, y, z)] ∧ useK R ts K (x, y, z) = K + 1 ∧ (ts.drop 1 ++ [(x, y, z)]).length ≤ 1048576 ∧ (∀ e ∈ ts.drop 1 ++ [(x, y, z)], wf3 e) ∧ (∀ e, e ∈ ts.drop 1 ++ [(x, y, z)] ↔ (mapB ts d (x, y, z) e).isSome = true) ∧ (ts.drop 1 ++ [(x, y, z)]).Pairwise fun a c => (mapB ts d (x, y, z) a).getD 0 < (mapB ts d (x, y, z) c).getD 0) := Lib.hid ⟨hui.1, hui.2.1, by simp [← HN.out]; omega, fun e he => by
          rcases List.mem_append.1 he with h | h
          · exact HWF.out e (List.mem_of_mem_drop h)
          · obtain rfl : e = (x, y, z) := by simpa using h
            exact HWX.out, hui.2.2.1, hui.2.2.2⟩
        obtain ⟨zs, hzs⟩ : ∃ zs, zs = ts.drop 1 ++ [(x, y, z)] := ⟨_, rfl⟩
        rw [← hzs] at HU
        clear hzs
        obtain ⟨bA, oA, hA, hbl, hc⟩ := (HRI.out w3 HT.below).at h0
        obtain ⟨c0, c1, c2⟩ := vg_at hc
        rw [← hd] at c0 c1 c2
        simp only [Nat.zero_mul, Nat.add_zero] at c0 c1 c2
        have HDX : Hid (ts[0]? = some d) := Lib.hid (by rw [hd]; exact List.getElem?_eq_getElem h0)
        obtain ⟨d0, d1, d2⟩ := d
        dsimp only at c0 c1 c2
        obtain ⟨w4, hdel, hT4, hg4, hs4⟩ := hT.del (d0, d1, d2) hwd (mapD ts (d0, d1, d2)) (by unfold mapD; rw [if_pos rfl]) (fun e he => by unfold mapD; rw [if_neg he, HN.out]) 0
        have HT4 := HT.grownX hg4 (fun g e => by injection e with e; have := HORD.out; omega) (fun p hp e => by
          have h1 := HORD.out
          injection e with e
          simp only [List.mem_cons, List.not_mem_nil, or_false] at hp
          rcases hp with rfl | rfl | rfl <;> dsimp only at e <;> omega)
        have m0 := (HT.box 2).c 0
        have m1 := (HT.box 2).c 1
        have hn0 : (0 : Int) < (n : Int) := by omega
        subst hA
        have HTX := Lib.hid HT4
        have HTM := Lib.hid hT4
        clear hin hm hui hc hd h0 hbl hT hT4 hg4 hs4 HT HT4 hwd hfull
        go_upto_region 8 with fail
        clear n0 n1 n2 hlk hlen m0 m1 c0 c1 c2 hdel hfn hn0
        have HT := HTX.out
        have m2 := (HT.box 2).c 2
        have g2 := (HT.box 2).f 2
        have h0 := HORD.out
        have HT9 := (HT.pick (cs := [(k0, [.int .i64 R, .slice (some ⟨bA, oA, none⟩) n c, .int .i64 K]), (k2, [.int .i64 0, .slice none 0 0, .int .i64 0]), (k1, [.int .i64 x, .int .i64 y, .int .i64 z])]) (by simp)).put (show w.heap.size ≤ k0 by omega) (by simp; omega) 2 (.int .i64 (K + 1))
        have HT9 : Held w (w4.setCell ⟨k0, 2, none⟩ (.int .i64 (K + 1))) [(k2, [.int .i64 0, .slice none 0 0, .int .i64 0]), (k1, [.int .i64 x, .int .i64 y, .int .i64 z]), (k0, [.int .i64 R, .slice (some ⟨bA, oA, none⟩) n c, .int .i64 (K + 1)])] := HT9.pick (by simp)
        have hT9 : TmAt (w4.setCell ⟨k0, 2, none⟩ (.int .i64 (K + 1))) b n (mapD ts (d0, d1, d2)) _ := HTM.out.kept (row := some k0) (gb_set (gb_refl _ _) _) (fun e => by injection e with e; omega)
        obtain ⟨W9, hW9⟩ : ∃ W, W = w4.setCell ⟨k0, 2, none⟩ (.int .i64 (K + 1)) := ⟨_, rfl⟩
        rw [← hW9] at HT9 hT9
        clear h0 HT
        go_upto_region 9 with fail
        rw [← hW9]
        clear hW9 m2 g2
        have HT := HT9
        have hT := hT9
        clear HT9 hT9
        obtain ⟨w4, hrun, hT4, hg4, hs4⟩ := hT.put (by unfold maxLen; omega) (x, y, z) HWX.out (n : Int) (mapB ts (d0, d1, d2) (x, y, z)) (by unfold mapB; rw [if_pos rfl, HN.out]) (fun e he => by unfold mapB; rw [if_neg he])
        have HT4 := HT.grownX hg4 (fun g e => by injection e with e; have := HORD.out; omega) (fun p hp e => by
          have h1 := HORD.out
          injection e with e
          simp only [List.mem_cons, List.not_mem_nil, or_false] at hp
          rcases hp with rfl | rfl | rfl <;> dsimp only at e <;> omega)
        have HOR := Lib.hid (ordered_any b _ _ _ _ w4 (by split <;> omega) HU.out.2.2.1 HU.out.2.2.2.1 (fun e _ => HU.out.2.2.2.2.1 e) HU.out.2.2.2.2.2 hT4)
        have n0 := (HT.box 1).c 0
        have n1 := (HT.box 1).c 1
        have n2 := (HT.box 1).c 2
        have m1 := (HT.box 2).c 1
        have HTX := Lib.hid HT4
        clear hT hT4 hg4 hs4 HT HT4
        go_upto_region 10 with fail
        clear n0 n1 n2 m1 hrun
        go_wp2_with fail
        refine HOR.out.mono ?_
        rintro e w5 ⟨A5, c5, rfl, ho, hb5⟩
        have HT5 := HTX.out.later hb5
        have h0 := HORD.out
        have h4 : w4.heap.size ≥ k2 + 1 := (HTX.out.box 0).lt
        have HT6 := (HT5.pick (cs := [(k0, [.int .i64 R, .slice (some ⟨bA, oA, none⟩) n c, .int .i64 (K + 1)]), (k2, [.int .i64 0, .slice none 0 0, .int .i64 0])]) (by simp)).put (show w.heap.size ≤ k0 by omega) (by simp; omega) 1 (.slice A5 zs.length c5)
        have ho6 := ownsRow_setCell_below ho (a := ⟨k0, 1, none⟩) (show k0 < w4.heap.size by omega) (.slice A5 zs.length c5)
        have m1 := (HT5.box 2).c 1
        have o1 := (HT5.box 2).f 1
        clear hb5 h0 ho HT5
        rw [List.set_cons_succ, List.set_cons_zero] at HT6
        obtain ⟨W6, hW6⟩ : ∃ W, W = w5.setCell ⟨k0, 1, none⟩ (.slice A5 zs.length c5) := ⟨_, rfl⟩
        rw [← hW6] at HT6 ho6
        go_upto_region 11 with fail
        rw [← hW6]
        clear hW6 m1 o1
        have m0 := (HT6.box 0).c 0
        have m1 := (HT6.box 0).c 1
        have m2 := (HT6.box 0).c 2
        have r0 := (HT6.box 1).c 0
        have r1 := (HT6.box 1).c 1
        have r2 := (HT6.box 1).c 2
        have o0 := (HT6.box 1).f 0
        have o1 := (HT6.box 1).f 1
        have o2 := (HT6.box 1).f 2
        have HF := Lib.hid (And.intro ho6 (And.intro HT6.below h4))
        clear HT6 ho6 h4
        go_wp2_with fail
        have hq1 : w.heap.size ≤ k2 := by have := HORD.out; omega
        have hlt1 : k2 < w4.heap.size := by have := HF.out.2.2; omega
        have ho7 := ownsRow_setCell_below (ownsRow_setCell_below (ownsRow_setCell_below HF.out.1 (a := ⟨k2, 0, none⟩) hlt1 (.int .i64 R)) (a := ⟨k2, 1, none⟩) hlt1 (.slice A5 zs.length c5)) (a := ⟨k2, 2, none⟩) hlt1 (.int .i64 (K + 1))
        exact bodyPost_ret (v := cav R A5 zs.length c5 (K + 1)) (by simp [results, Try.results39, go_sem, r0, r1, r2]) rfl ⟨A5, c5, by rw [HU.out.1, HU.out.2.1], by rw [HU.out.1]; exact own_base ho7 (by have := HORD.out; have := HF.out.2.2; omega), ((HF.out.2.1.setCell (p := ⟨k2, 0, none⟩) hq1 _).setCell (p := ⟨k2, 1, none⟩) hq1 _).setCell (p := ⟨k2, 2, none⟩) hq1 _⟩
      · have hfn : ((n : Int) == R) = false := by simpa using hfull
        have hui := use_new HV.out hm (by rw [← HN.out]; omega)
        have HU : Hid (useL R ts K (x, y, z) = ts ++ [(x, y, z)] ∧ useK R ts K (x, y, z) = K + 1 ∧ (ts ++ [(x, y, z)]).length ≤ 1048576 ∧ (∀ e ∈ ts ++ [(x, y, z)], wf3 e) ∧ (∀ e, e ∈ ts ++ [(x, y, z)] ↔ (mapA ts (x, y, z) e).isSome = true) ∧ (ts ++ [(x, y, z)]).Pairwise fun a c => (mapA ts (x, y, z) a).getD 0 < (mapA ts (x, y, z) c).getD 0) := Lib.hid ⟨hui.1, hui.2.1, by simp [← HN.out]; omega, fun e he => by
          rcases List.mem_append.1 he with h | h
          · exact HWF.out e h
          · obtain rfl : e = (x, y, z) := by simpa using h
            exact HWX.out, hui.2.2.1, hui.2.2.2⟩
        obtain ⟨zs, hzs⟩ : ∃ zs, zs = ts ++ [(x, y, z)] := ⟨_, rfl⟩
        rw [← hzs] at HU
        clear hzs
        have m0 := (HT.box 2).c 0
        have m2 := (HT.box 2).c 2
        have g2 := (HT.box 2).f 2
        have h0 := HORD.out
        have HT9 := (HT.pick (cs := [(k0, [.int .i64 R, .slice A n c, .int .i64 K]), (k2, [.int .i64 0, .slice none 0 0, .int .i64 0]), (k1, [.int .i64 x, .int .i64 y, .int .i64 z])]) (by simp)).put (show w.heap.size ≤ k0 by omega) (by simp; omega) 2 (.int .i64 (K + 1))
        have HT9 : Held w (w3.setCell ⟨k0, 2, none⟩ (.int .i64 (K + 1))) [(k2, [.int .i64 0, .slice none 0 0, .int .i64 0]), (k1, [.int .i64 x, .int .i64 y, .int .i64 z]), (k0, [.int .i64 R, .slice A n c, .int .i64 (K + 1)])] := HT9.pick (by simp)
        have hT9 : TmAt (w3.setCell ⟨k0, 2, none⟩ (.int .i64 (K + 1))) b n (tmF ts n) _ := hT.kept (row := some k0) (gb_set (gb_refl _ _) _) (fun e => by injection e with e; omega)
        obtain ⟨W9, hW9⟩ : ∃ W, W = w3.setCell ⟨k0, 2, none⟩ (.int .i64 (K + 1)) := ⟨_, rfl⟩
        rw [← hW9] at HT9 hT9
        clear hin hm hui h0 HT hT hfull
        go_upto_region 9 with fail
        rw [← hW9]
        clear hW9 n0 n1 n2 hlk hlen m0 m2 g2 hfn
        have HT := HT9
        have hT := hT9
        clear HT9 hT9
        obtain ⟨w4, hrun, hT4, hg4, hs4⟩ := hT.put (by unfold maxLen; omega) (x, y, z) HWX.out (n : Int) (mapA ts (x, y, z)) (by unfold mapA; rw [if_pos rfl, HN.out]) (fun e he => by unfold mapA; rw [if_neg he, HN.out])
        have HT4 := HT.grownX hg4 (fun g e => by injection e with e; have := HORD.out; omega) (fun p hp e => by
          have h1 := HORD.out
          injection e with e
          simp only [List.mem_cons, List.not_mem_nil, or_false] at hp
          rcases hp with rfl | rfl | rfl <;> dsimp only at e <;> omega)
        have HOR := Lib.hid (ordered_any b _ _ _ _ w4 (by split <;> omega) HU.out.2.2.1 HU.out.2.2.2.1 (fun e _ => HU.out.2.2.2.2.1 e) HU.out.2.2.2.2.2 hT4)
        have n0 := (HT.box 1).c 0
        have n1 := (HT.box 1).c 1
        have n2 := (HT.box 1).c 2
        have m1 := (HT.box 2).c 1
        have HTX := Lib.hid HT4
        clear hT hT4 hg4 hs4 HT HT4
        go_upto_region 10 with fail
        clear n0 n1 n2 m1 hrun
        go_wp2_with fail
        refine HOR.out.mono ?_
        rintro e w5 ⟨A5, c5, rfl, ho, hb5⟩
        have HT5 := HTX.out.later hb5
        have h0 := HORD.out
        have h4 : w4.heap.size ≥ k2 + 1 := (HTX.out.box 0).lt
        have HT6 := (HT5.pick (cs := [(k0, [.int .i64 R, .slice A n c, .int .i64 (K + 1)]), (k2, [.int .i64 0, .slice none 0 0, .int .i64 0])]) (by simp)).put (show w.heap.size ≤ k0 by omega) (by simp; omega) 1 (.slice A5 zs.length c5)
        have ho6 := ownsRow_setCell_below ho (a := ⟨k0, 1, none⟩) (show k0 < w4.heap.size by omega) (.slice A5 zs.length c5)
        have m1 := (HT5.box 2).c 1
        have o1 := (HT5.box 2).f 1
        clear hb5 h0 ho HT5
        rw [List.set_cons_succ, List.set_cons_zero] at HT6
        obtain ⟨W6, hW6⟩ : ∃ W, W = w5.setCell ⟨k0, 1, none⟩ (.slice A5 zs.length c5) := ⟨_, rfl⟩
        rw [← hW6] at HT6 ho6
        go_upto_region 11 with fail
        rw [← hW6]
        clear hW6 m1 o1
        have m0 := (HT6.box 0).c 0
        have m1 := (HT6.box 0).c 1
        have m2 := (HT6.box 0).c 2
        have r0 := (HT6.box 1).c 0
        have r1 := (HT6.box 1).c 1
        have r2 := (HT6.box 1).c 2
        have o0 := (HT6.box 1).f 0
        have o1 := (HT6.box 1).f 1
        have o2 := (HT6.box 1).f 2
        have HF := Lib.hid (And.intro ho6 (And.intro HT6.below h4))
        clear HT6 ho6 h4
        go_wp2_with fail
        have hq1 : w.heap.size ≤ k2 := by have := HORD.out; omega
        have hlt1 : k2 < w4.heap.size := by have := HF.out.2.2; omega
        have ho7 := ownsRow_setCell_below (ownsRow_setCell_below (ownsRow_setCell_below HF.out.1 (a := ⟨k2, 0, none⟩) hlt1 (.int .i64 R)) (a := ⟨k2, 1, none⟩) hlt1 (.slice A5 zs.length c5)) (a := ⟨k2, 2, none⟩) hlt1 (.int .i64 (K + 1))
        exact bodyPost_ret (v := cav R A5 zs.length c5 (K + 1)) (by simp [results, Try.results39, go_sem, r0, r1, r2]) rfl ⟨A5, c5, by rw [HU.out.1, HU.out.2.1], by rw [HU.out.1]; exact own_base ho7 (by have := HORD.out; have := HF.out.2.2; omega), ((HF.out.2.1.setCell (p := ⟨k2, 0, none⟩) hq1 _).setCell (p := ⟨k2, 1, none⟩) hq1 _).setCell (p := ⟨k2, 2, none⟩) hq1 _⟩
end Go.Proofs.Ytaelhbbfddcabaa
