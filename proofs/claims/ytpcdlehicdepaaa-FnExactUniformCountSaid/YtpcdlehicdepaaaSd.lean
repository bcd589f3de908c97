/- The checker of the model: owners. -/
import Derived.Test.YtpcdlehicdepaaaProg
import Derived.Test.YtpcdlehicdepaaaInts
import Derived.Test.YtpcdlehicdepaaaVbox
import Derived.Test.YtpcdlehicdepaaaHeld
import Derived.Test.YtpcdlehicdepaaaMem
import Derived.Test.YtpcdlehicdepaaaFlat
import Derived.Test.YtpcdlehicdepaaaRowC
import Derived.Test.YtpcdlehicdepaaaKS
import Derived.Test.YtpcdlehicdepaaaStrS
import Derived.Test.YtpcdlehicdepaaaIntS
import Derived.Test.YtpcdlehicdepaaaSS
import Derived.Test.YtpcdlehicdepaaaPg
import Derived.Test.YtpcdlehicdepaaaPh
import Derived.Test.YtpcdlehicdepaaaPi
import Derived.Test.YtpcdlehicdepaaaIdent
import Derived.Test.YtpcdlehicdepaaaPn
import Derived.Test.YtpcdlehicdepaaaQa
import Derived.Test.YtpcdlehicdepaaaQb
import Derived.Test.YtpcdlehicdepaaaQd
import Derived.Test.YtpcdlehicdepaaaQe
import Derived.Test.YtpcdlehicdepaaaSa
import Derived.Test.YtpcdlehicdepaaaSb
import Derived.Test.YtpcdlehicdepaaaSc
import Derived.WalkKit
import Derived.WalkSpells
import Derived.WalkLawsBesides
import Derived.Lib.Hide
import Derived.Deep.RegionHeld3
import Derived.Deep.QuietTactic
import Derived.BigQuiet
import Derived.Handy
import Derived.Deep.DeepCutAuto
import Derived.OwnWalk
namespace Go.Proofs.Ytpcdlehicdepaaa
open Go.RowKit

theorem okPr_len {xs : List Nd} {ys : List As} (h : okPr xs ys) : ys.length + (argsL xs).length = xs.length := by
  have := h.2.2.2.length_eq
  rw [upZ_len] at this
  unfold refsP at this
  rw [List.length_append, rtsZ_len] at this
  exact this
theorem args_at_len {xs : List Nd} {k : Nat} (h : k < xs.length) : (xs[k]).2.2.2.length ≤ (argsL xs).length := by
  have h1 := args_takeM xs (k + 1)
  rw [args_step xs k h, List.length_append] at h1
  omega
/-- the owners of all nodes, in a row of the call's own -/
def OwnOut (xs : List Nd) (ys : List As) (w : World) (e : Ending) (w' : World) : Prop :=
  ∃ (A : Option Addr), e = .returned (.slice A xs.length xs.length) ∧ Row I64 w' w'.heap.size A ((List.range xs.length).map (ownV xs ys)) ∧ Below w.heap.size w w'
section
variable {xs : List Nd} {ys : List As} {l : List Int} {i m : Nat}
def GoodO (xs : List Nd) (ys : List As) (l : List Int) (i : Nat) : Prop := l[i]? = some (ownV xs ys i)
theorem goodO_set (h : GoodO xs ys l i) : GoodO xs ys (l.set m (ownV xs ys m)) i := by
  unfold GoodO at h ⊢
  rw [List.getElem?_set]
  by_cases e : m = i
  · subst e
    have hm : m < l.length := by
      by_cases hm : m < l.length
      · exact hm
      · rw [List.getElem?_eq_none (by omega)] at h
        cases h
    rw [if_pos rfl, if_pos hm]
  · rw [if_neg e]
    exact h
theorem goodO_new (h : m < l.length) : GoodO xs ys (l.set m (ownV xs ys m)) m := by
  unfold GoodO
  rw [List.getElem?_set, if_pos rfl, if_pos h]
theorem goodO_all (hl : l.length = xs.length) (h : ∀ i, i < xs.length → GoodO xs ys l i) : l = (List.range xs.length).map (ownV xs ys) := by
  refine List.ext_getElem (by simp [hl]) fun k h1 h2 => ?_
  have hk := h k (by omega)
  unfold GoodO at hk
  rw [List.getElem?_eq_getElem h1] at hk
  simpa using hk
end

set_option maxRecDepth 100000 in
set_option maxHeartbeats 8000000 in
theorem sOwners_any (A A' : Option Addr) (c c' : Nat) (xs : List Nd) (ys : List As) (w : World) (hR : ProgIn w w.heap.size A A' xs ys) (hok : okPr xs ys) :
    Calls Try.prog 31 #[pgv A A' xs.length c ys.length c'] w (OwnOut xs ys w) := by
  obtain ⟨i0, hi, hz0, hz1, hz2⟩ := info_parts infoInt
  have hlen := okPr_len hok
  have h60 : xs.length ≤ 60 := hok.1
  have hy60 : ys.length ≤ 60 := by omega
  have HOK := Lib.hid hok
  have HLEN := Lib.hid hlen
  clear hok hlen
  obtain ⟨W1, hW1⟩ : ∃ W, W = w.alloc (.cells #[.slice A xs.length c, .slice A' ys.length c'] 35) := ⟨_, rfl⟩
  have M := Mbox.new w #[.slice A xs.length c, .slice A' ys.length c'] 35
  have hB : Below w.heap.size w (w.alloc (.cells #[.slice A xs.length c, .slice A' ys.length c'] 35)) := by go_grown
  have hR1 := (hR.alloc (Nat.le_refl _) (.cells #[.slice A xs.length c, .slice A' ys.length c'] 35)).more (B' := (w.alloc (.cells #[.slice A xs.length c, .slice A' ys.length c'] 35)).heap.size) (by simp)
  rw [← hW1] at M hB hR1
  have HM := Lib.hid M
  have HB := Lib.hid hB
  have HR := Lib.hid hR1
  clear M hB hR hR1
  go_enter Try.func31, Try.ntmps31
  go_upto_region 1 with fail
  rw [← hW1]
  clear hW1
  have m0 := HM.out.c 0
  have m1 := HM.out.c 1
  go_wp2_with (at_make; refine wpList_make_full _ rfl _ _ 49 rfl W1.heap.size 3 i0 (.int .i64 0) 1 Try.underlying49 hi hz0 hz1 .i64 .i64 _ _ xs.length rfl rfl rfl rfl (by rw [hz2]; omega) (by unfold maxLen; omega) (by omega) ?_)
  intro w2 hown hgrow
  have hb0 : Below W1.heap.size W1 w2 := (Below.refl _ _).grown hgrow (Nat.le_refl _) (fun k h => by cases h)
  have hown : w2.ownsRow W1.heap.size 3 1 (.slice (some ⟨W1.heap.size, 0, none⟩) xs.length xs.length) xs.length ((List.replicate xs.length (0 : Int)).map I64) := by
    rw [List.map_replicate, ← made_one]; exact hown
  have m0 := (HM.out.later hb0).c 0
  have m1 := (HM.out.later hb0).c 1
  have HO0 := Lib.hid hown
  have HB0 := Lib.hid hb0
  clear hown hb0 hgrow
  go_wp2_with fail
  go_loopw [16] (fun i wr => ∃ (k : Nat) (l : List Int), k ≤ ys.length ∧ i = .int .i64 k ∧ wr.ownsRow W1.heap.size 3 1 (.slice (some ⟨W1.heap.size, 0, none⟩) xs.length xs.length) xs.length (l.map I64) ∧ l.length = xs.length ∧ Below W1.heap.size W1 wr ∧ ∀ j (h : j < ys.length), j < k → GoodO xs ys l (ys[j]).2.toNat) (fun i _ => ys.length - (intOf i).toNat)
  case atStart => exact ⟨0, List.replicate xs.length 0, Nat.zero_le _, rfl, HO0.out, by simp, HB0.out, fun j _ h => by omega⟩
  case round =>
    clear m0 m1 HO0 HB0
    obtain ⟨k, l, hk, rfl, hown, hll, hb, hgd⟩ := hrel
    by_cases hlt : k < ys.length
    · obtain ⟨b, o, rfl, hbl, hc⟩ := HR.out.2.at hlt
      obtain ⟨c0, c1⟩ := asg_at hc
      have c0 := (hb.cell (p := ⟨b, o + k * 2, none⟩) hbl).trans c0
      have c1 := (hb.cell (p := ⟨b, o + k * 2 + 1, none⟩) hbl).trans c1
      have hin := okPr_root HOK.out hlt
      have hrt := ownV_root HOK.out hlt
      obtain ⟨m, hm⟩ : ∃ m : Nat, (ys[k]).2 = (m : Int) := ⟨((ys[k]).2).toNat, by omega⟩
      have HGD : Hid (∀ (j : Nat) (h : j < ys.length), j < k + 1 → GoodO xs ys (l.set m (k : Int)) (ys[j]).2.toNat) := Lib.hid (fun j h hj => by
        have e2 : ((m : Int)).toNat = m := by omega
        have e3 : (k : Int) = ownV xs ys m := by rw [← hrt, hm, e2]
        rw [e3]
        by_cases e : j = k
        · subst e
          rw [hm, e2]
          exact goodO_new (by omega)
        · exact goodO_set (hgd j h (by omega)))
      rw [hm] at c1 hin
      obtain ⟨v0, hv0⟩ : ∃ v0, v0 = (ys[k]).1 := ⟨_, rfl⟩
      rw [← hv0] at c0
      have hmlt : (m : Int) < (xs.length : Int) := by omega
      have hmge : (0 : Int) ≤ (m : Int) := by omega
      have hlt2' : (k : Int) < (ys.length : Int) := by omega
      have hge2' : (0 : Int) ≤ (k : Int) := by omega
      have hown := hown.alloc (.cells #[.string v0, .int .i64 m] 58)
      have hb := hb.alloc hb.size (.cells #[.string v0, .int .i64 m] 58)
      clear hm hv0 hc hin hrt hgd
      go_upto_region 5 with fail
      obtain ⟨W2, hW2⟩ : ∃ W, W = wr.alloc (.cells #[.string v0, .int .i64 m] 58) := ⟨_, rfl⟩
      have M2 := Mbox.new wr #[.string v0, .int .i64 m] 58
      rw [← hW2] at M2 hown hb ⊢
      have n1 := M2.c 1
      clear hW2 M2 c0 c1
      have hlh : m < l.length := by omega
      have hd := hown.cellAt m (by omega)
      have hf := hown.frozenAt m
      rw [List.getElem?_map, List.getElem?_eq_getElem hlh, Option.map_some] at hd
      obtain ⟨zo, hzo⟩ : ∃ z, z = l[m] := ⟨_, rfl⟩
      rw [← hzo] at hd
      clear hzo
      have hs := (hown.stored m (I64 (k : Int))).1
      rw [← List.map_set] at hs
      have hs' := hb.setCell (p := ⟨W1.heap.size, m, none⟩) (Nat.le_refl _) (I64 (k : Int))
      have hll2 : (l.set m (k : Int)).length = xs.length := by rw [List.length_set]; exact hll
      have HS := Lib.hid hs
      have HS' := Lib.hid hs'
      have HL2 := Lib.hid hll2
      clear hs hs' hown hb hlh hll hll2
      go_wp2_with fail
      go_roundw
      case rel => exact ⟨k + 1, _, by omega, by go_num, HS.out, HL2.out, HS'.out, HGD.out⟩
      case measure => simp [intOf]; omega
    · obtain rfl : k = ys.length := by omega
      have HO1 := Lib.hid hown
      have HB1 := Lib.hid hb
      have HG1 := Lib.hid hgd
      have HL1 := Lib.hid hll
      have m0 := (HM.out.later hb).c 0
      have hge' : ¬ ((ys.length : Nat) : Int) < ((ys.length : Nat) : Int) := by omega
      clear hown hb hgd hll hk hlt
      go_wp2_with fail
      go_loopw [6] (fun i wr => ∃ (q : Int) (l : List Int), i = .int .i64 q ∧ -1 ≤ q ∧ q < (xs.length : Int) ∧ wr.ownsRow W1.heap.size 3 1 (.slice (some ⟨W1.heap.size, 0, none⟩) xs.length xs.length) xs.length (l.map I64) ∧ l.length = xs.length ∧ Below W1.heap.size W1 wr ∧ (∀ j (h : j < ys.length), GoodO xs ys l (ys[j]).2.toNat) ∧ ∀ j (h : j < xs.length), q < (j : Int) → ∀ a ∈ (xs[j]).2.2.2, GoodO xs ys l a.toNat) (fun i _ => (intOf i + 1).toNat)
      case atStart => exact ⟨_, l, rfl, by omega, by omega, HO1.out, HL1.out, HB1.out, fun j h => HG1.out j h h, fun j h hj => by omega⟩
      case round =>
        clear m0 HO1 HB1 HG1 HL1 hge'
        obtain ⟨q, l, rfl, hq1, hq2, hown, hll, hb, hgr, hga⟩ := hrel
        by_cases hq0 : 0 ≤ q
        · obtain ⟨j, rfl⟩ : ∃ j : Nat, q = (j : Int) := ⟨q.toNat, by omega⟩
          have hj : j < xs.length := by omega
          have hgj : GoodO xs ys l j := by
            rcases node_ref HOK.out hj with ⟨k, hk, e⟩ | ⟨k, hk, hjk, ha⟩
            · have := hgr k hk
              rw [e] at this
              simpa using this
            · have := hga k hk (by omega) _ ha
              simpa using this
          obtain ⟨b, o, rfl, hbl, a, ca, c0, c1, c2, c3, hca1, hca2, hrow⟩ := HR.out.1.at hj
          have c3 := (hb.cell (p := ⟨b, o + j * 4 + 3, none⟩) hbl).trans c3
          have hrow := hrow.below hb
          have hal := args_at_len hj
          have HAI := Lib.hid (fun a (ha : a ∈ (xs[j]).2.2.2) => And.intro (arg_in HOK.out hj ha) (ownV_arg HOK.out hj ha))
          obtain ⟨v3, hv3⟩ : ∃ v, v = (xs[j]).2.2.2 := ⟨_, rfl⟩
          rw [← hv3] at c3 hrow hca1 hal HAI
          have HV3 := Lib.hid hv3
          have hv60 : v3.length ≤ 60 := by have := HLEN.out; omega
          have HO1 := Lib.hid hown
          have HL1 := Lib.hid hll
          have HB1 := Lib.hid hb
          have HGR := Lib.hid hgr
          have HGA := Lib.hid hga
          have HGJ := Lib.hid hgj
          have HRW := Lib.hid hrow
          have m0 := (HM.out.later hb).c 0
          have hjlt : (j : Int) < (xs.length : Int) := by omega
          have hjge : (0 : Int) ≤ (j : Int) := by omega
          clear hown hll hb hgr hga hgj hrow c0 c1 c2 hv3 hal hca1 hca2
          go_wp2_with fail
          go_loopw [42] (fun i wr => ∃ (p : Nat) (l : List Int), p ≤ v3.length ∧ i = .int .i64 p ∧ wr.ownsRow W1.heap.size 3 1 (.slice (some ⟨W1.heap.size, 0, none⟩) xs.length xs.length) xs.length (l.map I64) ∧ l.length = xs.length ∧ Below W1.heap.size W1 wr ∧ (∀ k (h : k < ys.length), GoodO xs ys l (ys[k]).2.toNat) ∧ (∀ k (h : k < xs.length), (j : Int) < (k : Int) → ∀ a ∈ (xs[k]).2.2.2, GoodO xs ys l a.toNat) ∧ GoodO xs ys l j ∧ Row I64 wr W1.heap.size a v3 ∧ ∀ x (h : x < v3.length), x < p → GoodO xs ys l (v3[x]).toNat) (fun i _ => v3.length - (intOf i).toNat)
          case atStart => exact ⟨0, l, Nat.zero_le _, rfl, HO1.out, HL1.out, HB1.out, HGR.out, HGA.out, HGJ.out, HRW.out, fun x _ h => by omega⟩
          case round =>
            clear m0 c3 HO1 HL1 HB1 HGR HGA HGJ HRW
            obtain ⟨p, l, hp, rfl, hown, hll, hb, hgr, hga, hgj, hr, hgx⟩ := hrel
            by_cases hlt2 : p < v3.length
            · obtain ⟨b3, o3, rfl, hbl3, hc⟩ := hr.at hlt2
              obtain ⟨⟨hin0, hin1⟩, hov⟩ := HAI.out _ (List.getElem_mem hlt2)
              obtain ⟨m, hm⟩ : ∃ m : Nat, v3[p] = (m : Int) := ⟨(v3[p]).toNat, by omega⟩
              have e2 : ((m : Int)).toNat = m := by omega
              rw [hm, e2] at hin1 hov
              rw [hm] at hc
              have hmx : m < xs.length := by omega
              have hlm : m < l.length := by omega
              have hlj : j < l.length := by omega
              have hvj : l[j] = ownV xs ys m := by
                have := hgj
                unfold GoodO at this
                rw [List.getElem?_eq_getElem hlj] at this
                rw [hov]
                exact Option.some.inj this
              obtain ⟨z, hz⟩ : ∃ z, z = ownV xs ys m := ⟨_, rfl⟩
              rw [← hz] at hvj
              have HG2 : Hid ((∀ k (h : k < ys.length), GoodO xs ys (l.set m z) (ys[k]).2.toNat) ∧ (∀ k (h : k < xs.length), (j : Int) < (k : Int) → ∀ a ∈ (xs[k]).2.2.2, GoodO xs ys (l.set m z) a.toNat) ∧ GoodO xs ys (l.set m z) j ∧ ∀ x (h : x < v3.length), x < p + 1 → GoodO xs ys (l.set m z) (v3[x]).toNat) := Lib.hid (by
                rw [hz]
                refine ⟨fun k h => goodO_set (hgr k h), fun k h hk a ha => goodO_set (hga k h hk a ha), goodO_set hgj, fun x h hx => ?_⟩
                by_cases e : x = p
                · subst e
                  rw [hm, e2]
                  exact goodO_new hlm
                · exact goodO_set (hgx x h (by omega)))
              have hd := hown.cellAt m (by omega)
              have hf := hown.frozenAt m
              have hdj := hown.cellAt j (by omega)
              rw [List.getElem?_map, List.getElem?_eq_getElem hlm, Option.map_some] at hd
              obtain ⟨zo, hzo⟩ : ∃ z, z = l[m] := ⟨_, rfl⟩
              rw [← hzo] at hd
              clear hzo
              rw [List.getElem?_map, List.getElem?_eq_getElem hlj, Option.map_some, hvj] at hdj
              have hs := (hown.stored m (I64 z)).1
              rw [← List.map_set] at hs
              have hs' := hb.setCell (p := ⟨W1.heap.size, m, none⟩) (Nat.le_refl _) (I64 z)
              have hr' : Row I64 (wr.setCell ⟨W1.heap.size, m, none⟩ (I64 z)) W1.heap.size (some ⟨b3, o3, none⟩) v3 := hr.below ((Below.refl _ _).setCell (p := ⟨W1.heap.size, m, none⟩) (Nat.le_refl _) _)
              have hll2 : (l.set m z).length = xs.length := by rw [List.length_set]; exact hll
              have hmlt : (m : Int) < (xs.length : Int) := by omega
              have hmge : (0 : Int) ≤ (m : Int) := by omega
              have hlt2' : (p : Int) < (v3.length : Int) := by omega
              have hge2' : (0 : Int) ≤ (p : Int) := by omega
              have HS := Lib.hid hs
              have HS' := Lib.hid hs'
              have HR' := Lib.hid hr'
              have HL2 := Lib.hid hll2
              clear hs hs' hr' hll2 hown hb hr hll hgr hga hgj hgx hm hin0 hin1 hov hz hvj e2
              go_wp2_with fail
              go_roundw
              case rel => exact ⟨p + 1, _, by omega, by go_num, HS.out, HL2.out, HS'.out, HG2.out.1, HG2.out.2.1, HG2.out.2.2.1, HR'.out, HG2.out.2.2.2⟩
              case measure => simp [intOf]; omega
            · obtain rfl : p = v3.length := by omega
              have HQ : Hid (wr.ownsRow W1.heap.size 3 1 (.slice (some ⟨W1.heap.size, 0, none⟩) xs.length xs.length) xs.length (l.map I64) ∧ l.length = xs.length ∧ Below W1.heap.size W1 wr ∧ (∀ k (h : k < ys.length), GoodO xs ys l (ys[k]).2.toNat) ∧ ∀ k (h : k < xs.length), (j : Int) - 1 < (k : Int) → ∀ a ∈ (xs[k]).2.2.2, GoodO xs ys l a.toNat) := Lib.hid ⟨hown, hll, hb, hgr, fun k h hk a ha => by
                by_cases e : k = j
                · subst e
                  rw [← HV3.out] at ha
                  obtain ⟨x, hx, rfl⟩ := List.getElem_of_mem ha
                  exact hgx x hx hx
                · exact hga k h (by omega) a ha⟩
              have hge2 : ¬ ((v3.length : Nat) : Int) < ((v3.length : Nat) : Int) := by omega
              clear hown hll hb hgr hga hgj hr hgx
              go_wp2_with fail
              go_roundw
              case rel => exact ⟨(j : Int) - 1, l, rfl, by omega, by omega, HQ.out.1, HQ.out.2.1, HQ.out.2.2.1, HQ.out.2.2.2.1, HQ.out.2.2.2.2⟩
              case measure => simp [intOf]
        · obtain rfl : q = -1 := by omega
          have hgall : ∀ i, i < xs.length → GoodO xs ys l i := fun i hi => by
            rcases node_ref HOK.out hi with ⟨k, hk, e⟩ | ⟨k, hk, hjk, ha⟩
            · have := hgr k hk
              rw [e] at this
              simpa using this
            · have := hga k hk (by omega) _ ha
              simpa using this
          have hrw : Row I64 wr wr.heap.size (some ⟨W1.heap.size, 0, none⟩) ((List.range xs.length).map (ownV xs ys)) := by
            rw [← goodO_all hll hgall]
            exact Row.of_own (f := I64) (xs := l) (c := l.length) (by simpa only [hll] using hown)
          have HRW := Lib.hid hrw
          have HBF := Lib.hid (HB.out.trans (hb.mono HB.out.size))
          clear hown hll hb hgr hga hgall hrw
          go_wp2_with fail
          go_ret
          exact ⟨_, rfl, HRW.out, HBF.out⟩

open Classical in
/-- what OwnerOf answers -/
noncomputable def ownP (xs : List Nd) (ys : List As) (i : Int) : Int := if okPr xs ys ∧ 0 ≤ i ∧ i < xs.length then ownV xs ys i.toNat else -1

set_option maxRecDepth 100000 in
set_option maxHeartbeats 4000000 in
theorem sOwnerOf_any (A A' : Option Addr) (c c' : Nat) (xs : List Nd) (ys : List As) (i : Int) (w : World) (hR : ProgIn w w.heap.size A A' xs ys) (hl : xs.length ≤ 1048576) (hl2 : ys.length ≤ 1048576) (hz : (argsL xs).length ≤ 1099511627776) (hx : ∀ x ∈ xs, x.2.1.size ≤ 1048576 ∧ x.2.2.2.length ≤ 1048576) (hy : ∀ y ∈ ys, y.1.size ≤ 1048576) :
    Calls Try.prog 17 #[pgv A A' xs.length c ys.length c', .int .i64 i] w fun e w' => e = .returned (.int .i64 (ownP xs ys i)) ∧ Below w.heap.size w w' := by
  have HVC := Lib.hid (fun W (h : ProgIn W W.heap.size A A' xs ys) => sIsValidProg_any A A' c c' xs ys W h hl hl2 hz hx hy)
  clear hz hx hy
  obtain ⟨W1, hW1⟩ : ∃ W, W = w.alloc (.cells #[.slice A xs.length c, .slice A' ys.length c'] 35) := ⟨_, rfl⟩
  have M := Mbox.new w #[.slice A xs.length c, .slice A' ys.length c'] 35
  have hB : Below w.heap.size w (w.alloc (.cells #[.slice A xs.length c, .slice A' ys.length c'] 35)) := by go_grown
  have hR1 := (hR.alloc (Nat.le_refl _) (.cells #[.slice A xs.length c, .slice A' ys.length c'] 35)).more (B' := (w.alloc (.cells #[.slice A xs.length c, .slice A' ys.length c'] 35)).heap.size) (by simp)
  rw [← hW1] at M hB hR1
  have HM := Lib.hid M
  have HB := Lib.hid hB
  have HR := Lib.hid hR1
  clear M hB hR hR1
  go_enter Try.func17, Try.ntmps17
  go_upto_region 1 with fail
  rw [← hW1]
  clear hW1
  have m0 := HM.out.c 0
  have m1 := HM.out.c 1
  go_wp2_with fail
  refine (HVC.out _ HR.out).mono ?_
  rintro e w2 hq
  obtain ⟨v, rfl, hv, hb2⟩ := hq
  have m0 := (HM.out.later hb2).c 0
  have m1 := (HM.out.later hb2).c 1
  have HB2 := Lib.hid (HB.out.trans (hb2.mono HB.out.size))
  have HR2 := Lib.hid (HR.out.later hb2)
  cases v with
  | false =>
    have hno : ¬ okPr xs ys := fun k => by have := hv.2 k; cases this
    have HP : Hid (ownP xs ys i = -1) := Lib.hid (by unfold ownP; rw [if_neg (fun k => hno k.1)])
    clear hv hno hb2
    go_wp2_with fail
    go_ret
    exact ⟨by rw [HP.out]; rfl, HB2.out⟩
  | true =>
    have hok : okPr xs ys := hv.1 rfl
    have HOK := Lib.hid hok
    have HQ := Lib.hid (l01InQ i 0 ((xs.length : Int) - 1) w2)
    clear hv hb2 hok
    by_cases hin : 0 ≤ i ∧ i < xs.length
    · have hq : inQ 0 ((xs.length : Int) - 1) i = true := (inQ_iff ..).2 (by omega)
      rw [hq] at HQ
      have HOW := Lib.hid (sOwners_any A A' c c' xs ys w2 HR2.out HOK.out)
      obtain ⟨n, rfl⟩ : ∃ n : Nat, i = (n : Int) := ⟨i.toNat, by omega⟩
      have HP : Hid (ownP xs ys (n : Int) = ownV xs ys n) := Lib.hid (by
        unfold ownP
        rw [if_pos ⟨HOK.out, hin⟩]
        rfl)
      have hn : n < xs.length := by omega
      clear hq
      go_wp2_with fail
      refine HQ.out.mono ?_
      rintro e w3 ⟨rfl, rfl⟩
      go_wp2_with fail
      refine HOW.out.mono ?_
      rintro e w3 ⟨A2, rfl, hrow, hb3⟩
      have HB3 := Lib.hid (HB2.out.trans (hb3.mono HB2.out.size))
      obtain ⟨b, o, rfl, hbl, hc0⟩ := hrow.at (k := n) (by simp; omega)
      have hc : w3.cell? ⟨b, o + n, none⟩ = some (I64 (ownV xs ys n)) := by simpa using hc0
      have hnlt : (n : Int) < (xs.length : Int) := by omega
      have hnge : (0 : Int) ≤ (n : Int) := by omega
      obtain ⟨z, hz⟩ : ∃ z, z = ownV xs ys n := ⟨_, rfl⟩
      rw [← hz] at hc HP
      clear hc0 hrow hb3 m0 m1 hz hin
      go_wp2_with fail
      go_ret
      exact ⟨by rw [HP.out]; rfl, HB3.out⟩
    · have hq : inQ 0 ((xs.length : Int) - 1) i = false := by
        apply Bool.eq_false_iff.2
        intro e
        have := (inQ_iff ..).1 e
        omega
      rw [hq] at HQ
      have HP : Hid (ownP xs ys i = -1) := Lib.hid (by unfold ownP; rw [if_neg (fun k => hin k.2)])
      clear hq hin
      go_wp2_with fail
      refine HQ.out.mono ?_
      rintro e w3 ⟨rfl, rfl⟩
      go_wp2_with fail
      go_ret
      exact ⟨by rw [HP.out]; rfl, HB2.out⟩
end Go.Proofs.Ytpcdlehicdepaaa
