/- Contracts of BoundaryEdges and of IsClosed, in the program and in its model. -/
import Derived.Test.YtdefhepagpgnaaaGreatProg
import Derived.Test.YtdefhepagpgnaaaGreatInts
import Derived.Test.YtdefhepagpgnaaaGreatVbox
import Derived.Test.YtdefhepagpgnaaaGreatVec
import Derived.Test.YtdefhepagpgnaaaGreatHeld
import Derived.Test.YtdefhepagpgnaaaGreatMem
import Derived.Test.YtdefhepagpgnaaaGreatRowC
import Derived.Test.YtdefhepagpgnaaaGreatIntS
import Derived.Test.YtdefhepagpgnaaaGreatVecS
import Derived.Test.YtdefhepagpgnaaaGreatSS
import Derived.Test.YtdefhepagpgnaaaGreatMkA
import Derived.Test.YtdefhepagpgnaaaGreatMkB
import Derived.Test.YtdefhepagpgnaaaGreatMkC
import Derived.Test.YtdefhepagpgnaaaGreatMkD
import Derived.Test.YtdefhepagpgnaaaGreatMF
import Derived.Test.YtdefhepagpgnaaaGreatMG
import Derived.Test.YtdefhepagpgnaaaGreatMH
import Derived.Test.YtdefhepagpgnaaaGreatMM
import Derived.Test.YtdefhepagpgnaaaGreatMN
import Derived.Test.YtdefhepagpgnaaaGreatMV
import Derived.Test.YtdefhepagpgnaaaGreatMW
import Derived.Test.YtdefhepagpgnaaaGreatMVF
import Derived.Test.YtdefhepagpgnaaaGreatMT
import Derived.Test.YtdefhepagpgnaaaGreatME
import Derived.Test.YtdefhepagpgnaaaGreatMSo
import Derived.Test.YtdefhepagpgnaaaGreatMSP
import Derived.Test.YtdefhepagpgnaaaGreatMP
import Derived.Test.YtdefhepagpgnaaaGreatMEF
import Derived.Test.YtdefhepagpgnaaaGreatMEd
import Derived.Test.YtdefhepagpgnaaaGreatMLw
import Derived.Test.YtdefhepagpgnaaaGreatMNb
import Derived.WalkKit
import Derived.WalkSpells
import Derived.WalkLawsBesides
import Derived.Lib.Hide
import Derived.Deep.RegionHeld3
import Derived.Deep.QuietTactic
import Derived.BigQuiet
import Derived.Handy
import Derived.Deep.DeepCutAuto
import Derived.OwnWalk
import Derived.Maps.RangeWalk
import Derived.Maps.Ext
import Derived.Maps.OwnOps
import Derived.Maps.Views
import Derived.Maps.AppendAt
import Derived.WideKeyEntry
import Derived.DeepKeys5
import Derived.ChangeKeysEq
import Derived.WalkArith
import Derived.OpenShut
import Derived.Laws.IdiomRangeMap
import Derived.Deep.LoopGhost
import Derived.Lib.SlMapFilter
namespace Go.Proofs.YtdefhepagpgnaaaGreat
open Go.RowKit Go.Maps Go.ChangeMaps


/-- what the predicate says of an element -/
def innerD : DataW Value → Bool
  | .held (.slice _ n _) => decide (1 < n)
  | _ => false
def pdI : Lit → DataW Value → Bool := fun _ d => innerD d
theorem has_ex {es : List (Lit × DataW Value)} {k : Lit} (h : has (DataW.map es) k = true) : ∃ p ∈ es, p.1 = k := by
  obtain ⟨p, hp, hs⟩ := List.any_eq_true.1 (show es.any (fun p => p.1.sameKey k) = true from h)
  exact ⟨p, hp, WideAt.sameKey_eq hs⟩
theorem came {pd : Lit → DataW Value → Bool} {es0 : List (Lit × DataW Value)} {left : Lit → Bool} (hap : es0.Pairwise (fun p q => p.1 ≠ q.1)) {kl : Lit} (hk : WideAt.IsKeyLit kl) (hlk : left kl = true) {d : DataW Value}
    (hat : ∀ zd, (Fk pd es0 left).atKey kl zd = d) (z : DataW Value) : (DataW.map es0).atKey kl z = d := by
  have h1 : has (Fk pd es0 left) kl = true := has_true_of_atKey hat
  obtain ⟨p, hp, hpk⟩ := has_ex h1
  have hp0 := (List.mem_filter.1 hp).1
  have h2 := at_cameK hap hk hlk hat p hp0 hpk
  rw [← h2]
  exact WideAt.atKey_mem z hk hap (by rw [← hpk]; exact hp0)
theorem has_del {pd : Lit → DataW Value → Bool} {es0 : List (Lit × DataW Value)} (hap : es0.Pairwise (fun p q => p.1 ≠ q.1)) {kl : Lit} (hk : WideAt.IsKeyLit kl) (z : DataW Value) :
    has (Lib.deleteFuncD pd (.map es0)) kl = (has (DataW.map es0) kl && !pd kl ((DataW.map es0).atKey kl z)) := by
  cases h : has (DataW.map es0) kl
  · cases h2 : has (Lib.deleteFuncD pd (.map es0)) kl
    · rfl
    · obtain ⟨p, hp, hpk⟩ := has_ex h2
      have hp0 := (List.mem_filter.1 hp).1
      have : has (DataW.map es0) kl = true := List.any_eq_true.2 ⟨p, hp0, by rw [hpk]; exact WideAt.sameKey_self hk⟩
      rw [h] at this
      cases this
  · obtain ⟨p, hp, hpk⟩ := has_ex h
    have hat : (DataW.map es0).atKey kl z = p.2 := WideAt.atKey_mem z hk hap (by rw [← hpk]; exact hp)
    rw [hat, Bool.true_and]
    cases hpd : pd kl p.2
    · exact List.any_eq_true.2 ⟨p, List.mem_filter.2 ⟨hp, by rw [hpk, hpd]; rfl⟩, by rw [hpk]; exact WideAt.sameKey_self hk⟩
    · cases h2 : has (Lib.deleteFuncD pd (.map es0)) kl
      · rfl
      · obtain ⟨q, hq, hqk⟩ := has_ex h2
        have hq' := List.mem_filter.1 hq
        have h3 : (DataW.map es0).atKey kl z = q.2 := WideAt.atKey_mem z hk hap (by rw [← hqk]; exact hq'.1)
        rw [hat] at h3
        have h4 := hq'.2
        rw [hqk, ← h3, hpd] at h4
        cases h4
set_option maxHeartbeats 1000000 in
theorem isInner_any (e : E2) (A : Option Addr) (n c : Nat) (w : World) : Calls Tryz.prog 83 #[keyV e, .slice A n c] w fun x w' => x = .returned (.bool (decide (1 < n))) ∧ Below w.heap.size w w' := by
  obtain ⟨p, q⟩ := e
  by_cases h : 1 < n
  · have hI : (n : Int) > 1 := by omega
    have hb : decide ((n : Int) > 1) = true := by simpa using hI
    have HD : Hid (decide (1 < n) = true) := Lib.hid (by simpa using h)
    clear h hI
    go_enter Tryz.func83, Tryz.ntmps83
    go_wp2
    go_ret
    rw [HD.out]
    exact ⟨rfl, by go_grown⟩
  · have hI : ¬ (n : Int) > 1 := by omega
    have hb : decide ((n : Int) > 1) = false := by simpa using hI
    have HD : Hid (decide (1 < n) = false) := Lib.hid (by simpa using h)
    clear h hI
    go_enter Tryz.func83, Tryz.ntmps83
    go_wp2
    go_ret
    rw [HD.out]
    exact ⟨rfl, by go_grown⟩

set_option maxHeartbeats 4000000 in
set_option maxRecDepth 100000 in
theorem deleteFunc_any (base b n : Nat) (S : List (E2 × Int)) (Z : List E2) (w : World) (h : TabOf w base b n S) (hZ : ∀ e, e ∈ Z ↔ e ∈ S.map Prod.fst ∧ ¬ 1 < (atE S e).length) :
    Calls Tryz.prog 82 #[.map (some b), .func (.func 83) #[] #[]] w fun e w' => e = .returned (.tuple #[]) ∧ KeysAre w' b n Z ∧ w.grownBy w' (some b) := by
  obtain ⟨D, V, hown, hmap, hat0, hhas0, hrow, hap0⟩ := h
  obtain ⟨es0, rfl, hap, hkeys⟩ := hown.entries mKeyed
  have HAT0 := Lib.hid hat0
  have HHAS := Lib.hid hhas0
  have HZ := Lib.hid hZ
  have HSH : Hid (∀ e, ∃ A c, V e = .slice A (atE S e).length c) := Lib.hid fun e => own_shape (hrow e)
  have HAP := Lib.hid hap
  have hbl := hown.lt
  have eg : ∀ args w, (callFunc 83 args).run Tryz.prog w = .ok (.enter 83 args) w := enters_of Tryz.func83 (by kernel_rfl) rfl
  clear hat0 hhas0 hrow hap0 hZ hmap hap
  go_enter Tryz.func82, Tryz.ntmps82
  go_wp2_with (at_range; refine wpList_range_own _ rfl _ 72 rfl 81 45 mKeyed Tryz.underlying72 rawR b n _ rfl hown ?_; intro w0 hrg0 hg0 hs0)
  have HR0 : Hid (w0.ranges Tryz.prog 81 rawR b w.heap.size n (Fk pdI es0 (has (.map es0))) (has (.map es0)) (Maps.size (DataW.map es0))) := Lib.hid (by rw [Fk_start hkeys]; exact hrg0)
  have HG0 := Lib.hid (hg0.but (some b))
  clear hown hrg0 hg0 hs0 hkeys
  go_frame
  go_loopw [8] (fun _ wr => ∃ (left : Lit → Bool) (cnt : Nat), wr.ranges Tryz.prog 81 rawR b w.heap.size n (Fk pdI es0 left) left cnt ∧ w.grownBy wr (some b))
    (fun _ wr => wr.rangeLeft b w.heap.size)
  case atStart => exact ⟨_, _, HR0.out, HG0.out⟩
  case round =>
    clear HR0 HG0
    obtain ⟨left, cnt, hrg, hgw⟩ := hrel
    have HLEQ : Hid (wr.rangeLeft b w.heap.size = cnt) := Lib.hid hrg.left_eq
    have HGW := Lib.hid hgw
    clear hgw
    go_wp2_with (at_next; refine wpList_next_ranges _ rfl _ rfl 81 mKeyed rawR id id (fun key _ _ => ⟨key, rfl⟩) (fun v _ _ => ⟨v, rfl⟩) b w.heap.size n _ _ _ rfl hrg ?_ ?_)
    · intro _ hl0
      have HFIN : Hid (KeysAre wr b n Z) := Lib.hid ⟨_, by have h := hrg.owns; rw [Fk_end hl0] at h; exact h, fun e he => by
        rw [has_del HAP.out (ek_key e) (.held nilS), HHAS.out e he, HAT0.out e he]
        obtain ⟨A, c, hv⟩ := HSH.out e
        rw [hv]
        unfold pdI innerD
        rw [Bool.eq_iff_iff]
        simp only [Bool.and_eq_true, decide_eq_true_eq, Bool.not_eq_true', decide_eq_false_iff_not]
        exact (HZ.out e).symm⟩
      clear hrg hl0
      go_wp2
      go_end0
      exact ⟨rfl, HFIN.out, HGW.out⟩
    · intro x c kl yd yp w1 cnt1 hkey hlx hv hat hrg1 hlt hg1 hs1 hen
      obtain ⟨ed, hwf, hx, hkl⟩ := keyOf_edge_inv hkey
      try simp only [id] at hx hv hen
      subst hx
      subst hkl
      have hyd := rawR_inv hv
      simp only [Prod.mk.injEq] at hyd
      obtain ⟨rfl, rfl⟩ := hyd
      have hcV : c = V ed := by
        have h1 := came HAP.out (ek_key ed) hlx hat (.held nilS)
        rw [HAT0.out ed hwf] at h1
        exact (DataW.held.inj h1).symm
      obtain ⟨A, cc, hsh⟩ := HSH.out ed
      rw [hsh] at hcV
      subst hcV
      obtain ⟨m, hm⟩ : ∃ m, m = (atE S ed).length := ⟨_, rfl⟩
      rw [← hm] at hen hat hv
      have hgw1 := HGW.out.andThen hg1 (fun j hj => by cases hj; exact Or.inl (Nat.le_refl _))
      have HKEY := Lib.hid hkey
      have HLX := Lib.hid hlx
      have HAT := Lib.hid hat
      have hrl := hrg1.lt
      have HW2 := Lib.hid (hgw1.andThen (World.grownBy_alloc w1 (.cells #[.int .i64 ed.1, .int .i64 ed.2] 81) none) (fun j hj => by cases hj))
      have HRG2 := Lib.hid (hrg1.alloc (.cells #[.int .i64 ed.1, .int .i64 ed.2] 81))
      have HMB := Lib.hid (Mbox.new w1 #[.int .i64 ed.1, .int .i64 ed.2] 81)
      clear hkey hlx hat hv hrg1 hg1 hs1 hgw1 hrg hsh HGW hm
      obtain ⟨p, q⟩ := ed
      go_wp2_with fail
      refine (isInner_any (p, q) A m cc _).mono ?_
      rintro e w2 ⟨rfl, hb2⟩
      have hg2 : _ := gb_of_below hb2 (row := none)
      have HRG3 := Lib.hid (HRG2.out.kept hg2 (by simp) (by simp))
      have HG3 := Lib.hid (HW2.out.andThen hg2 (fun j hj => by cases hj))
      have hmb := HMB.out.later hb2
      have b0 := hmb.c 0
      have b1 := hmb.c 1
      clear hb2 hg2 hmb HRG2 HW2 HMB
      cases hp : pdI (ek (p, q)) (.held (.slice A m cc))
      · have hd : decide (1 < m) = false := hp
        have HFK := Lib.hid (Fk_stays HAP.out (ek_key (p, q)) HLX.out hp HAT.out)
        rw [hd]
        clear hp hd
        go_wp2_with fail
        go_roundw
        case rel => exact ⟨_, cnt1, by rw [← HFK.out]; exact HRG3.out, HG3.out⟩
        case measure => rw [HRG3.out.left_eq, HLEQ.out]; exact hlt
      · have hd : decide (1 < m) = true := hp
        have HFK := Lib.hid (Fk_struck HAP.out (ek_key (p, q)) HLX.out hp HAT.out)
        rw [hd]
        clear hp hd
        go_wp2_with (at_delete; refine wpList_delete_ranges _ rfl _ _ 72 81 rfl 45 mKeyed Tryz.underlying72 rawR b w.heap.size n _ _ _ rfl HRG3.out _ _ rfl HKEY.out ?_; intro w3 cnt3 hrg3 hle hturn)
        rw [strike_twice] at hrg3
        have HRG4 : Hid (w3.ranges Tryz.prog 81 rawR b w.heap.size n (Fk pdI es0 (fun z => left z && !z.sameKey (ek (p, q)))) (fun z => left z && !z.sameKey (ek (p, q))) cnt3) := Lib.hid (by rw [← HFK.out]; exact hrg3)
        have HG4 := Lib.hid (HG3.out.andThen hturn.grown (fun j hj => by cases hj; exact Or.inr rfl))
        clear hrg3 hturn
        try go_frame
        go_wp2
        go_roundw
        case rel => exact ⟨_, cnt3, HRG4.out, HG4.out⟩
        case measure => rw [HRG4.out.left_eq, HLEQ.out]; omega


end Go.Proofs.YtdefhepagpgnaaaGreat
