/- Who owns a node: the program. -/
import Derived.Test.YtpcdlehicdepaaaProg
import Derived.Test.YtpcdlehicdepaaaInts
import Derived.Test.YtpcdlehicdepaaaVbox
import Derived.Test.YtpcdlehicdepaaaHeld
import Derived.Test.YtpcdlehicdepaaaMem
import Derived.Test.YtpcdlehicdepaaaFlat
import Derived.Test.YtpcdlehicdepaaaRowC
import Derived.Test.YtpcdlehicdepaaaKS
import Derived.Test.YtpcdlehicdepaaaStrS
import Derived.Test.YtpcdlehicdepaaaIntS
import Derived.Test.YtpcdlehicdepaaaSS
import Derived.Test.YtpcdlehicdepaaaPg
import Derived.Test.YtpcdlehicdepaaaPh
import Derived.Test.YtpcdlehicdepaaaPi
import Derived.Test.YtpcdlehicdepaaaIdent
import Derived.Test.YtpcdlehicdepaaaPn
import Derived.Test.YtpcdlehicdepaaaQa
import Derived.Test.YtpcdlehicdepaaaQb
import Derived.Test.YtpcdlehicdepaaaQd
import Derived.Test.YtpcdlehicdepaaaQe
import Derived.Test.YtpcdlehicdepaaaSa
import Derived.Test.YtpcdlehicdepaaaSb
import Derived.Test.YtpcdlehicdepaaaSc
import Derived.Test.YtpcdlehicdepaaaSd
import Derived.Test.YtpcdlehicdepaaaSh
import Derived.Test.YtpcdlehicdepaaaSi
import Derived.Test.YtpcdlehicdepaaaSj
import Derived.Test.YtpcdlehicdepaaaPj
import Derived.Test.YtpcdlehicdepaaaPk
import Derived.Test.YtpcdlehicdepaaaPl
import Derived.Test.YtpcdlehicdepaaaPm
import Derived.WalkKit
import Derived.WalkSpells
import Derived.WalkLawsBesides
import Derived.Lib.Hide
import Derived.Deep.RegionHeld3
import Derived.Deep.QuietTactic
import Derived.BigQuiet
import Derived.Handy
import Derived.Deep.DeepCutAuto
import Derived.OwnWalk
import Derived.RangeFuncNested
import Derived.RangeFuncBound
import Derived.RangeFuncCalls
import Derived.RangeFuncLeaves
import Derived.RangeFuncWrites
import Derived.OwnWalkIn
import Derived.TacticsInMore
import Derived.LoopNIn
import Derived.LoopIn
import Derived.RangeFuncBox
import Derived.Shelf.Abstract
import Derived.Maps.AppendAt
namespace Go.Proofs.Ytpcdlehicdepaaa
open Go.RowKit Go.Shelf
attribute [local go_sem] Oper.semAt_some

theorem Row.far {α : Type} {f : α → Value} {w : World} {B g i : Nat} {A : Option Addr} {xs : List α} (h : Row f w B A xs) (hne : ∀ b o, A = some ⟨b, o, none⟩ → b ≠ g) (v : Value) : Row f (w.setCell ⟨g, i, none⟩ v) B A xs := fun hn => by
  obtain ⟨b, o, e, hb, hc⟩ := h hn
  exact ⟨b, o, e, hb, fun k hk => (World.cell?_setCell_other w _ _ _ (by intro e2; injection e2 with e2; exact hne b o e e2.symm)).trans (hc k hk)⟩
theorem RH.far {B : Nat} {w W0 W : World} {bs : List (Nat × List Value)} {g i : Nat} (h : RH B w W0 W bs) (hg : w.heap.size ≤ g) (hne : ∀ p ∈ bs, p.1 ≠ g) (v : Value) : RH B w W0 (W.setCell ⟨g, i, none⟩ v) bs :=
  ⟨h.held.far hg hne v, h.keep.trans ((KeepsOthers.setCell W _ _).from B)⟩
/-- the places of the arguments of all nodes -/
theorem nodes_fix {w : World} {B : Nat} {A : Option Addr} {xs : List Nd} (h : NdRow w B A xs) : ∃ av : Nat → Option Addr × Nat, ∀ j (hj : j < xs.length), ∃ b o, A = some ⟨b, o, none⟩ ∧ b < B ∧
    w.cell? ⟨b, o + j * 4, none⟩ = some (.int .i64 (xs[j]).1) ∧ w.cell? ⟨b, o + j * 4 + 1, none⟩ = some (.string (xs[j]).2.1) ∧ w.cell? ⟨b, o + j * 4 + 2, none⟩ = some (.int .i64 (xs[j]).2.2.1) ∧ w.cell? ⟨b, o + j * 4 + 3, none⟩ = some (.slice (av j).1 (xs[j]).2.2.2.length (av j).2) ∧ Row I64 w B (av j).1 (xs[j]).2.2.2 := by
  have h1 : ∀ j, ∃ p : Option Addr × Nat, ∀ (hj : j < xs.length), ∃ b o, A = some ⟨b, o, none⟩ ∧ b < B ∧
      w.cell? ⟨b, o + j * 4, none⟩ = some (.int .i64 (xs[j]).1) ∧ w.cell? ⟨b, o + j * 4 + 1, none⟩ = some (.string (xs[j]).2.1) ∧ w.cell? ⟨b, o + j * 4 + 2, none⟩ = some (.int .i64 (xs[j]).2.2.1) ∧ w.cell? ⟨b, o + j * 4 + 3, none⟩ = some (.slice p.1 (xs[j]).2.2.2.length p.2) ∧ Row I64 w B p.1 (xs[j]).2.2.2 := fun j => by
    by_cases hj : j < xs.length
    · obtain ⟨b, o, e, hb, a, c, h0, h1, h2, h3, _, _, h6⟩ := h.at hj
      exact ⟨(a, c), fun _ => ⟨b, o, e, hb, h0, h1, h2, h3, h6⟩⟩
    · exact ⟨(none, 0), fun h => absurd h hj⟩
  exact ⟨fun j => Classical.choose (h1 j), fun j hj => Classical.choose_spec (h1 j) hj⟩
/-- the owners of all nodes, in a row that the call made -/
def OwnOutQ (xs : List Nd) (ys : List As) (w : World) (e : Ending) (w' : World) : Prop :=
  ∃ (A : Option Addr), e = .returned (.slice A xs.length xs.length) ∧ w'.ownsRow w.heap.size 3 1 (.slice A xs.length xs.length) xs.length (((List.range xs.length).map (ownV xs ys)).map I64) ∧ Below w.heap.size w w'
/-- a node's cells, by its number -/
def cellF (xs : List Nd) (av : Nat → Option Addr × Nat) (j : Nat) : Int × ByteArray × Int × Value := ((ndA xs j).1, (ndA xs j).2.1, (ndA xs j).2.2.1, .slice (av j).1 (ndA xs j).2.2.2.length (av j).2)

set_option maxRecDepth 100000 in
set_option maxHeartbeats 16000000 in
theorem owners_go (A A' : Option Addr) (c c' : Nat) (xs : List Nd) (ys : List As) (w : World) (hR : ProgIn w w.heap.size A A' xs ys) (hok : okPr xs ys) :
    CallsIn Fence.wide 3 Try.prog 36 #[pgv A A' xs.length c ys.length c'] w (OwnOutQ xs ys w) := by
  obtain ⟨i0, hi, hz0, hz1, hz2⟩ := info_parts infoInt
  have hlen := okPr_len hok
  have h60 : xs.length ≤ 60 := hok.1
  have hy60 : ys.length ≤ 60 := by omega
  have HOK := Lib.hid hok
  have HLEN := Lib.hid hlen
  obtain ⟨av, hnd⟩ := nodes_fix hR.1
  have HND := Lib.hid hnd
  have HRP := Lib.hid hR
  clear hok hlen hnd hR
  have HT : Held w (w.alloc (.cells #[.slice A xs.length c, .slice A' ys.length c'] 35)) [(w.heap.size, [.slice A xs.length c, .slice A' ys.length c'])] := by
    have h := (Held.nil w).new #[.slice A xs.length c, .slice A' ys.length c'] 35
    simpa only [World.size_alloc] using h
  obtain ⟨W1, hW1⟩ : ∃ W, W = w.alloc (.cells #[.slice A xs.length c, .slice A' ys.length c'] 35) := ⟨_, rfl⟩
  rw [← hW1] at HT
  refine callsIn_of_wp_marks Try.func36 rfl trivial ?_ rfl
  simp only [Try.ntmps36, List.size_toArray, List.length_cons, List.length_nil, Nat.reduceAdd, Nat.reduceSub, Array.replicate_succ, Array.replicate_zero, List.push_toArray, List.append_toArray, List.nil_append, List.cons_append]
  refine wpIn_wide.2 ?_
  go_upto_region 1 with fail
  rw [← hW1]
  have hs1 : W1.heap.size = w.heap.size + 1 := by rw [hW1]; simp
  clear hW1
  have m0 := (HT.box 0).c 0
  have m1 := (HT.box 0).c 1
  obtain ⟨p0, hp0⟩ : ∃ p, p = w.heap.size := ⟨_, rfl⟩
  rw [← hp0] at HT m0 m1 ⊢
  obtain ⟨D, hD⟩ : ∃ p, p = W1.heap.size := ⟨_, rfl⟩
  have HDD := Lib.hid (show D = p0 + 1 ∧ p0 = w.heap.size by omega)
  have HDq := Lib.hid hD
  clear hp0 hD hs1
  go_wp2_with (at_make; refine wpList_make_full _ rfl _ _ 49 rfl W1.heap.size 3 i0 (.int .i64 0) 1 Try.underlying49 hi hz0 hz1 .i64 .i64 _ _ xs.length rfl rfl rfl rfl (by rw [hz2]; omega) (by unfold maxLen; omega) (by omega) ?_)
  intro w2 hown hgrow
  have hb0 : Below W1.heap.size W1 w2 := (Below.refl _ _).grown hgrow (Nat.le_refl _) (fun k h => by cases h)
  have HT := HT.later hb0
  rw [← HDq.out] at hown ⊢
  have hown : w2.ownsRow D 3 1 (.slice (some ⟨D, 0, none⟩) xs.length xs.length) xs.length ((List.replicate xs.length (0 : Int)).map I64) := by
    rw [List.map_replicate, ← made_one]
    exact hown
  have hd2 : D < w2.heap.size := (hown.lt D (by rfl)).2
  have HT := HT.new #[(.slice (some ⟨D, 0, none⟩) xs.length xs.length)] 49
  have hown := hown.alloc (.cells #[(.slice (some ⟨D, 0, none⟩) xs.length xs.length)] 49)
  clear hb0 hgrow HDq m0 m1
  go_upto_region 2 with fail
  obtain ⟨W2, hW2⟩ : ∃ W, W = w2.alloc (.cells #[(.slice (some ⟨D, 0, none⟩) xs.length xs.length)] 49) := ⟨_, rfl⟩
  obtain ⟨kO, hkO⟩ : ∃ k, k = w2.heap.size := ⟨_, rfl⟩
  have hs2 : W2.heap.size = kO + 1 := by rw [hW2, hkO]; simp
  rw [← hW2] at HT hown ⊢
  rw [← hkO] at HT hd2 ⊢
  clear hW2 hkO
  have HKD := Lib.hid (show D < kO ∧ kO < W2.heap.size ∧ W2.heap.size = kO + 1 by omega)
  have m0 := (HT.box 1).c 0
  have m1 := (HT.box 1).c 1
  have HT0 := Lib.hid HT
  have HO0 := Lib.hid hown
  have HR2 : Hid (ProgIn W2 W2.heap.size A A' xs ys) := Lib.hid (HRP.out.later HT.below)
  clear HT hown hs2 hd2
  go_wp2_with fail
  refine (roots_any A A' c c' xs ys W2 HR2.out (by omega)).mono ?_
  rintro e w4 ⟨A4, c4, rfl, hrt, hb4⟩
  have HT := HT0.out.later hb4
  have hown := own_keep' HO0.out hb4
  have hne4 : ∀ b o, A4 = some ⟨b, o, none⟩ → b ≠ D := fun b o e => by
    have h1 := own_block hrt b (by rw [e]; rfl)
    have h2 := HKD.out
    omega
  have hrt := Row.of_own (f := I64) hrt
  have HNE4 := Lib.hid hne4
  have HT0 := Lib.hid HT
  have HO0 := Lib.hid hown
  have HRT := Lib.hid hrt
  have HSZ4 := Lib.hid hb4.size
  have hrl : (rtsL ys).length = ys.length := by simp [rtsL]
  rw [hrl]
  clear HT hown hrt hne4 hb4 m0 m1 hrl
  go_wp2_with fail
  go_loopw [17] (fun i wr => ∃ (k : Nat) (l : List Int), k ≤ ys.length ∧ i = .int .i64 k ∧ Held w wr [(kO, [(.slice (some ⟨D, 0, none⟩) xs.length xs.length)]), (p0, [.slice A xs.length c, .slice A' ys.length c'])] ∧ wr.ownsRow D 3 1 (.slice (some ⟨D, 0, none⟩) xs.length xs.length) xs.length (l.map I64) ∧ l.length = xs.length ∧ Row I64 wr w4.heap.size A4 (rtsL ys) ∧ w4.heap.size ≤ wr.heap.size ∧ ∀ j (h : j < ys.length), j < k → GoodO xs ys l (ys[j]).2.toNat) (fun i _ => ys.length - (intOf i).toNat)
  case atStart => exact ⟨0, List.replicate xs.length 0, Nat.zero_le _, rfl, HT0.out, HO0.out, by simp, HRT.out, Nat.le_refl _, fun j _ h => by omega⟩
  case round =>
    clear HO0 HRT HT0
    obtain ⟨k, l, hk, rfl, HT, hown, hll, hrt, hsz, hgd⟩ := hrel
    by_cases hlt : k < ys.length
    · obtain ⟨b, o, rfl, hbl, hc0⟩ := hrt.at (k := k) (by simp [rtsL]; omega)
      have hc : wr.cell? ⟨b, o + k, none⟩ = some (.int .i64 (ys[k]).2) := by rw [hc0]; simp [rtsL, I64]
      clear hc0
      have hin := okPr_root HOK.out hlt
      have hrq := ownV_root HOK.out hlt
      obtain ⟨m, hm⟩ : ∃ m : Nat, (ys[k]).2 = (m : Int) := ⟨((ys[k]).2).toNat, by omega⟩
      have HGD : Hid (∀ (j : Nat) (h : j < ys.length), j < k + 1 → GoodO xs ys (l.set m (k : Int)) (ys[j]).2.toNat) := Lib.hid (fun j h hj => by
        have e2 : ((m : Int)).toNat = m := by omega
        have e3 : (k : Int) = ownV xs ys m := by rw [← hrq, hm, e2]
        rw [e3]
        by_cases e : j = k
        · subst e
          rw [hm, e2]
          exact goodO_new (by omega)
        · exact goodO_set (hgd j h (by omega)))
      rw [hm] at hc hin
      have hmlt : (m : Int) < (xs.length : Int) := by omega
      have hmge : (0 : Int) ≤ (m : Int) := by omega
      have hlt2' : (k : Int) < (ys.length : Int) := by omega
      have hge2' : (0 : Int) ≤ (k : Int) := by omega
      have hlh : m < l.length := by omega
      have hd := hown.cellAt m (by omega)
      have hf := hown.frozenAt m
      rw [List.getElem?_map, List.getElem?_eq_getElem hlh, Option.map_some] at hd
      obtain ⟨zo, hzo⟩ : ∃ z, z = l[m] := ⟨_, rfl⟩
      rw [← hzo] at hd
      clear hzo
      have hs := (hown.stored m (I64 (k : Int))).1
      rw [← List.map_set] at hs
      have hq0 := (HT.box 0).c 0
      have HTS := Lib.hid (HT.far (g := D) (i := m) (by have := HDD.out; omega) (fun p hp => by
        have h1 := HDD.out
        have h2 := HKD.out
        simp only [List.mem_cons, List.not_mem_nil, or_false] at hp
        rcases hp with rfl | rfl <;> (show _ ≠ _) <;> omega) (I64 (k : Int)))
      have HRS := Lib.hid (hrt.far (i := m) HNE4.out (I64 (k : Int)))
      have hll2 : (l.set m (k : Int)).length = xs.length := by rw [List.length_set]; exact hll
      have HS := Lib.hid hs
      have HL2 := Lib.hid hll2
      have HSZ := Lib.hid (show w4.heap.size ≤ (wr.setCell ⟨D, m, none⟩ (I64 (k : Int))).heap.size by simpa using hsz)
      clear hs hown hrt hlh hll hll2 hm hin hrq hgd HT hsz hbl
      go_wp2_with fail
      go_roundw
      case rel => exact ⟨k + 1, _, by omega, by go_num, HTS.out, HS.out, HL2.out, HRS.out, HSZ.out, HGD.out⟩
      case measure => simp [intOf]; omega
    · obtain rfl : k = ys.length := by omega
      have m0 := (HT.box 1).c 0
      have hge' : ¬ ((ys.length : Nat) : Int) < ((ys.length : Nat) : Int) := by omega
      have HT := HT.new #[.slice A xs.length c] 32
      have hown := hown.alloc (.cells #[.slice A xs.length c] 32)
      have HG1 : Hid (∀ q (h : q < ys.length), GoodO xs ys l (ys[q]).2.toNat) := Lib.hid (fun q h => hgd q h h)
      have HL1 := Lib.hid hll
      have HTN := Lib.hid HT
      have HOW := Lib.hid hown
      have hszr := hsz
      clear hgd hll hk hlt hrt HT hown hsz
      go_wp2_with (go_at_call 61; refine (back_any A xs.length c _).mono ?_; rintro e w' ⟨rfl, rfl⟩)
      clear m0 hge'
      have HT := HTN.out
      have hown := HOW.out
      obtain ⟨W0, hW0⟩ : ∃ X, X = wr.alloc (.cells #[.slice A xs.length c] 32) := ⟨_, rfl⟩
      obtain ⟨kB, hkB⟩ : ∃ k, k = wr.heap.size := ⟨_, rfl⟩
      have hs0 : W0.heap.size = kB + 1 := by rw [hW0, hkB]; simp
      rw [← hW0] at HT hown ⊢
      rw [← hkB] at HT hszr ⊢
      clear hW0 hkB HTN HOW
      have HWB : Hid (w.heap.size ≤ W0.heap.size) := Lib.hid HT.below.size
      have HKB : Hid (D < kO ∧ kO < kB ∧ kB < W0.heap.size ∧ D = p0 + 1 ∧ p0 = w.heap.size) := Lib.hid (by have h1 := HKD.out; have h2 := HDD.out; have h3 := HSZ4.out; omega)
      have HNE0 : ∀ p ∈ ([(kB, [.slice A xs.length c]), (kO, [(.slice (some ⟨D, 0, none⟩) xs.length xs.length)]), (p0, [.slice A xs.length c, .slice A' ys.length c'])] : List (Nat × List Value)), p.1 ≠ D := fun p hp => by
        have h1 := HKB.out
        simp only [List.mem_cons, List.not_mem_nil, or_false] at hp
        rcases hp with rfl | rfl | rfl <;> (show _ ≠ _) <;> omega
      have HNE := Lib.hid HNE0
      have HINF := Lib.hid (And.intro hi (And.intro hz0 (And.intro hz1 hz2)))
      clear hi hz0 hz1 hz2 HNE0 hs0 hszr HKD HDD HSZ4 HNE4
      have h0 : ∃ l, Held w W0 [(kB, [.slice A xs.length c]), (kO, [(.slice (some ⟨D, 0, none⟩) xs.length xs.length)]), (p0, [.slice A xs.length c, .slice A' ys.length c'])] ∧ W0.ownsRow D 3 1 (.slice (some ⟨D, 0, none⟩) xs.length xs.length) xs.length (l.map I64) ∧ l.length = xs.length ∧ (∀ q (h : q < ys.length), GoodO xs ys l (ys[q]).2.toNat) ∧ (∀ j (h : j < xs.length), xs.length - 0 ≤ j → ∀ a ∈ (xs[j]).2.2.2, GoodO xs ys l a.toNat) ∧ W0.heap.size ≤ W0.heap.size := ⟨l, HT, hown, HL1.out, HG1.out, fun j h hj => by omega, Nat.le_refl _⟩
      have H0 := Lib.hid h0
      refine (wpIn_wide (n := 3)).1 ?_
      refine' wpIn_back (s := xs.length) (Bn := kB) (c := c) (A := A) (cellF xs av) (by omega) (by omega) rfl rfl
        (fun k W => ∃ l, Held w W [(kB, [.slice A xs.length c]), (kO, [(.slice (some ⟨D, 0, none⟩) xs.length xs.length)]), (p0, [.slice A xs.length c, .slice A' ys.length c'])] ∧ W.ownsRow D 3 1 (.slice (some ⟨D, 0, none⟩) xs.length xs.length) xs.length (l.map I64) ∧ l.length = xs.length ∧ (∀ q (h : q < ys.length), GoodO xs ys l (ys[q]).2.toNat) ∧ (∀ j (h : j < xs.length), xs.length - k ≤ j → ∀ a ∈ (xs[j]).2.2.2, GoodO xs ys l a.toNat) ∧ W0.heap.size ≤ W.heap.size)
        (fun _ _ => False)
        (fun k A B row h hg hr => by obtain ⟨l, h1, h2, h3, h4, h5, h6⟩ := h; exact ⟨l, h1.turned hg HWB.out hr, own_turned h2 hg (fun r e => (hr r e).2), h3, h4, h5, Nat.le_trans h6 hg.size⟩)
        (fun _ _ _ _ h _ _ => h)
        (fun k W h => by
          obtain ⟨l, h1, _⟩ := h
          refine ⟨(h1.box 0).c 0, fun j hj => ?_⟩
          obtain ⟨b, o, e, hb, g0, g1, g2, g3, _⟩ := HND.out j hj
          have hv : ndA xs j = xs[j] := by unfold ndA; rw [getD_at hj]
          refine ⟨b, o, e, ?_⟩
          unfold cellF
          rw [hv]
          exact ⟨(h1.below.cell (p := ⟨b, o + j * 4, none⟩) hb).trans g0, (h1.below.cell (p := ⟨b, o + j * 4 + 1, none⟩) hb).trans g1, (h1.below.cell (p := ⟨b, o + j * 4 + 2, none⟩) hb).trans g2, (h1.below.cell (p := ⟨b, o + j * 4 + 3, none⟩) hb).trans g3⟩)
        ?h0 (fun k g => { tmps := #[pgv A A' xs.length c ys.length c', .pointer (some ⟨p0, 0, none⟩), .slice none 0 0, .pointer (some ⟨kO, 0, none⟩), u4, u5, .int .i64 ((xs.length - 1 - k : Nat) : Int), .pointer (some ⟨g, 0, none⟩), undef, undef, .pointer (some ⟨p0, 0, none⟩), .slice A xs.length c, .int .i64 xs.length, (.slice (some ⟨D, 0, none⟩) xs.length xs.length), .agg #[.slice A xs.length c, .slice A' ys.length c'], .slice A4 ys.length c4, .int .i64 ys.length, .int .i64 ys.length, .bool false, u19, u20, u21, u22, u23, u24, u25, u26, .pointer (some ⟨p0, 0, none⟩), .slice A xs.length c, .func (.func 73) #[] #[.pointer (some ⟨kB, 0, none⟩)], .int .i64 ((xs.length - 1 - k : Nat) : Int), .agg #[.int .i64 (cellF xs av (xs.length - 1 - k)).1, .string (cellF xs av (xs.length - 1 - k)).2.1, .int .i64 (cellF xs av (xs.length - 1 - k)).2.2.1, (cellF xs av (xs.length - 1 - k)).2.2.2], undef, undef, undef, undef, undef, undef, undef, undef, undef, undef, undef, undef, undef, undef, undef, undef, undef], defers := [] }) ?assign ?body ?done ?stop
      case h0 => exact h0
      case assign =>
        intro l k W K hK
        unfold cellF
        dsimp only
        gi_wp2
        exact hK
      case body =>
        clear h0
        rintro lp k g W hk ⟨l, HT, hown, hll, hgr, hga, hsz⟩ hM hgs
        obtain ⟨j, hj⟩ : ∃ j, j = xs.length - 1 - k := ⟨_, rfl⟩
        dsimp only
        rw [← hj] at hM ⊢
        have hjn : j < xs.length := by omega
        have hgj : GoodO xs ys l j := by
          rcases node_ref HOK.out hjn with ⟨q, hq, e⟩ | ⟨q, hq, hjq, ha⟩
          · have := hgr q hq
            rw [e] at this
            simpa using this
          · have := hga q hq (by omega) _ ha
            simpa using this
        have hga : ∀ q (h : q < xs.length), j < q → ∀ a ∈ (xs[q]).2.2.2, GoodO xs ys l a.toNat := fun q h hq => hga q h (by omega)
        have hrow : Row I64 w w.heap.size (av j).1 (xs[j]).2.2.2 := by
          obtain ⟨_, _, _, _, _, _, _, _, hrow⟩ := HND.out j hjn
          exact hrow
        have hrow := hrow.below HT.below
        have HAI := Lib.hid (fun a (ha : a ∈ (xs[j]).2.2.2) => And.intro (arg_in HOK.out hjn ha) (ownV_arg HOK.out hjn ha))
        obtain ⟨a', ca, hop, hrow⟩ := opV_row HOK.out hjn (c := (av j).2) hrow
        obtain ⟨T, V, rv, f, hex, hmt, hen, hcl⟩ := ops_of (xs[j]).1 (xs[j]).2.1 (av j).1 (xs[j]).2.2.2.length (av j).2
        rw [hop] at hcl
        have hv : ndA xs j = xs[j] := by unfold ndA; rw [getD_at hjn]
        unfold cellF at hM
        rw [hv] at hM
        have hal := args_at_len hjn
        have hv60 : (xs[j]).2.2.2.length ≤ 60 := by have := HLEN.out; omega
        have HV3 : Hid (∀ l' : List Int, (∀ x (h : x < (xs[j]).2.2.2.length), GoodO xs ys l' ((xs[j]).2.2.2[x]).toNat) → ∀ a ∈ (xs[j]).2.2.2, GoodO xs ys l' a.toNat) := Lib.hid (fun l' h a ha => by
          obtain ⟨x, hx, rfl⟩ := List.getElem_of_mem ha
          exact h x hx)
        have HJK := Lib.hid (show j = xs.length - 1 - k ∧ k < xs.length by omega)
        obtain ⟨v, hv'⟩ : ∃ v, v = xs[j] := ⟨_, rfl⟩
        rw [← hv'] at hM hcl hex hrow HAI hv60
        have HVV := Lib.hid hv'
        rw [← hv'] at HV3
        clear hv hop hal hj hk hv'
        obtain ⟨v0, v1, v2, v3⟩ := v
        dsimp only at hM hcl hex hrow HAI hv60 HV3
        have n0 := hM.c 0
        have n1 := hM.c 1
        have n2 := hM.c 2
        have n3 := hM.c 3
        have HT := RH.start (B := W0.heap.size) HT
        have HCL := Lib.hid hcl
        have HEX := Lib.hid hex
        have HI0 : Hid (RH W0.heap.size w W W [(kB, [.slice A xs.length c]), (kO, [(.slice (some ⟨D, 0, none⟩) xs.length xs.length)]), (p0, [.slice A xs.length c, .slice A' ys.length c'])] ∧ W.ownsRow D 3 1 (.slice (some ⟨D, 0, none⟩) xs.length xs.length) xs.length (l.map I64) ∧ l.length = xs.length ∧ (∀ q (h : q < ys.length), GoodO xs ys l (ys[q]).2.toNat) ∧ (∀ q (h : q < xs.length), j < q → ∀ a ∈ (xs[q]).2.2.2, GoodO xs ys l a.toNat) ∧ GoodO xs ys l j ∧ Row I64 W w.heap.size a' v3 ∧ W0.heap.size ≤ W.heap.size) := Lib.hid ⟨HT, hown, hll, hgr, hga, hgj, hrow, hsz⟩
        clear hcl hex hM HT hown hll hgr hga hgj hrow hsz
        gi_wp2
        refine ⟨trivial, ?_⟩
        refine (CallsIn.inRound lp (callsIn_wide.2 (expr_any _ _ _ _ _ _ _))).mono ?_
        rintro e w1 ⟨rfl, hb1⟩
        rw [HEX.out]
        clear n0 n1 n2 n3 HEX
        gi_wp2
        refine ⟨trivial, ?_⟩
        refine (CallsIn.inRound lp (callsIn_wide.2 (HCL.out _))).mono ?_
        rintro e w2 ⟨rfl, hb2⟩
        have hb12 := hb1.trans (hb2.mono hb1.size)
        have HI1 : Hid (RH W0.heap.size w W w2 [(kB, [.slice A xs.length c]), (kO, [(.slice (some ⟨D, 0, none⟩) xs.length xs.length)]), (p0, [.slice A xs.length c, .slice A' ys.length c'])] ∧ w2.ownsRow D 3 1 (.slice (some ⟨D, 0, none⟩) xs.length xs.length) xs.length (l.map I64) ∧ l.length = xs.length ∧ (∀ q (h : q < ys.length), GoodO xs ys l (ys[q]).2.toNat) ∧ (∀ q (h : q < xs.length), j < q → ∀ a ∈ (xs[q]).2.2.2, GoodO xs ys l a.toNat) ∧ GoodO xs ys l j ∧ Row I64 w2 w.heap.size a' v3 ∧ W0.heap.size ≤ w2.heap.size) := Lib.hid ⟨HI0.out.1.later hb12, own_keep' HI0.out.2.1 hb12, HI0.out.2.2.1, HI0.out.2.2.2.1, HI0.out.2.2.2.2.1, HI0.out.2.2.2.2.2.1, HI0.out.2.2.2.2.2.2.1.below (hb12.mono HI0.out.1.held.size), Nat.le_trans HI0.out.2.2.2.2.2.2.2 hb12.size⟩
        clear hb1 hb2 hb12 HI0 hmt hen HCL
        gi_wp2
        gi_loopw [36] (fun iv wr => ∃ (p : Nat) (l : List Int), p ≤ v3.length ∧ iv = .int .i64 p ∧ (RH W0.heap.size w W wr [(kB, [.slice A xs.length c]), (kO, [(.slice (some ⟨D, 0, none⟩) xs.length xs.length)]), (p0, [.slice A xs.length c, .slice A' ys.length c'])] ∧ wr.ownsRow D 3 1 (.slice (some ⟨D, 0, none⟩) xs.length xs.length) xs.length (l.map I64) ∧ l.length = xs.length ∧ (∀ q (h : q < ys.length), GoodO xs ys l (ys[q]).2.toNat) ∧ (∀ q (h : q < xs.length), j < q → ∀ a ∈ (xs[q]).2.2.2, GoodO xs ys l a.toNat) ∧ GoodO xs ys l j ∧ Row I64 wr w.heap.size a' v3 ∧ W0.heap.size ≤ wr.heap.size) ∧ ∀ x (h : x < v3.length), x < p → GoodO xs ys l (v3[x]).toNat) (fun iv _ => v3.length - (intOf iv).toNat)
        case atStart => exact ⟨0, l, Nat.zero_le _, rfl, HI1.out, fun x _ h => by omega⟩
        case round =>
          clear HI1
          obtain ⟨p, l, hp, rfl, ⟨HT, hown, hll, hgr, hga, hgj, hr, hsz⟩, hgx⟩ := hrel
          by_cases hlt2 : p < v3.length
          · obtain ⟨b3, o3, rfl, hbl3, hc⟩ := hr.at hlt2
            obtain ⟨⟨hin0, hin1⟩, hov⟩ := HAI.out _ (List.getElem_mem hlt2)
            obtain ⟨m, hm⟩ : ∃ m : Nat, v3[p] = (m : Int) := ⟨(v3[p]).toNat, by omega⟩
            have e2 : ((m : Int)).toNat = m := by omega
            rw [hm, e2] at hin1 hov
            rw [hm] at hc
            have hmx : m < xs.length := by omega
            have hlm : m < l.length := by omega
            have hlj : j < l.length := by omega
            have hvj : l[j] = ownV xs ys m := by
              have := hgj
              unfold GoodO at this
              rw [List.getElem?_eq_getElem hlj] at this
              rw [hov]
              exact Option.some.inj this
            obtain ⟨z, hz⟩ : ∃ z, z = ownV xs ys m := ⟨_, rfl⟩
            rw [← hz] at hvj
            have hown := World.ownsRow.drew hown
            have hd := hown.cellAt m (by omega)
            have hf := hown.frozenAt m
            have hdj := hown.cellAt j (by omega)
            rw [List.getElem?_map, List.getElem?_eq_getElem hlm, Option.map_some] at hd
            obtain ⟨zo, hzo⟩ : ∃ z, z = l[m] := ⟨_, rfl⟩
            rw [← hzo] at hd
            rw [List.getElem?_map, List.getElem?_eq_getElem hlj, Option.map_some, hvj] at hdj
            have HD7 := Lib.hid (And.intro hd hf)
            have hC : wr.drew.cell? ⟨kO, 0, none⟩ = some (.slice (some ⟨D, 0, none⟩) xs.length xs.length) := (HT.drew.box 1).c 0
            have hDj : wr.drew.cell? ⟨D, j, none⟩ = some (.int .i64 z) := hdj
            have HAF : Hid ((wr.drew.setCell ⟨D, m, none⟩ (.int .i64 z)).cell? ⟨kO, 0, none⟩ = some (.slice (some ⟨D, 0, none⟩) xs.length xs.length) ∧ (wr.drew.setCell ⟨D, m, none⟩ (.int .i64 z)).cell? ⟨D, j, none⟩ = some (.int .i64 z)) := Lib.hid ⟨(World.cell?_setCell_other _ _ _ _ (by intro e; injection e with e; have := HKB.out; omega)).trans hC, (World.cell?_setCell_other _ _ _ _ (by intro e; injection e with e1 e2; omega)).trans hDj⟩
            have hs := (hown.stored m (I64 z)).1
            rw [← List.map_set] at hs
            have hrr := hr.below ((Below.refl w.heap.size wr).drew.setCell (p := ⟨D, m, none⟩) (by have := HKB.out; show w.heap.size ≤ D; omega) (.int .i64 z))
            have HS : Hid ((RH W0.heap.size w W (wr.drew.setCell ⟨D, m, none⟩ (.int .i64 z)) [(kB, [.slice A xs.length c]), (kO, [(.slice (some ⟨D, 0, none⟩) xs.length xs.length)]), (p0, [.slice A xs.length c, .slice A' ys.length c'])] ∧ (wr.drew.setCell ⟨D, m, none⟩ (.int .i64 z)).ownsRow D 3 1 (.slice (some ⟨D, 0, none⟩) xs.length xs.length) xs.length ((l.set m z).map I64) ∧ (l.set m z).length = xs.length ∧ (∀ q (h : q < ys.length), GoodO xs ys (l.set m z) (ys[q]).2.toNat) ∧ (∀ q (h : q < xs.length), j < q → ∀ a ∈ (xs[q]).2.2.2, GoodO xs ys (l.set m z) a.toNat) ∧ GoodO xs ys (l.set m z) j ∧ Row I64 (wr.drew.setCell ⟨D, m, none⟩ (.int .i64 z)) w.heap.size (some ⟨b3, o3, none⟩) v3 ∧ W0.heap.size ≤ (wr.drew.setCell ⟨D, m, none⟩ (.int .i64 z)).heap.size) ∧ ∀ x (h : x < v3.length), x < p + 1 → GoodO xs ys (l.set m z) (v3[x]).toNat) := Lib.hid ⟨⟨HT.drew.far (by have := HKB.out; omega) HNE.out _, hs, by rw [List.length_set]; exact hll, by rw [hz]; exact fun q h => goodO_set (hgr q h), by rw [hz]; exact fun q h hq a ha => goodO_set (hga q h hq a ha), by rw [hz]; exact goodO_set hgj, hrr, by simpa using hsz⟩, fun x h hx => by
              rw [hz]
              by_cases e : x = p
              · subst e
                rw [hm, e2]
                exact goodO_new hlm
              · exact goodO_set (hgx x h (by omega))⟩
            have hmlt : (m : Int) < (xs.length : Int) := by omega
            have hmge : (0 : Int) ≤ (m : Int) := by omega
            have hjlt : (j : Int) < (xs.length : Int) := by omega
            have hjge : (0 : Int) ≤ (j : Int) := by omega
            have hlt2' : (p : Int) < (v3.length : Int) := by omega
            have hge2' : (0 : Int) ≤ (p : Int) := by omega
            clear hs hrr hown hr hll hgr hga hgj hgx hm hin0 hin1 hov hz hvj e2 hzo hd hf hdj HT hsz
            gi_wp2
            refine region_round (S := fun w' => w'.cell? ⟨kO, 0, none⟩ = some (.slice (some ⟨D, 0, none⟩) xs.length xs.length) ∧ w'.cell? ⟨D, j, none⟩ = some (.int .i64 z)) (by kernel_rfl) (by rintro ⟨a, w, h⟩; exact h) (by kernel_rfl) ⟨hC, hDj⟩ (fun hHeld => ?_)
            refine wpAnyH_take (i := 0) (oi := { dst := some 40, op := Op.load 49 (Operand.tmp 3), type := 49, pos := "l14_checker.go:111", after := #[], guard := none }) (v := ?_) rfl (by kernel_rfl) (by kernel_rfl) (by kernel_rfl) (fun _ _ _ h => h) (Or.inl ⟨by rfl, ?_⟩) (by assumption) ?_
            rotate_left 1
            · (intro w hSw; (try dsimp only at hSw); go_simp <;> with_reducible rfl)
            (try simp only [Act.put, List.setIfInBounds_toArray, List.set_cons_zero, List.set_cons_succ])
            refine wpAnyH_take (i := 1) (oi := { dst := some 41, op := Op.move (Operand.tmp 9), type := 3, pos := "l14_checker.go:111", after := #[], guard := none }) (v := ?_) rfl (by kernel_rfl) (by kernel_rfl) (by kernel_rfl) (fun _ _ _ h => h) (Or.inl ⟨by rfl, ?_⟩) (by assumption) ?_
            rotate_left 1
            · (intro w hSw; (try dsimp only at hSw); go_simp <;> with_reducible rfl)
            (try simp only [Act.put, List.setIfInBounds_toArray, List.set_cons_zero, List.set_cons_succ])
            refine wpAnyH_take (i := 2) (oi := { dst := some 42, op := Op.load 49 (Operand.tmp 3), type := 49, pos := "l14_checker.go:111", after := #[], guard := none }) (v := ?_) rfl (by kernel_rfl) (by kernel_rfl) (by kernel_rfl) (fun _ _ _ h => h) (Or.inl ⟨by rfl, ?_⟩) (by assumption) ?_
            rotate_left 1
            · (intro w hSw; (try dsimp only at hSw); go_simp <;> with_reducible rfl)
            (try simp only [Act.put, List.setIfInBounds_toArray, List.set_cons_zero, List.set_cons_succ])
            refine wpAnyH_take (i := 3) (oi := { dst := some 43, op := Op.move (Operand.tmp 6), type := 3, pos := "l14_checker.go:111", after := #[], guard := none }) (v := ?_) rfl (by kernel_rfl) (by kernel_rfl) (by kernel_rfl) (fun _ _ _ h => h) (Or.inl ⟨by rfl, ?_⟩) (by assumption) ?_
            rotate_left 1
            · (intro w hSw; (try dsimp only at hSw); go_simp <;> with_reducible rfl)
            (try simp only [Act.put, List.setIfInBounds_toArray, List.set_cons_zero, List.set_cons_succ])
            refine wpAnyH_take (i := 4) (oi := { dst := some 44, op := Op.indexAddr 49 (Operand.tmp 42) (Operand.tmp 43), type := 0, pos := "l14_checker.go:111", after := #[{ on := 2, ground := Ground.data }, { on := 3, ground := Ground.data }], guard := none }) (v := ?_) rfl (by kernel_rfl) (by kernel_rfl) (by kernel_rfl) (fun _ _ _ h => h) (Or.inl ⟨by rfl, ?_⟩) (by assumption) ?_
            rotate_left 1
            · (intro w hSw; (try dsimp only at hSw); go_simp <;> with_reducible rfl)
            (try simp only [Act.put, List.setIfInBounds_toArray, List.set_cons_zero, List.set_cons_succ])
            refine wpAnyH_take (i := 5) (oi := { dst := some 45, op := Op.load 3 (Operand.tmp 44), type := 3, pos := "l14_checker.go:111", after := #[{ on := 4, ground := Ground.data }], guard := none }) (v := ?_) rfl (by kernel_rfl) (by kernel_rfl) (by kernel_rfl) (fun _ _ _ h => h) (Or.inl ⟨by rfl, ?_⟩) (by assumption) ?_
            rotate_left 1
            · (intro w hSw; (try dsimp only at hSw); go_simp <;> with_reducible rfl)
            (try simp only [Act.put, List.setIfInBounds_toArray, List.set_cons_zero, List.set_cons_succ])
            refine wpAnyH_take (i := 6) (oi := { dst := some 46, op := Op.indexAddr 49 (Operand.tmp 40) (Operand.tmp 41), type := 0, pos := "l14_checker.go:111", after := #[{ on := 0, ground := Ground.data }, { on := 1, ground := Ground.data }, { on := 0, ground := Ground.phase }, { on := 1, ground := Ground.phase }, { on := 2, ground := Ground.phase }, { on := 3, ground := Ground.phase }, { on := 4, ground := Ground.phase }, { on := 5, ground := Ground.phase }], guard := none }) (v := ?_) rfl (by kernel_rfl) (by kernel_rfl) (by kernel_rfl) (fun _ _ _ h => h) (Or.inl ⟨by rfl, ?_⟩) (by assumption) ?_
            rotate_left 1
            · (intro w hSw; (try dsimp only at hSw); go_simp <;> with_reducible rfl)
            (try simp only [Act.put, List.setIfInBounds_toArray, List.set_cons_zero, List.set_cons_succ])
            refine wpAnyH_ready (rs := [7]) (by kernel_rfl) (by simp) ?_
            refine AllReadyH.cons (o := { dst := none, op := Op.store 3 (Operand.tmp 46) (Operand.tmp 45), type := 0, pos := "l14_checker.go:111", after := #[{ on := 6, ground := Ground.data }, { on := 5, ground := Ground.data }, { on := 0, ground := Ground.phase }, { on := 1, ground := Ground.phase }, { on := 2, ground := Ground.phase }, { on := 3, ground := Ground.phase }, { on := 4, ground := Ground.phase }, { on := 5, ground := Ground.phase }], guard := none }) rfl (fun K hK => ?_) ?_
            · have d7 := HD7.out.1
              have f7 := HD7.out.2
              go_simp
              refine hK.out _ _ (by (try dsimp only); exact HAF.out) (fun hHeld => ?_)
              clear d7 f7
              clear hK K
              (try simp only [Act.put, List.setIfInBounds_toArray, List.set_cons_zero, List.set_cons_succ])
              refine wpAnyH_done (by kernel_rfl) ?_ _
              clear hHeld
              gi_wp2
              go_roundw
              case rel => exact ⟨p + 1, _, by omega, by go_num, HS.out⟩
              case measure => simp [intOf]; omega
            exact AllReadyH.nil
          · obtain rfl : p = v3.length := by omega
            have HQ : Hid (RH W0.heap.size w W wr [(kB, [.slice A xs.length c]), (kO, [(.slice (some ⟨D, 0, none⟩) xs.length xs.length)]), (p0, [.slice A xs.length c, .slice A' ys.length c'])] ∧ wr.ownsRow D 3 1 (.slice (some ⟨D, 0, none⟩) xs.length xs.length) xs.length (l.map I64) ∧ l.length = xs.length ∧ (∀ q (h : q < ys.length), GoodO xs ys l (ys[q]).2.toNat) ∧ (∀ q (h : q < xs.length), xs.length - (k + 1) ≤ q → ∀ a ∈ (xs[q]).2.2.2, GoodO xs ys l a.toNat) ∧ W0.heap.size ≤ wr.heap.size) := Lib.hid ⟨HT, hown, hll, hgr, fun q h hq a ha => by
              by_cases e : q = j
              · subst e
                exact HV3.out l (fun x hx => hgx x hx hx) a (by rw [← HVV.out] at ha; exact ha)
              · exact hga q h (by have := HJK.out; omega) a ha, hsz⟩
            have hge2 : ¬ ((v3.length : Nat) : Int) < ((v3.length : Nat) : Int) := by omega
            clear hown hll hgr hga hgj hr hgx HT hsz
            gi_wp2
            exact ⟨HQ.out.1.keep, HQ.out.1.held, l, HQ.out.2.1, HQ.out.2.2.1, HQ.out.2.2.2.1, fun q h hq => HQ.out.2.2.2.2.1 q h (by omega), HQ.out.2.2.2.2.2⟩
      case done =>
        rintro D' W' hD ⟨l, HT, hown, hll, hgr, hga, hsz⟩ hK
        have hgall : ∀ i, i < xs.length → GoodO xs ys l i := fun i hi => by
          rcases node_ref HOK.out hi with ⟨q, hq, e⟩ | ⟨q, hq, hjq, ha⟩
          · have := hgr q hq
            rw [e] at this
            simpa using this
          · have := hga q hq (by omega) _ ha
            simpa using this
        have hll' := goodO_all hll hgall
        have c7 := (HT.box 1).c 0
        have HB := Lib.hid HT.below
        have HOW := Lib.hid hown
        have HLL := Lib.hid hll'
        have HKH := Lib.hid hK
        have HWD : Hid (w.heap.size ≤ D) := Lib.hid (by have := HKB.out; omega)
        clear hown hll hgr hga hgall hll' HT hsz hK h0 H0
        go_wp2_with fail
        refine ⟨by simp, .inl ⟨_, _, rfl, run_takeDeferred HKH.out, ?_⟩⟩
        refine ⟨_, results_tmp rfl _ _ _, _, rfl, ?_, HB.out.trans (belowK_b (w := w) (Nat.le_refl _) W' D' _ _ (by have := HWB.out; omega) HKH.out rfl rfl)⟩
        have h2 := ownsRow_putObj HOW.out (.deferred none) HKH.out rfl
        rw [← HLL.out]
        exact own_base h2 HWD.out
      case stop =>
        rintro D' c' W' _ h _
        exact h.elim
end Go.Proofs.Ytpcdlehicdepaaa
