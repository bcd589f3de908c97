/- Contracts of Neighbors, in the program and in its model. -/
import Derived.Test.YtdefhepagpgnaaaGreatProg
import Derived.Test.YtdefhepagpgnaaaGreatInts
import Derived.Test.YtdefhepagpgnaaaGreatVbox
import Derived.Test.YtdefhepagpgnaaaGreatVec
import Derived.Test.YtdefhepagpgnaaaGreatHeld
import Derived.Test.YtdefhepagpgnaaaGreatMem
import Derived.Test.YtdefhepagpgnaaaGreatRowC
import Derived.Test.YtdefhepagpgnaaaGreatIntS
import Derived.Test.YtdefhepagpgnaaaGreatVecS
import Derived.Test.YtdefhepagpgnaaaGreatSS
import Derived.Test.YtdefhepagpgnaaaGreatMkA
import Derived.Test.YtdefhepagpgnaaaGreatMkB
import Derived.Test.YtdefhepagpgnaaaGreatMkC
import Derived.Test.YtdefhepagpgnaaaGreatMkD
import Derived.Test.YtdefhepagpgnaaaGreatMF
import Derived.Test.YtdefhepagpgnaaaGreatMG
import Derived.Test.YtdefhepagpgnaaaGreatMH
import Derived.Test.YtdefhepagpgnaaaGreatMM
import Derived.Test.YtdefhepagpgnaaaGreatMN
import Derived.Test.YtdefhepagpgnaaaGreatMV
import Derived.Test.YtdefhepagpgnaaaGreatMW
import Derived.Test.YtdefhepagpgnaaaGreatMVF
import Derived.Test.YtdefhepagpgnaaaGreatMT
import Derived.Test.YtdefhepagpgnaaaGreatME
import Derived.Test.YtdefhepagpgnaaaGreatMSo
import Derived.Test.YtdefhepagpgnaaaGreatMSP
import Derived.Test.YtdefhepagpgnaaaGreatMP
import Derived.Test.YtdefhepagpgnaaaGreatMEF
import Derived.Test.YtdefhepagpgnaaaGreatMEd
import Derived.Test.YtdefhepagpgnaaaGreatMLw
import Derived.WalkKit
import Derived.WalkSpells
import Derived.WalkLawsBesides
import Derived.Lib.Hide
import Derived.Deep.RegionHeld3
import Derived.Deep.QuietTactic
import Derived.BigQuiet
import Derived.Handy
import Derived.Deep.DeepCutAuto
import Derived.OwnWalk
import Derived.Maps.RangeWalk
import Derived.Maps.Ext
import Derived.Maps.OwnOps
import Derived.Maps.Views
import Derived.Maps.AppendAt
import Derived.WideKeyEntry
import Derived.DeepKeys5
import Derived.ChangeKeysEq
import Derived.WalkArith
import Derived.OpenShut
namespace Go.Proofs.YtdefhepagpgnaaaGreat
open Go.RowKit Go.Maps Go.ChangeMaps


/-- the other end of an edge at v -/
def nbOf (v : Int) (e : E2) : List Int := if e.1 = v then [e.2] else if e.2 = v then [e.1] else []
def nbL (v : Int) (Z : List E2) : List Int := Z.flatMap (nbOf v)
theorem nbL_succ (v : Int) (Z : List E2) (k : Nat) (h : k < Z.length) : nbL v (Z.take (k + 1)) = nbL v (Z.take k) ++ nbOf v Z[k] := by
  unfold nbL
  rw [List.take_succ_eq_append_getElem h, List.flatMap_append]
  simp
theorem nbL_len (v : Int) (Z : List E2) : (nbL v Z).length ≤ Z.length := by
  unfold nbL
  induction Z with
  | nil => simp
  | cons a r ih =>
    rw [List.flatMap_cons, List.length_append, List.length_cons]
    have : (nbOf v a).length ≤ 1 := by unfold nbOf; split <;> (try split) <;> simp
    omega
theorem nb_lt {v : Int} {e f : E2} (h : ltE e f = true) (he : e.1 < e.2) (hf : f.1 < f.2) {x y : Int} (hx : x ∈ nbOf v e) (hy : y ∈ nbOf v f) : x < y := by
  simp only [ltE, decide_eq_true_eq] at h
  unfold nbOf at hx hy
  split at hx <;> (try split at hx) <;> simp at hx <;> split at hy <;> (try split at hy) <;> simp at hy <;> omega
theorem insE_last (e : E2) : ∀ (l : List E2), (∀ a ∈ l, ltE a e = true) → insE e l = l ++ [e]
  | [], _ => rfl
  | a :: l, h => by
    unfold insE
    rw [if_pos (h a List.mem_cons_self), insE_last e l (fun b hb => h b (List.mem_cons_of_mem _ hb))]
    rfl
theorem four {f : List Int} (h : f.length = 4) : ∃ a b c d, f = [a, b, c, d] := by
  match f, h with
  | [a, b, c, d], _ => exact ⟨a, b, c, d, rfl⟩
theorem und_strict {x y : Int} (h : x ≠ y) : (und (x, y)).1 < (und (x, y)).2 := by
  unfold und mnP mxP
  dsimp only
  split <;> split <;> omega
theorem steps_ne {n : Nat} {f : List Int} (h : okFace n f = true) : ∀ e ∈ stepsL f, e.1 ≠ e.2 := by
  obtain ⟨h4, hat⟩ := okFace_at h
  obtain ⟨a, b, c, d, rfl⟩ := four h4
  have h1 := hat 1 (by simp)
  have h2 := hat 2 (by simp)
  have h3 := hat 3 (by simp)
  simp [okAt] at h1 h2 h3
  intro e he
  have hs : stepsL [a, b, c, d] = [(a, b), (b, c), (c, d), (d, a)] := by simp [stepsL, stepAt, List.range, List.range.loop]
  rw [hs] at he
  simp only [List.mem_cons, List.not_mem_nil, or_false] at he
  rcases he with rfl | rfl | rfl | rfl <;> dsimp only <;> omega
theorem edL_strict {vs : List V3} {fs : List (List Int)} : ∀ e ∈ edL vs fs, e.1 < e.2 := by
  intro e he
  have he := (edgesL_mem _ _).1 he
  unfold tabL at he
  split at he
  · rename_i h
    have hok := ok_all h
    obtain ⟨p, hp, rfl⟩ := List.mem_map.1 he
    unfold tabTo at hp
    obtain ⟨i, hi, hp⟩ := List.mem_flatMap.1 hp
    have hi := List.mem_range.1 hi
    rw [gd fs i [] hi] at hp
    obtain ⟨s, hs, rfl⟩ := List.mem_map.1 hp
    exact und_strict (steps_ne (hok.2.2 _ (List.getElem_mem hi)) s hs)
  · simp at he
theorem nb_take {v : Int} {Z : List E2} (hu : UpE Z) (hs : ∀ e ∈ Z, e.1 < e.2) {k : Nat} (hk : k < Z.length) : ∀ x ∈ nbL v (Z.take k), ∀ y ∈ nbOf v Z[k], x < y := by
  intro x hx y hy
  obtain ⟨e, he, hx⟩ := List.mem_flatMap.1 hx
  obtain ⟨i, hi, rfl⟩ := List.getElem_of_mem he
  simp at hi
  rw [List.getElem_take] at hx
  exact nb_lt (List.pairwise_iff_getElem.1 hu i k (by omega) hk (by omega)) (hs _ (List.getElem_mem _)) (hs _ (List.getElem_mem _)) hx hy
def zr (x : Int) : E2 := (x, 0)
theorem ins_zr {L : List Int} {x : Int} (h : ∀ y ∈ L, y < x) : insE (x, 0) (L.map zr) = (L ++ [x]).map zr := by
  rw [insE_last]
  · simp [zr]
  · intro a ha
    obtain ⟨y, hy, rfl⟩ := List.mem_map.1 ha
    simp [ltE, zr, h y hy]
/-- a pair out of a slice of pairs -/
theorem RowSS.pair {w : World} {B : Nat} {A : Option Addr} {l : List E2} (h : RowSS w B A (l.map pr)) {k : Nat} (hk : k < l.length) :
    ∃ b o g1 o1 c1, A = some ⟨b, o, none⟩ ∧ b < B ∧ w.cell? ⟨b, o + k, none⟩ = some (.slice (some ⟨g1, o1, none⟩) 2 c1) ∧ g1 < B ∧ w.cell? ⟨g1, o1, none⟩ = some (.int .i64 l[k].1) ∧ w.cell? ⟨g1, o1 + 1, none⟩ = some (.int .i64 l[k].2) := by
  obtain ⟨b, o, a, c, e, hb, hc, _, _, hr⟩ := h.at (k := k) (by simpa using hk)
  simp only [List.getElem_map] at hc hr
  obtain ⟨g1, o1, e1, hg, hin⟩ := hr (by simp [pr])
  subst e1
  exact ⟨b, o, g1, o1, c, e, hb, hc, hg, hin 0 (by simp [pr]), hin 1 (by simp [pr])⟩
/-- the neighbours of a vertex -/
def nbM (vs : List V3) (fs : List (List Int)) (v : Int) : List Int := nbL v (edL vs fs)
theorem nbM_len (vs : List V3) (fs : List (List Int)) (v : Int) : (nbM vs fs v).length ≤ 1048576 := by
  have h1 := nbL_len v (edL vs fs)
  have h2 := edL_len vs fs
  unfold nbM
  omega
set_option maxRecDepth 100000 in
set_option maxHeartbeats 4000000 in
theorem otherEnds_any (A : Option Addr) (c : Nat) (Z : List E2) (v : Int) (w : World) (hR : RowSS w w.heap.size A (Z.map pr)) (hl : Z.length ≤ 256) :
    Calls Tryz.prog 60 #[.slice A Z.length c, .int .i64 v] w (IntOut w (nbL v Z)) := by
  have HZL := Lib.hid hl
  have HR := Lib.hid hR
  have HO0 := Lib.hid (World.ownsRow_nil w w.heap.size 3 1)
  clear hl hR
  go_enter Tryz.func60, Tryz.ntmps60
  go_wp2
  go_loopw [5, 10] (fun u i wr => ∃ k : Nat, k ≤ Z.length ∧ i = .int .i64 k ∧ wr.ownsRow w.heap.size 3 1 u (nbL v (Z.take k)).length ((nbL v (Z.take k)).map I64) ∧ Below w.heap.size w wr) (fun _ i _ => Z.length - (intOf i).toNat)
  case atStart => exact ⟨0, Nat.zero_le _, rfl, HO0.out, Below.refl _ _⟩
  case round =>
    clear HO0
    obtain ⟨k, hk, rfl, hown, hb⟩ := hrel
    have HO := Lib.hid hown
    have HB := Lib.hid hb
    clear hown hb
    by_cases hlt : k < Z.length
    · have hz := HZL.out
      obtain ⟨b, o, g1, o1, c2', rfl, hbl, hc, hg1, hd0, hd1⟩ := HR.out.pair hlt
      have hc' := (HB.out.cell (p := ⟨b, o + k, none⟩) hbl).trans hc
      have d0 := (HB.out.cell (p := ⟨g1, o1, none⟩) hg1).trans hd0
      have d1 := (HB.out.cell (p := ⟨g1, o1 + 1, none⟩) hg1).trans hd1
      have HSU := Lib.hid (nbL_succ v Z k hlt)
      have HLN : Hid ((nbL v (Z.take k)).length ≤ 256) := Lib.hid (by
        have h1 := nbL_len v (Z.take k)
        have := HZL.out
        rw [List.length_take] at h1
        omega)
      obtain ⟨ed, hed⟩ : ∃ e, e = Z[k] := ⟨_, rfl⟩
      rw [← hed] at d0 d1
      simp only [← hed] at HSU
      obtain ⟨p, q⟩ := ed
      clear hed hc hd0 hd1
      by_cases h1 : v = p
      · subst h1
        have HS : Hid (nbL v (Z.take (k + 1)) = nbL v (Z.take k) ++ [q]) := Lib.hid (by rw [HSU.out]; simp [nbOf])
        go_wp2_with (at_builtin; refine wpList_app1 wr rfl _ _ 45 rfl w.heap.size 3 (.int .i64 0) 8 Tryz.underlying45 infoInt rfl _ _ _ (by rfl) HO.out (.int .i64 q) (by rfl) (by rfl) (by have := HLN.out; unfold maxLen; omega) (by have := HLN.out; omega) HB.out.size ?_)
        intro v4 w4 ho4 hg4
        have HB4 := Lib.hid (below_own HB.out hg4 HB.out.size (fun q hq => own_block HO.out q hq))
        have HO4 : Hid (w4.ownsRow w.heap.size 3 1 v4 (nbL v (Z.take (k + 1))).length ((nbL v (Z.take (k + 1))).map I64)) := Lib.hid (by rw [HS.out]; simpa using ho4)
        clear ho4 hg4 HO HB
        go_wp2_with fail
        go_roundw
        case rel => exact ⟨k + 1, by omega, by go_num, HO4.out, HB4.out⟩
        case measure => simp [intOf]; omega
      · by_cases h2 : v = q
        · subst h2
          have h1' : ¬ p = v := fun h => h1 h.symm
          have HS : Hid (nbL v (Z.take (k + 1)) = nbL v (Z.take k) ++ [p]) := Lib.hid (by rw [HSU.out]; simp [nbOf, h1'])
          go_wp2_with (at_builtin; refine wpList_app1 wr rfl _ _ 45 rfl w.heap.size 3 (.int .i64 0) 8 Tryz.underlying45 infoInt rfl _ _ _ (by rfl) HO.out (.int .i64 p) (by rfl) (by rfl) (by have := HLN.out; unfold maxLen; omega) (by have := HLN.out; omega) HB.out.size ?_)
          intro v4 w4 ho4 hg4
          have HB4 := Lib.hid (below_own HB.out hg4 HB.out.size (fun q hq => own_block HO.out q hq))
          have HO4 : Hid (w4.ownsRow w.heap.size 3 1 v4 (nbL v (Z.take (k + 1))).length ((nbL v (Z.take (k + 1))).map I64)) := Lib.hid (by rw [HS.out]; simpa using ho4)
          clear ho4 hg4 HO HB
          go_wp2_with fail
          go_roundw
          case rel => exact ⟨k + 1, by omega, by go_num, HO4.out, HB4.out⟩
          case measure => simp [intOf]; omega
        · have h1' : ¬ p = v := fun h => h1 h.symm
          have h2' : ¬ q = v := fun h => h2 h.symm
          have HS : Hid (nbL v (Z.take (k + 1)) = nbL v (Z.take k)) := Lib.hid (by rw [HSU.out]; simp [nbOf, h1', h2'])
          clear h1' h2'
          go_wp2
          go_roundw
          case rel => exact ⟨k + 1, by omega, by go_num, by rw [HS.out]; exact HO.out, HB.out⟩
          case measure => simp [intOf]; omega
    · have e : k = Z.length := by omega
      obtain ⟨A6, c6, e6⟩ := own_shape HO.out
      have HFIN : Hid (IntOut w (nbL v Z) (.returned u5) wr) := Lib.hid (by
        have ho := HO.out
        rw [e6, e, List.take_length] at ho
        exact ⟨A6, c6, by rw [e6, e, List.take_length], ho, HB.out⟩)
      clear e6 e HO HB
      go_wp2
      go_ret
      exact HFIN.out

set_option maxRecDepth 100000 in
set_option maxHeartbeats 4000000 in
theorem neighbors_any (A1 A2 : Option Addr) (c1 c2 : Nat) (vs : List V3) (fs : List (List Int)) (v : Int) (w : World) (hR : MeshIn w A1 A2 vs fs) (hf : MeshFits vs fs) :
    Calls Tryz.prog 84 #[mv A1 A2 vs.length c1 fs.length c2, .int .i64 v] w (IntOut w (nbM vs fs v)) := by
  have HIN := Lib.hid hR
  have HF := Lib.hid hf
  have HT0 : Held w (w.alloc (.cells #[.slice A1 vs.length c1, .slice A2 fs.length c2] 29)) [(w.heap.size, [.slice A1 vs.length c1, .slice A2 fs.length c2])] := by
    have h := (Held.nil w).new #[.slice A1 vs.length c1, .slice A2 fs.length c2] 29
    simpa only [World.size_alloc] using h
  have HI : ∀ {bs : List (Nat × List Value)} (W : World), Held w W bs → MeshIn W A1 A2 vs fs := fun W h => ⟨(HIN.out.1.below h.below).more h.size, (HIN.out.2.below h.below).more h.size⟩
  have HT := Lib.hid HT0
  clear hR hf HT0
  have HC := edges_any A1 A2 c1 c2 vs fs _ (HI _ HT.out) HF.out
  have c0' := (HT.out.box 0).c 0
  have c1' := (HT.out.box 0).c 1
  have HZL := Lib.hid (edL_len vs fs)
  unfold nbM
  obtain ⟨Z, hZ⟩ : ∃ Z, Z = edL vs fs := ⟨_, rfl⟩
  rw [← hZ] at HC HZL ⊢
  clear hZ
  go_enter Tryz.func84, Tryz.ntmps84
  go_wp2_with fail
  refine HC.mono ?_
  rintro e w1 hss
  obtain ⟨A5, c5, ps, rfl, hps, hown, hb1⟩ := hss.own
  have hr := hown.rowSS (fun p hp => by
    have : p.2 ∈ Z.map pr := by rw [← hps]; exact List.mem_map.2 ⟨p, hp, rfl⟩
    obtain ⟨e, _, he⟩ := List.mem_map.1 this
    rw [← he]; simp [pr]; unfold maxLen; omega)
  rw [hps] at hr
  have HR := Lib.hid hr
  have HT1 := Lib.hid (HT.out.later hb1)
  clear hb1 hss hps hown hr HC HT c0' c1'
  rw [List.length_map]
  go_wp2_with fail
  refine (otherEnds_any A5 c5 Z v _ HR.out HZL.out).mono ?_
  rintro e w2 ⟨A6, c6, rfl, ho, hb2⟩
  have HFIN : Hid (IntOut w (nbL v Z) (.returned (.slice A6 (nbL v Z).length c6)) w2) := Lib.hid ⟨A6, c6, rfl, own_base ho HT1.out.below.size, HT1.out.below.trans (hb2.mono HT1.out.below.size)⟩
  clear ho hb2
  go_wp2_with fail
  go_ret
  exact HFIN.out

set_option maxRecDepth 100000 in
set_option maxHeartbeats 8000000 in
theorem sNeighbors_any (A1 A2 : Option Addr) (c1 c2 : Nat) (vs : List V3) (fs : List (List Int)) (v : Int) (w : World) (hR : MeshIn w A1 A2 vs fs) (hf : MeshFits vs fs) :
    Calls Tryz.prog 50 #[mv A1 A2 vs.length c1 fs.length c2, .int .i64 v] w (IntOut w (nbM vs fs v)) := by
  have HIN := Lib.hid hR
  have HF := Lib.hid hf
  have HT0 : Held w (w.alloc (.cells #[.slice A1 vs.length c1, .slice A2 fs.length c2] 29)) [(w.heap.size, [.slice A1 vs.length c1, .slice A2 fs.length c2])] := by
    have h := (Held.nil w).new #[.slice A1 vs.length c1, .slice A2 fs.length c2] 29
    simpa only [World.size_alloc] using h
  have HI : ∀ {bs : List (Nat × List Value)} (W : World), Held w W bs → MeshIn W A1 A2 vs fs := fun W h => ⟨(HIN.out.1.below h.below).more h.size, (HIN.out.2.below h.below).more h.size⟩
  have HT := Lib.hid HT0
  clear hR hf HT0
  have HT1 := Lib.hid (HT.out.alloc (.cells #[] 45))
  have HP1 : Hid (PairsIn ((w.alloc (.cells #[.slice A1 vs.length c1, .slice A2 fs.length c2] 29)).alloc (.cells #[] 45)) (.slice (some ⟨w.heap.size + 1, 0, none⟩) 0 0) []) := Lib.hid ⟨w.heap.size + 1, 0, 0, [], rfl, Nat.le_refl _, Nat.zero_le _, Row.nil, SV.nil⟩
  have HC := sEdges_any A1 A2 c1 c2 vs fs _ (HI _ HT1.out) HF.out
  have c0' := (HT1.out.box 0).c 0
  have c1' := (HT1.out.box 0).c 1
  have HZL := Lib.hid (edL_len vs fs)
  have HUP : Hid (UpE (edL vs fs)) := Lib.hid (edgesL_up _)
  have HST : Hid (∀ e ∈ edL vs fs, e.1 < e.2) := Lib.hid edL_strict
  unfold nbM
  obtain ⟨Z, hZ⟩ : ∃ Z, Z = edL vs fs := ⟨_, rfl⟩
  rw [← hZ] at HC HZL HUP HST ⊢
  clear hZ HT
  go_enter Tryz.func50, Tryz.ntmps50
  go_wp2_with fail
  refine HC.mono ?_
  rintro e w1 ⟨A5, c5, rfl, hr, hb1⟩
  have HR := Lib.hid hr
  have HT2 := Lib.hid (HT1.out.later hb1)
  have HP2 := Lib.hid (HP1.out.later hb1)
  clear hb1 hr HC HT1 HP1 c0' c1'
  go_wp2
  go_loopw [5, 15] (fun u i wr => ∃ k : Nat, k ≤ Z.length ∧ i = .int .i64 k ∧ PairsIn wr u ((nbL v (Z.take k)).map zr) ∧ Below w1.heap.size w1 wr) (fun _ i _ => Z.length - (intOf i).toNat)
  case atStart => exact ⟨0, Nat.zero_le _, rfl, HP2.out, Below.refl _ _⟩
  case round =>
    clear HP2
    obtain ⟨k, hk, rfl, hp, hb⟩ := hrel
    have HP := Lib.hid hp
    have HB := Lib.hid hb
    clear hp hb
    by_cases hlt : k < Z.length
    · have hz := HZL.out
      obtain ⟨b, o, g1, o1, c2', rfl, hbl, hc, hg1, hd0, hd1⟩ := HR.out.pair hlt
      have hc' := (HB.out.cell (p := ⟨b, o + k, none⟩) hbl).trans hc
      have d0 := (HB.out.cell (p := ⟨g1, o1, none⟩) hg1).trans hd0
      have d1 := (HB.out.cell (p := ⟨g1, o1 + 1, none⟩) hg1).trans hd1
      have HSU := Lib.hid (nbL_succ v Z k hlt)
      have HLN : Hid ((nbL v (Z.take k)).length ≤ 256) := Lib.hid (by
        have h1 := nbL_len v (Z.take k)
        have := HZL.out
        rw [List.length_take] at h1
        omega)
      have HLT : Hid (∀ y, y ∈ nbOf v Z[k] → ∀ x ∈ nbL v (Z.take k), x < y) := Lib.hid fun y hy x hx => nb_take HUP.out HST.out hlt x hx y hy
      have HLS := Lib.hid (HST.out _ (List.getElem_mem hlt))
      obtain ⟨ed, hed⟩ : ∃ e, e = Z[k] := ⟨_, rfl⟩
      rw [← hed] at d0 d1
      simp only [← hed] at HSU HLT HLS
      obtain ⟨p, q⟩ := ed
      obtain ⟨g5, o5, c5', us, rfl, hc5, hm5, hr5, hv5⟩ := HP.out
      have HCM := Lib.hid hm5
      obtain ⟨L, hL⟩ : ∃ L, L = nbL v (Z.take k) := ⟨_, rfl⟩
      rw [← hL] at hc5 hv5 HSU HLN HLT ⊢
      have hpq : p < q := HLS.out
      simp only [List.length_map] at hc5 ⊢
      clear hed hc hd0 hd1 HP hm5 hL HLS
      by_cases h1 : p = v
      · have h1 := h1.symm
        subst h1
        have h2 : ¬ q = v := by omega
        have hput := put_any g5 o5 c5' us (L.map zr) q 0 wr hr5 hv5 (by simpa using hc5) HCM.out (by simp; have := HLN.out; omega)
        rw [List.length_map] at hput
        clear hr5 hv5
        go_wp2_with fail
        refine hput.mono ?_
        clear hput
        rintro e w4 ⟨v4, rfl, hp4, hb4⟩
        have HS : Hid (nbL v (Z.take (k + 1)) = L ++ [q]) := Lib.hid (by rw [HSU.out]; simp [nbOf])
        have HP4 : Hid (PairsIn w4 v4 ((nbL v (Z.take (k + 1))).map zr)) := Lib.hid (by rw [HS.out, ← ins_zr (HLT.out q (by simp [nbOf]))]; exact hp4)
        have HB4 := Lib.hid (HB.out.trans (hb4.mono HB.out.size))
        have d1' := (hb4.cell (p := ⟨g1, o1 + 1, none⟩) (by show g1 < _; have := HB.out.size; omega)).trans d1
        clear hp4 hb4
        go_wp2_with fail
        go_roundw
        case rel => exact ⟨k + 1, by omega, by go_num, HP4.out, HB4.out⟩
        case measure => simp [intOf]; omega
      · by_cases h2 : q = v
        · have h2 := h2.symm
          subst h2
          have hput := put_any g5 o5 c5' us (L.map zr) p 0 wr hr5 hv5 (by simpa using hc5) HCM.out (by simp; have := HLN.out; omega)
          rw [List.length_map] at hput
          clear hr5 hv5
          go_wp2_with fail
          refine hput.mono ?_
          clear hput
          rintro e w4 ⟨v4, rfl, hp4, hb4⟩
          have HS : Hid (nbL v (Z.take (k + 1)) = L ++ [p]) := Lib.hid (by rw [HSU.out]; simp [nbOf, h1])
          have HP4 : Hid (PairsIn w4 v4 ((nbL v (Z.take (k + 1))).map zr)) := Lib.hid (by rw [HS.out, ← ins_zr (HLT.out p (by simp [nbOf, h1]))]; exact hp4)
          have HB4 := Lib.hid (HB.out.trans (hb4.mono HB.out.size))
          have d1' := (hb4.cell (p := ⟨g1, o1 + 1, none⟩) (by show g1 < _; have := HB.out.size; omega)).trans d1
          clear hp4 hb4
          go_wp2_with fail
          go_roundw
          case rel => exact ⟨k + 1, by omega, by go_num, HP4.out, HB4.out⟩
          case measure => simp [intOf]; omega
        · have HS : Hid (nbL v (Z.take (k + 1)) = L) := Lib.hid (by rw [HSU.out]; simp [nbOf, h1, h2])
          have HP4 : Hid (PairsIn wr (.slice (some ⟨g5, o5, none⟩) L.length c5') ((nbL v (Z.take (k + 1))).map zr)) := Lib.hid (by rw [HS.out]; exact ⟨g5, o5, c5', us, by simp, by simpa using hc5, HCM.out, hr5, hv5⟩)
          clear hr5 hv5 hpq
          go_wp2
          go_roundw
          case rel => exact ⟨k + 1, by omega, by go_num, HP4.out, HB.out⟩
          case measure => simp [intOf]; omega
    · have e : k = Z.length := by omega
      have hp := HP.out
      rw [e, List.take_length] at hp
      obtain ⟨g5, o5, c5', us, rfl, hc5, hm5, hr5, hv5⟩ := hp
      have HR5 := Lib.hid (PairsIn.rowSS ⟨g5, o5, c5', us, rfl, hc5, hm5, hr5, hv5⟩).2
      have HNL := Lib.hid (nbL_len v Z)
      obtain ⟨L, hL⟩ : ∃ L, L = nbL v Z := ⟨_, rfl⟩
      rw [← hL] at hc5 hv5 HR5 HNL ⊢
      simp only [List.length_map] at hc5 ⊢
      have HLQ := Lib.hid hL
      have HO0 := Lib.hid (made_none wr 3)
      have HBW : Hid (Below w.heap.size w wr) := Lib.hid (HT2.out.below.trans (HB.out.mono HT2.out.below.size))
      obtain ⟨wo, hwo⟩ : ∃ W : World, W = wr := ⟨_, rfl⟩
      have HWO := Lib.hid hwo
      have HR5' : Hid (RowSS wo wo.heap.size (some ⟨g5, o5, none⟩) (L.map zr |>.map pr)) := Lib.hid (by rw [hwo]; exact HR5.out)
      have HO0' : Hid ((wr.alloc (.cells #[] 3)).ownsRow wo.heap.size 3 1 (.slice (some ⟨wr.heap.size, 0, none⟩) 0 0) 0 []) := Lib.hid (by rw [hwo]; exact HO0.out)
      have HB0 : Hid (Below wo.heap.size wo (wr.alloc (.cells #[] 3))) := Lib.hid (by rw [hwo]; go_grown)
      have HBO : Hid (Below w.heap.size w wo) := Lib.hid (by rw [hwo]; exact HBW.out)
      clear e HP HB hr5 hv5 hm5 hL hwo HR5 HO0 HBW
      go_wp2
      go_loopw [8, 43] (fun u i wi => ∃ j : Nat, j ≤ L.length ∧ i = .int .i64 j ∧ wi.ownsRow wo.heap.size 3 1 u (L.take j).length ((L.take j).map I64) ∧ Below wo.heap.size wo wi) (fun _ i _ => L.length - (intOf i).toNat)
      case atStart => exact ⟨0, Nat.zero_le _, rfl, HO0'.out, HB0.out⟩
      case round =>
        clear HO0' HB0
        obtain ⟨j, hj, rfl, hown, hb⟩ := hrel
        have HO := Lib.hid hown
        have HB := Lib.hid hb
        clear hown hb
        by_cases hjl : j < L.length
        · obtain ⟨b, o, g1, o1, c2', e1, hbl, hc, hg1, hd0, hd1⟩ := HR5'.out.pair (k := j) (by simpa using hjl)
          simp only [Option.some.injEq, Addr.mk.injEq, and_true] at e1
          obtain ⟨rfl, rfl⟩ := e1
          simp only [List.getElem_map, zr] at hd0
          have hc' := (HB.out.cell (p := ⟨g5, o5 + j, none⟩) hbl).trans hc
          have d0 := (HB.out.cell (p := ⟨g1, o1, none⟩) hg1).trans hd0
          have HTK := Lib.hid (List.take_succ_eq_append_getElem hjl)
          obtain ⟨x, hx⟩ : ∃ x, x = L[j] := ⟨_, rfl⟩
          rw [← hx] at d0
          simp only [← hx] at HTK
          have hll : L.length ≤ 256 := by have h1 := HNL.out; have h2 := HZL.out; omega
          clear hx hc hd0 hd1
          go_wp2_with (at_builtin; refine wpList_app1 wr rfl _ _ 45 rfl wo.heap.size 3 (.int .i64 0) 8 Tryz.underlying45 infoInt rfl _ _ _ (by rfl) HO.out (.int .i64 x) (by rfl) (by rfl) (by rw [List.length_take]; unfold maxLen; omega) (by rw [List.length_take]; omega) HB.out.size ?_)
          intro v4 w4 ho4 hg4
          have HB4 := Lib.hid (below_own HB.out hg4 HB.out.size (fun q hq => own_block HO.out q hq))
          have HO4 : Hid (w4.ownsRow wo.heap.size 3 1 v4 (L.take (j + 1)).length ((L.take (j + 1)).map I64)) := Lib.hid (by rw [HTK.out, List.length_append, List.length_take, Nat.min_eq_left (by omega)]; simpa using ho4)
          clear ho4 hg4 HO HB
          go_wp2_with fail
          go_roundw
          case rel => exact ⟨j + 1, by omega, by go_num, HO4.out, HB4.out⟩
          case measure => simp [intOf]; omega
        · have e : j = L.length := by omega
          obtain ⟨A6, c6, e6⟩ := own_shape HO.out
          have HFIN : Hid (IntOut w L (.returned u8) wr) := Lib.hid (by
            have ho := HO.out
            rw [e6, e, List.take_length] at ho
            exact ⟨A6, c6, by rw [e6, e, List.take_length], own_base ho HBO.out.size, HBO.out.trans (HB.out.mono HBO.out.size)⟩)
          clear e6 e HO HB
          go_wp2
          go_ret
          have h := HFIN.out
          rw [HLQ.out] at h
          exact h


end Go.Proofs.YtdefhepagpgnaaaGreat
