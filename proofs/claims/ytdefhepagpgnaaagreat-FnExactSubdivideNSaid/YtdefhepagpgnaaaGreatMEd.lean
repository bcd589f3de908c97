/- Contracts of Edges, in the program and in its model. -/
import Derived.Test.YtdefhepagpgnaaaGreatProg
import Derived.Test.YtdefhepagpgnaaaGreatInts
import Derived.Test.YtdefhepagpgnaaaGreatVbox
import Derived.Test.YtdefhepagpgnaaaGreatVec
import Derived.Test.YtdefhepagpgnaaaGreatHeld
import Derived.Test.YtdefhepagpgnaaaGreatMem
import Derived.Test.YtdefhepagpgnaaaGreatRowC
import Derived.Test.YtdefhepagpgnaaaGreatIntS
import Derived.Test.YtdefhepagpgnaaaGreatVecS
import Derived.Test.YtdefhepagpgnaaaGreatSS
import Derived.Test.YtdefhepagpgnaaaGreatMkA
import Derived.Test.YtdefhepagpgnaaaGreatMkB
import Derived.Test.YtdefhepagpgnaaaGreatMkC
import Derived.Test.YtdefhepagpgnaaaGreatMkD
import Derived.Test.YtdefhepagpgnaaaGreatMF
import Derived.Test.YtdefhepagpgnaaaGreatMG
import Derived.Test.YtdefhepagpgnaaaGreatMH
import Derived.Test.YtdefhepagpgnaaaGreatMM
import Derived.Test.YtdefhepagpgnaaaGreatMN
import Derived.Test.YtdefhepagpgnaaaGreatMV
import Derived.Test.YtdefhepagpgnaaaGreatMW
import Derived.Test.YtdefhepagpgnaaaGreatMVF
import Derived.Test.YtdefhepagpgnaaaGreatMT
import Derived.Test.YtdefhepagpgnaaaGreatME
import Derived.Test.YtdefhepagpgnaaaGreatMSo
import Derived.Test.YtdefhepagpgnaaaGreatMSP
import Derived.Test.YtdefhepagpgnaaaGreatMP
import Derived.Test.YtdefhepagpgnaaaGreatMEF
import Derived.WalkKit
import Derived.WalkSpells
import Derived.WalkLawsBesides
import Derived.Lib.Hide
import Derived.Deep.RegionHeld3
import Derived.Deep.QuietTactic
import Derived.BigQuiet
import Derived.Handy
import Derived.Deep.DeepCutAuto
import Derived.OwnWalk
import Derived.Maps.RangeWalk
import Derived.Maps.Ext
import Derived.Maps.OwnOps
import Derived.Maps.Views
import Derived.Maps.AppendAt
import Derived.WideKeyEntry
import Derived.DeepKeys5
import Derived.ChangeKeysEq
import Derived.WalkArith
import Derived.OpenShut
namespace Go.Proofs.YtdefhepagpgnaaaGreat
open Go.RowKit Go.Maps Go.ChangeMaps


/-- the edges of a list, each once, in order -/
def edgesL (es : List E2) : List E2 := es.foldl (fun l e => insE e l) []
theorem edgesL_app (es : List E2) (e : E2) : edgesL (es ++ [e]) = insE e (edgesL es) := by simp [edgesL, List.foldl_append]
theorem edgesL_up (es : List E2) : UpE (edgesL es) := by
  unfold edgesL
  suffices H : ∀ (es l : List E2), UpE l → UpE (es.foldl (fun l e => insE e l) l) from H es [] List.Pairwise.nil
  intro es
  induction es with
  | nil => intro l h; exact h
  | cons a r ih => intro l h; exact ih _ (insE_up a h)
theorem edgesL_mem (es : List E2) (x : E2) : x ∈ edgesL es ↔ x ∈ es := by
  unfold edgesL
  suffices H : ∀ (es l : List E2), x ∈ es.foldl (fun l e => insE e l) l ↔ x ∈ l ∨ x ∈ es by
    have := H es []
    simpa using this
  intro es
  induction es with
  | nil => intro l; simp
  | cons a r ih =>
    intro l
    rw [List.foldl_cons, ih, insE_mem, List.mem_cons]
    constructor
    · rintro ((h | h) | h)
      · exact .inr (.inl h)
      · exact .inl h
      · exact .inr (.inr h)
    · rintro (h | h | h)
      · exact .inl (.inr h)
      · exact .inl (.inl h)
      · exact .inr h
theorem edgesL_len (es : List E2) : (edgesL es).length ≤ es.length := by
  unfold edgesL
  suffices H : ∀ (es l : List E2), (es.foldl (fun l e => insE e l) l).length ≤ l.length + es.length by
    have := H es []
    simpa using this
  intro es
  induction es with
  | nil => intro l; simp
  | cons a r ih =>
    intro l
    rw [List.foldl_cons]
    have h1 := ih (insE a l)
    have h2 := insE_len a l
    simp only [List.length_cons]
    omega
/-- the edges of a mesh -/
def edL (vs : List V3) (fs : List (List Int)) : List E2 := edgesL ((tabL vs fs).map Prod.fst)
theorem tabL_wf {vs : List V3} {fs : List (List Int)} : ∀ e ∈ (tabL vs fs).map Prod.fst, wfE e := by
  intro e he
  unfold tabL at he
  split at he
  · rename_i h
    have hok := ok_all h
    obtain ⟨p, hp, rfl⟩ := List.mem_map.1 he
    unfold tabTo at hp
    obtain ⟨i, hi, hp⟩ := List.mem_flatMap.1 hp
    have hi := List.mem_range.1 hi
    rw [gd fs i [] hi] at hp
    obtain ⟨s, hs, rfl⟩ := List.mem_map.1 hp
    exact wf_und (wf_steps (by have := hok.1; omega) (hok.2.2 _ (List.getElem_mem hi)) s hs)
  · simp at he
theorem tabL_len (vs : List V3) (fs : List (List Int)) : (tabL vs fs).length ≤ 256 := by
  unfold tabL
  split
  · rename_i h
    have h1 := ok_all h
    rw [tabTo_len fs (fun f hf => (okFace_at (h1.2.2 f hf)).1) _ (Nat.le_refl _)]
    have := h1.2.1
    omega
  · simp
theorem edL_len (vs : List V3) (fs : List (List Int)) : (edL vs fs).length ≤ 256 := by
  have h1 := edgesL_len ((tabL vs fs).map Prod.fst)
  have h2 := tabL_len vs fs
  rw [List.length_map] at h1
  unfold edL
  omega
theorem TabOf.keys {w : World} {base b n : Nat} {S : List (E2 × Int)} (h : TabOf w base b n S) {Z : List E2} (hZ : ∀ e, e ∈ Z ↔ e ∈ S.map Prod.fst) : KeysAre w b n Z := by
  obtain ⟨D, V, h1, h2, h3, h4, _⟩ := h
  exact ⟨D, h1, fun e he => by rw [h4 e he]; simp only [hZ e]⟩
theorem SSOut.lower {w w1 w' : World} {xss : List (List Int)} {e : Ending} (h : SSOut w1 xss e w') (hb : Below w.heap.size w w1) : SSOut w xss e w' := by
  obtain ⟨v, ps, h1, h2, h3, h4, h5, h6⟩ := h
  exact ⟨v, ps, h1, own_base h2 hb.size, h3, h4, fun p hp => Nat.le_trans hb.size (h5 p hp), hb.trans (h6.mono hb.size)⟩
/-- a slice of pairs, to read -/
def EdOut (w : World) (l : List E2) (e : Ending) (w' : World) : Prop :=
  ∃ A c, e = .returned (.slice A l.length c) ∧ RowSS w' w'.heap.size A (l.map pr) ∧ Below w.heap.size w w'
set_option maxRecDepth 100000 in
set_option maxHeartbeats 4000000 in
theorem edges_any (A1 A2 : Option Addr) (c1 c2 : Nat) (vs : List V3) (fs : List (List Int)) (w : World) (hR : MeshIn w A1 A2 vs fs) (hf : MeshFits vs fs) :
    Calls Tryz.prog 25 #[mv A1 A2 vs.length c1 fs.length c2] w (SSOut w ((edL vs fs).map pr)) := by
  have HIN := Lib.hid hR
  have HF := Lib.hid hf
  have HT0 : Held w (w.alloc (.cells #[.slice A1 vs.length c1, .slice A2 fs.length c2] 29)) [(w.heap.size, [.slice A1 vs.length c1, .slice A2 fs.length c2])] := by
    have h := (Held.nil w).new #[.slice A1 vs.length c1, .slice A2 fs.length c2] 29
    simpa only [World.size_alloc] using h
  have HI : ∀ {bs : List (Nat × List Value)} (W : World), Held w W bs → MeshIn W A1 A2 vs fs := fun W h => ⟨(HIN.out.1.below h.below).more h.size, (HIN.out.2.below h.below).more h.size⟩
  have HT := Lib.hid HT0
  clear hR hf HT0
  have HC := edgeTable_any A1 A2 c1 c2 vs fs _ (HI _ HT.out) HF.out
  have c0' := (HT.out.box 0).c 0
  have c1' := (HT.out.box 0).c 1
  obtain ⟨S, hS⟩ : ∃ S, S = tabL vs fs := ⟨_, rfl⟩
  have HWF : Hid (∀ e ∈ edL vs fs, wfE e) := Lib.hid fun e he => tabL_wf e ((edgesL_mem _ _).1 he)
  have HUP : Hid (UpE (edL vs fs)) := Lib.hid (edgesL_up _)
  have HKM : Hid (∀ e, e ∈ edL vs fs ↔ e ∈ (tabL vs fs).map Prod.fst) := Lib.hid (edgesL_mem _)
  obtain ⟨Z, hZ⟩ : ∃ Z, Z = edL vs fs := ⟨_, rfl⟩
  rw [← hZ] at HWF HUP HKM ⊢
  rw [← hS] at HC HKM
  clear hS hZ
  go_enter Tryz.func25, Tryz.ntmps25
  go_wp2_with fail
  refine HC.mono ?_
  rintro e w1 ⟨n, rfl, hn, ht1, hb1⟩
  have HT1 := Lib.hid (HT.out.later hb1)
  have hK := sortedPairs_any _ n Z w1 (ht1.keys HKM.out) HUP.out HWF.out (by omega)
  simp only [World.size_alloc] at hK ⊢
  clear hb1 ht1 HC HT c0' c1' hn
  go_wp2_with fail
  refine hK.mono ?_
  rintro e w2 hss
  have HFIN := Lib.hid (hss.lower HT1.out.below)
  obtain ⟨v, ps, rfl, _⟩ := hss
  clear hK HT1
  go_wp2_with fail
  go_ret
  exact HFIN.out

set_option maxRecDepth 100000 in
set_option maxHeartbeats 16000000 in
theorem sEdges_any (A1 A2 : Option Addr) (c1 c2 : Nat) (vs : List V3) (fs : List (List Int)) (w : World) (hR : MeshIn w A1 A2 vs fs) (hf : MeshFits vs fs) :
    Calls Tryz.prog 16 #[mv A1 A2 vs.length c1 fs.length c2] w (EdOut w (edL vs fs)) := by
  have HIN := Lib.hid hR
  have HF := Lib.hid hf
  have HT0 : Held w (w.alloc (.cells #[.slice A1 vs.length c1, .slice A2 fs.length c2] 29)) [(w.heap.size, [.slice A1 vs.length c1, .slice A2 fs.length c2])] := by
    have h := (Held.nil w).new #[.slice A1 vs.length c1, .slice A2 fs.length c2] 29
    simpa only [World.size_alloc] using h
  have HI : ∀ {bs : List (Nat × List Value)} (W : World), Held w W bs → MeshIn W A1 A2 vs fs := fun W h => ⟨(HIN.out.1.below h.below).more h.size, (HIN.out.2.below h.below).more h.size⟩
  have HT := Lib.hid HT0
  clear hR hf HT0
  have HT1 := Lib.hid (HT.out.alloc (.cells #[] 45))
  have HP1 : Hid (PairsIn ((w.alloc (.cells #[.slice A1 vs.length c1, .slice A2 fs.length c2] 29)).alloc (.cells #[] 45)) (.slice (some ⟨w.heap.size + 1, 0, none⟩) 0 0) []) := Lib.hid ⟨w.heap.size + 1, 0, 0, [], rfl, Nat.le_refl _, Nat.zero_le _, Row.nil, SV.nil⟩
  have c0' := (HT1.out.box 0).c 0
  have c1' := (HT1.out.box 0).c 1
  obtain ⟨ok, hok⟩ : ∃ ok, ok = okMesh vs fs := ⟨_, rfl⟩
  have HOK := Lib.hid hok
  have HC := sValidMesh_any A1 A2 c1 c2 vs fs _ (HI _ HT1.out) HF.out
  rw [← hok] at HC
  clear hok HT
  go_enter Tryz.func16, Tryz.ntmps16
  go_wp2_with fail
  refine HC.mono ?_
  rintro e w1 ⟨rfl, hb1⟩
  have HT2 := Lib.hid (HT1.out.later hb1)
  have HP2 := Lib.hid (HP1.out.later hb1)
  clear hb1 HT1 HP1 c0' c1' HC
  cases ok
  · have HE : Hid (edL vs fs = []) := Lib.hid (by unfold edL tabL; rw [← HOK.out]; rfl)
    go_wp2_with fail
    go_ret
    rw [HE.out]
    exact ⟨none, 0, rfl, RowSS.nil, HT2.out.below⟩
  · have hok := ok_all HOK.out.symm
    have hlen := hok.2.1
    have HOF := Lib.hid hok.2.2
    have HVL := Lib.hid hok.1
    clear hok
    have c1' := (HT2.out.box 0).c 1
    go_wp2
    go_loopw [3, 15] (fun v i wr => ∃ k : Nat, k ≤ fs.length ∧ i = .int .i64 k ∧ PairsIn wr v (edgesL ((tabTo fs k).map Prod.fst)) ∧ Held w wr [(w.heap.size, [.slice A1 vs.length c1, .slice A2 fs.length c2])]) (fun _ i _ => fs.length - (intOf i).toNat)
    case atStart => exact ⟨0, Nat.zero_le _, rfl, HP2.out, HT2.out⟩
    case round =>
      clear c1' HT2 HP2
      obtain ⟨k, hk, rfl, hp, ht⟩ := hrel
      have HP := Lib.hid hp
      have HT := Lib.hid ht
      clear hp ht
      by_cases hlt : k < fs.length
      · obtain ⟨b, o, a, cc, rfl, hbl, hc, hle, hcm, hrow⟩ := HIN.out.2.at hlt
        have hc' := (HT.out.below.cell (p := ⟨b, o + k, none⟩) hbl).trans hc
        have hrow' := (hrow.below HT.out.below).more HT.out.size
        have HTS := Lib.hid (tabTo_succ fs k hlt)
        have HFO := Lib.hid (HOF.out _ (List.getElem_mem hlt))
        have HTL := Lib.hid (tabTo_len fs (fun f hf => (okFace_at (HOF.out f hf)).1) k (by omega))
        obtain ⟨f, hf⟩ : ∃ f, f = fs[k] := ⟨_, rfl⟩
        rw [← hf] at hc' hrow'
        simp only [← hf] at HTS HFO
        have HF4 := Lib.hid (okFace_at HFO.out).1
        have HLEN : Hid ((stepsL f).length = 4) := Lib.hid (by rw [stepsL_len, HF4.out])
        have HFC := sSteps_any a cc f wr hrow' (by have := HF4.out; omega)
        clear hf hc hrow hrow' hle hcm
        go_wp2_with fail
        refine HFC.mono ?_
        rintro e w2 ⟨v2, ps, rfl, ho2, hsn, hl2, hge, hb3⟩
        have HPL : Hid (ps.length = 4) := Lib.hid (by have := congrArg List.length hsn; simpa [HLEN.out] using this)
        obtain ⟨g, cp, rfl, hss⟩ := SSIn.of ho2 hl2 hge (by have := HPL.out; omega)
        have HSN := Lib.hid hsn
        obtain ⟨L2, hL2⟩ : ∃ n, n = wr.heap.size := ⟨_, rfl⟩
        rw [← hL2] at hss
        have HSS := Lib.hid hss
        have HP2 := Lib.hid (HP.out.later hb3)
        have HT2 := Lib.hid (HT.out.later hb3)
        have hp4 := HPL.out
        rw [hp4]
        clear hb3 ho2 HFC hc' HT HP hsn hl2 hge hss hL2 hp4
        go_wp2
        go_loopw [3, 22] (fun v i wi => ∃ j : Nat, j ≤ 4 ∧ i = .int .i64 j ∧ PairsIn wi v (edgesL ((tabTo fs k ++ (faceS f k).take j).map Prod.fst)) ∧ Below w2.heap.size w2 wi) (fun _ i _ => 4 - (intOf i).toNat)
        case atStart => exact ⟨0, by omega, rfl, by simpa using HP2.out, Below.refl _ _⟩
        case round =>
          clear HP2
          obtain ⟨j, hj, rfl, hp, hb⟩ := hrel
          have HP := Lib.hid hp
          have HB := Lib.hid hb
          clear hp hb
          by_cases hjl : j < 4
          · have hjp : j < ps.length := by rw [HPL.out]; exact hjl
            have hjs : j < (stepsL f).length := by rw [HLEN.out]; exact hjl
            obtain ⟨hcell, hmb⟩ := (HSS.out.below HB.out (Nat.le_refl _)).at hjp
            have hpe : ps[j].2 = pr (stepsL f)[j] := by
              have h1 := congrArg (fun l => l[j]?) HSN.out
              simp only [List.getElem?_map, List.getElem?_eq_getElem hjp, List.getElem?_eq_getElem hjs, Option.map_some, Option.some.injEq] at h1
              exact h1
            have HTK := Lib.hid (faceS_take f k j hjs)
            obtain ⟨ed, hed⟩ : ∃ e, e = (stepsL f)[j] := ⟨_, rfl⟩
            obtain ⟨p, hp⟩ : ∃ p, p = ps[j] := ⟨_, rfl⟩
            rw [← hp, ← hed] at hpe
            rw [← hp] at hcell hmb
            simp only [← hed] at HTK
            obtain ⟨g', l⟩ := p
            obtain ⟨x, y⟩ := ed
            simp only [pr] at hpe
            subst hpe
            simp only [hdr, List.length_cons, List.length_nil, Nat.zero_add, Nat.reduceAdd] at hcell
            have d0 : wr.cell? ⟨g', 0, none⟩ = some (.int .i64 x) := hmb.c 0
            have d1 : wr.cell? ⟨g', 1, none⟩ = some (.int .i64 y) := hmb.c 1
            have hgl : g' < wr.heap.size := World.block_lt_of_cell? wr _ d0
            have HNX : Hid (edgesL ((tabTo fs k ++ (faceS f k).take (j + 1)).map Prod.fst) = insE (mnP x y, mxP x y) (edgesL ((tabTo fs k ++ (faceS f k).take j).map Prod.fst))) := Lib.hid (by
              rw [HTK.out, ← List.append_assoc, List.map_append, ← edgesL_app]
              rfl)
            obtain ⟨g5, o5, c5, us, rfl, hc5, hm5, hr5, hv5⟩ := HP.out
            obtain ⟨Lj, hLj⟩ : ∃ l, l = edgesL ((tabTo fs k ++ (faceS f k).take j).map Prod.fst) := ⟨_, rfl⟩
            have HLL : Hid (Lj.length ≤ 1048576) := Lib.hid (by
              have h := edgesL_len ((tabTo fs k ++ (faceS f k).take j).map Prod.fst)
              rw [← hLj, List.length_map, List.length_append, HTL.out, List.length_take] at h
              omega)
            rw [← hLj] at hc5 hv5 ⊢
            simp only [← hLj] at HNX
            have HPR : ∀ W, Held wr W [] → Row id W W.heap.size (some ⟨g5, o5, none⟩) us ∧ SV W W.heap.size us Lj := fun W h => ⟨(hr5.below h.below).more h.size, (hv5.below h.below).more h.size⟩
            have HC : ∀ W, Held wr W [] → (W.cell? ⟨g', 0, none⟩ = some (.int .i64 x) ∧ W.cell? ⟨g', 1, none⟩ = some (.int .i64 y)) := fun W h => ⟨(h.below.cell (p := ⟨g', 0, none⟩) hgl).trans d0, (h.below.cell (p := ⟨g', 1, none⟩) hgl).trans d1⟩
            have HQ : Held wr wr [] := Held.nil wr
            have HCM := Lib.hid hm5
            have HPRH := Lib.hid HPR
            clear hp hed hmb hjp hjs hLj hr5 hv5 HP HPR hm5 HTK
            go_wp2_with fail
            go_region_held3 (fun w' => w'.cell? ⟨g', 0, none⟩ = some (.int .i64 x) ∧ w'.cell? ⟨g', 1, none⟩ = some (.int .i64 y))
              (first | (with_reducible exact HC _ HQ) | (with_reducible exact HC _ HQ.drew))
              (first | (go_at_call 41; refine (l01Min_any _ _ _).mono ?_; rintro e w' ⟨rfl, rfl⟩) | (go_at_call 42; refine (l01Max_any _ _ _).mono ?_; rintro e w' ⟨rfl, rfl⟩) | (go_at_call 40; refine (put_any g5 o5 c5 us Lj _ _ _ (by first | with_reducible exact (HPRH.out _ HQ).1 | with_reducible exact (HPRH.out _ HQ.drew).1) (by first | with_reducible exact (HPRH.out _ HQ).2 | with_reducible exact (HPRH.out _ HQ.drew).2) hc5 HCM.out HLL.out).mono ?_; rintro e w1 ⟨v1, rfl, hp1, hb1⟩; (first | (have HQ := HQ.later hb1) | (have HQ := HQ.drew.later hb1))))
            all_goals
              have HP6 : Hid (PairsIn w1 v1 (edgesL ((tabTo fs k ++ (faceS f k).take (j + 1)).map Prod.fst))) := Lib.hid (by rw [HNX.out]; exact hp1)
              have HB6 := Lib.hid (HB.out.trans (HQ.below.mono HB.out.size))
              clear hp1 HQ HC
              go_wp2_with fail
              go_roundw
              case rel => exact ⟨j + 1, by omega, by go_num, HP6.out, HB6.out⟩
              case measure => simp [intOf]; omega
          · have e4 : j = 4 := by omega
            subst e4
            have HP5 : Hid (PairsIn wr u3 (edgesL ((tabTo fs (k + 1)).map Prod.fst))) := Lib.hid (by
              have h := HP.out
              rw [List.take_of_length_le (by rw [faceS_len, HF4.out]; omega), ← HTS.out] at h
              exact h)
            have HT5 := Lib.hid (HT2.out.later HB.out)
            clear HP HB HT2
            go_wp2
            go_roundw
            case rel => exact ⟨k + 1, by omega, by go_num, HP5.out, HT5.out⟩
            case measure => simp [intOf]; omega
      · have e : k = fs.length := by omega
        subst e
        have hv : edL vs fs = edgesL ((tabTo fs fs.length).map Prod.fst) := by unfold edL tabL; rw [← HOK.out]; rfl
        have HFIN : Hid (EdOut w (edL vs fs) (.returned u3) wr) := Lib.hid (by
          have h := HP.out
          rw [← hv] at h
          obtain ⟨g, off, c, us, rfl, h1, h2, h3, h4⟩ := h
          exact ⟨_, c, rfl, (PairsIn.rowSS ⟨g, off, c, us, rfl, h1, h2, h3, h4⟩).2, HT.out.below⟩)
        clear hv HP HT
        go_wp2
        go_ret
        exact HFIN.out


end Go.Proofs.YtdefhepagpgnaaaGreat
