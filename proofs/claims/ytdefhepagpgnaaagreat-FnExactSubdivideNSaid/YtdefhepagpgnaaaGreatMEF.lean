/- Contracts of EdgeFaces, in the program and in its model. -/
import Derived.Test.YtdefhepagpgnaaaGreatProg
import Derived.Test.YtdefhepagpgnaaaGreatInts
import Derived.Test.YtdefhepagpgnaaaGreatVbox
import Derived.Test.YtdefhepagpgnaaaGreatVec
import Derived.Test.YtdefhepagpgnaaaGreatHeld
import Derived.Test.YtdefhepagpgnaaaGreatMem
import Derived.Test.YtdefhepagpgnaaaGreatRowC
import Derived.Test.YtdefhepagpgnaaaGreatIntS
import Derived.Test.YtdefhepagpgnaaaGreatVecS
import Derived.Test.YtdefhepagpgnaaaGreatSS
import Derived.Test.YtdefhepagpgnaaaGreatMkA
import Derived.Test.YtdefhepagpgnaaaGreatMkB
import Derived.Test.YtdefhepagpgnaaaGreatMkC
import Derived.Test.YtdefhepagpgnaaaGreatMkD
import Derived.Test.YtdefhepagpgnaaaGreatMF
import Derived.Test.YtdefhepagpgnaaaGreatMG
import Derived.Test.YtdefhepagpgnaaaGreatMH
import Derived.Test.YtdefhepagpgnaaaGreatMM
import Derived.Test.YtdefhepagpgnaaaGreatMN
import Derived.Test.YtdefhepagpgnaaaGreatMV
import Derived.Test.YtdefhepagpgnaaaGreatMW
import Derived.Test.YtdefhepagpgnaaaGreatMVF
import Derived.Test.YtdefhepagpgnaaaGreatMT
import Derived.Test.YtdefhepagpgnaaaGreatME
import Derived.WalkKit
import Derived.WalkSpells
import Derived.WalkLawsBesides
import Derived.Lib.Hide
import Derived.Deep.RegionHeld3
import Derived.Deep.QuietTactic
import Derived.BigQuiet
import Derived.Handy
import Derived.Deep.DeepCutAuto
import Derived.OwnWalk
import Derived.Maps.RangeWalk
import Derived.Maps.Ext
import Derived.Maps.OwnOps
import Derived.Maps.Views
import Derived.Maps.AppendAt
import Derived.WideKeyEntry
import Derived.DeepKeys5
import Derived.ChangeKeysEq
import Derived.WalkArith
import Derived.OpenShut
namespace Go.Proofs.YtdefhepagpgnaaaGreat
open Go.RowKit Go.Maps Go.ChangeMaps


/-- a slice of slices, all in blocks from lo on and below hi -/
def SSIn (w : World) (lo hi g : Nat) (ps : Lot) : Prop := lo ≤ g ∧ g < hi ∧ Row hdr w hi (some ⟨g, 0, none⟩) ps ∧ ∀ p ∈ ps, Mbox w p.1 (p.2.map I64) ∧ lo ≤ p.1 ∧ p.1 < hi
theorem SSIn.keep {w w' : World} {lo hi g : Nat} {ps : Lot} (h : SSIn w lo hi g ps) (hk : ∀ k, lo ≤ k → k < hi → w'.heap[k]? = w.heap[k]?) : SSIn w' lo hi g ps :=
  ⟨h.1, h.2.1, h.2.2.1.keepAt (hk g h.1 h.2.1), fun p hp => ⟨(h.2.2.2 p hp).1.keep fun _ => hk _ (h.2.2.2 p hp).2.1 (h.2.2.2 p hp).2.2, (h.2.2.2 p hp).2⟩⟩
theorem SSIn.below {w w' : World} {lo hi g B : Nat} {ps : Lot} (h : SSIn w lo hi g ps) (hb : Below B w w') (hB : hi ≤ B) : SSIn w' lo hi g ps := h.keep fun k _ hk => hb.block k (by omega)
theorem SSIn.at {w : World} {lo hi g : Nat} {ps : Lot} (h : SSIn w lo hi g ps) {k : Nat} (hk : k < ps.length) : w.cell? ⟨g, k, none⟩ = some (hdr ps[k]) ∧ Mbox w ps[k].1 (ps[k].2.map I64) := by
  obtain ⟨b, o, e, _, hc⟩ := h.2.2.1.at hk
  simp only [Option.some.injEq, Addr.mk.injEq, and_true] at e
  obtain ⟨rfl, rfl⟩ := e
  rw [Nat.zero_add] at hc
  exact ⟨hc, (h.2.2.2 _ (List.getElem_mem hk)).1⟩
/-- what a call hands back, when it holds something -/
theorem SSIn.of {w w' : World} {v : Value} {ps : Lot} (ho : w'.ownsRow w.heap.size 45 1 v ps.length (ps.map hdr)) (hl : LotT w' ps) (hge : ∀ p ∈ ps, w.heap.size ≤ p.1) (h0 : 0 < ps.length) : ∃ g c, v = .slice (some ⟨g, 0, none⟩) ps.length c ∧ SSIn w' w.heap.size w'.heap.size g ps := by
  rcases ho.2 with ⟨h, h1⟩ | ⟨g, cap, cur, h, hb, hh, _⟩
  · omega
  · have ho' := ho
    rw [h] at ho'
    exact ⟨g, cap, h, hb, (ho'.lt g rfl).2, Row.of_own ho', fun p hp => ⟨(hl.1.2 p hp).1, hge p hp, (hl.1.2 p hp).2⟩⟩
/-- is (x, y) the edge (a, b), in one direction or the other? -/
def matchB (x y a b : Int) : Bool := (x == a && y == b) || (x == b && y == a)
theorem und_match (x y a b : Int) : und (x, y) = und (a, b) ↔ matchB x y a b = true := by
  unfold und mnP mxP matchB
  simp only [Prod.mk.injEq, Bool.or_eq_true, Bool.and_eq_true, beq_iff_eq]
  split <;> split <;> split <;> split <;> omega
theorem TabOf.look {w : World} {base b n : Nat} {S : List (E2 × Int)} (h : TabOf w base b n S) (e : E2) (he : wfE e) :
    ∃ v, (Instr.lookup 72 (.map (some b)) (keyV e) false).run Tryz.prog w = .ok v w ∧ w.ownsRow base 3 1 v (atE S e).length ((atE S e).map I64) := by
  obtain ⟨D, V, hown, hmap, hat, hhas, hrow, hap⟩ := h
  have hkey : keyOf Tryz.prog 81 (keyV e) = some (ek e) := keyOf_edge e.1 e.2 he.1 he.2
  obtain ⟨v, ps, hr, hv⟩ := hown.lookup mKeyed Tryz.underlying72 (z := nilS) (zeroSlice w) (zd := .held nilS) rfl hkey
  rw [hat e he] at hv
  have h1 := rawR_inv hv
  simp only [Prod.mk.injEq, DataW.held.injEq] at h1
  exact ⟨v, hr, by rw [← h1.1]; exact hrow e⟩
theorem atE_app (S T : List (E2 × Int)) (e : E2) : atE (S ++ T) e = atE S e ++ atE T e := by simp [atE]
theorem tab_len (vs : List V3) (fs : List (List Int)) (e : E2) : (atE (tabL vs fs) e).length ≤ 1048576 := by
  refine Nat.le_trans (atE_len _ _) ?_
  unfold tabL
  split
  · rename_i h
    have h1 := ok_all h
    rw [tabTo_len fs (fun f hf => (okFace_at (h1.2.2 f hf)).1) _ (Nat.le_refl _)]
    omega
  · simp
theorem atE_nil (e : E2) : atE [] e = [] := rfl
set_option maxRecDepth 100000 in
set_option maxHeartbeats 4000000 in
theorem edgeFaces_any (A1 A2 : Option Addr) (c1 c2 : Nat) (vs : List V3) (fs : List (List Int)) (x y : Int) (w : World) (hR : MeshIn w A1 A2 vs fs) (hf : MeshFits vs fs) (hx : wfI x) (hy : wfI y) :
    Calls Tryz.prog 65 #[mv A1 A2 vs.length c1 fs.length c2, .int .i64 x, .int .i64 y] w (IntOut w (atE (tabL vs fs) (und (x, y)))) := by
  have HIN := Lib.hid hR
  have HF := Lib.hid hf
  have HT0 : Held w (w.alloc (.cells #[.slice A1 vs.length c1, .slice A2 fs.length c2] 29)) [(w.heap.size, [.slice A1 vs.length c1, .slice A2 fs.length c2])] := by
    have h := (Held.nil w).new #[.slice A1 vs.length c1, .slice A2 fs.length c2] 29
    simpa only [World.size_alloc] using h
  have HI : ∀ {bs : List (Nat × List Value)} (W : World), Held w W bs → MeshIn W A1 A2 vs fs := fun W h => ⟨(HIN.out.1.below h.below).more h.size, (HIN.out.2.below h.below).more h.size⟩
  have HT := Lib.hid HT0
  clear hR hf HT0
  have HC := edgeTable_any A1 A2 c1 c2 vs fs _ (HI _ HT.out) HF.out
  have HWE : Hid (wfE (und (x, y))) := Lib.hid (wf_und ⟨hx, hy⟩)
  have c0' := (HT.out.box 0).c 0
  have c1' := (HT.out.box 0).c 1
  obtain ⟨S, hS⟩ : ∃ S, S = tabL vs fs := ⟨_, rfl⟩
  rw [← hS] at HC ⊢
  clear hS hx hy
  go_enter Tryz.func65, Tryz.ntmps65
  go_wp2_with fail
  refine HC.mono ?_
  rintro e w1 ⟨n, rfl, hn, ht1, hb1⟩
  have HT1 := Lib.hid (HT.out.later hb1)
  have HS1 := Lib.hid ht1
  simp only [World.size_alloc] at HS1 ⊢
  clear hb1 ht1 HC HT c0' c1' hn
  go_wp2_with fail
  refine (undirected_any x y _).mono ?_
  rintro e w2 ⟨rfl, hb2⟩
  have HT2 := Lib.hid (HT1.out.later hb2)
  obtain ⟨v, hlk, ho⟩ := (HS1.out.later hb2).look (und (x, y)) HWE.out
  obtain ⟨A5, c5, rfl⟩ := own_shape ho
  have HO := Lib.hid (own_base (base' := w.heap.size) ho (by omega))
  clear hb2 ho HS1 HT1
  go_wp2_with fail
  go_ret
  exact ⟨A5, c5, rfl, HO.out, HT2.out.below⟩

set_option maxRecDepth 100000 in
set_option maxHeartbeats 16000000 in
theorem sEdgeFaces_any (A1 A2 : Option Addr) (c1 c2 : Nat) (vs : List V3) (fs : List (List Int)) (p0 p1 : Int) (w : World) (hR : MeshIn w A1 A2 vs fs) (hf : MeshFits vs fs) :
    Calls Tryz.prog 51 #[mv A1 A2 vs.length c1 fs.length c2, .int .i64 p0, .int .i64 p1] w (IntOut w (atE (tabL vs fs) (und (p0, p1)))) := by
  have HIN := Lib.hid hR
  have HF := Lib.hid hf
  have HT0 : Held w (w.alloc (.cells #[.slice A1 vs.length c1, .slice A2 fs.length c2] 29)) [(w.heap.size, [.slice A1 vs.length c1, .slice A2 fs.length c2])] := by
    have h := (Held.nil w).new #[.slice A1 vs.length c1, .slice A2 fs.length c2] 29
    simpa only [World.size_alloc] using h
  have HI : ∀ {bs : List (Nat × List Value)} (W : World), Held w W bs → MeshIn W A1 A2 vs fs := fun W h => ⟨(HIN.out.1.below h.below).more h.size, (HIN.out.2.below h.below).more h.size⟩
  have HT := Lib.hid HT0
  clear hR hf HT0
  have HT1 := Lib.hid (HT.out.alloc (.cells #[] 3))
  have ho1 := own_base (base' := w.heap.size + 1) (made_none (w.alloc (.cells #[.slice A1 vs.length c1, .slice A2 fs.length c2] 29)) 3) (by simp)
  simp only [World.size_alloc] at ho1
  have HO1 := Lib.hid ho1
  clear ho1
  have c0' := (HT1.out.box 0).c 0
  have c1' := (HT1.out.box 0).c 1
  obtain ⟨ok, hok⟩ : ∃ ok, ok = okMesh vs fs := ⟨_, rfl⟩
  have HOK := Lib.hid hok
  have HC := sValidMesh_any A1 A2 c1 c2 vs fs _ (HI _ HT1.out) HF.out
  rw [← hok] at HC
  clear hok HT
  obtain ⟨E, hE⟩ : ∃ E, E = und (p0, p1) := ⟨_, rfl⟩
  have HE0 := Lib.hid hE
  rw [← hE]
  clear hE
  go_enter Tryz.func51, Tryz.ntmps51
  go_wp2_with fail
  refine HC.mono ?_
  rintro e w1 ⟨rfl, hb1⟩
  have HT2 := Lib.hid (HT1.out.later hb1)
  have HO2 := Lib.hid (own_keep' HO1.out hb1)
  clear hb1 HT1 HO1 c0' c1' HC
  cases ok
  · have HE : Hid (atE (tabL vs fs) E = []) := Lib.hid (by unfold tabL; rw [← HOK.out]; rfl)
    go_wp2_with fail
    go_ret
    rw [HE.out]
    exact intOut_nil _ _ HT2.out.below
  · have hok := ok_all HOK.out.symm
    have hlen := hok.2.1
    have HOF := Lib.hid hok.2.2
    have HVL := Lib.hid hok.1
    clear hok
    have c1' := (HT2.out.box 0).c 1
    go_wp2
    go_loopw [7, 19] (fun v i wr => ∃ k : Nat, k ≤ fs.length ∧ i = .int .i64 k ∧ wr.ownsRow (w.heap.size + 1) 3 1 v (atE (tabTo fs k) E).length ((atE (tabTo fs k) E).map I64) ∧ Held w wr [(w.heap.size, [.slice A1 vs.length c1, .slice A2 fs.length c2])]) (fun _ i _ => fs.length - (intOf i).toNat)
    case atStart => exact ⟨0, Nat.zero_le _, rfl, HO2.out, HT2.out⟩
    case round =>
      clear c1' HT2 HO2
      obtain ⟨k, hk, rfl, hown, ht⟩ := hrel
      have HO := Lib.hid hown
      have HT := Lib.hid ht
      clear hown ht
      by_cases hlt : k < fs.length
      · obtain ⟨b, o, a, cc, rfl, hbl, hc, hle, hcm, hrow⟩ := HIN.out.2.at hlt
        have hc' := (HT.out.below.cell (p := ⟨b, o + k, none⟩) hbl).trans hc
        have hrow' := (hrow.below HT.out.below).more HT.out.size
        have HTS := Lib.hid (tabTo_succ fs k hlt)
        have HFO := Lib.hid (HOF.out _ (List.getElem_mem hlt))
        have HTL := Lib.hid (tabTo_len fs (fun f hf => (okFace_at (HOF.out f hf)).1) k (by omega))
        obtain ⟨f, hf⟩ : ∃ f, f = fs[k] := ⟨_, rfl⟩
        rw [← hf] at hc' hrow'
        simp only [← hf] at HTS HFO
        have HF4 := Lib.hid (okFace_at HFO.out).1
        have HLEN : Hid ((stepsL f).length = 4) := Lib.hid (by rw [stepsL_len, HF4.out])
        have HFC := sSteps_any a cc f wr hrow' (by have := HF4.out; omega)
        clear hf hc hrow hrow' hle hcm
        go_wp2_with fail
        refine HFC.mono ?_
        rintro e w2 ⟨v2, ps, rfl, ho2, hsn, hl2, hge, hb3⟩
        have HPL : Hid (ps.length = 4) := Lib.hid (by have := congrArg List.length hsn; simpa [HLEN.out] using this)
        obtain ⟨g, cp, rfl, hss⟩ := SSIn.of ho2 hl2 hge (by have := HPL.out; omega)
        have HSN := Lib.hid hsn
        have hold := (HO.out.lt · · |>.2)
        obtain ⟨L2, hL2⟩ : ∃ n, n = wr.heap.size := ⟨_, rfl⟩
        obtain ⟨L3, hL3⟩ : ∃ n, n = w2.heap.size := ⟨_, rfl⟩
        rw [← hL2] at hss hold
        rw [← hL3] at hss
        have HSS := Lib.hid hss
        have HO2 := Lib.hid (own_keep' HO.out hb3)
        have HT2 := Lib.hid (HT.out.later hb3)
        have HL3 : Hid (L3 ≤ w2.heap.size) := Lib.hid (by omega)
        have HOLD : Hid (∀ q, u7.ownBlock = some q → q < L2 ∨ L3 ≤ q) := Lib.hid fun q hq => Or.inl (hold q hq)
        have hp4 := HPL.out
        rw [hp4]
        clear hb3 ho2 HFC hc' HT HO hsn hl2 hge hss hold hL2 hL3 hp4
        go_wp2
        go_loopw [7, 27] (fun v i wi => ∃ j : Nat, j ≤ 4 ∧ i = .int .i64 j ∧ wi.ownsRow (w.heap.size + 1) 3 1 v (atE (tabTo fs k ++ (faceS f k).take j) E).length ((atE (tabTo fs k ++ (faceS f k).take j) E).map I64) ∧ (∀ q, v.ownBlock = some q → q < L2 ∨ L3 ≤ q) ∧ SSIn wi L2 L3 g ps ∧ L3 ≤ wi.heap.size ∧ Held w wi [(w.heap.size, [.slice A1 vs.length c1, .slice (some ⟨b, o, none⟩) fs.length c2])]) (fun _ i _ => 4 - (intOf i).toNat)
        case atStart => exact ⟨0, by omega, rfl, by simpa using HO2.out, HOLD.out, HSS.out, HL3.out, HT2.out⟩
        case round =>
          clear HO2 HT2 HOLD HSS HL3
          obtain ⟨j, hj, rfl, hown, hold, hss, hl3, ht⟩ := hrel
          have HO := Lib.hid hown
          have HT := Lib.hid ht
          have HOLD := Lib.hid hold
          have HSS := Lib.hid hss
          have HL3 := Lib.hid hl3
          clear hown ht hold hss hl3
          by_cases hjl : j < 4
          · have hjp : j < ps.length := by rw [HPL.out]; exact hjl
            have hjs : j < (stepsL f).length := by rw [HLEN.out]; exact hjl
            obtain ⟨hcell, hmb⟩ := HSS.out.at hjp
            have hpe : ps[j].2 = pr (stepsL f)[j] := by
              have h1 := congrArg (fun l => l[j]?) HSN.out
              simp only [List.getElem?_map, List.getElem?_eq_getElem hjp, List.getElem?_eq_getElem hjs, Option.map_some, Option.some.injEq] at h1
              exact h1
            have HTK := Lib.hid (faceS_take f k j hjs)
            obtain ⟨ed, hed⟩ : ∃ e, e = (stepsL f)[j] := ⟨_, rfl⟩
            obtain ⟨p, hp⟩ : ∃ p, p = ps[j] := ⟨_, rfl⟩
            rw [← hp, ← hed] at hpe
            rw [← hp] at hcell hmb
            simp only [← hed] at HTK
            obtain ⟨g', l⟩ := p
            obtain ⟨x, y⟩ := ed
            simp only [pr] at hpe
            subst hpe
            simp only [hdr, List.length_cons, List.length_nil, Nat.zero_add, Nat.reduceAdd] at hcell
            have d0 : wr.cell? ⟨g', 0, none⟩ = some (.int .i64 x) := hmb.c 0
            have d1 : wr.cell? ⟨g', 1, none⟩ = some (.int .i64 y) := hmb.c 1
            have HAL : Hid ((atE (tabTo fs k ++ (faceS f k).take j) E).length ≤ 1048576) := Lib.hid (by
              have h := atE_len (tabTo fs k ++ (faceS f k).take j) E
              rw [List.length_append, HTL.out, List.length_take] at h
              omega)
            obtain ⟨Lj, hLj⟩ : ∃ l, l = atE (tabTo fs k ++ (faceS f k).take j) E := ⟨_, rfl⟩
            have HLJ := Lib.hid hLj
            rw [← hLj] at HO HAL
            clear hp hed hmb hjp hjs hLj
            by_cases hM : matchB x y p0 p1 = true
            · have HNX : Hid (atE (tabTo fs k ++ (faceS f k).take (j + 1)) E = Lj ++ [(k : Int)]) := Lib.hid (by
                rw [HTK.out, ← List.append_assoc, (und_match x y p0 p1).2 hM, ← HE0.out, atE_same, ← HLJ.out])
              clear HTK HLJ
              rcases hq0 : x == p0 <;> rcases hq1 : y == p1 <;> rcases hq2 : x == p1 <;> rcases hq3 : y == p0 <;> simp [matchB, hq0, hq1, hq2, hq3] at hM
              all_goals
                go_wp2_with (at_builtin; refine wpList_app1_at _ rfl _ _ 45 rfl (w.heap.size + 1) 3 (.int .i64 0) 8 Tryz.underlying45 infoInt rfl _ _ _ (by rfl) (HO.out.alloc (.cells #[.int .i64 k] 3)) wr.heap.size (.int .i64 k) (by rfl) (by simp) (by rfl) (by have := HAL.out; unfold maxLen; omega) (by have := HAL.out; omega) (by simp; have := (HT.out.box 0).lt; omega) ?_)
                intro v5 w5 ho5 hg5 hat5
                have hgl : ∀ q, u7.ownBlock = some q → w.heap.size + 1 ≤ q := own_block HO.out
                have HT5 := Lib.hid (heldGrown (HT.out.alloc (.cells #[.int .i64 k] 3)) hg5 (fun q hq => by have := hgl q hq; omega) (fun p hp c => by
                  simp only [List.mem_singleton] at hp
                  subst hp
                  have := hgl _ c.symm
                  omega))
                have HSS5 := Lib.hid (HSS.out.keep (w' := w5) fun q h1 h2 => (hg5.block q (by simp; have := HL3.out; omega) (fun c => by have := HOLD.out q c.symm; omega)).trans (Below.heap_alloc wr _ q (by have := HL3.out; omega)))
                have hl5 : L3 ≤ w5.heap.size := Nat.le_trans (by simp; have := HL3.out; omega) hg5.size
                have HOLD5 : Hid (∀ q, v5.ownBlock = some q → q < L2 ∨ L3 ≤ q) := Lib.hid fun q hq => by
                  rcases hat5 with h | h
                  · rw [h] at hq; exact HOLD.out q hq
                  · rw [h] at hq; injection hq with hq; have := HL3.out; omega
                have HO5 : Hid (w5.ownsRow (w.heap.size + 1) 3 1 v5 (atE (tabTo fs k ++ (faceS f k).take (j + 1)) E).length ((atE (tabTo fs k ++ (faceS f k).take (j + 1)) E).map I64)) := Lib.hid (by rw [HNX.out]; simpa using ho5)
                clear ho5 hg5 hat5 hgl HO HT HSS HOLD
                go_wp2_with fail
                go_roundw
                case rel => exact ⟨j + 1, by omega, by go_num, HO5.out, HOLD5.out, HSS5.out, hl5, HT5.out⟩
                case measure => simp [intOf]; omega
            · have HNX : Hid (atE (tabTo fs k ++ (faceS f k).take (j + 1)) E = Lj) := Lib.hid (by
                rw [HTK.out, ← List.append_assoc, atE_other _ _ (fun c => hM ((und_match x y p0 p1).1 (by rw [← HE0.out]; exact c.symm))), ← HLJ.out])
              have HO5 : Hid (wr.ownsRow (w.heap.size + 1) 3 1 u7 (atE (tabTo fs k ++ (faceS f k).take (j + 1)) E).length ((atE (tabTo fs k ++ (faceS f k).take (j + 1)) E).map I64)) := Lib.hid (by rw [HNX.out]; exact HO.out)
              clear HTK HLJ HNX HO
              rcases hq0 : x == p0 <;> rcases hq1 : y == p1 <;> rcases hq2 : x == p1 <;> rcases hq3 : y == p0 <;> simp [matchB, hq0, hq1, hq2, hq3] at hM
              all_goals
                go_wp2_with fail
                go_roundw
                case rel => exact ⟨j + 1, by omega, by go_num, HO5.out, HOLD.out, HSS.out, HL3.out, HT.out⟩
                case measure => simp [intOf]; omega
          · have e4 : j = 4 := by omega
            subst e4
            have HO5 : Hid (wr.ownsRow (w.heap.size + 1) 3 1 u7 (atE (tabTo fs (k + 1)) E).length ((atE (tabTo fs (k + 1)) E).map I64)) := Lib.hid (by
              have h := HO.out
              rw [List.take_of_length_le (by rw [faceS_len, HF4.out]; omega), ← HTS.out] at h
              exact h)
            clear HO HSS HOLD HL3
            go_wp2
            go_roundw
            case rel => exact ⟨k + 1, by omega, by go_num, HO5.out, HT.out⟩
            case measure => simp [intOf]; omega
      · have e : k = fs.length := by omega
        subst e
        obtain ⟨A5, c5, e5⟩ := own_shape HO.out
        have HFIN : Hid (IntOut w (atE (tabL vs fs) E) (.returned u7) wr) := Lib.hid (by
          have hv : tabL vs fs = tabTo fs fs.length := by unfold tabL; rw [← HOK.out]; rfl
          have ho := HO.out
          rw [e5] at ho
          exact ⟨A5, c5, by rw [e5, hv], by rw [hv]; exact own_base ho (by omega), HT.out.below⟩)
        clear e5 HO HT
        go_wp2
        go_ret
        exact HFIN.out


end Go.Proofs.YtdefhepagpgnaaaGreat
