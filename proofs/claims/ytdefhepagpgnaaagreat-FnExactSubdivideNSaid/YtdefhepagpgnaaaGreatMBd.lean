/- Contracts of BoundaryEdges and of IsClosed, in the program and in its model. -/
import Derived.Test.YtdefhepagpgnaaaGreatProg
import Derived.Test.YtdefhepagpgnaaaGreatInts
import Derived.Test.YtdefhepagpgnaaaGreatVbox
import Derived.Test.YtdefhepagpgnaaaGreatVec
import Derived.Test.YtdefhepagpgnaaaGreatHeld
import Derived.Test.YtdefhepagpgnaaaGreatMem
import Derived.Test.YtdefhepagpgnaaaGreatRowC
import Derived.Test.YtdefhepagpgnaaaGreatIntS
import Derived.Test.YtdefhepagpgnaaaGreatVecS
import Derived.Test.YtdefhepagpgnaaaGreatSS
import Derived.Test.YtdefhepagpgnaaaGreatMkA
import Derived.Test.YtdefhepagpgnaaaGreatMkB
import Derived.Test.YtdefhepagpgnaaaGreatMkC
import Derived.Test.YtdefhepagpgnaaaGreatMkD
import Derived.Test.YtdefhepagpgnaaaGreatMF
import Derived.Test.YtdefhepagpgnaaaGreatMG
import Derived.Test.YtdefhepagpgnaaaGreatMH
import Derived.Test.YtdefhepagpgnaaaGreatMM
import Derived.Test.YtdefhepagpgnaaaGreatMN
import Derived.Test.YtdefhepagpgnaaaGreatMV
import Derived.Test.YtdefhepagpgnaaaGreatMW
import Derived.Test.YtdefhepagpgnaaaGreatMVF
import Derived.Test.YtdefhepagpgnaaaGreatMT
import Derived.Test.YtdefhepagpgnaaaGreatME
import Derived.Test.YtdefhepagpgnaaaGreatMSo
import Derived.Test.YtdefhepagpgnaaaGreatMSP
import Derived.Test.YtdefhepagpgnaaaGreatMP
import Derived.Test.YtdefhepagpgnaaaGreatMEF
import Derived.Test.YtdefhepagpgnaaaGreatMEd
import Derived.Test.YtdefhepagpgnaaaGreatMLw
import Derived.Test.YtdefhepagpgnaaaGreatMNb
import Derived.Test.YtdefhepagpgnaaaGreatMB
import Derived.WalkKit
import Derived.WalkSpells
import Derived.WalkLawsBesides
import Derived.Lib.Hide
import Derived.Deep.RegionHeld3
import Derived.Deep.QuietTactic
import Derived.BigQuiet
import Derived.Handy
import Derived.Deep.DeepCutAuto
import Derived.OwnWalk
import Derived.Maps.RangeWalk
import Derived.Maps.Ext
import Derived.Maps.OwnOps
import Derived.Maps.Views
import Derived.Maps.AppendAt
import Derived.WideKeyEntry
import Derived.DeepKeys5
import Derived.ChangeKeysEq
import Derived.WalkArith
import Derived.OpenShut
namespace Go.Proofs.YtdefhepagpgnaaaGreat
open Go.RowKit Go.Maps Go.ChangeMaps


theorem atE_pos {S : List (E2 × Int)} {e : E2} (h : e ∈ S.map Prod.fst) : 1 ≤ (atE S e).length := by
  obtain ⟨p, hp, rfl⟩ := List.mem_map.1 h
  unfold atE
  rw [List.length_map]
  exact List.length_pos_of_mem (List.mem_filter.2 ⟨hp, by simp⟩)
/-- the edges with one face -/
def bdOf (S : List (E2 × Int)) (e : E2) : Bool := decide ((atE S e).length = 1)
def bdL (vs : List V3) (fs : List (List Int)) : List E2 := (edL vs fs).filter (bdOf (tabL vs fs))
theorem bdL_iff (vs : List V3) (fs : List (List Int)) (e : E2) : e ∈ bdL vs fs ↔ e ∈ (tabL vs fs).map Prod.fst ∧ ¬ 1 < (atE (tabL vs fs) e).length := by
  unfold bdL bdOf edL
  rw [List.mem_filter, edgesL_mem, decide_eq_true_eq]
  constructor
  · rintro ⟨h1, h2⟩
    exact ⟨h1, by omega⟩
  · rintro ⟨h1, h2⟩
    exact ⟨h1, by have := atE_pos h1; omega⟩
theorem bdL_len (vs : List V3) (fs : List (List Int)) : (bdL vs fs).length ≤ 256 := Nat.le_trans (List.length_filter_le _ _) (edL_len vs fs)
def closedB (vs : List V3) (fs : List (List Int)) : Bool := okMesh vs fs && decide (0 < fs.length) && decide ((bdL vs fs).length = 0)
theorem und_id {e : E2} (h : e.1 < e.2) : und e = e := by
  unfold und mnP mxP
  rw [if_neg (by omega), if_pos h]
set_option maxRecDepth 100000 in
set_option maxHeartbeats 4000000 in
theorem boundary_any (A1 A2 : Option Addr) (c1 c2 : Nat) (vs : List V3) (fs : List (List Int)) (w : World) (hR : MeshIn w A1 A2 vs fs) (hf : MeshFits vs fs) :
    Calls Tryz.prog 61 #[mv A1 A2 vs.length c1 fs.length c2] w (SSOut w ((bdL vs fs).map pr)) := by
  have HIN := Lib.hid hR
  have HF := Lib.hid hf
  have HT0 : Held w (w.alloc (.cells #[.slice A1 vs.length c1, .slice A2 fs.length c2] 29)) [(w.heap.size, [.slice A1 vs.length c1, .slice A2 fs.length c2])] := by
    have h := (Held.nil w).new #[.slice A1 vs.length c1, .slice A2 fs.length c2] 29
    simpa only [World.size_alloc] using h
  have HI : ∀ {bs : List (Nat × List Value)} (W : World), Held w W bs → MeshIn W A1 A2 vs fs := fun W h => ⟨(HIN.out.1.below h.below).more h.size, (HIN.out.2.below h.below).more h.size⟩
  have HT := Lib.hid HT0
  clear hR hf HT0
  have HC := edgeTable_any A1 A2 c1 c2 vs fs _ (HI _ HT.out) HF.out
  have c0' := (HT.out.box 0).c 0
  have c1' := (HT.out.box 0).c 1
  have HWF : Hid (∀ e ∈ bdL vs fs, wfE e) := Lib.hid fun e he => tabL_wf e ((bdL_iff vs fs e).1 he).1
  have HUP : Hid (UpE (bdL vs fs)) := Lib.hid ((edgesL_up _).filter _)
  have HKM := Lib.hid (bdL_iff vs fs)
  obtain ⟨Z, hZ⟩ : ∃ Z, Z = bdL vs fs := ⟨_, rfl⟩
  obtain ⟨S, hS⟩ : ∃ S, S = tabL vs fs := ⟨_, rfl⟩
  rw [← hZ] at HWF HUP ⊢
  rw [← hS] at HC
  simp only [← hZ, ← hS] at HKM
  clear hZ hS
  go_enter Tryz.func61, Tryz.ntmps61
  go_wp2_with fail
  refine HC.mono ?_
  rintro e w1 ⟨n, rfl, hn, ht1, hb1⟩
  have HT1 := Lib.hid (HT.out.later hb1)
  simp only [World.size_alloc] at ht1 ⊢
  have hD := deleteFunc_any _ _ n S Z w1 ht1 HKM.out
  clear hb1 ht1 HC HT c0' c1'
  go_wp2_with fail
  refine hD.mono ?_
  rintro e w2 ⟨rfl, hk2, hg2⟩
  have hK := sortedPairs_any _ n Z w2 hk2 HUP.out HWF.out (by omega)
  have HB2 := Lib.hid (below_own HT1.out.below hg2 HT1.out.size (fun q hq => by injection hq with hq; omega))
  clear hD hk2 hg2 HT1
  go_wp2_with fail
  refine hK.mono ?_
  rintro e w3 hss
  have HFIN := Lib.hid (hss.lower HB2.out)
  obtain ⟨v, ps, rfl, _⟩ := hss
  clear hK HB2
  go_wp2_with fail
  go_ret
  exact HFIN.out



/-- what was laid stays: cells of an empty block may be there or not -/
def KeptC (B : Nat) (w w' : World) : Prop := ∀ p v, p.block < B → w.cell? p = some v → w'.cell? p = some v
theorem RowSS.keepC {w w' : World} {B : Nat} {A : Option Addr} {xss : List (List Int)} (h : RowSS w B A xss) (hk : KeptC B w w') : RowSS w' B A xss := fun hn => by
  obtain ⟨b, o, e, hb, hc⟩ := h hn
  refine ⟨b, o, e, hb, fun k hk' => ?_⟩
  obtain ⟨a, c, h1, h2, h3, h4⟩ := hc k hk'
  exact ⟨a, c, hk _ _ hb h1, h2, h3, fun h0 => by
    obtain ⟨b1, o1, e1, hb1, hc1⟩ := h4 h0
    exact ⟨b1, o1, e1, hb1, fun j hj => hk _ _ hb1 (hc1 j hj)⟩⟩
theorem KeptC.grown {B : Nat} {w w' w'' : World} {row : Option Nat} (h : KeptC B w w') (hg : w'.grownBy w'' row) (hB : B ≤ w'.heap.size) (hr : ∀ q, row = some q → B ≤ q ∨ ∀ o s, w.cell? ⟨q, o, s⟩ = none) : KeptC B w w'' := fun p v hp hc => by
  have hne : some p.block ≠ row := fun e => by
    rcases hr _ e.symm with h1 | h1
    · omega
    · have := h1 p.off p.spot
      rw [hc] at this
      cases this
  exact (World.cell?_of_block (hg.block p.block (by omega) hne)).trans (h p v hp hc)
theorem cell_empty {w : World} {g : Nat} {t : TypeId} {fz : Nat × Nat} (h : w.heap[g]? = some (.cells #[] t fz)) (o : Nat) (s : Option _) : w.cell? ⟨g, o, s⟩ = none := by
  cases s
  · simp [World.cell?, h]
  · simp [World.cell?, h]

theorem ownKC {w w' : World} {base : Nat} {e : TypeId} {v : Value} {n : Nat} {xs : List Value} (h : w.ownsRow base e 1 v n xs) (hb : Below w.heap.size w w') : w'.ownsRow base e 1 v n xs := own_keep' h hb
theorem flt_succ {α : Type} (p : α → Bool) (Z : List α) (k : Nat) (h : k < Z.length) : (Z.take (k + 1)).filter p = (Z.take k).filter p ++ (if p Z[k] then [Z[k]] else []) := by
  rw [List.take_succ_eq_append_getElem h, List.filter_append]
  congr 1
  rw [List.filter_cons]
  split <;> simp
theorem SV.keepC {w w' : World} {B : Nat} {us : List Value} {l : List E2} (h : SV w B us l) (hk : KeptC B w w') : SV w' B us l := ⟨h.1, fun k h1 h2 => by
  obtain ⟨a, c, e, h3, h4, h5⟩ := h.2 k h1 h2
  exact ⟨a, c, e, h3, h4, fun h0 => by
    obtain ⟨b1, o1, e1, hb1, hc1⟩ := h5 h0
    exact ⟨b1, o1, e1, hb1, fun j hj => hk _ _ hb1 (hc1 j hj)⟩⟩⟩
theorem SV.rowSS {w : World} {B : Nat} {A : Option Addr} {us : List Value} {l : List E2} (hv : SV w B us l) (hr : Row id w B A us) : RowSS w B A (l.map pr) := fun h0 => by
  simp at h0
  obtain ⟨b, o1, e, hb, hc⟩ := hr (by rw [hv.1]; exact h0)
  refine ⟨b, o1, e, hb, fun k hk => ?_⟩
  have hk' : k < l.length := by simpa using hk
  have hkv : k < us.length := by rw [hv.1]; exact hk'
  obtain ⟨a, c2, e2, h8, h9, h10⟩ := hv.2 k hkv hk'
  exact ⟨a, c2, by rw [hc k hkv, e2]; simp [pr], by simpa [pr] using h8, h9, by simpa using h10⟩
set_option maxRecDepth 100000 in
set_option maxHeartbeats 16000000 in
theorem sBoundary_any (A1 A2 : Option Addr) (c1 c2 : Nat) (vs : List V3) (fs : List (List Int)) (w : World) (hR : MeshIn w A1 A2 vs fs) (hf : MeshFits vs fs) :
    Calls Tryz.prog 76 #[mv A1 A2 vs.length c1 fs.length c2] w (EdOut w (bdL vs fs)) := by
  have HIN := Lib.hid hR
  have HF := Lib.hid hf
  have HT0 : Held w (w.alloc (.cells #[.slice A1 vs.length c1, .slice A2 fs.length c2] 29)) [(w.heap.size, [.slice A1 vs.length c1, .slice A2 fs.length c2])] := by
    have h := (Held.nil w).new #[.slice A1 vs.length c1, .slice A2 fs.length c2] 29
    simpa only [World.size_alloc] using h
  have HI : ∀ {bs : List (Nat × List Value)} (W : World), Held w W bs → MeshIn W A1 A2 vs fs := fun W h => ⟨(HIN.out.1.below h.below).more h.size, (HIN.out.2.below h.below).more h.size⟩
  have HT := Lib.hid HT0
  clear hR hf HT0
  have HT1 := Lib.hid (HT.out.alloc (.cells #[] 45))
  have ho1 := own_base (base' := w.heap.size + 1) (made_none (w.alloc (.cells #[.slice A1 vs.length c1, .slice A2 fs.length c2] 29)) 45) (by simp)
  simp only [World.size_alloc] at ho1
  have HO1 := Lib.hid ho1
  have HE1 : Hid (((w.alloc (.cells #[.slice A1 vs.length c1, .slice A2 fs.length c2] 29)).alloc (.cells #[] 45)).heap[w.heap.size + 1]? = some (.cells #[] 45 (0, 0))) := Lib.hid (by
    have h := (MapKept.heap_alloc (w.alloc (.cells #[.slice A1 vs.length c1, .slice A2 fs.length c2] 29)) (.cells #[] 45)).1
    rw [World.size_alloc] at h
    exact h)
  have HC := sEdges_any A1 A2 c1 c2 vs fs _ (HI _ HT1.out) HF.out
  have c0' := (HT1.out.box 0).c 0
  have c1' := (HT1.out.box 0).c 1
  have HZL := Lib.hid (edL_len vs fs)
  have HST : Hid (∀ e ∈ edL vs fs, e.1 < e.2) := Lib.hid edL_strict
  have HBE : Hid (bdL vs fs = (edL vs fs).filter (bdOf (tabL vs fs))) := Lib.hid rfl
  have HEF : ∀ W, Held w W [(w.heap.size, [.slice A1 vs.length c1, .slice A2 fs.length c2])] → ∀ x y, Calls Tryz.prog 51 #[mv A1 A2 vs.length c1 fs.length c2, .int .i64 x, .int .i64 y] W (IntOut W (atE (tabL vs fs) (und (x, y)))) := fun W h x y => sEdgeFaces_any A1 A2 c1 c2 vs fs x y _ (HI _ h) HF.out
  obtain ⟨S, hS⟩ : ∃ S, S = tabL vs fs := ⟨_, rfl⟩
  obtain ⟨Z, hZ⟩ : ∃ Z, Z = edL vs fs := ⟨_, rfl⟩
  rw [← hZ] at HC HZL HST HBE
  rw [← hS] at HBE
  simp only [← hS] at HEF
  rw [HBE.out]
  clear hZ hS HT ho1
  go_enter Tryz.func76, Tryz.ntmps76
  go_wp2_with fail
  refine HC.mono ?_
  rintro e w1 ⟨A5, c5, rfl, hr, hb1⟩
  have HR := Lib.hid hr
  have HT2 := Lib.hid (HT1.out.later hb1)
  have HO2 := Lib.hid (own_keep' HO1.out hb1)
  have HE2 : Hid (∀ o s, w1.cell? ⟨w.heap.size + 1, o, s⟩ = none) := Lib.hid (cell_empty ((hb1.block (w.heap.size + 1) (by simp)).trans HE1.out))
  have HV0 : Hid (∀ q, (Value.slice (some ⟨w.heap.size + 1, 0, none⟩) 0 0).ownBlock = some q → w1.heap.size ≤ q ∨ ∀ o s, w1.cell? ⟨q, o, s⟩ = none) := Lib.hid fun q hq => by
    simp only [Value.ownBlock, Option.some.injEq] at hq
    rw [← hq]
    exact Or.inr HE2.out
  clear hb1 hr HC HT1 HO1 HE1 HE2 c0' c1'
  go_wp2
  go_loopw [3, 10] (fun u i wr => ∃ (k : Nat) (us : List Value), k ≤ Z.length ∧ i = .int .i64 k ∧ wr.ownsRow (w.heap.size + 1) 45 1 u us.length us ∧ SV w1 w1.heap.size us ((Z.take k).filter (bdOf S)) ∧ (∀ q, u.ownBlock = some q → w1.heap.size ≤ q ∨ ∀ o s, w1.cell? ⟨q, o, s⟩ = none) ∧ KeptC w1.heap.size w1 wr ∧ w1.heap.size ≤ wr.heap.size ∧ Held w wr [(w.heap.size, [.slice A1 vs.length c1, .slice A2 fs.length c2])]) (fun _ i _ => Z.length - (intOf i).toNat)
  case atStart => exact ⟨0, [], Nat.zero_le _, rfl, HO2.out, SV.nil, HV0.out, fun _ _ _ h => h, Nat.le_refl _, HT2.out⟩
  case round =>
    clear HO2 HV0 HT2
    obtain ⟨k, us, hk, rfl, hown, hsv, hq, hkc, hsz, ht⟩ := hrel
    have HO := Lib.hid hown
    have HSV := Lib.hid hsv
    have HQB := Lib.hid hq
    have HKC := Lib.hid hkc
    have HSZ := Lib.hid hsz
    have HT := Lib.hid ht
    clear hown hsv hq hkc hsz ht
    by_cases hlt : k < Z.length
    · have hz := HZL.out
      have hrr := HR.out.keepC HKC.out
      obtain ⟨b, o, g1, o1, c2', rfl, hbl, hc', hg1, d0, d1⟩ := hrr.pair hlt
      have hul : us.length ≤ 256 := by
        have h1 := HSV.out.1
        have h2 := List.length_filter_le (bdOf S) (Z.take k)
        rw [List.length_take] at h2
        omega
      have HSU := Lib.hid (flt_succ (bdOf S) Z k hlt)
      have HS1 := Lib.hid (HST.out _ (List.getElem_mem hlt))
      have hrow : ∃ a c, w1.cell? ⟨b, o + k, none⟩ = some (.slice a 2 c) ∧ 2 ≤ c ∧ c ≤ maxLen ∧ Row I64 w1 w1.heap.size a (pr Z[k]) := by
        obtain ⟨b', o', a, c, e1, _, h1, h2, h3, h4⟩ := HR.out.at (k := k) (by simpa using hlt)
        simp only [Option.some.injEq, Addr.mk.injEq, and_true] at e1
        obtain ⟨rfl, rfl⟩ := e1
        simp only [List.getElem_map] at h1 h2 h4
        exact ⟨a, c, h1, by simpa [pr] using h2, h3, h4⟩
      obtain ⟨a9, c9, h9, h92, h9m, h9r⟩ := hrow
      have h9' := HKC.out _ _ hbl h9
      rw [hc'] at h9'
      injection h9' with h9'
      injection h9' with e91 _ e92
      subst e91
      subst e92
      have HR9 := Lib.hid h9r
      have HM9 := Lib.hid h9m
      have H92 := Lib.hid h92
      obtain ⟨ed, hed⟩ : ∃ e, e = Z[k] := ⟨_, rfl⟩
      rw [← hed] at d0 d1
      simp only [← hed] at HSU HS1 HR9
      obtain ⟨x, y⟩ := ed
      have hEF := fun W h => HEF W h x y
      rw [und_id HS1.out] at hEF
      obtain ⟨F, hF⟩ : ∃ F, F = atE S (x, y) := ⟨_, rfl⟩
      simp only [← hF] at hEF
      have HN1 : Hid (Value.bool ((F.length : Int) == 1) = .bool (decide (F.length = 1))) := Lib.hid (by congr 1; rw [Bool.eq_iff_iff]; simp; omega)
      have HBD : Hid (bdOf S (x, y) = decide (F.length = 1)) := Lib.hid (by unfold bdOf; rw [← hF])
      have hbw : b < wr.heap.size := by have := HSZ.out; omega
      have hgw : g1 < wr.heap.size := by have := HSZ.out; omega
      have HQ : Held wr wr [] := Held.nil wr
      have HTW : ∀ W, Held wr W [] → Held w W [(w.heap.size, [.slice A1 vs.length c1, .slice A2 fs.length c2])] := fun W h => HT.out.later h.below
      have HC : ∀ W, Held wr W [] → (W.cell? ⟨w.heap.size, 0, none⟩ = some (.slice A1 vs.length c1) ∧ W.cell? ⟨w.heap.size, 1, none⟩ = some (.slice A2 fs.length c2) ∧ W.cell? ⟨g1, o1, none⟩ = some (.int .i64 x) ∧ W.cell? ⟨g1, o1 + 1, none⟩ = some (.int .i64 y)) := fun W h => ⟨((HTW W h).box 0).c 0, ((HTW W h).box 0).c 1, (h.below.cell (p := ⟨g1, o1, none⟩) hgw).trans d0, (h.below.cell (p := ⟨g1, o1 + 1, none⟩) hgw).trans d1⟩
      have HEFH := Lib.hid hEF
      have HCH := Lib.hid HC
      clear hed hrr h9 h9r h9m h92 hF hEF HEF
      go_upto_region 5 with fail
      go_cut [23] (fun z wx => z = .bool (decide (F.length = 1)) ∧ Below wr.heap.size wr wx)
      case first =>
        go_region_held3 (fun w' => w'.cell? ⟨w.heap.size, 0, none⟩ = some (.slice A1 vs.length c1) ∧ w'.cell? ⟨w.heap.size, 1, none⟩ = some (.slice A2 fs.length c2) ∧ w'.cell? ⟨g1, o1, none⟩ = some (.int .i64 x) ∧ w'.cell? ⟨g1, o1 + 1, none⟩ = some (.int .i64 y))
          (first | (with_reducible exact HC _ HQ) | (with_reducible exact HC _ HQ.drew))
          (first | (go_at_call 51; refine (HEFH.out _ (by first | with_reducible exact HTW _ HQ | with_reducible exact HTW _ HQ.drew)).mono ?_; rintro e w7 ⟨A7, c7, rfl, ho7, hb7⟩; (first | (have HQ := HQ.later hb7) | (have HQ := HQ.drew.later hb7))))
        all_goals (go_wp2_with fail; go_meet)
        all_goals (first | exact ⟨HN1.out, HQ.below⟩ | exact ⟨HN1.out, HQ.drew.below⟩)
      case rest =>
        obtain ⟨rfl, hb6⟩ := hcut
        have HT7 := Lib.hid (HT.out.later hb6)
        have HO7 := Lib.hid (own_keep' HO.out hb6)
        have HKC7 : Hid (KeptC w1.heap.size w1 wc) := Lib.hid (HKC.out.grown (gb_of_below hb6 (row := none)) HSZ.out (fun q hq => by cases hq))
        have hsz7 : w1.heap.size ≤ wc.heap.size := Nat.le_trans HSZ.out hb6.size
        clear hb6 HQ HC HTW HEFH HCH HT HO HKC
        by_cases hF1 : F.length = 1
        · have HB1 : Hid (bdOf S (x, y) = true) := Lib.hid (by rw [HBD.out]; simpa using hF1)
          have HSU1 : Hid ((Z.take (k + 1)).filter (bdOf S) = (Z.take k).filter (bdOf S) ++ [(x, y)]) := Lib.hid (by rw [HSU.out, HB1.out]; rfl)
          have hd : decide (F.length = 1) = true := by simpa using hF1
          rw [hd]
          clear hd hF1 HN1
          go_wp2_with (at_builtin; refine wpList_app1_at _ rfl _ _ 23 rfl (w.heap.size + 1) 45 nilS 24 Tryz.underlying23 infoSS rfl _ _ _ (by rfl) (HO7.out.alloc (.cells #[.slice (some ⟨g1, o1, none⟩) 2 c2'] 45)) wc.heap.size (.slice (some ⟨g1, o1, none⟩) 2 c2') (by rfl) (by simp) (by rfl) (by unfold maxLen; omega) (by omega) (by simp; have := (HT7.out.box 0).lt; omega) ?_)
          intro v8 w8 ho8 hg8 hat8
          have hgl : ∀ q, u3.ownBlock = some q → w.heap.size + 1 ≤ q := own_block HO7.out
          have HT8 := Lib.hid (heldGrown (HT7.out.alloc (.cells #[.slice (some ⟨g1, o1, none⟩) 2 c2'] 45)) hg8 (fun q hq => by have := hgl q hq; omega) (fun p hp c => by
            simp only [List.mem_singleton] at hp
            subst hp
            have := hgl _ c.symm
            omega))
          have HKC8 := Lib.hid (((HKC7.out.grown (World.grownBy_alloc wc (.cells #[.slice (some ⟨g1, o1, none⟩) 2 c2'] 45) none) hsz7 (fun q hq => by cases hq))).grown hg8 (by simp; omega) HQB.out)
          have hsz8 : w1.heap.size ≤ w8.heap.size := Nat.le_trans (by simp; omega) hg8.size
          have HQB8 : Hid (∀ q, v8.ownBlock = some q → w1.heap.size ≤ q ∨ ∀ o s, w1.cell? ⟨q, o, s⟩ = none) := Lib.hid fun q hq => by
            rcases hat8 with h | h
            · rw [h] at hq; exact HQB.out q hq
            · rw [h] at hq; injection hq with hq; exact Or.inl (by omega)
          have HSV8 : Hid (SV w1 w1.heap.size (us ++ [.slice (some ⟨g1, o1, none⟩) 2 c2']) ((Z.take (k + 1)).filter (bdOf S))) := Lib.hid (by
            rw [HSU1.out]
            refine HSV.out.app ⟨rfl, fun i h1 h2 => ?_⟩
            simp at h1
            subst h1
            exact ⟨_, c2', rfl, H92.out, HM9.out, HR9.out⟩)
          have HO8 : Hid (w8.ownsRow (w.heap.size + 1) 45 1 v8 (us ++ [Value.slice (some ⟨g1, o1, none⟩) 2 c2']).length (us ++ [Value.slice (some ⟨g1, o1, none⟩) 2 c2'])) := Lib.hid (by simpa using ho8)
          clear ho8 hg8 hat8 hgl HO7 HT7 HKC7 HQB
          go_wp2_with fail
          go_roundw
          case rel => exact ⟨k + 1, _, by omega, by go_num, HO8.out, HSV8.out, HQB8.out, HKC8.out, hsz8, HT8.out⟩
          case measure => simp [intOf]; omega
        · have HB1 : Hid (bdOf S (x, y) = false) := Lib.hid (by rw [HBD.out]; simpa using hF1)
          have HSV8 : Hid (SV w1 w1.heap.size us ((Z.take (k + 1)).filter (bdOf S))) := Lib.hid (by rw [HSU.out, HB1.out]; simpa using HSV.out)
          have hd : decide (F.length = 1) = false := by simpa using hF1
          rw [hd]
          clear hd hF1 HN1
          go_wp2_with fail
          go_roundw
          case rel => exact ⟨k + 1, us, by omega, by go_num, HO7.out, HSV8.out, HQB.out, HKC7.out, hsz7, HT7.out⟩
          case measure => simp [intOf]; omega
    · have e : k = Z.length := by omega
      have HFIN : Hid (EdOut w (Z.filter (bdOf S)) (.returned u3) wr) := Lib.hid (by
        have hv := HSV.out
        rw [e, List.take_length] at hv
        have hv2 := (hv.keepC HKC.out).more HSZ.out
        obtain ⟨A6, c6, e6⟩ := own_shape HO.out
        have ho := HO.out
        rw [e6] at ho
        exact ⟨A6, c6, by rw [e6, hv.1], hv2.rowSS (Row.of_own (f := id) (by rw [List.map_id]; exact ho)), HT.out.below⟩)
      clear e HO HSV HKC HT
      go_wp2
      go_ret
      exact HFIN.out



end Go.Proofs.YtdefhepagpgnaaaGreat
