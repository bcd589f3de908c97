/- The contract of edgeTable. -/
import Derived.Test.YtdefhepagpgnaaaGreatProg
import Derived.Test.YtdefhepagpgnaaaGreatInts
import Derived.Test.YtdefhepagpgnaaaGreatVbox
import Derived.Test.YtdefhepagpgnaaaGreatVec
import Derived.Test.YtdefhepagpgnaaaGreatHeld
import Derived.Test.YtdefhepagpgnaaaGreatMem
import Derived.Test.YtdefhepagpgnaaaGreatRowC
import Derived.Test.YtdefhepagpgnaaaGreatIntS
import Derived.Test.YtdefhepagpgnaaaGreatVecS
import Derived.Test.YtdefhepagpgnaaaGreatSS
import Derived.Test.YtdefhepagpgnaaaGreatMkA
import Derived.Test.YtdefhepagpgnaaaGreatMkB
import Derived.Test.YtdefhepagpgnaaaGreatMkC
import Derived.Test.YtdefhepagpgnaaaGreatMkD
import Derived.Test.YtdefhepagpgnaaaGreatMF
import Derived.Test.YtdefhepagpgnaaaGreatMG
import Derived.Test.YtdefhepagpgnaaaGreatMH
import Derived.Test.YtdefhepagpgnaaaGreatMM
import Derived.Test.YtdefhepagpgnaaaGreatMN
import Derived.Test.YtdefhepagpgnaaaGreatMV
import Derived.Test.YtdefhepagpgnaaaGreatMW
import Derived.Test.YtdefhepagpgnaaaGreatMVF
import Derived.Test.YtdefhepagpgnaaaGreatMT
import Derived.WalkKit
import Derived.WalkSpells
import Derived.WalkLawsBesides
import Derived.Lib.Hide
import Derived.Deep.RegionHeld3
import Derived.Deep.QuietTactic
import Derived.BigQuiet
import Derived.Handy
import Derived.Deep.DeepCutAuto
import Derived.OwnWalk
import Derived.Maps.RangeWalk
import Derived.Maps.Ext
import Derived.Maps.OwnOps
import Derived.Maps.Views
import Derived.Maps.AppendAt
import Derived.WideKeyEntry
import Derived.DeepKeys5
import Derived.ChangeKeysEq
import Derived.WalkArith
import Derived.OpenShut
namespace Go.Proofs.YtdefhepagpgnaaaGreat
open Go.RowKit Go.Maps Go.ChangeMaps


theorem ok_all {vs : List V3} {fs : List (List Int)} (h : okMesh vs fs = true) : vs.length ≤ 80 ∧ fs.length ≤ 64 ∧ ∀ f ∈ fs, okFace vs.length f = true := by
  have := (okMesh_iff vs fs).1 h
  exact ⟨this.1, this.2.1, this.2.2.2.1⟩
/-- the undirected edges of face k, with its number -/
def faceS (f : List Int) (k : Nat) : List (E2 × Int) := (stepsL f).map fun s => (und s, (k : Int))
/-- the edges of the first k faces -/
def tabTo (fs : List (List Int)) (k : Nat) : List (E2 × Int) := (List.range k).flatMap fun i => faceS (fs.getD i []) i
theorem tabTo_succ (fs : List (List Int)) (k : Nat) (h : k < fs.length) : tabTo fs (k + 1) = tabTo fs k ++ faceS fs[k] k := by
  unfold tabTo
  rw [List.range_succ, List.flatMap_append]
  simp only [List.flatMap_cons, List.flatMap_nil, List.append_nil, gd fs k [] h]
theorem faceS_len (f : List Int) (k : Nat) : (faceS f k).length = f.length := by simp [faceS, stepsL_len]
theorem faceS_take (f : List Int) (k j : Nat) (h : j < (stepsL f).length) : (faceS f k).take (j + 1) = (faceS f k).take j ++ [(und (stepsL f)[j], (k : Int))] := by
  have h' : j < (faceS f k).length := by rw [faceS_len, ← stepsL_len f]; exact h
  rw [List.take_succ_eq_append_getElem h']
  simp [faceS]
theorem tabTo_len (fs : List (List Int)) (hf : ∀ f ∈ fs, f.length = 4) (k : Nat) (hk : k ≤ fs.length) : (tabTo fs k).length = 4 * k := by
  induction k with
  | zero => rfl
  | succ k ih =>
    rw [tabTo_succ fs k (by omega), List.length_append, ih (by omega), faceS_len, hf _ (List.getElem_mem (by omega))]
    omega
/-- the edges of a mesh, each with the face that it is an edge of -/
def tabL (vs : List V3) (fs : List (List Int)) : List (E2 × Int) := if okMesh vs fs then tabTo fs fs.length else []
/-- the table of a mesh -/
def TabOut (w : World) (S : List (E2 × Int)) (e : Ending) (w' : World) : Prop :=
  ∃ n, e = .returned (.map (some (w.heap.size + 1))) ∧ n ≤ 256 ∧ TabOf w' (w.heap.size + 2) (w.heap.size + 1) n S ∧ Below w.heap.size w w'
set_option maxRecDepth 100000 in
set_option maxHeartbeats 8000000 in
theorem edgeTable_any (A1 A2 : Option Addr) (c1 c2 : Nat) (vs : List V3) (fs : List (List Int)) (w : World) (hR : MeshIn w A1 A2 vs fs) (hf : MeshFits vs fs) :
    Calls Tryz.prog 58 #[mv A1 A2 vs.length c1 fs.length c2] w (TabOut w (tabL vs fs)) := by
  have HIN := Lib.hid hR
  have HF := Lib.hid hf
  have HT0 : Held w (w.alloc (.cells #[.slice A1 vs.length c1, .slice A2 fs.length c2] 29)) [(w.heap.size, [.slice A1 vs.length c1, .slice A2 fs.length c2])] := by
    have h := (Held.nil w).new #[.slice A1 vs.length c1, .slice A2 fs.length c2] 29
    simpa only [World.size_alloc] using h
  have HI : ∀ {bs : List (Nat × List Value)} (W : World), Held w W bs → MeshIn W A1 A2 vs fs := fun W h => ⟨(HIN.out.1.below h.below).more h.size, (HIN.out.2.below h.below).more h.size⟩
  have HT := Lib.hid HT0
  clear hR hf HT0
  have ht1 := TabOf.made (w.alloc (.cells #[.slice A1 vs.length c1, .slice A2 fs.length c2] 29)) (w.heap.size + 2)
  rw [World.size_alloc] at ht1
  have HT1 := Lib.hid (HT.out.alloc (.map #[] 0))
  have HS1 := Lib.hid ht1
  have hmm := @run_makeMap Tryz.prog
  clear HT ht1
  have c0' := (HT1.out.box 0).c 0
  have c1' := (HT1.out.box 0).c 1
  obtain ⟨ok, hok⟩ : ∃ ok, ok = okMesh vs fs := ⟨_, rfl⟩
  have HOK := Lib.hid hok
  have HC := isValidMesh_any A1 A2 c1 c2 vs fs _ (HI _ HT1.out) HF.out
  rw [← hok] at HC
  clear hok
  go_enter Tryz.func58, Tryz.ntmps58
  go_wp2_with fail
  refine HC.mono ?_
  rintro e w1 ⟨rfl, hb1⟩
  have HT2 := Lib.hid (HT1.out.later hb1)
  have HS2 := Lib.hid (HS1.out.later hb1)
  clear hb1 HT1 HS1 c0' c1' HC
  cases ok
  · have HE : Hid (tabL vs fs = []) := Lib.hid (by unfold tabL; rw [← HOK.out]; rfl)
    go_wp2_with fail
    go_ret
    rw [HE.out]
    exact ⟨0, rfl, by omega, HS2.out, HT2.out.below⟩
  · have hok := ok_all HOK.out.symm
    have hlen := hok.2.1
    have HOF := Lib.hid hok.2.2
    have HVL := Lib.hid hok.1
    clear hok
    have c1' := (HT2.out.box 0).c 1
    go_wp2
    go_loopw [17] (fun i wr => ∃ k : Nat, k ≤ fs.length ∧ i = .int .i64 k ∧ TabOf wr (w.heap.size + 2) (w.heap.size + 1) (4 * k) (tabTo fs k) ∧ Held w wr [(w.heap.size, [.slice A1 vs.length c1, .slice A2 fs.length c2])]) (fun i _ => fs.length - (intOf i).toNat)
    case atStart => exact ⟨0, Nat.zero_le _, rfl, HS2.out, HT2.out⟩
    case round =>
      clear c1' HT2 HS2
      obtain ⟨k, hk, rfl, htab, ht⟩ := hrel
      have HS := Lib.hid htab
      have HT := Lib.hid ht
      clear htab ht
      by_cases hlt : k < fs.length
      · obtain ⟨b, o, a, cc, rfl, hbl, hc, hle, hcm, hrow⟩ := HIN.out.2.at hlt
        have hc' := (HT.out.below.cell (p := ⟨b, o + k, none⟩) hbl).trans hc
        have hrow' := (hrow.below HT.out.below).more HT.out.size
        have HTS := Lib.hid (tabTo_succ fs k hlt)
        have HFO := Lib.hid (HOF.out _ (List.getElem_mem hlt))
        obtain ⟨f, hf⟩ : ∃ f, f = fs[k] := ⟨_, rfl⟩
        rw [← hf] at hc' hrow'
        simp only [← hf] at HTS HFO
        have HF4 := Lib.hid (okFace_at HFO.out).1
        have HLEN : Hid ((stepsL f).length = 4) := Lib.hid (by rw [stepsL_len, HF4.out])
        have HFC := faceEdges_own a cc f wr hrow' (by have := HF4.out; omega)
        clear hf hc hrow hrow' hle hcm
        go_wp2_with fail
        refine HFC.mono ?_
        rintro e w2 ⟨A3, c3, rfl, ho3, hb3⟩
        obtain ⟨R0, hR0⟩ : ∃ n, n = wr.heap.size := ⟨_, rfl⟩
        rw [← hR0] at ho3
        have HO3 := Lib.hid ho3
        have HS2 := Lib.hid (HS.out.later hb3)
        have HT2 := Lib.hid (HT.out.later hb3)
        have hbs : w.heap.size + 1 < R0 := by rw [hR0]; exact HS.out.lt
        have HWR : Hid (R0 ≤ w2.heap.size) := Lib.hid (by rw [hR0]; exact hb3.size)
        clear hb3 ho3 HFC hc' HT HS hR0
        rw [HLEN.out]
        go_wp2
        go_loopw [25] (fun i wi => ∃ j : Nat, j ≤ 4 ∧ i = .int .i64 j ∧ TabOf wi (w.heap.size + 2) (w.heap.size + 1) (4 * k + j) (tabTo fs k ++ (faceS f k).take j) ∧ Held w wi [(w.heap.size, [.slice A1 vs.length c1, .slice (some ⟨b, o, none⟩) fs.length c2])] ∧ wi.ownsRow R0 81 2 (.slice A3 (stepsL f).length c3) (stepsL f).length ((stepsL f).flatMap eg)) (fun i _ => 4 - (intOf i).toNat)
        case atStart => exact ⟨0, by omega, rfl, by simpa using HS2.out, HT2.out, HO3.out⟩
        case round =>
          clear HS2 HT2 HO3
          obtain ⟨j, hj, rfl, htab, ht, ho⟩ := hrel
          have HS := Lib.hid htab
          have HT := Lib.hid ht
          have HO := Lib.hid ho
          clear htab ht ho
          by_cases hjl : j < 4
          · have hjs : j < (stepsL f).length := by rw [HLEN.out]; exact hjl
            obtain ⟨b2, o2, rfl, hbl2, hcc⟩ := (RowC.of_own eg_len HO.out rfl : RowC 2 eg wr wr.heap.size A3 (stepsL f)).at hjs
            obtain ⟨q0, q1⟩ := eg_at hcc
            have HTK := Lib.hid (faceS_take f k j hjs)
            have HWE := Lib.hid (wf_steps (by have := HVL.out; omega) HFO.out _ (List.getElem_mem hjs))
            obtain ⟨ed, hed⟩ : ∃ e, e = (stepsL f)[j] := ⟨_, rfl⟩
            rw [← hed] at q0 q1
            simp only [← hed] at HTK HWE
            clear hcc hjs hed
            have HS1 := Lib.hid (HS.out.alloc (.cells #[.int .i64 ed.1, .int .i64 ed.2] 81))
            have HT1 := Lib.hid (HT.out.alloc (.cells #[.int .i64 ed.1, .int .i64 ed.2] 81))
            have HO1 := Lib.hid (own_keep' HO.out (show Below wr.heap.size wr (wr.alloc (.cells #[.int .i64 ed.1, .int .i64 ed.2] 81)) by go_grown))
            have hbw := HS.out.lt
            clear HS HT HO
            go_wp2_with fail
            refine (undirected_any ed.1 ed.2 _).mono ?_
            rintro e w3 ⟨rfl, hb3⟩
            have hs3 : wr.heap.size + 1 ≤ w3.heap.size := by have := hb3.size; simpa using this
            have HS2 := Lib.hid (((HS1.out.later hb3).alloc (.cells #[.int .i64 (und ed).1, .int .i64 (und ed).2] 81)).alloc (.cells #[.int .i64 k] 3))
            have HT2 := Lib.hid (((HT1.out.later hb3).alloc (.cells #[.int .i64 (und ed).1, .int .i64 (und ed).2] 81)).alloc (.cells #[.int .i64 k] 3))
            have HO2 := Lib.hid (own_keep' (own_keep' HO1.out hb3) (show Below w3.heap.size w3 ((w3.alloc (.cells #[.int .i64 (und ed).1, .int .i64 (und ed).2] 81)).alloc (.cells #[.int .i64 k] 3)) by go_grown))
            clear HS1 HT1 HO1 hb3 q0 q1
            obtain ⟨v0, st, w4, hme, hg4, hs4, ho4, hent⟩ := HS2.out.entry (by unfold maxLen; omega) (by omega) (und ed) (wf_und HWE.out)
            have HENT := Lib.hid hent
            have HO4 := Lib.hid ho4
            have hbx : ∀ g, (Value.slice (some ⟨b2, o2, none⟩) (stepsL f).length c3).ownBlock = some g → R0 ≤ g := own_block HO2.out
            have HE4 := Lib.hid (HO2.out.kept hg4 (.inr (fun c => by have := hbx _ c; omega)))
            have HT4 := Lib.hid (heldGrown HT2.out hg4 (fun q hq => by injection hq with hq; omega) (fun p hp c => by
              simp only [List.mem_singleton] at hp
              subst hp
              simp at c))
            have hck : w4.cell? ⟨w3.heap.size + 1, 0, none⟩ = some (.int .i64 k) := by
              rw [World.cell?_of_block (hg4.block _ (by simp) (fun c => by simp at c; omega))]
              simp
            have hs4' : w4.heap.size = w3.heap.size + 2 := by rw [hs4]; simp
            have HSL : Hid ((atE (tabTo fs k ++ (faceS f k).take j) (und ed)).length ≤ 1048576) := Lib.hid (by
              have h := atE_len (tabTo fs k ++ (faceS f k).take j) (und ed)
              rw [List.length_append, tabTo_len fs (fun f hf => (okFace_at (HOF.out f hf)).1) k (by omega), List.length_take] at h
              omega)
            clear hent ho4 HT2 HS2 HO2 hbx
            go_wp2_with (at_builtin; refine wpList_app1_at _ rfl _ _ 45 rfl (w.heap.size + 2) 3 (.int .i64 0) 8 Tryz.underlying45 infoInt rfl _ _ _ (by rfl) HO4.out (w3.heap.size + 1) (.int .i64 k) (by rfl) hck (by rfl) (by unfold maxLen; have := HSL.out; omega) (by have := HSL.out; omega) (by omega) ?_)
            intro v5 w5 ho5 hg5 hat5
            obtain ⟨w6, hes, htab6, hg6, hs6⟩ := HENT.out w5 v5 k (by simpa using ho5) hg5 (by rw [hs4']; exact hat5)
            have hne4 : ∀ g, v0.ownBlock = some g → w.heap.size + 2 ≤ g := own_block HO4.out
            have HE5 := HE4.out.kept hg5 (own_ne HE4.out HO4.out (by decide))
            have HE6 := Lib.hid (HE5.kept hg6 (.inr (fun c => by have := own_block HE5 _ c; omega)))
            have HT5 := heldGrown HT4.out hg5 (fun q hq => by have := hne4 q hq; omega) (fun p hp c => by
              simp only [List.mem_singleton] at hp
              subst hp
              have := hne4 _ c.symm
              omega)
            have HT6 := Lib.hid (heldGrown HT5 hg6 (fun q hq => by injection hq with hq; omega) (fun p hp c => by
              simp only [List.mem_singleton] at hp
              subst hp
              simp at c))
            have HS6 : Hid (TabOf w6 (w.heap.size + 2) (w.heap.size + 1) (4 * k + (j + 1)) (tabTo fs k ++ (faceS f k).take (j + 1))) := Lib.hid (by rw [HTK.out, ← List.append_assoc]; exact htab6)
            clear htab6 ho5 hg5 hg6 HE5 HT5 HENT HO4 HE4 HT4 hck hne4 hme hg4 hat5
            go_wp2_with fail
            go_roundw
            case rel => exact ⟨j + 1, by omega, by go_num, HS6.out, HT6.out, HE6.out⟩
            case measure => simp [intOf]; omega
          · have e4 : j = 4 := by omega
            subst e4
            have HS6 : Hid (TabOf wr (w.heap.size + 2) (w.heap.size + 1) (4 * (k + 1)) (tabTo fs (k + 1))) := Lib.hid (by
              have h := HS.out
              rw [List.take_of_length_le (by rw [faceS_len, HF4.out]; omega), ← HTS.out] at h
              rw [Nat.mul_succ]; exact h)
            clear HS HO
            go_wp2
            go_roundw
            case rel => exact ⟨k + 1, by omega, by go_num, HS6.out, HT.out⟩
            case measure => simp [intOf]; omega
      · have e : k = fs.length := by omega
        subst e
        have HE : Hid (tabL vs fs = tabTo fs fs.length) := Lib.hid (by unfold tabL; rw [← HOK.out]; rfl)
        go_wp2
        go_ret
        rw [HE.out]
        exact ⟨_, rfl, by omega, HS.out, HT.out.below⟩


end Go.Proofs.YtdefhepagpgnaaaGreat
