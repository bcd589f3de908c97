/- Contracts of VertexFaces, in the program and in its model. -/
import Derived.Test.YtdefhepagpgnaaaGreatProg
import Derived.Test.YtdefhepagpgnaaaGreatInts
import Derived.Test.YtdefhepagpgnaaaGreatVbox
import Derived.Test.YtdefhepagpgnaaaGreatVec
import Derived.Test.YtdefhepagpgnaaaGreatHeld
import Derived.Test.YtdefhepagpgnaaaGreatMem
import Derived.Test.YtdefhepagpgnaaaGreatRowC
import Derived.Test.YtdefhepagpgnaaaGreatIntS
import Derived.Test.YtdefhepagpgnaaaGreatVecS
import Derived.Test.YtdefhepagpgnaaaGreatSS
import Derived.Test.YtdefhepagpgnaaaGreatMkA
import Derived.Test.YtdefhepagpgnaaaGreatMkB
import Derived.Test.YtdefhepagpgnaaaGreatMkC
import Derived.Test.YtdefhepagpgnaaaGreatMkD
import Derived.Test.YtdefhepagpgnaaaGreatMF
import Derived.Test.YtdefhepagpgnaaaGreatMG
import Derived.Test.YtdefhepagpgnaaaGreatMH
import Derived.Test.YtdefhepagpgnaaaGreatMM
import Derived.Test.YtdefhepagpgnaaaGreatMN
import Derived.Test.YtdefhepagpgnaaaGreatMV
import Derived.Test.YtdefhepagpgnaaaGreatMW
import Derived.WalkKit
import Derived.WalkSpells
import Derived.WalkLawsBesides
import Derived.Lib.Hide
import Derived.Deep.RegionHeld3
import Derived.Deep.QuietTactic
import Derived.BigQuiet
import Derived.Handy
import Derived.Deep.DeepCutAuto
import Derived.OwnWalk
namespace Go.Proofs.YtdefhepagpgnaaaGreat
open Go.RowKit


/-- a new slice of integers -/
def IntOut (w : World) (xs : List Int) (e : Ending) (w' : World) : Prop :=
  ∃ A c, e = .returned (.slice A xs.length c) ∧ w'.ownsRow w.heap.size 3 1 (.slice A xs.length c) xs.length (xs.map I64) ∧ Below w.heap.size w w'
/-- the faces among the first k that hold v -/
def vF (fs : List (List Int)) (v : Int) (k : Nat) : List Int := ((List.range k).filter fun i => (fs.getD i []).contains v).map fun i => ((i : Nat) : Int)
theorem vF_zero (fs : List (List Int)) (v : Int) : vF fs v 0 = [] := rfl
theorem vF_succ (fs : List (List Int)) (v : Int) (k : Nat) (h : k < fs.length) : vF fs v (k + 1) = vF fs v k ++ (if fs[k].contains v then [((k : Nat) : Int)] else []) := by
  unfold vF
  rw [List.range_succ, List.filter_append, List.map_append]
  congr 1
  rw [List.filter_cons, gd fs k [] h]
  split <;> rfl
theorem vF_len (fs : List (List Int)) (v : Int) (k : Nat) : (vF fs v k).length ≤ k := by
  unfold vF
  rw [List.length_map]
  exact Nat.le_trans (List.length_filter_le _ _) (by simp)
/-- the faces of a mesh that hold v -/
def vertF (vs : List V3) (fs : List (List Int)) (v : Int) : List Int := if okMesh vs fs then vF fs v fs.length else []
theorem vertF_len (vs : List V3) (fs : List (List Int)) (v : Int) : (vertF vs fs v).length ≤ 1048576 := by
  unfold vertF
  split
  · rename_i h
    have h1 := (okMesh_iff vs fs).1 h
    have h2 := vF_len fs v fs.length
    have := h1.2.1
    omega
  · simp
theorem intOut_nil (w w' : World) (hb : Below w.heap.size w w') : IntOut w [] (.returned (.slice none 0 0)) w' := ⟨none, 0, rfl, World.ownsRow_nil _ _ _ _, hb⟩
theorem ok_len {vs : List V3} {fs : List (List Int)} (h : okMesh vs fs = true) : vs.length ≤ 80 ∧ fs.length ≤ 64 := by
  have := (okMesh_iff vs fs).1 h
  exact ⟨this.1, this.2.1⟩
theorem okAt_new {n : Nat} {f : List Int} (h : okFace n f = true) {j : Nat} (hj : j < f.length) : (f.take j).contains f[j] = false := by
  have h1 := (okFace_at h).2 j hj
  unfold okAt at h1
  rw [gd f j 0 hj] at h1
  simp only [Bool.and_eq_true, Bool.not_eq_true'] at h1
  exact h1.2
set_option maxRecDepth 100000 in
set_option maxHeartbeats 4000000 in
theorem vertexFaces_any (A1 A2 : Option Addr) (c1 c2 : Nat) (vs : List V3) (fs : List (List Int)) (x : Int) (w : World) (hR : MeshIn w A1 A2 vs fs) (hf : MeshFits vs fs) :
    Calls Tryz.prog 59 #[mv A1 A2 vs.length c1 fs.length c2, .int .i64 x] w (IntOut w (vertF vs fs x)) := by
  have HIN := Lib.hid hR
  have HF := Lib.hid hf
  have HT0 : Held w (w.alloc (.cells #[.slice A1 vs.length c1, .slice A2 fs.length c2] 29)) [(w.heap.size, [.slice A1 vs.length c1, .slice A2 fs.length c2])] := by
    have h := (Held.nil w).new #[.slice A1 vs.length c1, .slice A2 fs.length c2] 29
    simpa only [World.size_alloc] using h
  have HI : ∀ {bs : List (Nat × List Value)} (W : World), Held w W bs → MeshIn W A1 A2 vs fs := fun W h => ⟨(HIN.out.1.below h.below).more h.size, (HIN.out.2.below h.below).more h.size⟩
  have HT := Lib.hid HT0
  clear hR hf HT0
  have c0' := (HT.out.box 0).c 0
  have c1' := (HT.out.box 0).c 1
  obtain ⟨ok, hok⟩ : ∃ ok, ok = okMesh vs fs := ⟨_, rfl⟩
  have HOK := Lib.hid hok
  have HC := isValidMesh_any A1 A2 c1 c2 vs fs _ (HI _ HT.out) HF.out
  rw [← hok] at HC
  clear hok
  go_enter Tryz.func59, Tryz.ntmps59
  go_wp2_with fail
  refine HC.mono ?_
  rintro e w1 ⟨rfl, hb1⟩
  have HT1 := Lib.hid (HT.out.later hb1)
  clear hb1 HT c0' c1' HC
  cases ok
  · have HE : Hid (vertF vs fs x = []) := Lib.hid (by unfold vertF; rw [← HOK.out]; rfl)
    go_wp2_with fail
    go_ret
    rw [HE.out]
    exact intOut_nil _ _ HT1.out.below
  · have hlen := (ok_len HOK.out.symm).2
    have HO0 := Lib.hid (World.ownsRow_nil w1 (w.heap.size + 1) 3 1)
    have c1' := (HT1.out.box 0).c 1
    go_wp2
    go_loopw [5, 14] (fun v i wr => ∃ k : Nat, k ≤ fs.length ∧ i = .int .i64 k ∧ wr.ownsRow (w.heap.size + 1) 3 1 v (vF fs x k).length ((vF fs x k).map I64) ∧ Held w wr [(w.heap.size, [.slice A1 vs.length c1, .slice A2 fs.length c2])]) (fun _ i _ => fs.length - (intOf i).toNat)
    case atStart => exact ⟨0, Nat.zero_le _, rfl, HO0.out, HT1.out⟩
    case round =>
      clear c1' HT1 HO0
      obtain ⟨k, hk, rfl, hown, ht⟩ := hrel
      have HO := Lib.hid hown
      have HT := Lib.hid ht
      clear hown ht
      by_cases hlt : k < fs.length
      · obtain ⟨b, o, a, cc, rfl, hbl, hc, hle, hcm, hrow⟩ := HIN.out.2.at hlt
        have hc' := (HT.out.below.cell (p := ⟨b, o + k, none⟩) hbl).trans hc
        have hrow' := (hrow.below HT.out.below).more HT.out.size
        have HSU := Lib.hid (vF_succ fs x k hlt)
        have HLN := Lib.hid (vF_len fs x k)
        have hfl := HF.out.each _ (List.getElem_mem hlt)
        obtain ⟨f, hf⟩ : ∃ f, f = fs[k] := ⟨_, rfl⟩
        rw [← hf] at hc' hrow' hfl
        simp only [← hf] at HSU
        have HC := contains_any a cc f x wr wr.heap.size hrow' (by omega)
        obtain ⟨q, hq⟩ : ∃ q, q = f.contains x := ⟨_, rfl⟩
        rw [← hq] at HC HSU
        clear hf hq hc hrow hrow' hle hcm
        go_wp2_with fail
        refine HC.mono ?_
        rintro e w2 ⟨rfl, rfl⟩
        clear HC hc'
        cases q
        · have HS : Hid (vF fs x (k + 1) = vF fs x k) := Lib.hid (by rw [HSU.out]; simp)
          go_wp2_with fail
          go_roundw
          case rel => exact ⟨k + 1, by omega, by go_num, by rw [HS.out]; exact HO.out, HT.out⟩
          case measure => simp [intOf]; omega
        · have HS : Hid (vF fs x (k + 1) = vF fs x k ++ [((k : Nat) : Int)]) := Lib.hid (by rw [HSU.out]; simp)
          go_wp2_with (at_builtin; refine wpList_app1 wr rfl _ _ 45 rfl (w.heap.size + 1) 3 (.int .i64 0) 8 Tryz.underlying45 infoInt rfl _ _ _ (by rfl) HO.out (.int .i64 k) (by rfl) (by rfl) (by have := HLN.out; unfold maxLen; omega) (by have := HLN.out; omega) (by exact (HT.out.box 0).lt) ?_)
          intro v' w4 ho4 hg4
          have HT4 := Lib.hid (heldGrown HT.out hg4 (fun k hk => Nat.le_of_succ_le (own_block HO.out k hk)) (fun p hp e => by
            simp only [List.mem_singleton] at hp
            subst hp
            have := own_block HO.out _ e.symm
            omega))
          have HO4 : Hid (w4.ownsRow (w.heap.size + 1) 3 1 v' (vF fs x (k + 1)).length ((vF fs x (k + 1)).map I64)) := Lib.hid (by rw [HS.out]; simpa using ho4)
          clear ho4 hg4 HO HT
          go_wp2_with fail
          go_roundw
          case rel => exact ⟨k + 1, by omega, by go_num, HO4.out, HT4.out⟩
          case measure => simp [intOf]; omega
      · have e : k = fs.length := by omega
        subst e
        obtain ⟨A5, c5, e5⟩ := own_shape HO.out
        have HFIN : Hid (IntOut w (vertF vs fs x) (.returned u5) wr) := Lib.hid (by
          have hv : vertF vs fs x = vF fs x fs.length := by unfold vertF; rw [← HOK.out]; rfl
          have ho := HO.out
          rw [e5] at ho
          exact ⟨A5, c5, by rw [e5, hv], by rw [hv]; exact own_base ho (by omega), HT.out.below⟩)
        clear e5 HO HT
        go_wp2
        go_ret
        exact HFIN.out

set_option maxRecDepth 100000 in
set_option maxHeartbeats 4000000 in
theorem sVertexFaces_any (A1 A2 : Option Addr) (c1 c2 : Nat) (vs : List V3) (fs : List (List Int)) (x : Int) (w : World) (hR : MeshIn w A1 A2 vs fs) (hf : MeshFits vs fs) :
    Calls Tryz.prog 49 #[mv A1 A2 vs.length c1 fs.length c2, .int .i64 x] w (IntOut w (vertF vs fs x)) := by
  have HIN := Lib.hid hR
  have HF := Lib.hid hf
  have HT0 : Held w (w.alloc (.cells #[.slice A1 vs.length c1, .slice A2 fs.length c2] 29)) [(w.heap.size, [.slice A1 vs.length c1, .slice A2 fs.length c2])] := by
    have h := (Held.nil w).new #[.slice A1 vs.length c1, .slice A2 fs.length c2] 29
    simpa only [World.size_alloc] using h
  have HI : ∀ {bs : List (Nat × List Value)} (W : World), Held w W bs → MeshIn W A1 A2 vs fs := fun W h => ⟨(HIN.out.1.below h.below).more h.size, (HIN.out.2.below h.below).more h.size⟩
  have HT := Lib.hid HT0
  clear hR hf HT0
  have HT1 := Lib.hid (HT.out.alloc (.cells #[] 3))
  have ho1 := own_base (base' := w.heap.size + 1) (made_none (w.alloc (.cells #[.slice A1 vs.length c1, .slice A2 fs.length c2] 29)) 3) (by simp)
  simp only [World.size_alloc] at ho1
  have HO1 := Lib.hid ho1
  clear ho1
  have c0' := (HT1.out.box 0).c 0
  have c1' := (HT1.out.box 0).c 1
  obtain ⟨ok, hok⟩ : ∃ ok, ok = okMesh vs fs := ⟨_, rfl⟩
  have HOK := Lib.hid hok
  have HC := sValidMesh_any A1 A2 c1 c2 vs fs _ (HI _ HT1.out) HF.out
  rw [← hok] at HC
  clear hok HT
  go_enter Tryz.func49, Tryz.ntmps49
  go_wp2_with fail
  refine HC.mono ?_
  rintro e w1 ⟨rfl, hb1⟩
  have HT2 := Lib.hid (HT1.out.later hb1)
  have HO2 := Lib.hid (own_keep' HO1.out hb1)
  clear hb1 HT1 HO1 c0' c1' HC
  cases ok
  · have HE : Hid (vertF vs fs x = []) := Lib.hid (by unfold vertF; rw [← HOK.out]; rfl)
    go_wp2_with fail
    go_ret
    rw [HE.out]
    exact intOut_nil _ _ HT2.out.below
  · have hlen := (ok_len HOK.out.symm).2
    have HAF := Lib.hid ((okMesh_iff vs fs).1 HOK.out.symm).2.2.2.1
    have c1' := (HT2.out.box 0).c 1
    go_wp2
    go_loopw [5, 17] (fun v i wr => ∃ k : Nat, k ≤ fs.length ∧ i = .int .i64 k ∧ wr.ownsRow (w.heap.size + 1) 3 1 v (vF fs x k).length ((vF fs x k).map I64) ∧ Held w wr [(w.heap.size, [.slice A1 vs.length c1, .slice A2 fs.length c2])]) (fun _ i _ => fs.length - (intOf i).toNat)
    case atStart => exact ⟨0, Nat.zero_le _, rfl, HO2.out, HT2.out⟩
    case round =>
      clear c1' HT2 HO2
      obtain ⟨k, hk, rfl, hown, ht⟩ := hrel
      have HO := Lib.hid hown
      have HT := Lib.hid ht
      clear hown ht
      by_cases hlt : k < fs.length
      · obtain ⟨b, o, a, cc, rfl, hbl, hc, hle, hcm, hrow⟩ := HIN.out.2.at hlt
        have hc' := (HT.out.below.cell (p := ⟨b, o + k, none⟩) hbl).trans hc
        have HSU := Lib.hid (vF_succ fs x k hlt)
        have HLN := Lib.hid (vF_len fs x k)
        have HFO := Lib.hid (HAF.out _ (List.getElem_mem hlt))
        obtain ⟨f, hf⟩ : ∃ f, f = fs[k] := ⟨_, rfl⟩
        rw [← hf] at hc' hrow
        simp only [← hf] at HSU HFO
        have HRW := Lib.hid hrow
        have HF4 := Lib.hid (okFace_at HFO.out).1
        obtain ⟨L, hL⟩ : ∃ L, L = vF fs x k := ⟨_, rfl⟩
        rw [← hL] at HO HLN HSU
        clear hf hc hrow hle hcm hL
        go_wp2
        go_loopw [5, 24] (fun v i wi => ∃ j : Nat, j ≤ f.length ∧ i = .int .i64 j ∧ wi.ownsRow (w.heap.size + 1) 3 1 v (L ++ (if (f.take j).contains x then [((k : Nat) : Int)] else [])).length ((L ++ (if (f.take j).contains x then [((k : Nat) : Int)] else [])).map I64) ∧ Held w wi [(w.heap.size, [.slice A1 vs.length c1, .slice (some ⟨b, o, none⟩) fs.length c2])]) (fun _ i _ => f.length - (intOf i).toNat)
        case atStart => exact ⟨0, Nat.zero_le _, rfl, by simpa using HO.out, HT.out⟩
        case round =>
          clear HO HT hc'
          obtain ⟨j, hj, rfl, hown, ht⟩ := hrel
          have HO := Lib.hid hown
          have HT := Lib.hid ht
          clear hown ht
          by_cases hjl : j < f.length
          · obtain ⟨b', o', rfl, hbl', hcell⟩ := HRW.out.at hjl
            have hcell' := (HT.out.below.cell (p := ⟨b', o' + j, none⟩) hbl').trans hcell
            have HTK := Lib.hid (List.take_succ_eq_append_getElem hjl)
            have HNW := Lib.hid (okAt_new HFO.out hjl)
            obtain ⟨y, hy⟩ : ∃ y, y = f[j] := ⟨_, rfl⟩
            rw [← hy] at hcell'
            simp only [← hy] at HTK HNW
            have hj4 : j < 4 := by have := HF4.out; omega
            clear hy hcell
            by_cases he : y = x
            · subst he
              have HS : Hid ((f.take j).contains y = false ∧ (f.take (j + 1)).contains y = true) := Lib.hid ⟨HNW.out, by rw [HTK.out]; simp⟩
              have HO' : Hid (wr.ownsRow (w.heap.size + 1) 3 1 u5 L.length (L.map I64)) := Lib.hid (by have := HO.out; rw [HS.out.1] at this; simpa using this)
              clear HO
              go_wp2_with (at_builtin; refine wpList_app1 wr rfl _ _ 45 rfl (w.heap.size + 1) 3 (.int .i64 0) 8 Tryz.underlying45 infoInt rfl _ _ _ (by rfl) HO'.out (.int .i64 k) (by rfl) (by rfl) (by have := HLN.out; unfold maxLen; omega) (by have := HLN.out; omega) (by exact (HT.out.box 0).lt) ?_)
              intro v' w4 ho4 hg4
              have HT4 := Lib.hid (heldGrown HT.out hg4 (fun k hk => Nat.le_of_succ_le (own_block HO'.out k hk)) (fun p hp e => by
                simp only [List.mem_singleton] at hp
                subst hp
                have := own_block HO'.out _ e.symm
                omega))
              have HO4 : Hid (w4.ownsRow (w.heap.size + 1) 3 1 v' (L ++ (if (f.take (j + 1)).contains y then [((k : Nat) : Int)] else [])).length ((L ++ (if (f.take (j + 1)).contains y then [((k : Nat) : Int)] else [])).map I64)) := Lib.hid (by rw [HS.out.2]; simpa using ho4)
              clear ho4 hg4 HO' HT
              go_wp2_with fail
              go_roundw
              case rel => exact ⟨j + 1, by omega, by go_num, HO4.out, HT4.out⟩
              case measure => simp [intOf]; omega
            · have HS : Hid ((f.take (j + 1)).contains x = (f.take j).contains x) := Lib.hid (by rw [HTK.out, Bool.eq_iff_iff]; simp only [List.contains_iff_mem, List.mem_append, List.mem_singleton]; exact ⟨fun h => h.resolve_right (fun e => he e.symm), Or.inl⟩)
              have HE := Lib.hid he
              go_wp2
              go_roundw
              case rel => exact ⟨j + 1, by omega, by go_num, by rw [HS.out]; exact HO.out, HT.out⟩
              case measure => simp [intOf]; omega
          · have e : j = f.length := by omega
            have HO4 : Hid (wr.ownsRow (w.heap.size + 1) 3 1 u5 (vF fs x (k + 1)).length ((vF fs x (k + 1)).map I64)) := Lib.hid (by have := HO.out; rw [e, List.take_length, ← HSU.out] at this; exact this)
            clear e HO
            go_wp2
            go_roundw
            case rel => exact ⟨k + 1, by omega, by go_num, HO4.out, HT.out⟩
            case measure => simp [intOf]; omega
      · have e : k = fs.length := by omega
        subst e
        obtain ⟨A5, c5, e5⟩ := own_shape HO.out
        have HFIN : Hid (IntOut w (vertF vs fs x) (.returned u5) wr) := Lib.hid (by
          have hv : vertF vs fs x = vF fs x fs.length := by unfold vertF; rw [← HOK.out]; rfl
          have ho := HO.out
          rw [e5] at ho
          exact ⟨A5, c5, by rw [e5, hv], by rw [hv]; exact own_base ho (by omega), HT.out.below⟩)
        clear e5 HO HT
        go_wp2
        go_ret
        exact HFIN.out

end Go.Proofs.YtdefhepagpgnaaaGreat
