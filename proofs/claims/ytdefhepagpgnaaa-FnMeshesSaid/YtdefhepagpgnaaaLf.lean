/- Kh and Kf and Kr in one text. -/
import Derived.Test.YtdefhepagpgnaaaProg
import Derived.Test.YtdefhepagpgnaaaInts
import Derived.Test.YtdefhepagpgnaaaVbox
import Derived.Test.YtdefhepagpgnaaaVec
import Derived.Test.YtdefhepagpgnaaaHeld
import Derived.Test.YtdefhepagpgnaaaMem
import Derived.Test.YtdefhepagpgnaaaRowC
import Derived.Test.YtdefhepagpgnaaaIntS
import Derived.Test.YtdefhepagpgnaaaVecS
import Derived.Test.YtdefhepagpgnaaaSS
import Derived.Test.YtdefhepagpgnaaaMkA
import Derived.Test.YtdefhepagpgnaaaMkB
import Derived.Test.YtdefhepagpgnaaaMkC
import Derived.Test.YtdefhepagpgnaaaMkD
import Derived.Test.YtdefhepagpgnaaaMF
import Derived.Test.YtdefhepagpgnaaaMG
import Derived.Test.YtdefhepagpgnaaaMH
import Derived.Test.YtdefhepagpgnaaaMEd
import Derived.Test.YtdefhepagpgnaaaMNb
import Derived.Test.YtdefhepagpgnaaaMBd
import Derived.Test.YtdefhepagpgnaaaKp
import Derived.Test.YtdefhepagpgnaaaKa
import Derived.Test.YtdefhepagpgnaaaKt
import Derived.Test.YtdefhepagpgnaaaKx
import Derived.Test.YtdefhepagpgnaaaMEu
import Derived.WalkKit
import Derived.WalkSpells
import Derived.WalkLawsBesides
import Derived.Lib.Hide
import Derived.Deep.RegionHeld3
import Derived.Deep.QuietTactic
import Derived.BigQuiet
import Derived.Handy
import Derived.Deep.DeepCutAuto
import Derived.OwnWalk
/- The points of a subdivided mesh lie within the bounds of its vertices: values alone. -/
namespace Go.Proofs.Ytdefhepagpgnaaa
open Go.RowKit

theorem gV_btw {lo hi : V3} {vs : List V3} (h : ∀ v ∈ vs, Btw lo hi v) {i : Int} (h0 : 0 ≤ i) (h1 : i < vs.length) : Btw lo hi (gV vs i) := by
  unfold gV
  have hk : i.toNat < vs.length := by omega
  rw [gd _ _ _ hk]
  exact h _ (List.getElem_mem hk)
theorem ones_btw {lo hi : V3} {l : List V3} (h : ∀ v ∈ l, Btw lo hi v) (h0 : l ≠ []) : Btw lo hi (avgL (ones l)) := by
  refine avg_btw (fun p hp => ?_) ?_
  · unfold ones at hp
    obtain ⟨v, hv, rfl⟩ := List.mem_map.1 hp
    exact ⟨by show (0 : Int) ≤ 1; decide, h v hv⟩
  · rw [wtot_ones]
    have := List.length_pos_iff.2 h0
    omega
theorem fpI_btw {lo hi : V3} {vs : List V3} {fs : List (List Int)} (hok : okMesh vs fs = true) (h : ∀ v ∈ vs, Btw lo hi v) {i : Int} (h0 : 0 ≤ i) (h1 : i < fs.length) : Btw lo hi (fpI vs fs i) := by
  unfold fpI fpV
  have hk : i.toNat < fs.length := by omega
  rw [gd _ _ _ hk]
  have h4 := face_in4 ((ok_all hok).2.2 _ (List.getElem_mem hk))
  refine ones_btw (fun v hv => ?_) (fun c => ?_)
  · obtain ⟨x, hx, rfl⟩ := List.mem_map.1 hv
    exact gV_btw h (h4.2 x hx).1 (h4.2 x hx).2
  · have := congrArg List.length c
    rw [List.length_map, h4.1] at this
    cases this
theorem und_und (e : E2) : und (und e) = und e := by
  unfold und mnP mxP
  dsimp only
  refine Prod.ext ?_ ?_ <;> dsimp only <;> split <;> split <;> omega
theorem ed_on {vs : List V3} {fs : List (List Int)} {e : E2} (he : e ∈ edL vs fs) : onE vs fs e.1 e.2 ≠ [] := by
  have hk := (edgesL_mem _ _).1 he
  obtain ⟨p, hp, rfl⟩ := List.mem_map.1 hk
  obtain ⟨_, _, _, _, s, _, hs⟩ := tab_mem hp
  have hu : und (p.1.1, p.1.2) = p.1 := by rw [show (p.1.1, p.1.2) = p.1 from rfl, hs]; exact und_und s
  unfold onE atE
  rw [hu]
  refine fun c => ?_
  have : p.2 ∈ ((tabL vs fs).filter fun q => decide (q.1 = p.1)).map Prod.snd := List.mem_map.2 ⟨p, List.mem_filter.2 ⟨hp, decide_eq_true rfl⟩, rfl⟩
  rw [c] at this
  cases this
theorem epL_btw {lo hi : V3} {vs : List V3} {fs : List (List Int)} (hok : okMesh vs fs = true) (h : ∀ v ∈ vs, Btw lo hi v) {e : E2} (he : e ∈ edL vs fs) : Btw lo hi (epL vs fs e.1 e.2) := by
  unfold epL
  rw [if_neg (ed_on he)]
  obtain ⟨_, ha, hb⟩ := ed_in he
  refine ones_btw (fun v hv => ?_) (by simp)
  rcases List.mem_append.1 hv with hv | hv
  · simp only [List.mem_cons, List.not_mem_nil, or_false] at hv
    rcases hv with rfl | rfl
    · exact gV_btw h ha.1 ha.2
    · exact gV_btw h hb.1 hb.2
  · split at hv
    · obtain ⟨i, hi, rfl⟩ := List.mem_map.1 hv
      have := onE_mem hi
      exact fpI_btw hok h this.1 this.2
    · cases hv
theorem vpL_btw {lo hi : V3} {vs : List V3} {fs : List (List Int)} (hok : okMesh vs fs = true) (h : ∀ v ∈ vs, Btw lo hi v) {k : Nat} (hk : k < vs.length) (hin : (vertF vs fs k).length ≠ 1 ∨ rimL vs fs k ≠ []) : Btw lo hi (vpL vs fs k) := by
  unfold vpL
  rw [if_pos ⟨hok, by omega, by omega⟩]
  have hg : Btw lo hi (gV vs k) := gV_btw h (by omega) (by omega)
  split
  · rename_i h2
    refine avg_btw (fun p hp => ?_) ?_
    · rcases List.mem_cons.1 hp with rfl | hp
      · exact ⟨by show (0 : Int) ≤ 6; decide, hg⟩
      · unfold ones at hp
        obtain ⟨v, hv, rfl⟩ := List.mem_map.1 hp
        obtain ⟨i, hi, rfl⟩ := List.mem_map.1 hv
        have := rim_in hi
        exact ⟨by show (0 : Int) ≤ 1; decide, gV_btw h this.1 this.2⟩
    · rw [wtot_cons, wtot_ones]
      dsimp only
      omega
  · split
    · exact hg
    · rename_i h2 h3
      have hr : rimL vs fs k = [] := Decidable.not_not.1 fun c => h3 (.inl c)
      have hf : vertF vs fs k ≠ [] := fun c => h3 (.inr c)
      have hp := List.length_pos_iff.2 hf
      have hc := nb_count hok k hr
      obtain ⟨n, hn⟩ : ∃ n, n = (vertF vs fs k).length := ⟨_, rfl⟩
      have hn1 : n ≠ 1 := by
        rcases hin with h4 | h4
        · rw [hn]; exact h4
        · exact absurd hr h4
      have hn2 : (2 : Int) ≤ (n : Int) := by omega
      have e1 : (n : Int) + (n : Int) * ((n : Int) - 3) = ((n : Int) - 2) * (n : Int) := by rw [Int.mul_sub, Int.sub_mul, Int.mul_comm (n : Int) 3]; omega
      have hnn : 0 ≤ ((n : Int) - 2) * (n : Int) := Int.mul_nonneg (by omega) (by omega)
      unfold inL
      dsimp only
      rw [← hn, e1]
      refine avg_btw (fun p hp => ?_) ?_
      · rcases List.mem_cons.1 hp with rfl | hp
        · exact ⟨hnn, hg⟩
        · unfold ones at hp
          obtain ⟨v, hv, rfl⟩ := List.mem_map.1 hp
          refine ⟨by show (0 : Int) ≤ 1; decide, ?_⟩
          rcases List.mem_append.1 hv with hv | hv
          · obtain ⟨i, hi, rfl⟩ := List.mem_map.1 hv
            have := vertF_mem hi
            exact fpI_btw hok h this.1 this.2
          · obtain ⟨i, hi, rfl⟩ := List.mem_map.1 hv
            have := nbM_in hi
            exact gV_btw h this.1 this.2
      · rw [wtot_cons, wtot_ones, List.length_append, List.length_map, List.length_map]
        dsimp only
        omega
/-- no point of the subdivided mesh leaves a box that holds the vertices -/
theorem subP_btw {lo hi : V3} {vs : List V3} {fs : List (List Int)} (hok : okMesh vs fs = true) (h : ∀ v ∈ vs, Btw lo hi v) (hin : ∀ k : Nat, k < vs.length → (vertF vs fs k).length ≠ 1 ∨ rimL vs fs k ≠ []) : ∀ p ∈ subP vs fs, Btw lo hi p := by
  intro p hp
  unfold subP at hp
  rcases List.mem_append.1 hp with hp | hp
  · rcases List.mem_append.1 hp with hp | hp
    · obtain ⟨k, hk, rfl⟩ := List.mem_map.1 hp
      have hk := List.mem_range.1 hk
      exact vpL_btw hok h hk (hin k hk)
    · obtain ⟨e, he, rfl⟩ := List.mem_map.1 hp
      exact epL_btw hok h he
  · obtain ⟨k, hk, rfl⟩ := List.mem_map.1 hp
    have hk := List.mem_range.1 hk
    exact fpI_btw hok h (by omega) (by omega)

end Go.Proofs.Ytdefhepagpgnaaa

/- What subdivision keeps, for meshes whose faces are given: values alone. -/
namespace Go.Proofs.Ytdefhepagpgnaaa
open Go.RowKit

def esF (fs : List (List Int)) : List E2 := edgesL ((tabTo fs fs.length).map Prod.fst)
def bdF (fs : List (List Int)) : List E2 := (esF fs).filter (bdOf (tabTo fs fs.length))
theorem tabL_ok {vs : List V3} {fs : List (List Int)} (h : okMesh vs fs = true) : tabL vs fs = tabTo fs fs.length := by unfold tabL; rw [if_pos h]
theorem edL_ok {vs : List V3} {fs : List (List Int)} (h : okMesh vs fs = true) : edL vs fs = esF fs := by unfold edL esF; rw [tabL_ok h]
theorem bdL_ok {vs : List V3} {fs : List (List Int)} (h : okMesh vs fs = true) : bdL vs fs = bdF fs := by unfold bdL bdF; rw [tabL_ok h, edL_ok h]
def okFs (n : Nat) (fs : List (List Int)) : Bool := decide (n ≤ 80) && decide (fs.length ≤ 64) && fs.all (okFace n) && decide (fs.flatMap stepsL).Nodup
theorem okMesh_of {vs : List V3} {fs : List (List Int)} (hv : ∀ v ∈ vs, InV 1000000 v) (h : okFs vs.length fs = true) : okMesh vs fs = true := by
  unfold okFs at h
  simp only [Bool.and_eq_true, decide_eq_true_eq, List.all_eq_true] at h
  refine (okMesh_iff vs fs).2 ⟨h.1.1.1, h.1.1.2, fun v hm => ?_, h.1.2, h.2⟩
  unfold okV3
  exact (okB_iff _ _ _).2 (hv v hm)
def euF (n : Nat) (fs : List (List Int)) : Int := ((usedTo fs n).length : Int) - ((esF fs).length : Int) + (fs.length : Int)
def meshChk (n : Nat) (fs : List (List Int)) : Bool :=
  okFs n fs && decide (fs.length ≤ 16) && decide (0 < fs.length) && decide (0 < n) && decide (n + (esF fs).length + fs.length ≤ 80) &&
  ((List.range n).all fun (k : Nat) => decide ((vF fs (k : Int) fs.length).length ≠ 1) || decide (nbL (k : Int) (bdF fs) ≠ [])) &&
  okFs (n + (esF fs).length + fs.length) (qdTo n (esF fs) fs fs.length) &&
  decide (euF (n + (esF fs).length + fs.length) (qdTo n (esF fs) fs fs.length) = euF n fs) &&
  decide ((bdF (qdTo n (esF fs) fs fs.length)).length = 2 * (bdF fs).length)
theorem meshes_ok {vs : List V3} {fs : List (List Int)} (hv : ∀ v ∈ vs, InV 1000000 v) (hc : meshChk vs.length fs = true) :
    okMesh vs fs = true ∧ subOk vs fs = true ∧ okMesh (subP vs fs) (subF vs fs) = true ∧ eulerI (subP vs fs) (subF vs fs) = eulerI vs fs ∧ closedB (subP vs fs) (subF vs fs) = closedB vs fs ∧ (bdL (subP vs fs) (subF vs fs)).length = 2 * (bdL vs fs).length ∧
      (∀ k : Nat, k < vs.length → (vertF vs fs k).length ≠ 1 ∨ rimL vs fs k ≠ []) ∧ 0 < vs.length := by
  unfold meshChk at hc
  simp only [Bool.and_eq_true, decide_eq_true_eq] at hc
  obtain ⟨⟨⟨⟨⟨⟨⟨⟨h1, h2⟩, h3⟩, h3'⟩, h4⟩, h5⟩, h6⟩, h7⟩, h8⟩ := hc
  have ok := okMesh_of hv h1
  have eE := edL_ok ok
  have hsub : subOk vs fs = true := (subOk_iff _ _).2 ⟨ok, h2, by rw [eE]; exact h4⟩
  have hin : ∀ k : Nat, k < vs.length → (vertF vs fs k).length ≠ 1 ∨ rimL vs fs k ≠ [] := fun k hk => by
    have h := List.all_eq_true.1 h5 k (List.mem_range.2 hk)
    simp only [Bool.or_eq_true, decide_eq_true_eq] at h
    unfold vertF rimL
    rw [if_pos ok, bdL_ok ok]
    exact h
  have hP : ∀ v ∈ subP vs fs, InV 1000000 v := fun v hm => InV.btw.2 (subP_btw ok (fun x hx => InV.btw.1 (hv x hx)) hin v hm)
  have eF : subF vs fs = qdTo vs.length (esF fs) fs fs.length := by unfold subF; rw [eE]
  have eP : (subP vs fs).length = vs.length + (esF fs).length + fs.length := by rw [subP_len, eE]
  have ok2 : okMesh (subP vs fs) (subF vs fs) = true := okMesh_of hP (by rw [eP, eF]; exact h6)
  refine ⟨ok, hsub, ok2, ?_, ?_, ?_, hin, h3'⟩
  · unfold eulerI usedL
    rw [if_pos ok, if_pos ok2, edL_ok ok2, eE, eP, eF]
    exact h7
  · unfold closedB
    rw [ok, ok2, bdL_ok ok2, bdL_ok ok, eF, h8, qdTo_len _ _ _ _ (Nat.le_refl _)]
    congr 1
    · congr 1
      exact decide_eq_decide.2 (by omega)
    · exact decide_eq_decide.2 (by omega)
  · rw [bdL_ok ok2, bdL_ok ok, eF, h8]
def cubeF : List (List Int) := [[0, 2, 3, 1], [4, 5, 7, 6], [0, 1, 5, 4], [2, 6, 7, 3], [0, 4, 6, 2], [1, 3, 7, 5]]
def stripF (n : Nat) : List (List Int) := (List.range n).map fun (i : Nat) => [2 * (i : Int), 2 * (i : Int) + 2, 2 * (i : Int) + 3, 2 * (i : Int) + 1]
set_option maxRecDepth 100000 in
theorem chk_cube : meshChk 8 cubeF = true := by kernel_rfl
set_option maxRecDepth 100000 in
theorem chk_strip1 : meshChk 4 (stripF 1) = true := by kernel_rfl
set_option maxRecDepth 100000 in
theorem chk_strip2 : meshChk 6 (stripF 2) = true := by kernel_rfl
set_option maxRecDepth 100000 in
theorem chk_strip3 : meshChk 8 (stripF 3) = true := by kernel_rfl
/-- the meshes that a law draws -/
def MadeMesh (vs : List V3) (fs : List (List Int)) : Prop := (∀ v ∈ vs, InV 1000000 v) ∧ ((vs.length = 8 ∧ fs = cubeF) ∨ ∃ n, 1 ≤ n ∧ n ≤ 3 ∧ vs.length = 2 * n + 2 ∧ fs = stripF n)
theorem MadeMesh.chk {vs : List V3} {fs : List (List Int)} (h : MadeMesh vs fs) : meshChk vs.length fs = true := by
  rcases h.2 with ⟨h1, h2⟩ | ⟨n, h1, h2, h3, h4⟩
  · rw [h1, h2]; exact chk_cube
  · have hn : n = 1 ∨ n = 2 ∨ n = 3 := by omega
    rcases hn with rfl | rfl | rfl
    · rw [h3, h4]; exact chk_strip1
    · rw [h3, h4]; exact chk_strip2
    · rw [h3, h4]; exact chk_strip3

end Go.Proofs.Ytdefhepagpgnaaa

/- A made mesh and what its subdivision is: what a law reads of them. -/
set_option autoImplicit false
set_option maxRecDepth 8000
open Go Go.Lib Go.RowKit
namespace Go.Proofs.Ytdefhepagpgnaaa
theorem subF_four {vs : List V3} {fs : List (List Int)} : ∀ f ∈ subF vs fs, f.length = 4 := fun f hf => by
  unfold subF qdTo at hf
  obtain ⟨j, _, hf⟩ := List.mem_flatMap.1 hf
  unfold qdF at hf
  obtain ⟨i, _, rfl⟩ := List.mem_map.1 hf
  rfl
theorem sum_four : ∀ {fs : List (List Int)}, (∀ f ∈ fs, f.length = 4) → sumL fs = 4 * fs.length
  | [], _ => rfl
  | f :: fs, h => by
    have h1 := sum_four (fs := fs) (fun g hg => h g (List.mem_cons_of_mem _ hg))
    have h2 := h f List.mem_cons_self
    unfold sumL at *
    simp only [List.map_cons, List.sum_cons, List.length_cons, h1, h2]
    omega
theorem four_fits {vs : List V3} {fs : List (List Int)} (h : ∀ f ∈ fs, f.length = 4) (hv : vs.length ≤ 80) (hn : fs.length ≤ 64) : MeshFits vs fs := ⟨by omega, by omega, by rw [sum_four h]; omega⟩
theorem made_four {vs : List V3} {fs : List (List Int)} (h : MadeMesh vs fs) : vs.length ≤ 8 ∧ 0 < fs.length ∧ fs.length ≤ 6 ∧ ∀ f ∈ fs, f.length = 4 := by
  rcases h.2 with ⟨h1, rfl⟩ | ⟨n, h1, h2, h3, rfl⟩
  · refine ⟨by omega, by decide, by decide, ?_⟩
    decide
  · refine ⟨by omega, by simp [stripF]; omega, by simp [stripF]; omega, fun f hf => ?_⟩
    unfold stripF at hf
    obtain ⟨i, _, rfl⟩ := List.mem_map.1 hf
    rfl
theorem made_fits {vs : List V3} {fs : List (List Int)} (h : MadeMesh vs fs) : MeshFits vs fs := four_fits (made_four h).2.2.2 (by have := (made_four h).1; omega) (by have := (made_four h).2.2.1; omega)
theorem sub_fits {vs : List V3} {fs : List (List Int)} (h : subOk vs fs = true) : MeshFits (subP vs fs) (subF vs fs) := by
  obtain ⟨_, h2, h3⟩ := (subOk_iff _ _).1 h
  exact four_fits subF_four (by rw [subP_len]; exact h3) (by rw [subF_len]; omega)
theorem mesh_read {w : World} {P : List V3} {F : List (List Int)} {ok : Bool} {e : Ending} {w' : World} (h : MeshRes w P F ok e w') (hF : ∀ f ∈ F, f.length ≤ 1048576) :
    ∃ A1 c1 A2 c2, e = .returned (.tuple #[mv A1 A2 P.length c1 F.length c2, .bool ok]) ∧ MeshIn w' A1 A2 P F ∧ Below w.heap.size w w' := by
  obtain ⟨A1, c1, A2, c2, ps, he, ho1, ho2, hps, hl, _, hb⟩ := h
  refine ⟨A1, c1, A2, c2, he, ⟨RowC.of_own vg_len ho1 rfl, ?_⟩, hb⟩
  have hpl : ps.length = F.length := by rw [← hps, List.length_map]
  rw [← hpl] at ho2
  have h := hl.1.rowSS (Row.of_own ho2) (fun p hp => by
    have h1 : p.2 ∈ F := by rw [← hps]; exact List.mem_map.2 ⟨p, hp, rfl⟩
    have := hF _ h1
    unfold maxLen
    omega)
  rw [hps] at h
  exact h
end Go.Proofs.Ytdefhepagpgnaaa
