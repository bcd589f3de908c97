/- What subdivision reckons: values alone. -/
import Derived.Test.YtdefhepagpgnaaaGreatProg
import Derived.Test.YtdefhepagpgnaaaGreatInts
import Derived.Test.YtdefhepagpgnaaaGreatVbox
import Derived.Test.YtdefhepagpgnaaaGreatVec
import Derived.Test.YtdefhepagpgnaaaGreatHeld
import Derived.Test.YtdefhepagpgnaaaGreatMem
import Derived.Test.YtdefhepagpgnaaaGreatRowC
import Derived.Test.YtdefhepagpgnaaaGreatIntS
import Derived.Test.YtdefhepagpgnaaaGreatVecS
import Derived.Test.YtdefhepagpgnaaaGreatSS
import Derived.Test.YtdefhepagpgnaaaGreatMkA
import Derived.Test.YtdefhepagpgnaaaGreatMkB
import Derived.Test.YtdefhepagpgnaaaGreatMkC
import Derived.Test.YtdefhepagpgnaaaGreatMkD
import Derived.Test.YtdefhepagpgnaaaGreatMF
import Derived.Test.YtdefhepagpgnaaaGreatMG
import Derived.Test.YtdefhepagpgnaaaGreatMH
import Derived.Test.YtdefhepagpgnaaaGreatMM
import Derived.Test.YtdefhepagpgnaaaGreatMN
import Derived.Test.YtdefhepagpgnaaaGreatMV
import Derived.Test.YtdefhepagpgnaaaGreatMW
import Derived.Test.YtdefhepagpgnaaaGreatMVF
import Derived.Test.YtdefhepagpgnaaaGreatMT
import Derived.Test.YtdefhepagpgnaaaGreatME
import Derived.Test.YtdefhepagpgnaaaGreatMSo
import Derived.Test.YtdefhepagpgnaaaGreatMSP
import Derived.Test.YtdefhepagpgnaaaGreatMP
import Derived.Test.YtdefhepagpgnaaaGreatMEF
import Derived.Test.YtdefhepagpgnaaaGreatMEd
import Derived.Test.YtdefhepagpgnaaaGreatMLw
import Derived.Test.YtdefhepagpgnaaaGreatMNb
import Derived.Test.YtdefhepagpgnaaaGreatMB
import Derived.Test.YtdefhepagpgnaaaGreatMBd
import Derived.Test.YtdefhepagpgnaaaGreatKp
namespace Go.Proofs.YtdefhepagpgnaaaGreat
open Go.RowKit

def gV (vs : List V3) (i : Int) : V3 := vs.getD i.toNat (0, 0, 0)
theorem gV_nat (vs : List V3) (k : Nat) (h : k < vs.length) : gV vs (k : Int) = vs[k] := by unfold gV; rw [Int.toNat_natCast]; exact gd _ _ _ h
/-- the average of a face -/
def fpV (vs : List V3) (f : List Int) : V3 := avgL (ones (f.map (gV vs)))
def fpI (vs : List V3) (fs : List (List Int)) (i : Int) : V3 := fpV vs (fs.getD i.toNat [])
def fpL (vs : List V3) (fs : List (List Int)) (i : Int) : V3 := if okMesh vs fs = true ∧ 0 ≤ i ∧ i < fs.length then fpI vs fs i else (0, 0, 0)
def onE (vs : List V3) (fs : List (List Int)) (a b : Int) : List Int := atE (tabL vs fs) (und (a, b))
def epL (vs : List V3) (fs : List (List Int)) (a b : Int) : V3 :=
  if onE vs fs a b = [] then (0, 0, 0) else avgL (ones ([gV vs a, gV vs b] ++ if (onE vs fs a b).length = 2 then (onE vs fs a b).map (fpI vs fs) else []))
def rimL (vs : List V3) (fs : List (List Int)) (v : Int) : List Int := nbL v (bdL vs fs)
def inL (vs : List V3) (fs : List (List Int)) (v : Int) : WL :=
  let n : Int := (vertF vs fs v).length
  (n + n * (n - 3), gV vs v) :: ones ((vertF vs fs v).map (fpI vs fs) ++ (nbM vs fs v).map (gV vs))
def vpL (vs : List V3) (fs : List (List Int)) (v : Int) : V3 :=
  if okMesh vs fs = true ∧ 0 ≤ v ∧ v < vs.length then
    if (rimL vs fs v).length = 2 then avgL ((6, gV vs v) :: ones ((rimL vs fs v).map (gV vs)))
    else if rimL vs fs v ≠ [] ∨ vertF vs fs v = [] then gV vs v
    else avgL (inL vs fs v)
  else (0, 0, 0)

-- what a good mesh gives
theorem ok_vec {vs : List V3} {fs : List (List Int)} (h : okMesh vs fs = true) : ∀ v ∈ vs, InV 1000000 v := by
  intro v hv
  have h1 := ((okMesh_iff vs fs).1 h).2.2.1 v hv
  unfold okV3 at h1
  exact (okB_iff _ _ _).1 h1
theorem gV_in {vs : List V3} (h : ∀ v ∈ vs, InV 1000000 v) (i : Int) : InV 1000000 (gV vs i) := by
  unfold gV
  by_cases hk : i.toNat < vs.length
  · rw [gd _ _ _ hk]; exact h _ (List.getElem_mem hk)
  · rw [gdN _ _ _ (by omega)]; exact InV.zero (by omega)
theorem ones_avg_in {l : List V3} (h : ∀ v ∈ l, InV 1000000 v) (h0 : l ≠ []) : InV 1000000 (avgL (ones l)) := by
  rw [InV.btw]
  refine avg_btw (fun p hp => ?_) ?_
  · unfold ones at hp
    obtain ⟨v, hv, rfl⟩ := List.mem_map.1 hp
    exact ⟨by show (0 : Int) ≤ 1; decide, InV.btw.1 (h v hv)⟩
  · rw [wtot_ones]
    have := List.length_pos_iff.2 h0
    omega
theorem face_in4 {n : Nat} {f : List Int} (h : okFace n f = true) : f.length = 4 ∧ ∀ x ∈ f, 0 ≤ x ∧ x < n := by
  obtain ⟨h4, hat⟩ := okFace_at h
  refine ⟨h4, fun x hx => ?_⟩
  obtain ⟨k, hk, rfl⟩ := List.getElem_of_mem hx
  have h1 := hat k hk
  unfold okAt at h1
  rw [gd f k 0 hk] at h1
  simp only [Bool.and_eq_true, decide_eq_true_eq] at h1
  exact ⟨h1.1.1, h1.1.2⟩
theorem fpI_in {vs : List V3} {fs : List (List Int)} (h : okMesh vs fs = true) {i : Int} (h0 : 0 ≤ i) (h1 : i < fs.length) : InV 1000000 (fpI vs fs i) := by
  unfold fpI fpV
  have hk : i.toNat < fs.length := by omega
  rw [gd _ _ _ hk]
  have h4 := (face_in4 ((ok_all h).2.2 _ (List.getElem_mem hk))).1
  refine ones_avg_in (fun v hv => ?_) (fun c => ?_)
  · obtain ⟨x, _, rfl⟩ := List.mem_map.1 hv
    exact gV_in (ok_vec h) x
  · have := congrArg List.length c
    rw [List.length_map, h4] at this
    cases this
-- the keys of the table
theorem tab_mem {vs : List V3} {fs : List (List Int)} {p : E2 × Int} (h : p ∈ tabL vs fs) : okMesh vs fs = true ∧ ∃ k, ∃ hk : k < fs.length, p.2 = (k : Int) ∧ ∃ s ∈ stepsL fs[k], p.1 = und s := by
  unfold tabL at h
  split at h
  · rename_i hok
    refine ⟨hok, ?_⟩
    unfold tabTo at h
    obtain ⟨i, hi, hp⟩ := List.mem_flatMap.1 h
    have hi := List.mem_range.1 hi
    rw [gd fs i [] hi] at hp
    obtain ⟨s, hs, rfl⟩ := List.mem_map.1 hp
    exact ⟨i, hi, rfl, s, hs, rfl⟩
  · simp at h
theorem onE_mem {vs : List V3} {fs : List (List Int)} {a b i : Int} (h : i ∈ onE vs fs a b) : 0 ≤ i ∧ i < fs.length := by
  unfold onE atE at h
  obtain ⟨p, hp, rfl⟩ := List.mem_map.1 h
  obtain ⟨_, k, hk, e, _⟩ := tab_mem (List.mem_filter.1 hp).1
  rw [e]
  omega
theorem und_cases {a b : Int} {e : E2} (h : und (a, b) = e) : (a = e.1 ∧ b = e.2) ∨ (a = e.2 ∧ b = e.1) := by
  subst h
  unfold und mnP mxP
  dsimp only
  split <;> split <;> omega
theorem step_in {n : Nat} {f : List Int} (h : okFace n f = true) : ∀ s ∈ stepsL f, (0 ≤ s.1 ∧ s.1 < n) ∧ (0 ≤ s.2 ∧ s.2 < n) := by
  obtain ⟨h4, hin⟩ := face_in4 h
  obtain ⟨a, b, c, d, rfl⟩ := four h4
  intro s hs
  have e : stepsL [a, b, c, d] = [(a, b), (b, c), (c, d), (d, a)] := by simp [stepsL, stepAt, List.range, List.range.loop]
  rw [e] at hs
  have ha := hin a (by simp)
  have hb := hin b (by simp)
  have hc := hin c (by simp)
  have hd := hin d (by simp)
  simp only [List.mem_cons, List.not_mem_nil, or_false] at hs
  rcases hs with rfl | rfl | rfl | rfl <;> exact ⟨by assumption, by assumption⟩
theorem und_in {n : Int} {s : E2} (h : (0 ≤ s.1 ∧ s.1 < n) ∧ (0 ≤ s.2 ∧ s.2 < n)) : (0 ≤ (und s).1 ∧ (und s).1 < n) ∧ (0 ≤ (und s).2 ∧ (und s).2 < n) := by
  unfold und mnP mxP
  dsimp only
  split <;> split <;> omega
theorem key_in {vs : List V3} {fs : List (List Int)} {e : E2} (h : e ∈ (tabL vs fs).map Prod.fst) : okMesh vs fs = true ∧ (0 ≤ e.1 ∧ e.1 < vs.length) ∧ (0 ≤ e.2 ∧ e.2 < vs.length) := by
  obtain ⟨p, hp, rfl⟩ := List.mem_map.1 h
  obtain ⟨hok, k, hk, _, s, hs, e1⟩ := tab_mem hp
  refine ⟨hok, ?_⟩
  rw [e1]
  exact und_in (step_in ((ok_all hok).2.2 _ (List.getElem_mem hk)) s hs)
theorem ed_in {vs : List V3} {fs : List (List Int)} {e : E2} (h : e ∈ edL vs fs) : okMesh vs fs = true ∧ (0 ≤ e.1 ∧ e.1 < vs.length) ∧ (0 ≤ e.2 ∧ e.2 < vs.length) := key_in ((edgesL_mem _ _).1 h)
theorem onE_in {vs : List V3} {fs : List (List Int)} {a b : Int} (h : onE vs fs a b ≠ []) : okMesh vs fs = true ∧ (0 ≤ a ∧ a < vs.length) ∧ (0 ≤ b ∧ b < vs.length) := by
  obtain ⟨i, hi⟩ := List.exists_mem_of_ne_nil _ h
  unfold onE atE at hi
  obtain ⟨p, hp, _⟩ := List.mem_map.1 hi
  have hp := List.mem_filter.1 hp
  have e := of_decide_eq_true hp.2
  obtain ⟨hok, h1, h2⟩ := key_in (List.mem_map.2 ⟨p, hp.1, rfl⟩)
  rw [e] at h1 h2
  refine ⟨hok, ?_⟩
  rcases und_cases (a := a) (b := b) rfl with ⟨ha, hb⟩ | ⟨ha, hb⟩
  · rw [← ha] at h1; rw [← hb] at h2; exact ⟨h1, h2⟩
  · rw [← ha] at h2; rw [← hb] at h1; exact ⟨h2, h1⟩
theorem vertF_mem {vs : List V3} {fs : List (List Int)} {v i : Int} (h : i ∈ vertF vs fs v) : 0 ≤ i ∧ i < fs.length := by
  unfold vertF at h
  split at h
  · unfold vF at h
    obtain ⟨k, hk, rfl⟩ := List.mem_map.1 h
    have := List.mem_range.1 (List.mem_filter.1 hk).1
    omega
  · simp at h
theorem nbL_mem {v x : Int} {Z : List E2} (h : x ∈ nbL v Z) : ∃ e ∈ Z, x = e.1 ∨ x = e.2 := by
  unfold nbL at h
  obtain ⟨e, he, hx⟩ := List.mem_flatMap.1 h
  refine ⟨e, he, ?_⟩
  unfold nbOf at hx
  split at hx
  · simp at hx; exact .inr hx
  · split at hx
    · simp at hx; exact .inl hx
    · simp at hx
theorem nb_in {vs : List V3} {fs : List (List Int)} {v x : Int} {Z : List E2} (hZ : ∀ e ∈ Z, e ∈ edL vs fs) (h : x ∈ nbL v Z) : 0 ≤ x ∧ x < vs.length := by
  obtain ⟨e, he, h1 | h1⟩ := nbL_mem h
  · rw [h1]; exact (ed_in (hZ e he)).2.1
  · rw [h1]; exact (ed_in (hZ e he)).2.2
theorem bd_sub {vs : List V3} {fs : List (List Int)} : ∀ e ∈ bdL vs fs, e ∈ edL vs fs := fun _ h => (List.mem_filter.1 h).1
theorem rim_in {vs : List V3} {fs : List (List Int)} {v x : Int} (h : x ∈ rimL vs fs v) : 0 ≤ x ∧ x < vs.length := nb_in bd_sub h
theorem nbM_in {vs : List V3} {fs : List (List Int)} {v x : Int} (h : x ∈ nbM vs fs v) : 0 ≤ x ∧ x < vs.length := nb_in (fun _ h => h) h
theorem rim_len (vs : List V3) (fs : List (List Int)) (v : Int) : (rimL vs fs v).length ≤ 256 := Nat.le_trans (nbL_len _ _) (bdL_len vs fs)
theorem vertF_len64 (vs : List V3) (fs : List (List Int)) (v : Int) : (vertF vs fs v).length ≤ 64 := by
  unfold vertF
  split
  · rename_i h
    exact Nat.le_trans (vF_len _ _ _) (ok_all h).2.1
  · simp
end Go.Proofs.YtdefhepagpgnaaaGreat
