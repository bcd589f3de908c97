/- A vertex on no boundary edge has as many neighbours as faces (values alone). -/
import Derived.Test.YtdefhepagpgnaaaGreatKa
namespace Go.Proofs.YtdefhepagpgnaaaGreat
open Go.RowKit

/-- does the edge end in v? -/
def inc (v : Int) (e : E2) : Bool := decide (e.1 = v ∨ e.2 = v)
theorem nbOf_len (v : Int) (e : E2) : (nbOf v e).length = if inc v e then 1 else 0 := by
  unfold nbOf inc
  by_cases h1 : e.1 = v
  · simp [h1]
  · by_cases h2 : e.2 = v
    · simp [h1, h2]
    · simp [h1, h2]
theorem nbL_count (v : Int) (Z : List E2) : (nbL v Z).length = (Z.filter (inc v)).length := by
  unfold nbL
  induction Z with
  | nil => rfl
  | cons a r ih =>
    rw [List.flatMap_cons, List.length_append, ih, nbOf_len, List.filter_cons]
    by_cases h : inc v a = true
    · simp [h]; omega
    · simp [h]
theorem inc_und (v : Int) (s : E2) : inc v (und s) = inc v s := by
  unfold inc
  rcases und_cases (a := s.1) (b := s.2) (e := und s) rfl with ⟨h1, h2⟩ | ⟨h1, h2⟩
  · rw [← h1, ← h2]
  · rw [← h1, ← h2]
    exact decide_eq_decide.2 (Or.comm)
theorem steps_inc {n : Nat} {f : List Int} (h : okFace n f = true) (v : Int) : ((stepsL f).filter (inc v)).length = if f.contains v then 2 else 0 := by
  obtain ⟨h4, hat⟩ := okFace_at h
  obtain ⟨a, b, c, d, rfl⟩ := four h4
  have h1 := hat 1 (by simp)
  have h2 := hat 2 (by simp)
  have h3 := hat 3 (by simp)
  simp [okAt] at h1 h2 h3
  have e : stepsL [a, b, c, d] = [(a, b), (b, c), (c, d), (d, a)] := by simp [stepsL, stepAt, List.range, List.range.loop]
  rw [e]
  have hab : ¬ a = b := by omega
  have hac : ¬ a = c := by omega
  have had : ¬ a = d := by omega
  have hbc : ¬ b = c := by omega
  have hbd : ¬ b = d := by omega
  have hcd : ¬ c = d := by omega
  clear h1 h2 h3 hat e h
  have hba : ¬ b = a := fun h => hab h.symm
  have hca : ¬ c = a := fun h => hac h.symm
  have hda : ¬ d = a := fun h => had h.symm
  have hcb : ¬ c = b := fun h => hbc h.symm
  have hdb : ¬ d = b := fun h => hbd h.symm
  have hdc : ¬ d = c := fun h => hcd h.symm
  by_cases va : v = a
  · subst va; simp [inc, hba, hca, hda]
  · by_cases vb : v = b
    · subst vb; simp [inc, hab, hcb, hdb]
    · by_cases vc : v = c
      · subst vc; simp [inc, hac, hbc, hdc]
      · by_cases vd : v = d
        · subst vd; simp [inc, had, hbd, hcd]
        · have va' : ¬ a = v := fun h => va h.symm
          have vb' : ¬ b = v := fun h => vb h.symm
          have vc' : ¬ c = v := fun h => vc h.symm
          have vd' : ¬ d = v := fun h => vd h.symm
          simp [inc, va, vb, vc, vd, va', vb', vc', vd']
theorem faceS_inc (v : Int) (f : List Int) (k : Nat) : ((faceS f k).filter fun p => inc v p.1).length = ((stepsL f).filter (inc v)).length := by
  unfold faceS
  rw [List.filter_map, List.length_map]
  congr 1
  congr 1
  funext s
  exact inc_und v s
theorem tabTo_inc {n : Nat} (v : Int) (fs : List (List Int)) (hok : ∀ f ∈ fs, okFace n f = true) : ∀ k, k ≤ fs.length → ((tabTo fs k).filter fun p => inc v p.1).length = 2 * (vF fs v k).length
  | 0, _ => by simp [tabTo, vF]
  | k + 1, hk => by
    have ih := tabTo_inc v fs hok k (by omega)
    rw [tabTo_succ fs k (by omega), List.filter_append, List.length_append, ih, faceS_inc, steps_inc (hok _ (List.getElem_mem _)) v, vF_succ fs v k (by omega), List.length_append]
    by_cases h : fs[k].contains v = true
    · rw [if_pos h, if_pos h]; simp; omega
    · rw [if_neg h, if_neg h]; simp
theorem tabTo_fst (fs : List (List Int)) : ∀ k, k ≤ fs.length → (tabTo fs k).map Prod.fst = (stepsTo fs k).map und
  | 0, _ => by simp [tabTo, stepsTo]
  | k + 1, hk => by
    rw [tabTo_succ fs k (by omega), stepsTo_succ fs k (by omega), List.map_append, List.map_append, tabTo_fst fs k (by omega)]
    congr 1
    unfold faceS
    rw [List.map_map]
    rfl
theorem sub_len {α : Type} [DecidableEq α] : ∀ {l m : List α}, l.Nodup → (∀ x ∈ l, x ∈ m) → l.length ≤ m.length
  | [], _, _, _ => Nat.zero_le _
  | a :: l, m, hn, hs => by
    have hn := List.nodup_cons.1 hn
    have h1 := sub_len (l := l) (m := m.erase a) hn.2 (fun x hx => (List.mem_erase_of_ne (fun e => hn.1 (by rw [← e]; exact hx))).2 (hs x (List.mem_cons_of_mem _ hx)))
    have h2 := List.length_erase_of_mem (hs a List.mem_cons_self)
    have h3 := List.length_pos_of_mem (hs a List.mem_cons_self)
    simp only [List.length_cons]
    omega
theorem atE_count (S : List (E2 × Int)) (e : E2) : (atE S e).length = (S.map Prod.fst).count e := by
  unfold atE
  rw [List.length_map, List.count_eq_countP, List.countP_map, List.countP_eq_length_filter]
  congr 1
  congr 1
  funext p
  rw [Bool.eq_iff_iff]
  simp [Function.comp]
theorem atE_two {vs : List V3} {fs : List (List Int)} (h : okMesh vs fs = true) (e : E2) : (atE (tabL vs fs) e).length ≤ 2 := by
  rw [atE_count]
  unfold tabL
  rw [if_pos h, tabTo_fst _ _ (Nat.le_refl _), stepsTo_all, List.count_eq_countP, List.countP_map, List.countP_eq_length_filter]
  have hn := ((okMesh_iff vs fs).1 h).2.2.2.2
  refine Nat.le_trans (sub_len (m := [e, (e.2, e.1)]) (hn.sublist List.filter_sublist) (fun x hx => ?_)) (by simp)
  have hx := (List.mem_filter.1 hx).2
  have hx : und (x.1, x.2) = e := by simpa [Function.comp] using hx
  rcases und_cases hx with ⟨h1, h2⟩ | ⟨h1, h2⟩
  · exact List.mem_cons.2 (.inl (Prod.ext h1 h2))
  · exact List.mem_cons_of_mem _ (List.mem_singleton.2 (Prod.ext h1 h2))
theorem double_len : ∀ (Z : List E2), Z.Nodup → ∀ L : List E2, (∀ x ∈ L, x ∈ Z) → (∀ e ∈ Z, L.count e = 2) → L.length = 2 * Z.length
  | [], _, L, hm, _ => by
    cases L with
    | nil => rfl
    | cons a r => exact absurd (hm a List.mem_cons_self) (by simp)
  | e :: Z, hn, L, hm, hc => by
    have hn := List.nodup_cons.1 hn
    have h1 := double_len Z hn.2 (L.filter fun x => !(x == e)) (fun x hx => by
      have hx := List.mem_filter.1 hx
      have hne : ¬ x = e := by simpa using hx.2
      rcases List.mem_cons.1 (hm x hx.1) with h | h
      · exact absurd h hne
      · exact h) (fun f hf => by
      rw [List.count_filter (by
        have : ¬ f = e := fun c => hn.1 (c ▸ hf)
        simpa using this)]
      exact hc f (List.mem_cons_of_mem _ hf))
    have h2 := List.length_eq_countP_add_countP (fun x => x == e) (l := L)
    have h3 := hc e List.mem_cons_self
    rw [List.count_eq_countP] at h3
    rw [← List.countP_eq_length_filter] at h1
    have h4 : L.countP (fun x => decide ¬(x == e) = true) = L.countP (fun x => !(x == e)) := by
      congr 1
      funext x
      cases x == e <;> rfl
    rw [List.length_cons]
    omega
theorem nb_count {vs : List V3} {fs : List (List Int)} (h : okMesh vs fs = true) (v : Int) (hr : rimL vs fs v = []) : (nbM vs fs v).length = (vertF vs fs v).length := by
  have hu : (edL vs fs).Nodup := upE_nodup (edgesL_up _)
  have h2 : ∀ e ∈ (edL vs fs).filter (inc v), ((tabL vs fs).map Prod.fst).count e = 2 := by
    intro e he
    obtain ⟨he, hi⟩ := List.mem_filter.1 he
    have hk := (edgesL_mem _ _).1 he
    have h1 := atE_pos hk
    have h3 := atE_two h e
    rw [← atE_count]
    have h4 : ¬ (atE (tabL vs fs) e).length = 1 := fun h4 => by
      have hb : e ∈ bdL vs fs := List.mem_filter.2 ⟨he, by unfold bdOf; exact decide_eq_true h4⟩
      have hc := nbL_count v (bdL vs fs)
      have hl := List.length_pos_of_mem (List.mem_filter.2 ⟨hb, hi⟩)
      unfold rimL at hr
      rw [hr] at hc
      simp only [List.length_nil] at hc
      omega
    omega
  have h3 := double_len ((edL vs fs).filter (inc v)) (hu.sublist List.filter_sublist) (((tabL vs fs).map Prod.fst).filter (inc v)) (fun x hx => by
    have hx := List.mem_filter.1 hx
    exact List.mem_filter.2 ⟨(edgesL_mem _ _).2 hx.1, hx.2⟩) (fun e he => by
    rw [List.count_filter (List.mem_filter.1 he).2]
    exact h2 e he)
  have h4 : (((tabL vs fs).map Prod.fst).filter (inc v)).length = 2 * (vertF vs fs v).length := by
    unfold tabL vertF
    rw [if_pos h, if_pos h, List.filter_map, List.length_map]
    exact tabTo_inc v fs (ok_all h).2.2 _ (Nat.le_refl _)
  have h5 := nbL_count v (edL vs fs)
  unfold nbM
  omega
/-- what the model adds up at such a vertex -/
def inS (vs : List V3) (fs : List (List Int)) (v : Int) : List V3 :=
  let n : Int := (vertF vs fs v).length
  mulV ((n - 3) * n) (gV vs v) :: ((vertF vs fs v).map (fpI vs fs) ++ (nbM vs fs v).flatMap fun b => [gV vs v, gV vs b])
theorem addV_comm (a b : V3) : addV a b = addV b a := by simp [addV, Int.add_comm]
theorem addV_left (a b c : V3) : addV a (addV b c) = addV b (addV a c) := by rw [← addV_assoc, addV_comm a b, addV_assoc]
theorem mulV_add (j k : Int) (a : V3) : mulV (j + k) a = addV (mulV j a) (mulV k a) := by simp [mulV, addV, Int.add_mul]
theorem sum_pairs (p : V3) (vs : List V3) : ∀ l : List Int, sumV (l.flatMap fun b => [p, gV vs b]) = addV (mulV l.length p) (sumV (l.map (gV vs)))
  | [] => by simp [sumV, mulV, addV]
  | b :: l => by
    rw [List.flatMap_cons, sumV_app, sum_pairs p vs l, List.map_cons, sumV_cons, sumV_cons, sumV_cons, sumV_nil, addV_zero]
    have e : mulV ((b :: l).length : Int) p = addV p (mulV (l.length : Int) p) := by
      rw [List.length_cons, Int.natCast_add, Int.add_comm, mulV_add]
      congr 1
      exact mulV_one p
    rw [e, addV_assoc, addV_assoc, addV_left (gV vs b)]
theorem rearr (a b c d : V3) : addV (addV a b) (addV c d) = addV b (addV c (addV a d)) := by
  refine v3_ext ?_ ?_ ?_ <;> simp only [addV] <;> omega
theorem inS_eq {vs : List V3} {fs : List (List Int)} (h : okMesh vs fs = true) (v : Int) (hr : rimL vs fs v = []) : divV (((vertF vs fs v).length : Int) * ((vertF vs fs v).length : Int)) (sumV (inS vs fs v)) = avgL (inL vs fs v) := by
  have hc := nb_count h v hr
  unfold avgL
  have e1 : wtot (inL vs fs v) = ((vertF vs fs v).length : Int) * ((vertF vs fs v).length : Int) := by
    unfold inL
    dsimp only
    rw [wtot_cons, wtot_ones, List.length_append, List.length_map, List.length_map, hc]
    generalize (vertF vs fs v).length = n
    rw [Int.natCast_add, Int.mul_sub]
    omega
  have e2 : wsum (inL vs fs v) = sumV (inS vs fs v) := by
    unfold inL inS
    dsimp only
    rw [wsum_cons, wsum_ones, sumV_cons, sumV_app, sumV_app, sum_pairs, hc]
    generalize (vertF vs fs v).length = n
    dsimp only
    rw [mulV_add, Int.mul_comm ((n : Int) - 3)]
    exact rearr _ _ _ _
  rw [e1, e2]
end Go.Proofs.YtdefhepagpgnaaaGreat
