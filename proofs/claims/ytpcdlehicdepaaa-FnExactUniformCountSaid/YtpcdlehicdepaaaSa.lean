/- The checker of the shading language on values: who owns a node, what is assigned before, which nodes are uniform; nothing of the program. -/
import Derived.Test.YtpcdlehicdepaaaPn
namespace Go.Proofs.Ytpcdlehicdepaaa

section
variable (xs : List Nd) (ys : List As)
/-- the parent of a node, where it is an argument -/
def parP (i : Nat) : Option Nat := (List.range xs.length).find? fun j => decide (i < j) && decide ((i : Int) ∈ (xs.getD j (0, ⟨#[]⟩, 0, [])).2.2.2)
def rootP (i : Nat) : Option Nat := (List.range ys.length).find? fun k => decide ((ys.getD k (⟨#[]⟩, 0)).2 = (i : Int))
/-- the assignment that owns a node, with fuel -/
def ownF : Nat → Nat → Int
  | 0, _ => 0
  | f + 1, i => match rootP ys i with
    | some k => (k : Int)
    | none => match parP xs i with
      | some j => ownF f j
      | none => 0
def ownV (i : Nat) : Int := ownF xs ys xs.length i
end
theorem getD_at {α : Type} {l : List α} {k : Nat} (h : k < l.length) (d : α) : l.getD k d = l[k] := by
  simp [List.getD, List.getElem?_eq_getElem h]
theorem find_range {n : Nat} {p : Nat → Bool} {k : Nat} (h : (List.range n).find? p = some k) : k < n ∧ p k = true ∧ ∀ j, j < k → p j = false := by
  rw [List.find?_range_eq_some] at h
  exact ⟨by simpa using h.2.1, h.1, fun j hj => by simpa using h.2.2 j hj⟩
theorem find_none {n : Nat} {p : Nat → Bool} (h : (List.range n).find? p = none) : ∀ j, j < n → p j = false := by
  rw [List.find?_range_eq_none] at h
  exact fun j hj => by simpa using h j hj
section
variable {xs : List Nd} {ys : List As}
theorem par_lt {i j : Nat} (h : parP xs i = some j) : ∃ hj : j < xs.length, i < j ∧ (i : Int) ∈ (xs[j]).2.2.2 := by
  obtain ⟨h1, h2, _⟩ := find_range h
  rw [Bool.and_eq_true, decide_eq_true_eq, decide_eq_true_eq, getD_at h1] at h2
  exact ⟨h1, h2⟩
theorem ownF_fuel : ∀ (f g i : Nat), i < xs.length → xs.length - i ≤ f → xs.length - i ≤ g → ownF xs ys f i = ownF xs ys g i := by
  intro f
  induction f with
  | zero => intro g i hi hf; omega
  | succ f ih =>
    intro g i hi hf hg
    cases g with
    | zero => omega
    | succ g =>
      unfold ownF
      cases rootP ys i with
      | some k => rfl
      | none =>
        simp only
        cases hp : parP xs i with
        | none => rfl
        | some j =>
          obtain ⟨hj, hij, _⟩ := par_lt hp
          exact ih g j hj (by omega) (by omega)
theorem flat_apart {α : Type} (f : α → List Int) : ∀ (l : List α), (l.flatMap f).Nodup → ∀ i j (hi : i < l.length) (hj : j < l.length), i < j → ∀ a ∈ f l[i], a ∉ f l[j] := by
  intro l
  induction l with
  | nil => intro _ i j hi; simp at hi
  | cons x l ih =>
    intro hn i j hi hj hij a ha hb
    rw [List.flatMap_cons, List.nodup_append] at hn
    cases j with
    | zero => omega
    | succ j =>
      cases i with
      | zero => exact hn.2.2 a ha a (List.mem_flatMap.2 ⟨_, List.getElem_mem (by simpa using hj), hb⟩) rfl
      | succ i => exact ih hn.2.1 i j (by simpa using hi) (by simpa using hj) (by omega) a ha hb
/-- every node is referenced once -/
theorem refs_nodup (h : okPr xs ys) : (refsP xs ys).Nodup := h.2.2.2.nodup_iff.2 (upZ_nodup _)
theorem root_at (h : okPr xs ys) {k : Nat} (hk : k < ys.length) : rootP ys (ys[k]).2.toNat = some k := by
  have hr := okPr_root h hk
  have hn : (rtsZ ys).Nodup := (List.nodup_append.1 (refs_nodup h)).1
  unfold rootP
  rw [List.find?_range_eq_some]
  refine ⟨?_, by simpa using hk, fun j hj => ?_⟩
  · rw [getD_at hk]
    exact decide_eq_true (by omega)
  · have hj' : j < ys.length := by omega
    rw [getD_at hj']
    have hne : (ys[j]).2 ≠ (ys[k]).2 := fun e => by
      have h2 := List.pairwise_iff_getElem.1 hn j k (by simpa [rtsZ] using hj') (by simpa [rtsZ] using hk) hj
      apply h2
      simpa [rtsZ] using e
    have hno : ¬ (ys[j]).2 = (((ys[k]).2.toNat : Nat) : Int) := by
      have := hr.1
      omega
    rw [decide_eq_false hno]
    rfl
theorem ownV_root (h : okPr xs ys) {k : Nat} (hk : k < ys.length) : ownV xs ys (ys[k]).2.toNat = (k : Int) := by
  have hr := okPr_root h hk
  unfold ownV
  obtain ⟨n, hn⟩ : ∃ n, xs.length = n + 1 := ⟨xs.length - 1, by omega⟩
  rw [hn, ownF, root_at h hk]
theorem arg_not_root (h : okPr xs ys) {j : Nat} (hj : j < xs.length) {a : Int} (ha : a ∈ (xs[j]).2.2.2) : a ∉ rtsZ ys := fun hr => by
  have hd := (List.nodup_append.1 (refs_nodup h)).2.2
  exact hd a hr a (by unfold argsL; rw [List.mem_flatMap]; exact ⟨_, List.getElem_mem hj, ha⟩) rfl
theorem one_parent (h : okPr xs ys) {i j : Nat} (hi : i < xs.length) (hj : j < xs.length) {a : Int} (ha : a ∈ (xs[i]).2.2.2) (hb : a ∈ (xs[j]).2.2.2) : i = j := by
  have hn : (argsL xs).Nodup := (List.nodup_append.1 (refs_nodup h)).2.1
  unfold argsL at hn
  rcases Nat.lt_trichotomy i j with e | e | e
  · exact absurd hb (flat_apart _ xs hn i j hi hj e a ha)
  · exact e
  · exact absurd ha (flat_apart _ xs hn j i hj hi e a hb)
theorem arg_in (h : okPr xs ys) {j : Nat} (hj : j < xs.length) {a : Int} (ha : a ∈ (xs[j]).2.2.2) : 0 ≤ a ∧ a.toNat < j := by
  have := (h.2.1 j hj).2 a ha
  omega
theorem ownV_arg (h : okPr xs ys) {j : Nat} (hj : j < xs.length) {a : Int} (ha : a ∈ (xs[j]).2.2.2) : ownV xs ys a.toNat = ownV xs ys j := by
  have hin := arg_in h hj ha
  have hr : rootP ys a.toNat = none := by
    unfold rootP
    rw [List.find?_range_eq_none]
    intro k hk
    rw [getD_at hk]
    have hno : ¬ (ys[k]).2 = ((a.toNat : Nat) : Int) := fun e => arg_not_root h hj ha (by
      unfold rtsZ
      rw [List.mem_map]
      exact ⟨_, List.getElem_mem hk, by omega⟩)
    rw [decide_eq_false hno]
    rfl
  have hp : parP xs a.toNat = some j := by
    cases hq : parP xs a.toNat with
    | none =>
      unfold parP at hq
      have h2 := find_none hq j hj
      rw [getD_at hj] at h2
      simp at h2
      exact absurd (by rw [Int.max_eq_left hin.1]; exact ha) (h2 (by omega))
    | some j2 =>
      obtain ⟨hj2, _, h3⟩ := par_lt hq
      have e : ((a.toNat : Nat) : Int) = a := by omega
      rw [e] at h3
      rw [one_parent h hj2 hj h3 ha]
  obtain ⟨n, hn⟩ : ∃ n, xs.length = n + 1 := ⟨xs.length - 1, by omega⟩
  unfold ownV
  conv => lhs; rw [hn]
  rw [ownF, hr]
  simp only
  rw [hp]
  exact ownF_fuel _ _ _ hj (by omega) (by omega)
/-- a node is a root, or an argument of a node behind it -/
theorem node_ref (h : okPr xs ys) {i : Nat} (hi : i < xs.length) : (∃ k, ∃ hk : k < ys.length, (ys[k]).2 = (i : Int)) ∨ ∃ j, ∃ hj : j < xs.length, i < j ∧ (i : Int) ∈ (xs[j]).2.2.2 := by
  have hm : (i : Int) ∈ refsP xs ys := h.2.2.2.mem_iff.2 ((upZ_mem _ _).2 (by omega))
  unfold refsP rtsZ argsL at hm
  rcases List.mem_append.1 hm with hm | hm
  · obtain ⟨y, hy, he⟩ := List.mem_map.1 hm
    obtain ⟨k, hk, rfl⟩ := List.getElem_of_mem hy
    exact .inl ⟨k, hk, he⟩
  · obtain ⟨x, hx, he⟩ := List.mem_flatMap.1 hm
    obtain ⟨j, hj, rfl⟩ := List.getElem_of_mem hx
    have := arg_in h hj he
    exact .inr ⟨j, hj, by omega, he⟩
theorem ownV_in (h : okPr xs ys) : ∀ (m i : Nat), xs.length - i ≤ m → i < xs.length → 0 ≤ ownV xs ys i ∧ ownV xs ys i < ys.length := by
  intro m
  induction m with
  | zero => intro i hm hi; omega
  | succ m ih =>
    intro i hm hi
    rcases node_ref h hi with ⟨k, hk, e⟩ | ⟨j, hj, hij, ha⟩
    · have h1 := ownV_root h hk
      rw [e] at h1
      have e2 : ((i : Int)).toNat = i := by omega
      rw [e2] at h1
      omega
    · have h1 := ownV_arg h hj ha
      have e2 : ((i : Int)).toNat = i := by omega
      rw [e2] at h1
      rw [h1]
      exact ih j (by omega) hj
theorem ownV_bd (h : okPr xs ys) {i : Nat} (hi : i < xs.length) : 0 ≤ ownV xs ys i ∧ ownV xs ys i < ys.length := ownV_in h _ i (Nat.le_refl _) hi
end
end Go.Proofs.Ytpcdlehicdepaaa
