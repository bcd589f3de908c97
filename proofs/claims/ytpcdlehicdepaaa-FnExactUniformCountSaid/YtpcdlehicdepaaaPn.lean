/- Valid programs of the shading language as values; nothing of the program. -/
import Derived.Test.YtpcdlehicdepaaaKS
import Derived.Test.YtpcdlehicdepaaaPg
import Derived.Test.YtpcdlehicdepaaaIdent
namespace Go.Proofs.Ytpcdlehicdepaaa

def rtsZ (ys : List As) : List Int := ys.map (·.2)
/-- the numbers below n -/
def upZ (n : Nat) : List Int := (List.range n).map Int.ofNat
theorem upZ_len (n : Nat) : (upZ n).length = n := by simp [upZ]
theorem upZ_at (n k : Nat) (h : k < (upZ n).length) : (upZ n)[k] = (k : Int) := by simp [upZ]
theorem upZ_up (n : Nat) : List.Pairwise (fun a b : Int => decide (a ≤ b) = true) (upZ n) := by
  rw [List.pairwise_iff_getElem]
  intro i j hi hj hij
  rw [upZ_at, upZ_at]
  simp
  omega
theorem upZ_mem (n : Nat) (a : Int) : a ∈ upZ n ↔ 0 ≤ a ∧ a < n := by
  unfold upZ
  rw [List.mem_map]
  constructor
  · rintro ⟨k, hk, rfl⟩
    rw [List.mem_range] at hk
    simp
    omega
  · rintro ⟨h0, h1⟩
    exact ⟨a.toNat, by rw [List.mem_range]; omega, by show ((a.toNat : Nat) : Int) = a; omega⟩
theorem upZ_nodup (n : Nat) : (upZ n).Nodup := by
  unfold upZ List.Nodup
  rw [List.pairwise_map]
  refine List.Pairwise.imp ?_ (List.nodup_range (n := n))
  intro a b h e
  exact h (Int.ofNat.inj e)
theorem upZ_count (n : Nat) (a : Int) : (upZ n).count a = if 0 ≤ a ∧ a < n then 1 else 0 := by
  by_cases h : 0 ≤ a ∧ a < n
  · rw [if_pos h]
    have hm := (upZ_mem n a).2 h
    have h1 := List.count_pos_iff.2 hm
    have h2 := List.nodup_iff_count.1 (upZ_nodup n) a
    omega
  · rw [if_neg h]
    exact List.count_eq_zero.2 fun hm => h ((upZ_mem n a).1 hm)
abbrev srt (l : List Int) : List Int := l.mergeSort (fun x y => decide (x ≤ y))
theorem srt_len (l : List Int) : (srt l).length = l.length := (List.mergeSort_perm l _).length_eq
theorem srt_perm (l : List Int) (n : Nat) : l.Perm (upZ n) ↔ srt l = upZ n := by
  constructor
  · intro h
    refine List.Perm.eq_of_pairwise (le := fun a b : Int => decide (a ≤ b) = true) ?_ ?_ (upZ_up n) ((List.mergeSort_perm l _).trans h)
    · intro a b _ _ h1 h2
      simp at h1 h2
      omega
    · refine List.pairwise_mergeSort ?_ ?_ l
      · intro a b c h1 h2
        simp at h1 h2 ⊢
        omega
      · intro a b
        simp
        omega
  · intro h
    rw [← h]
    exact (List.mergeSort_perm l _).symm
/-- each of n numbers once -/
theorem perm_of_srt {l : List Int} {n : Nat} (h : ∀ k (hk : k < (srt l).length), (srt l)[k] = (k : Int)) (hn : l.length = n) : l.Perm (upZ n) := by
  rw [srt_perm]
  refine List.ext_getElem (by rw [srt_len, upZ_len, hn]) fun k h1 h2 => ?_
  rw [h k h1, upZ_at]
theorem not_perm_at {l : List Int} {n k : Nat} (hk : k < (srt l).length) (h : (srt l)[k] ≠ (k : Int)) : ¬ l.Perm (upZ n) := fun hp => by
  have e := (srt_perm l n).1 hp
  apply h
  have hk2 : k < (upZ n).length := by rw [← e]; exact hk
  have : (srt l)[k] = (upZ n)[k] := by congr 1
  rw [this, upZ_at]
theorem perm_len {l : List Int} {n : Nat} (h : l.Perm (upZ n)) : l.length = n := by rw [h.length_eq, upZ_len]
theorem perm_counts {l : List Int} {n : Nat} (hin : ∀ a ∈ l, 0 ≤ a ∧ a < (n : Int)) (hc : ∀ k, k < n → l.count (k : Int) = 1) : l.Perm (upZ n) := by
  rw [List.perm_iff_count]
  intro a
  rw [upZ_count]
  by_cases h : 0 ≤ a ∧ a < (n : Int)
  · rw [if_pos h]
    have := hc a.toNat (by omega)
    rw [show ((a.toNat : Nat) : Int) = a by omega] at this
    exact this
  · rw [if_neg h]
    exact List.count_eq_zero.2 fun hm => h (hin a hm)
theorem counts_perm {l : List Int} {n : Nat} (h : l.Perm (upZ n)) {k : Nat} (hk : k < n) : l.count (k : Int) = 1 := by
  rw [h.count_eq, upZ_count, if_pos (by omega)]
/-- the arguments of all nodes; all references of a program -/
def argsL (xs : List Nd) : List Int := xs.flatMap (·.2.2.2)
def refsP (xs : List Nd) (ys : List As) : List Int := rtsZ ys ++ argsL xs
theorem args_step (xs : List Nd) (k : Nat) (h : k < xs.length) : argsL (xs.take (k + 1)) = argsL (xs.take k) ++ (xs[k]).2.2.2 := by
  unfold argsL
  rw [List.take_succ_eq_append_getElem h, List.flatMap_append]
  simp
def shapeN (v : Nd) : Prop :=
  (v.1 = 1 ∧ v.2.1 = ⟨#[]⟩ ∧ 0 ≤ v.2.2.1 ∧ v.2.2.1 ≤ 2559999 ∧ v.2.2.2.length = 0) ∨
  (v.1 = 2 ∧ Ident v.2.1 ∧ v.2.2.1 = 0 ∧ v.2.2.2.length = 0) ∨
  (v.1 = 3 ∧ v.2.1 = ⟨#[]⟩ ∧ v.2.2.1 = 0 ∧ v.2.2.2.length = 1) ∨
  (4 ≤ v.1 ∧ v.1 ≤ 7 ∧ v.2.1 = ⟨#[]⟩ ∧ v.2.2.1 = 0 ∧ v.2.2.2.length = 2) ∨
  (v.1 = 8 ∧ Ident v.2.1 ∧ v.2.2.1 = 0 ∧ v.2.2.2.length ≤ 3)
def argsIn (i : Nat) (l : List Int) : Prop := ∀ a ∈ l, 0 ≤ a ∧ a ≤ (i : Int) - 1
def okN (i : Nat) (v : Nd) : Prop := shapeN v ∧ argsIn i v.2.2.2
/-- a program that can be written -/
def okPr (xs : List Nd) (ys : List As) : Prop :=
  xs.length ≤ 60 ∧ (∀ i (h : i < xs.length), okN i xs[i]) ∧ (∀ j (h : j < ys.length), Ident (ys[j]).1) ∧ (refsP xs ys).Perm (upZ xs.length)
theorem okPr_root {xs : List Nd} {ys : List As} (h : okPr xs ys) {j : Nat} (hj : j < ys.length) : 0 ≤ (ys[j]).2 ∧ (ys[j]).2 < xs.length := by
  refine (upZ_mem _ _).1 (h.2.2.2.mem_iff.1 ?_)
  unfold refsP rtsZ
  exact List.mem_append_left _ (List.mem_map.2 ⟨ys[j], List.getElem_mem hj, rfl⟩)
theorem refs_in {xs : List Nd} {ys : List As} (h1 : ∀ i (h : i < xs.length), argsIn i (xs[i]).2.2.2) (h2 : ∀ j (h : j < ys.length), 0 ≤ (ys[j]).2 ∧ (ys[j]).2 < xs.length) : ∀ a ∈ refsP xs ys, 0 ≤ a ∧ a < (xs.length : Int) := by
  intro a ha
  unfold refsP rtsZ argsL at ha
  rcases List.mem_append.1 ha with ha | ha
  · obtain ⟨y, hy, rfl⟩ := List.mem_map.1 ha
    obtain ⟨j, hj, rfl⟩ := List.getElem_of_mem hy
    exact h2 j hj
  · obtain ⟨x, hx, ha⟩ := List.mem_flatMap.1 ha
    obtain ⟨i, hi, rfl⟩ := List.getElem_of_mem hx
    have := h1 i hi a ha
    omega
theorem args_len (xs : List Nd) : ∀ m, (∀ x ∈ xs, x.2.2.2.length ≤ m) → (argsL xs).length ≤ xs.length * m := by
  induction xs with
  | nil => intro m _; simp [argsL]
  | cons x xs ih =>
    intro m h
    have h1 := h x (by simp)
    have h2 := ih m (fun y hy => h y (by simp [hy]))
    unfold argsL at h2 ⊢
    simp only [List.flatMap_cons, List.length_append, List.length_cons, Nat.add_mul]
    omega
end Go.Proofs.Ytpcdlehicdepaaa
