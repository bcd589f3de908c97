/- Merged texts: Sa Sb Sc Sd Se Sf. -/
import Derived.Test.YtlcnjiephbhdaaaC2
import Derived.Test.YtlcnjiephbhdaaaProg
import Derived.Test.YtlcnjiephbhdaaaC0
import Derived.Test.YtlcnjiephbhdaaaC1
import Derived.WalkKit
import Derived.WalkSpells
import Derived.WalkLawsBesides
import Derived.Lib.Hide
import Derived.Deep.RegionHeld3
import Derived.Deep.QuietTactic
import Derived.BigQuiet
import Derived.Handy
import Derived.Deep.DeepCutAuto
import Derived.OwnWalk
namespace Go.Proofs.Ytlcnjiephbhdaaa
section

section
variable (xs : List Nd) (ys : List As)
/-- the parent of a node, where it is an argument -/
def parP (i : Nat) : Option Nat := (List.range xs.length).find? fun j => decide (i < j) && decide ((i : Int) ∈ (xs.getD j (0, ⟨#[]⟩, 0, [])).2.2.2)
def rootP (i : Nat) : Option Nat := (List.range ys.length).find? fun k => decide ((ys.getD k (⟨#[]⟩, 0)).2 = (i : Int))
/-- the assignment that owns a node, with fuel -/
def ownF : Nat → Nat → Int
  | 0, _ => 0
  | f + 1, i => match rootP ys i with
    | some k => (k : Int)
    | none => match parP xs i with
      | some j => ownF f j
      | none => 0
def ownV (i : Nat) : Int := ownF xs ys xs.length i
end
theorem getD_at {α : Type} {l : List α} {k : Nat} (h : k < l.length) (d : α) : l.getD k d = l[k] := by
  simp [List.getD, List.getElem?_eq_getElem h]
theorem find_range {n : Nat} {p : Nat → Bool} {k : Nat} (h : (List.range n).find? p = some k) : k < n ∧ p k = true ∧ ∀ j, j < k → p j = false := by
  rw [List.find?_range_eq_some] at h
  exact ⟨by simpa using h.2.1, h.1, fun j hj => by simpa using h.2.2 j hj⟩
theorem find_none {n : Nat} {p : Nat → Bool} (h : (List.range n).find? p = none) : ∀ j, j < n → p j = false := by
  rw [List.find?_range_eq_none] at h
  exact fun j hj => by simpa using h j hj
section
variable {xs : List Nd} {ys : List As}
theorem par_lt {i j : Nat} (h : parP xs i = some j) : ∃ hj : j < xs.length, i < j ∧ (i : Int) ∈ (xs[j]).2.2.2 := by
  obtain ⟨h1, h2, _⟩ := find_range h
  rw [Bool.and_eq_true, decide_eq_true_eq, decide_eq_true_eq, getD_at h1] at h2
  exact ⟨h1, h2⟩
theorem ownF_fuel : ∀ (f g i : Nat), i < xs.length → xs.length - i ≤ f → xs.length - i ≤ g → ownF xs ys f i = ownF xs ys g i := by
  intro f
  induction f with
  | zero => intro g i hi hf; omega
  | succ f ih =>
    intro g i hi hf hg
    cases g with
    | zero => omega
    | succ g =>
      unfold ownF
      cases rootP ys i with
      | some k => rfl
      | none =>
        simp only
        cases hp : parP xs i with
        | none => rfl
        | some j =>
          obtain ⟨hj, hij, _⟩ := par_lt hp
          exact ih g j hj (by omega) (by omega)
theorem flat_apart {α : Type} (f : α → List Int) : ∀ (l : List α), (l.flatMap f).Nodup → ∀ i j (hi : i < l.length) (hj : j < l.length), i < j → ∀ a ∈ f l[i], a ∉ f l[j] := by
  intro l
  induction l with
  | nil => intro _ i j hi; simp at hi
  | cons x l ih =>
    intro hn i j hi hj hij a ha hb
    rw [List.flatMap_cons, List.nodup_append] at hn
    cases j with
    | zero => omega
    | succ j =>
      cases i with
      | zero => exact hn.2.2 a ha a (List.mem_flatMap.2 ⟨_, List.getElem_mem (by simpa using hj), hb⟩) rfl
      | succ i => exact ih hn.2.1 i j (by simpa using hi) (by simpa using hj) (by omega) a ha hb
/-- every node is referenced once -/
theorem refs_nodup (h : okPr xs ys) : (refsP xs ys).Nodup := h.2.2.2.nodup_iff.2 (upZ_nodup _)
theorem root_at (h : okPr xs ys) {k : Nat} (hk : k < ys.length) : rootP ys (ys[k]).2.toNat = some k := by
  have hr := okPr_root h hk
  have hn : (rtsZ ys).Nodup := (List.nodup_append.1 (refs_nodup h)).1
  unfold rootP
  rw [List.find?_range_eq_some]
  refine ⟨?_, by simpa using hk, fun j hj => ?_⟩
  · rw [getD_at hk]
    exact decide_eq_true (by omega)
  · have hj' : j < ys.length := by omega
    rw [getD_at hj']
    have hne : (ys[j]).2 ≠ (ys[k]).2 := fun e => by
      have h2 := List.pairwise_iff_getElem.1 hn j k (by simpa [rtsZ] using hj') (by simpa [rtsZ] using hk) hj
      apply h2
      simpa [rtsZ] using e
    have hno : ¬ (ys[j]).2 = (((ys[k]).2.toNat : Nat) : Int) := by
      have := hr.1
      omega
    rw [decide_eq_false hno]
    rfl
theorem ownV_root (h : okPr xs ys) {k : Nat} (hk : k < ys.length) : ownV xs ys (ys[k]).2.toNat = (k : Int) := by
  have hr := okPr_root h hk
  unfold ownV
  obtain ⟨n, hn⟩ : ∃ n, xs.length = n + 1 := ⟨xs.length - 1, by omega⟩
  rw [hn, ownF, root_at h hk]
theorem arg_not_root (h : okPr xs ys) {j : Nat} (hj : j < xs.length) {a : Int} (ha : a ∈ (xs[j]).2.2.2) : a ∉ rtsZ ys := fun hr => by
  have hd := (List.nodup_append.1 (refs_nodup h)).2.2
  exact hd a hr a (by unfold argsL; rw [List.mem_flatMap]; exact ⟨_, List.getElem_mem hj, ha⟩) rfl
theorem one_parent (h : okPr xs ys) {i j : Nat} (hi : i < xs.length) (hj : j < xs.length) {a : Int} (ha : a ∈ (xs[i]).2.2.2) (hb : a ∈ (xs[j]).2.2.2) : i = j := by
  have hn : (argsL xs).Nodup := (List.nodup_append.1 (refs_nodup h)).2.1
  unfold argsL at hn
  rcases Nat.lt_trichotomy i j with e | e | e
  · exact absurd hb (flat_apart _ xs hn i j hi hj e a ha)
  · exact e
  · exact absurd ha (flat_apart _ xs hn j i hj hi e a hb)
theorem arg_in (h : okPr xs ys) {j : Nat} (hj : j < xs.length) {a : Int} (ha : a ∈ (xs[j]).2.2.2) : 0 ≤ a ∧ a.toNat < j := by
  have := (h.2.1 j hj).2 a ha
  omega
theorem ownV_arg (h : okPr xs ys) {j : Nat} (hj : j < xs.length) {a : Int} (ha : a ∈ (xs[j]).2.2.2) : ownV xs ys a.toNat = ownV xs ys j := by
  have hin := arg_in h hj ha
  have hr : rootP ys a.toNat = none := by
    unfold rootP
    rw [List.find?_range_eq_none]
    intro k hk
    rw [getD_at hk]
    have hno : ¬ (ys[k]).2 = ((a.toNat : Nat) : Int) := fun e => arg_not_root h hj ha (by
      unfold rtsZ
      rw [List.mem_map]
      exact ⟨_, List.getElem_mem hk, by omega⟩)
    rw [decide_eq_false hno]
    rfl
  have hp : parP xs a.toNat = some j := by
    cases hq : parP xs a.toNat with
    | none =>
      unfold parP at hq
      have h2 := find_none hq j hj
      rw [getD_at hj] at h2
      simp at h2
      exact absurd (by rw [Int.max_eq_left hin.1]; exact ha) (h2 (by omega))
    | some j2 =>
      obtain ⟨hj2, _, h3⟩ := par_lt hq
      have e : ((a.toNat : Nat) : Int) = a := by omega
      rw [e] at h3
      rw [one_parent h hj2 hj h3 ha]
  obtain ⟨n, hn⟩ : ∃ n, xs.length = n + 1 := ⟨xs.length - 1, by omega⟩
  unfold ownV
  conv => lhs; rw [hn]
  rw [ownF, hr]
  simp only
  rw [hp]
  exact ownF_fuel _ _ _ hj (by omega) (by omega)
/-- a node is a root, or an argument of a node behind it -/
theorem node_ref (h : okPr xs ys) {i : Nat} (hi : i < xs.length) : (∃ k, ∃ hk : k < ys.length, (ys[k]).2 = (i : Int)) ∨ ∃ j, ∃ hj : j < xs.length, i < j ∧ (i : Int) ∈ (xs[j]).2.2.2 := by
  have hm : (i : Int) ∈ refsP xs ys := h.2.2.2.mem_iff.2 ((upZ_mem _ _).2 (by omega))
  unfold refsP rtsZ argsL at hm
  rcases List.mem_append.1 hm with hm | hm
  · obtain ⟨y, hy, he⟩ := List.mem_map.1 hm
    obtain ⟨k, hk, rfl⟩ := List.getElem_of_mem hy
    exact .inl ⟨k, hk, he⟩
  · obtain ⟨x, hx, he⟩ := List.mem_flatMap.1 hm
    obtain ⟨j, hj, rfl⟩ := List.getElem_of_mem hx
    have := arg_in h hj he
    exact .inr ⟨j, hj, by omega, he⟩
theorem ownV_in (h : okPr xs ys) : ∀ (m i : Nat), xs.length - i ≤ m → i < xs.length → 0 ≤ ownV xs ys i ∧ ownV xs ys i < ys.length := by
  intro m
  induction m with
  | zero => intro i hm hi; omega
  | succ m ih =>
    intro i hm hi
    rcases node_ref h hi with ⟨k, hk, e⟩ | ⟨j, hj, hij, ha⟩
    · have h1 := ownV_root h hk
      rw [e] at h1
      have e2 : ((i : Int)).toNat = i := by omega
      rw [e2] at h1
      omega
    · have h1 := ownV_arg h hj ha
      have e2 : ((i : Int)).toNat = i := by omega
      rw [e2] at h1
      rw [h1]
      exact ih j (by omega) hj
theorem ownV_bd (h : okPr xs ys) {i : Nat} (hi : i < xs.length) : 0 ≤ ownV xs ys i ∧ ownV xs ys i < ys.length := ownV_in h _ i (Nat.le_refl _) hi
end
end

section

def varsL : List ByteArray := [⟨#[117]⟩, ⟨#[118]⟩, ⟨#[120]⟩, ⟨#[121]⟩, ⟨#[122]⟩, ⟨#[116]⟩]
/-- a predefined variable -/
def inL (l : List ByteArray) (s : ByteArray) : Bool := l.any fun x => decide (x = s)
def varB (s : ByteArray) : Bool := inL varsL s
def ar1L : List ByteArray := [⟨#[97, 98, 115]⟩, ⟨#[102, 108, 111, 111, 114]⟩, ⟨#[100, 117]⟩, ⟨#[100, 118]⟩]
def ar2L : List ByteArray := [⟨#[109, 105, 110]⟩, ⟨#[109, 97, 120]⟩, ⟨#[115, 116, 101, 112]⟩, ⟨#[110, 111, 105, 115, 101]⟩, ⟨#[116, 101, 120]⟩]
def ar3L : List ByteArray := [⟨#[99, 108, 97, 109, 112]⟩, ⟨#[109, 105, 120]⟩]
/-- the number of a function's parameters -/
def arN (s : ByteArray) : Int := if inL ar1L s = true then 1 else if inL ar2L s = true then 2 else if inL ar3L s = true then 3 else -1
/-- the last of the first k assignments to a name before b -/
def asgF (ys : List As) (nm : ByteArray) (b : Int) : Nat → Int
  | 0 => -1
  | k + 1 => if (k : Int) < b ∧ (ys.getD k (⟨#[]⟩, 0)).1 = nm then (k : Int) else asgF ys nm b k
def asgd (ys : List As) (nm : ByteArray) (b : Int) : Int := asgF ys nm b ys.length
theorem asgF_in {ys : List As} {nm : ByteArray} {b : Int} : ∀ (k : Nat), k ≤ ys.length → 0 ≤ asgF ys nm b k → ∃ i, ∃ h : i < ys.length, i < k ∧ asgF ys nm b k = (i : Int) ∧ (i : Int) < b ∧ (ys[i]).1 = nm := by
  intro k
  induction k with
  | zero => intro _ h; simp [asgF] at h
  | succ k ih =>
    intro hk h
    unfold asgF at h ⊢
    by_cases hc : (k : Int) < b ∧ (ys.getD k (⟨#[]⟩, 0)).1 = nm
    · rw [if_pos hc]
      rw [getD_at (by omega)] at hc
      exact ⟨k, by omega, by omega, rfl, hc.1, hc.2⟩
    · rw [if_neg hc] at h ⊢
      obtain ⟨i, h1, h2, h3⟩ := ih (by omega) h
      exact ⟨i, h1, by omega, h3⟩
theorem asgF_no {ys : List As} {nm : ByteArray} {b : Int} : ∀ (k : Nat), k ≤ ys.length → asgF ys nm b k < 0 → ∀ i (h : i < ys.length), i < k → (i : Int) < b → (ys[i]).1 ≠ nm := by
  intro k
  induction k with
  | zero => intro _ _ i _ h; omega
  | succ k ih =>
    intro hk h i hi hik hib
    unfold asgF at h
    by_cases hc : (k : Int) < b ∧ (ys.getD k (⟨#[]⟩, 0)).1 = nm
    · rw [if_pos hc] at h
      omega
    · rw [if_neg hc] at h
      by_cases e : i = k
      · subst e
        intro e2
        exact hc ⟨hib, by rw [getD_at hi]; exact e2⟩
      · exact ih (by omega) h i hi (by omega) hib
section
variable (xs : List Nd) (ys : List As)
abbrev ndA (i : Nat) : Nd := xs.getD i (0, ⟨#[]⟩, 0, [])
def badN (i : Nat) : Bool := (decide ((ndA xs i).1 = 2) && !varB (ndA xs i).2.1 && decide (asgd ys (ndA xs i).2.1 (ownV xs ys i) < 0)) || (decide ((ndA xs i).1 = 8) && decide (arN (ndA xs i).2.1 < 0))
def badR (i : Nat) : Bool := decide ((ndA xs i).1 = 8) && decide (arN (ndA xs i).2.1 ≠ ((ndA xs i).2.2.2.length : Int))
def badS (i : Nat) : Bool := varB (ys.getD i (⟨#[]⟩, 0)).1 || decide (0 ≤ asgd ys (ys.getD i (⟨#[]⟩, 0)).1 (i : Int))
def firstB (n : Nat) (p : Nat → Bool) : Option Nat := (List.range n).find? p
/-- the four tests behind validity -/
def chkV : Int × Int :=
  match firstB xs.length (badN xs ys) with
  | some i => (2, (i : Int))
  | none => match firstB xs.length (badR xs) with
    | some i => (3, (i : Int))
    | none => match firstB ys.length (badS ys) with
      | some i => (4, (i : Int))
      | none => if asgd ys ⟨#[99, 111, 108, 111, 114]⟩ ys.length < 0 then (5, 0) else (0, 0)
open Classical in
/-- what Check answers -/
noncomputable def chkP : Int × Int := if okPr xs ys then chkV xs ys else (1, 0)
/-- a uniform node, with fuel -/
def uF : Nat → Nat → Bool
  | 0, _ => false
  | f + 1, i =>
    if (ndA xs i).1 = 2 then
      if (ndA xs i).2.1 = ⟨#[116]⟩ then true
      else if varB (ndA xs i).2.1 = true then false
      else uF f (ys.getD (asgd ys (ndA xs i).2.1 (ownV xs ys i)).toNat (⟨#[]⟩, 0)).2.toNat
    else if (ndA xs i).1 = 8 ∧ (ndA xs i).2.1 = ⟨#[116, 101, 120]⟩ then false
    else (ndA xs i).2.2.2.all fun a => uF f a.toNat
def mU (i : Nat) : Nat := (ownV xs ys i).toNat * (xs.length + 1) + i
def uV (i : Nat) : Bool := uF xs ys ((ys.length + 1) * (xs.length + 1)) i
end
theorem first_some {n : Nat} {p : Nat → Bool} {k : Nat} (hk : k < n) (hp : p k = true) (hb : ∀ j, j < k → p j = false) : firstB n p = some k := by
  unfold firstB
  rw [List.find?_range_eq_some]
  exact ⟨hp, by simpa using hk, fun j hj => by rw [hb j hj]; rfl⟩
theorem first_none {n : Nat} {p : Nat → Bool} (hb : ∀ j, j < n → p j = false) : firstB n p = none := by
  unfold firstB
  rw [List.find?_range_eq_none]
  exact fun j hj => by rw [hb j hj]; rfl
section
variable {xs : List Nd} {ys : List As}
theorem chk_ok (h : chkP xs ys = (0, 0)) : okPr xs ys ∧ (∀ i, i < xs.length → badN xs ys i = false) ∧ (∀ i, i < xs.length → badR xs i = false) ∧ (∀ k, k < ys.length → badS ys k = false) ∧ 0 ≤ asgd ys ⟨#[99, 111, 108, 111, 114]⟩ ys.length := by
  unfold chkP at h
  split at h
  · rename_i hok
    unfold chkV at h
    split at h
    · simp at h
    rename_i h1
    split at h
    · simp at h
    rename_i h2
    split at h
    · simp at h
    rename_i h3
    split at h
    · simp at h
    · exact ⟨hok, find_none h1, find_none h2, find_none h3, by omega⟩
  · simp at h
/-- the local variable that a name means lies before -/
theorem ref_before (h : okPr xs ys) (hb : ∀ i, i < xs.length → badN xs ys i = false) {i : Nat} (hi : i < xs.length) (h2 : (ndA xs i).1 = 2) (hv : varB (ndA xs i).2.1 = false) :
    ∃ k, ∃ hk : k < ys.length, asgd ys (ndA xs i).2.1 (ownV xs ys i) = (k : Int) ∧ (k : Int) < ownV xs ys i ∧ (ys[k]).2.toNat < xs.length ∧ 0 ≤ (ys[k]).2 ∧ ownV xs ys (ys[k]).2.toNat = (k : Int) := by
  have hbi := hb i hi
  unfold badN at hbi
  rw [Bool.or_eq_false_iff] at hbi
  have h3 : 0 ≤ asgd ys (ndA xs i).2.1 (ownV xs ys i) := by
    have := hbi.1
    rw [h2, hv] at this
    simpa using this
  obtain ⟨k, hk, _, he, hlt, _⟩ := asgF_in _ (Nat.le_refl _) h3
  have hr := okPr_root h hk
  exact ⟨k, hk, he, hlt, by omega, hr.1, ownV_root h hk⟩
theorem mU_lt (h : okPr xs ys) {i : Nat} (hi : i < xs.length) : mU xs ys i < (ys.length + 1) * (xs.length + 1) := by
  have := ownV_bd h hi
  unfold mU
  have h2 : (ownV xs ys i).toNat + 1 ≤ ys.length := by omega
  have h3 := Nat.mul_le_mul_right (xs.length + 1) h2
  rw [Nat.add_mul] at h3 ⊢
  omega
theorem mU_before {i k r : Nat} (hk : (k : Int) < ownV xs ys i) (hr : r < xs.length) (ho : ownV xs ys r = (k : Int)) : mU xs ys r < mU xs ys i := by
  unfold mU
  rw [ho]
  have h2 : ((k : Int)).toNat + 1 ≤ (ownV xs ys i).toNat := by omega
  have h3 := Nat.mul_le_mul_right (xs.length + 1) h2
  rw [Nat.add_mul] at h3
  omega
theorem mU_arg (h : okPr xs ys) {i : Nat} (hi : i < xs.length) {a : Int} (ha : a ∈ (xs[i]).2.2.2) : mU xs ys a.toNat < mU xs ys i := by
  unfold mU
  rw [ownV_arg h hi ha]
  have := arg_in h hi ha
  omega
theorem uF_fuel (h : okPr xs ys) (hb : ∀ i, i < xs.length → badN xs ys i = false) : ∀ (f g i : Nat), i < xs.length → mU xs ys i < f → mU xs ys i < g → uF xs ys f i = uF xs ys g i := by
  intro f
  induction f with
  | zero => intro g i hi hf; omega
  | succ f ih =>
    intro g i hi hf hg
    cases g with
    | zero => omega
    | succ g =>
      unfold uF
      split
      · rename_i h2
        split
        · rfl
        split
        · rfl
        rename_i hv
        have hv : varB (ndA xs i).2.1 = false := by simpa using hv
        obtain ⟨k, hk, he, hlt, hr, _, ho⟩ := ref_before h hb hi h2 hv
        rw [he]
        have e2 : ((k : Int)).toNat = k := by omega
        rw [e2, getD_at hk]
        have hm := mU_before hlt hr ho
        exact ih g _ hr (by omega) (by omega)
      · split
        · rfl
        · have hall : ∀ a ∈ (ndA xs i).2.2.2, uF xs ys f a.toNat = uF xs ys g a.toNat := fun a ha => by
            unfold ndA at ha
            rw [getD_at hi] at ha
            have hm := mU_arg h hi ha
            have hin := arg_in h hi ha
            exact ih g _ (by omega) (by omega) (by omega)
          rw [Bool.eq_iff_iff, List.all_eq_true, List.all_eq_true]
          exact ⟨fun hh a ha => by rw [← hall a ha]; exact hh a ha, fun hh a ha => by rw [hall a ha]; exact hh a ha⟩
theorem uV_step (h : okPr xs ys) (hb : ∀ i, i < xs.length → badN xs ys i = false) {i : Nat} (hi : i < xs.length) : uV xs ys i =
    (if (ndA xs i).1 = 2 then
      if (ndA xs i).2.1 = ⟨#[116]⟩ then true
      else if varB (ndA xs i).2.1 = true then false
      else uV xs ys (ys.getD (asgd ys (ndA xs i).2.1 (ownV xs ys i)).toNat (⟨#[]⟩, 0)).2.toNat
    else if (ndA xs i).1 = 8 ∧ (ndA xs i).2.1 = ⟨#[116, 101, 120]⟩ then false
    else (ndA xs i).2.2.2.all fun a => uV xs ys a.toNat) := by
  have hlt := mU_lt h hi
  unfold uV
  obtain ⟨n, hn⟩ : ∃ n, (ys.length + 1) * (xs.length + 1) = n + 1 := ⟨(ys.length + 1) * (xs.length + 1) - 1, by omega⟩
  rw [hn] at hlt ⊢
  conv => lhs; unfold uF
  split
  · rename_i h2
    split
    · rfl
    split
    · rfl
    rename_i hv
    have hv : varB (ndA xs i).2.1 = false := by simpa using hv
    obtain ⟨k, hk, he, hkl, hr, _, ho⟩ := ref_before h hb hi h2 hv
    rw [he]
    have e2 : ((k : Int)).toNat = k := by omega
    rw [e2, getD_at hk]
    have hm := mU_before hkl hr ho
    exact uF_fuel h hb _ _ _ hr (by omega) (by omega)
  · split
    · rfl
    · have hall : ∀ a ∈ (ndA xs i).2.2.2, uF xs ys n a.toNat = uF xs ys (n + 1) a.toNat := fun a ha => by
        unfold ndA at ha
        rw [getD_at hi] at ha
        have hm := mU_arg h hi ha
        have hin := arg_in h hi ha
        exact uF_fuel h hb _ _ _ (by omega) (by omega) (by omega)
      rw [Bool.eq_iff_iff, List.all_eq_true, List.all_eq_true]
      exact ⟨fun hh a ha => by rw [← hall a ha]; exact hh a ha, fun hh a ha => by rw [hall a ha]; exact hh a ha⟩
end
end

section
open Go.RowKit

theorem str_isQ (x : ByteArray) (l : List UInt8) : (x.toList == l) = decide (x = ⟨l.toArray⟩) := by
  by_cases h : x = ⟨l.toArray⟩
  · subst h
    simp [ByteArray.toList_eq]
  · have : x.toList ≠ l := fun e => h (by
      cases x
      have e2 := congrArg List.toArray e
      simp only [ByteArray.toList_eq] at e2
      simpa using e2)
    simp [h, this]
theorem str_nots {x : ByteArray} {l : List UInt8} (h : x ≠ ⟨l.toArray⟩) : (x.toList == l) = false := by rw [str_isQ]; exact decide_eq_false h

set_option maxRecDepth 100000 in
set_option maxHeartbeats 4000000 in
theorem sVar_any (s : ByteArray) (w : World) :
    Calls Try.prog 46 #[.string s] w fun e w' => e = .returned (.bool (varB s)) ∧ Below w.heap.size w w' := by
  have hb : Below w.heap.size w (w.alloc (.cells #[.string ⟨#[117]⟩, .string ⟨#[118]⟩, .string ⟨#[120]⟩, .string ⟨#[121]⟩, .string ⟨#[122]⟩, .string ⟨#[116]⟩] 9)) := by go_grown
  have HB := Lib.hid hb
  have M := Mbox.new w #[.string ⟨#[117]⟩, .string ⟨#[118]⟩, .string ⟨#[120]⟩, .string ⟨#[121]⟩, .string ⟨#[122]⟩, .string ⟨#[116]⟩] 9
  have m0 := M.c 0
  have m1 := M.c 1
  have m2 := M.c 2
  have m3 := M.c 3
  have m4 := M.c 4
  have m5 := M.c 5
  obtain ⟨W1, hW1⟩ : ∃ W, W = w.alloc (.cells #[.string ⟨#[117]⟩, .string ⟨#[118]⟩, .string ⟨#[120]⟩, .string ⟨#[121]⟩, .string ⟨#[122]⟩, .string ⟨#[116]⟩] 9) := ⟨_, rfl⟩
  rw [← hW1] at HB m0 m1 m2 m3 m4 m5
  have hc : ∀ k (h : k < varsL.length), W1.cell? ⟨w.heap.size, k, none⟩ = some (.string varsL[k]) := fun k h => by
    match k, h with
    | 0, _ => exact m0
    | 1, _ => exact m1
    | 2, _ => exact m2
    | 3, _ => exact m3
    | 4, _ => exact m4
    | 5, _ => exact m5
  have hlen : varsL.length = 6 := rfl
  have HC := Lib.hid hc
  clear hb M m0 m1 m2 m3 m4 m5 hc
  go_enter Try.func46, Try.ntmps46
  go_upto_region 2 with fail
  rw [← hW1]
  clear hW1
  go_loop [7] (fun i => ∃ k : Nat, k ≤ 6 ∧ i = .int .i64 k ∧ ∀ j (h : j < varsL.length), j < k → varsL[j] ≠ s) (fun i => 6 - (intOf i).toNat)
  case atStart => exact ⟨0, Nat.zero_le _, rfl, fun j _ h => by omega⟩
  case round =>
    obtain ⟨k, hk, rfl, hno⟩ := hrel
    have HNO := Lib.hid hno
    clear hno
    by_cases hlt : k < 6
    · have hlt' : (k : Int) < 6 := by omega
      have hge' : (0 : Int) ≤ (k : Int) := by omega
      have hkl : k < varsL.length := by omega
      have hc := HC.out k hkl
      obtain ⟨v, hv⟩ : ∃ v, v = varsL[k] := ⟨_, rfl⟩
      have HV := Lib.hid hv
      rw [← hv] at hc
      clear hv
      by_cases he : v = s
      · have hq : (v.toList == s.toList) = true := by rw [he]; simp
        have HR : Hid (varB s = true) := Lib.hid (by
          unfold varB inL
          rw [List.any_eq_true]
          exact ⟨varsL[k], List.getElem_mem hkl, decide_eq_true (by rw [← HV.out]; exact he)⟩)
        clear he
        go_wp2_with fail
        go_ret
        exact ⟨by rw [HR.out]; rfl, HB.out⟩
      · have hq : (v.toList == s.toList) = false := by
          apply Bool.eq_false_iff.2
          intro e
          apply he
          have e := eq_of_beq e
          have := congrArg List.toArray e
          cases v; cases s
          simpa [ByteArray.toList_eq] using this
        have HN2 : Hid (∀ j (h : j < varsL.length), j < k + 1 → varsL[j] ≠ s) := Lib.hid (fun j h hj => by
          by_cases e : j = k
          · subst e
            rw [← HV.out]
            exact he
          · exact HNO.out j h (by omega))
        clear he
        go_wp2_with fail
        go_round
        case rel => exact ⟨k + 1, by omega, by go_num, HN2.out⟩
        case measure => simp [intOf]; omega
    · obtain rfl : k = 6 := by omega
      have HR : Hid (varB s = false) := Lib.hid (by
        unfold varB inL
        rw [List.any_eq_false]
        intro x hx
        obtain ⟨j, hj, rfl⟩ := List.getElem_of_mem hx
        simpa using HNO.out j hj (by omega))
      go_wp2_with fail
      go_ret
      exact ⟨by rw [HR.out]; rfl, HB.out⟩

set_option maxRecDepth 100000 in
set_option maxHeartbeats 4000000 in
theorem sArity_any (s : ByteArray) (w : World) :
    Calls Try.prog 45 #[.string s] w fun e w' => e = .returned (.int .i64 (arN s)) ∧ Below w.heap.size w w' := by
  by_cases h0 : s = ⟨#[97, 98, 115]⟩
  · subst h0
    go_enter Try.func45, Try.ntmps45
    go_wp2
    go_ret
    exact ⟨by rfl, Below.refl _ _⟩
  by_cases h1 : s = ⟨#[102, 108, 111, 111, 114]⟩
  · subst h1
    go_enter Try.func45, Try.ntmps45
    go_wp2
    go_ret
    exact ⟨by rfl, Below.refl _ _⟩
  by_cases h2 : s = ⟨#[100, 117]⟩
  · subst h2
    go_enter Try.func45, Try.ntmps45
    go_wp2
    go_ret
    exact ⟨by rfl, Below.refl _ _⟩
  by_cases h3 : s = ⟨#[100, 118]⟩
  · subst h3
    go_enter Try.func45, Try.ntmps45
    go_wp2
    go_ret
    exact ⟨by rfl, Below.refl _ _⟩
  by_cases h4 : s = ⟨#[109, 105, 110]⟩
  · subst h4
    go_enter Try.func45, Try.ntmps45
    go_wp2
    go_ret
    exact ⟨by rfl, Below.refl _ _⟩
  by_cases h5 : s = ⟨#[109, 97, 120]⟩
  · subst h5
    go_enter Try.func45, Try.ntmps45
    go_wp2
    go_ret
    exact ⟨by rfl, Below.refl _ _⟩
  by_cases h6 : s = ⟨#[115, 116, 101, 112]⟩
  · subst h6
    go_enter Try.func45, Try.ntmps45
    go_wp2
    go_ret
    exact ⟨by rfl, Below.refl _ _⟩
  by_cases h7 : s = ⟨#[110, 111, 105, 115, 101]⟩
  · subst h7
    go_enter Try.func45, Try.ntmps45
    go_wp2
    go_ret
    exact ⟨by rfl, Below.refl _ _⟩
  by_cases h8 : s = ⟨#[116, 101, 120]⟩
  · subst h8
    go_enter Try.func45, Try.ntmps45
    go_wp2
    go_ret
    exact ⟨by rfl, Below.refl _ _⟩
  by_cases h9 : s = ⟨#[99, 108, 97, 109, 112]⟩
  · subst h9
    go_enter Try.func45, Try.ntmps45
    go_wp2
    go_ret
    exact ⟨by rfl, Below.refl _ _⟩
  by_cases h10 : s = ⟨#[109, 105, 120]⟩
  · subst h10
    go_enter Try.func45, Try.ntmps45
    go_wp2
    go_ret
    exact ⟨by rfl, Below.refl _ _⟩
  have HN : Hid (arN s = -1) := Lib.hid (by
    unfold arN inL ar1L ar2L ar3L
    simp [Ne.symm h0, Ne.symm h1, Ne.symm h2, Ne.symm h3, Ne.symm h4, Ne.symm h5, Ne.symm h6, Ne.symm h7, Ne.symm h8, Ne.symm h9, Ne.symm h10])
  have q0 : (s.toList == [97, 98, 115]) = false := str_nots h0
  have q1 : (s.toList == [102, 108, 111, 111, 114]) = false := str_nots h1
  have q2 : (s.toList == [100, 117]) = false := str_nots h2
  have q3 : (s.toList == [100, 118]) = false := str_nots h3
  have q4 : (s.toList == [109, 105, 110]) = false := str_nots h4
  have q5 : (s.toList == [109, 97, 120]) = false := str_nots h5
  have q6 : (s.toList == [115, 116, 101, 112]) = false := str_nots h6
  have q7 : (s.toList == [110, 111, 105, 115, 101]) = false := str_nots h7
  have q8 : (s.toList == [116, 101, 120]) = false := str_nots h8
  have q9 : (s.toList == [99, 108, 97, 109, 112]) = false := str_nots h9
  have q10 : (s.toList == [109, 105, 120]) = false := str_nots h10
  clear h0 h1 h2 h3 h4 h5 h6 h7 h8 h9 h10
  go_enter Try.func45, Try.ntmps45
  go_wp2
  go_ret
  exact ⟨by rw [HN.out]; rfl, Below.refl _ _⟩

theorem str_ne {a b : ByteArray} (h : a ≠ b) : (a.toList == b.toList) = false := by
  apply Bool.eq_false_iff.2
  intro e
  apply h
  have e := eq_of_beq e
  have := congrArg List.toArray e
  cases a; cases b
  simpa [ByteArray.toList_eq] using this
/-- the text of a code -/
def txtC (n : Int) : ByteArray := if n = 0 then ⟨#[111, 107]⟩ else if n = 1 then ⟨#[112, 114, 111, 103, 114, 97, 109]⟩ else if n = 2 then ⟨#[110, 97, 109, 101]⟩ else if n = 3 then ⟨#[97, 114, 105, 116, 121]⟩ else if n = 4 then ⟨#[97, 115, 115, 105, 103, 110]⟩ else if n = 5 then ⟨#[99, 111, 108, 111, 114]⟩ else ⟨#[]⟩


set_option maxRecDepth 100000 in
set_option maxHeartbeats 4000000 in
theorem sAsgd_any (A A' : Option Addr) (c c' : Nat) (xs : List Nd) (ys : List As) (nm : ByteArray) (b : Int) (w : World) (hR : ProgIn w w.heap.size A A' xs ys) (hl2 : ys.length ≤ 1048576) :
    Calls Try.prog 47 #[pgv A A' xs.length c ys.length c', .string nm, .int .i64 b] w fun e w' => e = .returned (.int .i64 (asgd ys nm b)) ∧ Below w.heap.size w w' := by
  obtain ⟨W1, hW1⟩ : ∃ W, W = w.alloc (.cells #[.slice A xs.length c, .slice A' ys.length c'] 26) := ⟨_, rfl⟩
  have M := Mbox.new w #[.slice A xs.length c, .slice A' ys.length c'] 26
  have hB : Below w.heap.size w (w.alloc (.cells #[.slice A xs.length c, .slice A' ys.length c'] 26)) := by go_grown
  have hR1 := (hR.alloc (Nat.le_refl _) (.cells #[.slice A xs.length c, .slice A' ys.length c'] 26)).more (B' := (w.alloc (.cells #[.slice A xs.length c, .slice A' ys.length c'] 26)).heap.size) (by simp)
  rw [← hW1] at M hB hR1
  have HM := Lib.hid M
  have HB := Lib.hid hB
  have HR := Lib.hid hR1
  clear M hB hR hR1
  go_enter Try.func47, Try.ntmps47
  go_upto_region 1 with fail
  rw [← hW1]
  clear hW1
  have m1 := HM.out.c 1
  go_wp2_with fail
  go_loopw [7, 13] (fun v i wr => ∃ k : Nat, k ≤ ys.length ∧ i = .int .i64 k ∧ v = .int .i64 (asgF ys nm b k) ∧ Below W1.heap.size W1 wr) (fun _ i _ => ys.length - (intOf i).toNat)
  case atStart => exact ⟨0, Nat.zero_le _, rfl, rfl, Below.refl _ _⟩
  case round =>
    clear m1
    obtain ⟨k, hk, rfl, rfl, hb⟩ := hrel
    obtain ⟨q, hq⟩ : ∃ q, q = asgF ys nm b k := ⟨_, rfl⟩
    rw [← hq]
    have HQ := Lib.hid hq
    clear hq
    by_cases hlt : k < ys.length
    · obtain ⟨bb, o, rfl, hbl, hc⟩ := HR.out.2.at hlt
      obtain ⟨c0, c1⟩ := asg_at hc
      have c0 := (hb.cell (p := ⟨bb, o + k * 2, none⟩) hbl).trans c0
      have c1 := (hb.cell (p := ⟨bb, o + k * 2 + 1, none⟩) hbl).trans c1
      obtain ⟨v, hv⟩ : ∃ v, v = ys[k] := ⟨_, rfl⟩
      rw [← hv] at c0 c1
      have HV : Hid (ys.getD k (⟨#[]⟩, 0) = v) := Lib.hid (by rw [getD_at hlt]; exact hv.symm)
      obtain ⟨v0, v1⟩ := v
      dsimp only at c0 c1
      have hlt' : (k : Int) < (ys.length : Int) := by omega
      have hge' : (0 : Int) ≤ (k : Int) := by omega
      have hb2 := hb.alloc hb.size (.cells #[.string v0, .int .i64 v1] 33)
      have HB2 := Lib.hid hb2
      clear hb hb2 hc hv
      go_upto_region 5 with fail
      obtain ⟨W2, hW2⟩ : ∃ W, W = wr.alloc (.cells #[.string v0, .int .i64 v1] 33) := ⟨_, rfl⟩
      have M2 := Mbox.new wr #[.string v0, .int .i64 v1] 33
      rw [← hW2] at M2 HB2 ⊢
      have n0 := M2.c 0
      clear hW2 M2 c0 c1
      by_cases hkb : (k : Int) < b
      · by_cases he : v0 = nm
        · have hq : (v0.toList == nm.toList) = true := by rw [he]; simp
          have HS : Hid (asgF ys nm b (k + 1) = (k : Int)) := Lib.hid (by rw [asgF, HV.out, if_pos ⟨hkb, he⟩])
          clear he
          go_wp2_with fail
          go_roundw
          case rel => exact ⟨k + 1, by omega, by go_num, by rw [HS.out], HB2.out⟩
          case measure => simp [intOf]; omega
        · have hq : (v0.toList == nm.toList) = false := str_ne he
          have HS : Hid (asgF ys nm b (k + 1) = q) := Lib.hid (by rw [asgF, HV.out, if_neg (fun h => he h.2), HQ.out])
          clear he
          go_wp2_with fail
          go_roundw
          case rel => exact ⟨k + 1, by omega, by go_num, by rw [HS.out], HB2.out⟩
          case measure => simp [intOf]; omega
      · have HS : Hid (asgF ys nm b (k + 1) = q) := Lib.hid (by rw [asgF, HV.out, if_neg (fun h => hkb h.1), HQ.out])
        go_wp2_with fail
        go_roundw
        case rel => exact ⟨k + 1, by omega, by go_num, by rw [HS.out], HB2.out⟩
        case measure => simp [intOf]; omega
    · obtain rfl : k = ys.length := by omega
      have HF := Lib.hid (HB.out.trans (hb.mono HB.out.size))
      have hge2 : ¬ ((ys.length : Nat) : Int) < ((ys.length : Nat) : Int) := by omega
      clear hb
      go_wp2_with fail
      go_ret
      exact ⟨by rw [HQ.out]; rfl, HF.out⟩
end

section
open Go.RowKit

theorem okPr_len {xs : List Nd} {ys : List As} (h : okPr xs ys) : ys.length + (argsL xs).length = xs.length := by
  have := h.2.2.2.length_eq
  rw [upZ_len] at this
  unfold refsP at this
  rw [List.length_append, rtsZ_len] at this
  exact this
theorem args_at_len {xs : List Nd} {k : Nat} (h : k < xs.length) : (xs[k]).2.2.2.length ≤ (argsL xs).length := by
  have h1 := args_takeM xs (k + 1)
  rw [args_step xs k h, List.length_append] at h1
  omega
/-- the owners of all nodes, in a row of the call's own -/
def OwnOut (xs : List Nd) (ys : List As) (w : World) (e : Ending) (w' : World) : Prop :=
  ∃ (A : Option Addr), e = .returned (.slice A xs.length xs.length) ∧ Row I64 w' w'.heap.size A ((List.range xs.length).map (ownV xs ys)) ∧ Below w.heap.size w w'
section
variable {xs : List Nd} {ys : List As} {l : List Int} {i m : Nat}
def GoodO (xs : List Nd) (ys : List As) (l : List Int) (i : Nat) : Prop := l[i]? = some (ownV xs ys i)
theorem goodO_set (h : GoodO xs ys l i) : GoodO xs ys (l.set m (ownV xs ys m)) i := by
  unfold GoodO at h ⊢
  rw [List.getElem?_set]
  by_cases e : m = i
  · subst e
    have hm : m < l.length := by
      by_cases hm : m < l.length
      · exact hm
      · rw [List.getElem?_eq_none (by omega)] at h
        cases h
    rw [if_pos rfl, if_pos hm]
  · rw [if_neg e]
    exact h
theorem goodO_new (h : m < l.length) : GoodO xs ys (l.set m (ownV xs ys m)) m := by
  unfold GoodO
  rw [List.getElem?_set, if_pos rfl, if_pos h]
theorem goodO_all (hl : l.length = xs.length) (h : ∀ i, i < xs.length → GoodO xs ys l i) : l = (List.range xs.length).map (ownV xs ys) := by
  refine List.ext_getElem (by simp [hl]) fun k h1 h2 => ?_
  have hk := h k (by omega)
  unfold GoodO at hk
  rw [List.getElem?_eq_getElem h1] at hk
  simpa using hk
end

set_option maxRecDepth 100000 in
set_option maxHeartbeats 8000000 in
theorem sOwners_any (A A' : Option Addr) (c c' : Nat) (xs : List Nd) (ys : List As) (w : World) (hR : ProgIn w w.heap.size A A' xs ys) (hok : okPr xs ys) :
    Calls Try.prog 61 #[pgv A A' xs.length c ys.length c'] w (OwnOut xs ys w) := by
  obtain ⟨i0, hi, hz0, hz1, hz2⟩ := info_parts infoInt
  have hlen := okPr_len hok
  have h60 : xs.length ≤ 60 := hok.1
  have hy60 : ys.length ≤ 60 := by omega
  have HOK := Lib.hid hok
  have HLEN := Lib.hid hlen
  clear hok hlen
  obtain ⟨W1, hW1⟩ : ∃ W, W = w.alloc (.cells #[.slice A xs.length c, .slice A' ys.length c'] 26) := ⟨_, rfl⟩
  have M := Mbox.new w #[.slice A xs.length c, .slice A' ys.length c'] 26
  have hB : Below w.heap.size w (w.alloc (.cells #[.slice A xs.length c, .slice A' ys.length c'] 26)) := by go_grown
  have hR1 := (hR.alloc (Nat.le_refl _) (.cells #[.slice A xs.length c, .slice A' ys.length c'] 26)).more (B' := (w.alloc (.cells #[.slice A xs.length c, .slice A' ys.length c'] 26)).heap.size) (by simp)
  rw [← hW1] at M hB hR1
  have HM := Lib.hid M
  have HB := Lib.hid hB
  have HR := Lib.hid hR1
  clear M hB hR hR1
  go_enter Try.func61, Try.ntmps61
  go_upto_region 1 with fail
  rw [← hW1]
  clear hW1
  have m0 := HM.out.c 0
  have m1 := HM.out.c 1
  go_wp2_with (at_make; refine wpList_make_full _ rfl _ _ 42 rfl W1.heap.size 3 i0 (.int .i64 0) 1 Try.underlying42 hi hz0 hz1 .i64 .i64 _ _ xs.length rfl rfl rfl rfl (by rw [hz2]; omega) (by unfold maxLen; omega) (by omega) ?_)
  intro w2 hown hgrow
  have hb0 : Below W1.heap.size W1 w2 := (Below.refl _ _).grown hgrow (Nat.le_refl _) (fun k h => by cases h)
  have hown : w2.ownsRow W1.heap.size 3 1 (.slice (some ⟨W1.heap.size, 0, none⟩) xs.length xs.length) xs.length ((List.replicate xs.length (0 : Int)).map I64) := by
    rw [List.map_replicate, ← made_one]; exact hown
  have m0 := (HM.out.later hb0).c 0
  have m1 := (HM.out.later hb0).c 1
  have HO0 := Lib.hid hown
  have HB0 := Lib.hid hb0
  clear hown hb0 hgrow
  go_wp2_with fail
  go_loopw [16] (fun i wr => ∃ (k : Nat) (l : List Int), k ≤ ys.length ∧ i = .int .i64 k ∧ wr.ownsRow W1.heap.size 3 1 (.slice (some ⟨W1.heap.size, 0, none⟩) xs.length xs.length) xs.length (l.map I64) ∧ l.length = xs.length ∧ Below W1.heap.size W1 wr ∧ ∀ j (h : j < ys.length), j < k → GoodO xs ys l (ys[j]).2.toNat) (fun i _ => ys.length - (intOf i).toNat)
  case atStart => exact ⟨0, List.replicate xs.length 0, Nat.zero_le _, rfl, HO0.out, by simp, HB0.out, fun j _ h => by omega⟩
  case round =>
    clear m0 m1 HO0 HB0
    obtain ⟨k, l, hk, rfl, hown, hll, hb, hgd⟩ := hrel
    by_cases hlt : k < ys.length
    · obtain ⟨b, o, rfl, hbl, hc⟩ := HR.out.2.at hlt
      obtain ⟨c0, c1⟩ := asg_at hc
      have c0 := (hb.cell (p := ⟨b, o + k * 2, none⟩) hbl).trans c0
      have c1 := (hb.cell (p := ⟨b, o + k * 2 + 1, none⟩) hbl).trans c1
      have hin := okPr_root HOK.out hlt
      have hrt := ownV_root HOK.out hlt
      obtain ⟨m, hm⟩ : ∃ m : Nat, (ys[k]).2 = (m : Int) := ⟨((ys[k]).2).toNat, by omega⟩
      have HGD : Hid (∀ (j : Nat) (h : j < ys.length), j < k + 1 → GoodO xs ys (l.set m (k : Int)) (ys[j]).2.toNat) := Lib.hid (fun j h hj => by
        have e2 : ((m : Int)).toNat = m := by omega
        have e3 : (k : Int) = ownV xs ys m := by rw [← hrt, hm, e2]
        rw [e3]
        by_cases e : j = k
        · subst e
          rw [hm, e2]
          exact goodO_new (by omega)
        · exact goodO_set (hgd j h (by omega)))
      rw [hm] at c1 hin
      obtain ⟨v0, hv0⟩ : ∃ v0, v0 = (ys[k]).1 := ⟨_, rfl⟩
      rw [← hv0] at c0
      have hmlt : (m : Int) < (xs.length : Int) := by omega
      have hmge : (0 : Int) ≤ (m : Int) := by omega
      have hlt2' : (k : Int) < (ys.length : Int) := by omega
      have hge2' : (0 : Int) ≤ (k : Int) := by omega
      have hown := hown.alloc (.cells #[.string v0, .int .i64 m] 33)
      have hb := hb.alloc hb.size (.cells #[.string v0, .int .i64 m] 33)
      clear hm hv0 hc hin hrt hgd
      go_upto_region 5 with fail
      obtain ⟨W2, hW2⟩ : ∃ W, W = wr.alloc (.cells #[.string v0, .int .i64 m] 33) := ⟨_, rfl⟩
      have M2 := Mbox.new wr #[.string v0, .int .i64 m] 33
      rw [← hW2] at M2 hown hb ⊢
      have n1 := M2.c 1
      clear hW2 M2 c0 c1
      have hlh : m < l.length := by omega
      have hd := hown.cellAt m (by omega)
      have hf := hown.frozenAt m
      rw [List.getElem?_map, List.getElem?_eq_getElem hlh, Option.map_some] at hd
      obtain ⟨zo, hzo⟩ : ∃ z, z = l[m] := ⟨_, rfl⟩
      rw [← hzo] at hd
      clear hzo
      have hs := (hown.stored m (I64 (k : Int))).1
      rw [← List.map_set] at hs
      have hs' := hb.setCell (p := ⟨W1.heap.size, m, none⟩) (Nat.le_refl _) (I64 (k : Int))
      have hll2 : (l.set m (k : Int)).length = xs.length := by rw [List.length_set]; exact hll
      have HS := Lib.hid hs
      have HS' := Lib.hid hs'
      have HL2 := Lib.hid hll2
      clear hs hs' hown hb hlh hll hll2
      go_wp2_with fail
      go_roundw
      case rel => exact ⟨k + 1, _, by omega, by go_num, HS.out, HL2.out, HS'.out, HGD.out⟩
      case measure => simp [intOf]; omega
    · obtain rfl : k = ys.length := by omega
      have HO1 := Lib.hid hown
      have HB1 := Lib.hid hb
      have HG1 := Lib.hid hgd
      have HL1 := Lib.hid hll
      have m0 := (HM.out.later hb).c 0
      have hge' : ¬ ((ys.length : Nat) : Int) < ((ys.length : Nat) : Int) := by omega
      clear hown hb hgd hll hk hlt
      go_wp2_with fail
      go_loopw [6] (fun i wr => ∃ (q : Int) (l : List Int), i = .int .i64 q ∧ -1 ≤ q ∧ q < (xs.length : Int) ∧ wr.ownsRow W1.heap.size 3 1 (.slice (some ⟨W1.heap.size, 0, none⟩) xs.length xs.length) xs.length (l.map I64) ∧ l.length = xs.length ∧ Below W1.heap.size W1 wr ∧ (∀ j (h : j < ys.length), GoodO xs ys l (ys[j]).2.toNat) ∧ ∀ j (h : j < xs.length), q < (j : Int) → ∀ a ∈ (xs[j]).2.2.2, GoodO xs ys l a.toNat) (fun i _ => (intOf i + 1).toNat)
      case atStart => exact ⟨_, l, rfl, by omega, by omega, HO1.out, HL1.out, HB1.out, fun j h => HG1.out j h h, fun j h hj => by omega⟩
      case round =>
        clear m0 HO1 HB1 HG1 HL1 hge'
        obtain ⟨q, l, rfl, hq1, hq2, hown, hll, hb, hgr, hga⟩ := hrel
        by_cases hq0 : 0 ≤ q
        · obtain ⟨j, rfl⟩ : ∃ j : Nat, q = (j : Int) := ⟨q.toNat, by omega⟩
          have hj : j < xs.length := by omega
          have hgj : GoodO xs ys l j := by
            rcases node_ref HOK.out hj with ⟨k, hk, e⟩ | ⟨k, hk, hjk, ha⟩
            · have := hgr k hk
              rw [e] at this
              simpa using this
            · have := hga k hk (by omega) _ ha
              simpa using this
          obtain ⟨b, o, rfl, hbl, a, ca, c0, c1, c2, c3, hca1, hca2, hrow⟩ := HR.out.1.at hj
          have c3 := (hb.cell (p := ⟨b, o + j * 4 + 3, none⟩) hbl).trans c3
          have hrow := hrow.below hb
          have hal := args_at_len hj
          have HAI := Lib.hid (fun a (ha : a ∈ (xs[j]).2.2.2) => And.intro (arg_in HOK.out hj ha) (ownV_arg HOK.out hj ha))
          obtain ⟨v3, hv3⟩ : ∃ v, v = (xs[j]).2.2.2 := ⟨_, rfl⟩
          rw [← hv3] at c3 hrow hca1 hal HAI
          have HV3 := Lib.hid hv3
          have hv60 : v3.length ≤ 60 := by have := HLEN.out; omega
          have HO1 := Lib.hid hown
          have HL1 := Lib.hid hll
          have HB1 := Lib.hid hb
          have HGR := Lib.hid hgr
          have HGA := Lib.hid hga
          have HGJ := Lib.hid hgj
          have HRW := Lib.hid hrow
          have m0 := (HM.out.later hb).c 0
          have hjlt : (j : Int) < (xs.length : Int) := by omega
          have hjge : (0 : Int) ≤ (j : Int) := by omega
          clear hown hll hb hgr hga hgj hrow c0 c1 c2 hv3 hal hca1 hca2
          go_wp2_with fail
          go_loopw [42] (fun i wr => ∃ (p : Nat) (l : List Int), p ≤ v3.length ∧ i = .int .i64 p ∧ wr.ownsRow W1.heap.size 3 1 (.slice (some ⟨W1.heap.size, 0, none⟩) xs.length xs.length) xs.length (l.map I64) ∧ l.length = xs.length ∧ Below W1.heap.size W1 wr ∧ (∀ k (h : k < ys.length), GoodO xs ys l (ys[k]).2.toNat) ∧ (∀ k (h : k < xs.length), (j : Int) < (k : Int) → ∀ a ∈ (xs[k]).2.2.2, GoodO xs ys l a.toNat) ∧ GoodO xs ys l j ∧ Row I64 wr W1.heap.size a v3 ∧ ∀ x (h : x < v3.length), x < p → GoodO xs ys l (v3[x]).toNat) (fun i _ => v3.length - (intOf i).toNat)
          case atStart => exact ⟨0, l, Nat.zero_le _, rfl, HO1.out, HL1.out, HB1.out, HGR.out, HGA.out, HGJ.out, HRW.out, fun x _ h => by omega⟩
          case round =>
            clear m0 c3 HO1 HL1 HB1 HGR HGA HGJ HRW
            obtain ⟨p, l, hp, rfl, hown, hll, hb, hgr, hga, hgj, hr, hgx⟩ := hrel
            by_cases hlt2 : p < v3.length
            · obtain ⟨b3, o3, rfl, hbl3, hc⟩ := hr.at hlt2
              obtain ⟨⟨hin0, hin1⟩, hov⟩ := HAI.out _ (List.getElem_mem hlt2)
              obtain ⟨m, hm⟩ : ∃ m : Nat, v3[p] = (m : Int) := ⟨(v3[p]).toNat, by omega⟩
              have e2 : ((m : Int)).toNat = m := by omega
              rw [hm, e2] at hin1 hov
              rw [hm] at hc
              have hmx : m < xs.length := by omega
              have hlm : m < l.length := by omega
              have hlj : j < l.length := by omega
              have hvj : l[j] = ownV xs ys m := by
                have := hgj
                unfold GoodO at this
                rw [List.getElem?_eq_getElem hlj] at this
                rw [hov]
                exact Option.some.inj this
              obtain ⟨z, hz⟩ : ∃ z, z = ownV xs ys m := ⟨_, rfl⟩
              rw [← hz] at hvj
              have HG2 : Hid ((∀ k (h : k < ys.length), GoodO xs ys (l.set m z) (ys[k]).2.toNat) ∧ (∀ k (h : k < xs.length), (j : Int) < (k : Int) → ∀ a ∈ (xs[k]).2.2.2, GoodO xs ys (l.set m z) a.toNat) ∧ GoodO xs ys (l.set m z) j ∧ ∀ x (h : x < v3.length), x < p + 1 → GoodO xs ys (l.set m z) (v3[x]).toNat) := Lib.hid (by
                rw [hz]
                refine ⟨fun k h => goodO_set (hgr k h), fun k h hk a ha => goodO_set (hga k h hk a ha), goodO_set hgj, fun x h hx => ?_⟩
                by_cases e : x = p
                · subst e
                  rw [hm, e2]
                  exact goodO_new hlm
                · exact goodO_set (hgx x h (by omega)))
              have hd := hown.cellAt m (by omega)
              have hf := hown.frozenAt m
              have hdj := hown.cellAt j (by omega)
              rw [List.getElem?_map, List.getElem?_eq_getElem hlm, Option.map_some] at hd
              obtain ⟨zo, hzo⟩ : ∃ z, z = l[m] := ⟨_, rfl⟩
              rw [← hzo] at hd
              clear hzo
              rw [List.getElem?_map, List.getElem?_eq_getElem hlj, Option.map_some, hvj] at hdj
              have hs := (hown.stored m (I64 z)).1
              rw [← List.map_set] at hs
              have hs' := hb.setCell (p := ⟨W1.heap.size, m, none⟩) (Nat.le_refl _) (I64 z)
              have hr' : Row I64 (wr.setCell ⟨W1.heap.size, m, none⟩ (I64 z)) W1.heap.size (some ⟨b3, o3, none⟩) v3 := hr.below ((Below.refl _ _).setCell (p := ⟨W1.heap.size, m, none⟩) (Nat.le_refl _) _)
              have hll2 : (l.set m z).length = xs.length := by rw [List.length_set]; exact hll
              have hmlt : (m : Int) < (xs.length : Int) := by omega
              have hmge : (0 : Int) ≤ (m : Int) := by omega
              have hlt2' : (p : Int) < (v3.length : Int) := by omega
              have hge2' : (0 : Int) ≤ (p : Int) := by omega
              have HS := Lib.hid hs
              have HS' := Lib.hid hs'
              have HR' := Lib.hid hr'
              have HL2 := Lib.hid hll2
              clear hs hs' hr' hll2 hown hb hr hll hgr hga hgj hgx hm hin0 hin1 hov hz hvj e2
              go_wp2_with fail
              go_roundw
              case rel => exact ⟨p + 1, _, by omega, by go_num, HS.out, HL2.out, HS'.out, HG2.out.1, HG2.out.2.1, HG2.out.2.2.1, HR'.out, HG2.out.2.2.2⟩
              case measure => simp [intOf]; omega
            · obtain rfl : p = v3.length := by omega
              have HQ : Hid (wr.ownsRow W1.heap.size 3 1 (.slice (some ⟨W1.heap.size, 0, none⟩) xs.length xs.length) xs.length (l.map I64) ∧ l.length = xs.length ∧ Below W1.heap.size W1 wr ∧ (∀ k (h : k < ys.length), GoodO xs ys l (ys[k]).2.toNat) ∧ ∀ k (h : k < xs.length), (j : Int) - 1 < (k : Int) → ∀ a ∈ (xs[k]).2.2.2, GoodO xs ys l a.toNat) := Lib.hid ⟨hown, hll, hb, hgr, fun k h hk a ha => by
                by_cases e : k = j
                · subst e
                  rw [← HV3.out] at ha
                  obtain ⟨x, hx, rfl⟩ := List.getElem_of_mem ha
                  exact hgx x hx hx
                · exact hga k h (by omega) a ha⟩
              have hge2 : ¬ ((v3.length : Nat) : Int) < ((v3.length : Nat) : Int) := by omega
              clear hown hll hb hgr hga hgj hr hgx
              go_wp2_with fail
              go_roundw
              case rel => exact ⟨(j : Int) - 1, l, rfl, by omega, by omega, HQ.out.1, HQ.out.2.1, HQ.out.2.2.1, HQ.out.2.2.2.1, HQ.out.2.2.2.2⟩
              case measure => simp [intOf]
        · obtain rfl : q = -1 := by omega
          have hgall : ∀ i, i < xs.length → GoodO xs ys l i := fun i hi => by
            rcases node_ref HOK.out hi with ⟨k, hk, e⟩ | ⟨k, hk, hjk, ha⟩
            · have := hgr k hk
              rw [e] at this
              simpa using this
            · have := hga k hk (by omega) _ ha
              simpa using this
          have hrw : Row I64 wr wr.heap.size (some ⟨W1.heap.size, 0, none⟩) ((List.range xs.length).map (ownV xs ys)) := by
            rw [← goodO_all hll hgall]
            exact Row.of_own (f := I64) (xs := l) (c := l.length) (by simpa only [hll] using hown)
          have HRW := Lib.hid hrw
          have HBF := Lib.hid (HB.out.trans (hb.mono HB.out.size))
          clear hown hll hb hgr hga hgall hrw
          go_wp2_with fail
          go_ret
          exact ⟨_, rfl, HRW.out, HBF.out⟩

open Classical in
/-- what OwnerOf answers -/
noncomputable def ownP (xs : List Nd) (ys : List As) (i : Int) : Int := if okPr xs ys ∧ 0 ≤ i ∧ i < xs.length then ownV xs ys i.toNat else -1

end

section
open Go.RowKit

/-- what l14Names answers -/
def namP (xs : List Nd) (ys : List As) : Int := match firstB xs.length (badN xs ys) with
  | some i => (i : Int)
  | none => -1

set_option maxRecDepth 100000 in
set_option maxHeartbeats 8000000 in
theorem sNames_any (A A' : Option Addr) (c c' : Nat) (xs : List Nd) (ys : List As) (w : World) (hR : ProgIn w w.heap.size A A' xs ys) (hok : okPr xs ys) (hx : ∀ x ∈ xs, x.2.2.2.length ≤ 1048576) :
    Calls Try.prog 44 #[pgv A A' xs.length c ys.length c'] w fun e w' => e = .returned (.int .i64 (namP xs ys)) ∧ Below w.heap.size w w' := by
  have hlen := okPr_len hok
  have h60 : xs.length ≤ 60 := hok.1
  have hy60 : ys.length ≤ 60 := by omega
  have HOK := Lib.hid hok
  have HXS := Lib.hid hx
  clear hok hlen hx
  obtain ⟨W1, hW1⟩ : ∃ W, W = w.alloc (.cells #[.slice A xs.length c, .slice A' ys.length c'] 26) := ⟨_, rfl⟩
  have M := Mbox.new w #[.slice A xs.length c, .slice A' ys.length c'] 26
  have hB : Below w.heap.size w (w.alloc (.cells #[.slice A xs.length c, .slice A' ys.length c'] 26)) := by go_grown
  have hR1 := (hR.alloc (Nat.le_refl _) (.cells #[.slice A xs.length c, .slice A' ys.length c'] 26)).more (B' := (w.alloc (.cells #[.slice A xs.length c, .slice A' ys.length c'] 26)).heap.size) (by simp)
  rw [← hW1] at M hB hR1
  have HM := Lib.hid M
  have HB := Lib.hid hB
  have HR := Lib.hid hR1
  clear M hB hR hR1
  go_enter Try.func44, Try.ntmps44
  go_upto_region 1 with fail
  rw [← hW1]
  clear hW1
  have m0 := HM.out.c 0
  have m1 := HM.out.c 1
  go_wp2_with fail
  refine (sOwners_any A A' c c' xs ys W1 HR.out HOK.out).mono ?_
  rintro e w3 ⟨A2, rfl, hrow, hb3⟩
  have HM3 := Lib.hid (HM.out.later hb3)
  have HR3 := Lib.hid (HR.out.later hb3)
  have HB3 := Lib.hid (HB.out.trans (hb3.mono HB.out.size))
  have HOW := Lib.hid hrow
  clear hrow hb3 m0 m1
  have m0 := HM3.out.c 0
  have m1 := HM3.out.c 1
  go_wp2_with fail
  go_loopw [11] (fun i wr => ∃ k : Nat, k ≤ xs.length ∧ i = .int .i64 k ∧ Below w3.heap.size w3 wr ∧ ∀ j, j < k → badN xs ys j = false) (fun i _ => xs.length - (intOf i).toNat)
  case atStart => exact ⟨0, Nat.zero_le _, rfl, Below.refl _ _, fun j h => by omega⟩
  case round =>
    clear m0 m1
    obtain ⟨k, hk, rfl, hb, hno⟩ := hrel
    have HNO := Lib.hid hno
    clear hno
    by_cases hlt : k < xs.length
    · obtain ⟨bb, o, rfl, hbl, a, ca, c0, c1, c2, c3, hca1, hca2, hrow⟩ := HR3.out.1.at hlt
      obtain ⟨b3, o3, rfl, hbl3, hz⟩ := HOW.out.at (k := k) (by simp; omega)
      obtain ⟨z, hzz⟩ : ∃ z, z = ownV xs ys k := ⟨_, rfl⟩
      have hz : w3.cell? ⟨b3, o3 + k, none⟩ = some (.int .i64 z) := by rw [hzz]; simpa using hz
      have c0 := (hb.cell (p := ⟨bb, o + k * 4, none⟩) hbl).trans c0
      have c1 := (hb.cell (p := ⟨bb, o + k * 4 + 1, none⟩) hbl).trans c1
      have c2 := (hb.cell (p := ⟨bb, o + k * 4 + 2, none⟩) hbl).trans c2
      have c3 := (hb.cell (p := ⟨bb, o + k * 4 + 3, none⟩) hbl).trans c3
      have hz := (hb.cell (p := ⟨b3, o3 + k, none⟩) hbl3).trans hz
      have hl3 := HXS.out _ (List.getElem_mem hlt)
      obtain ⟨v, hv⟩ : ∃ v, v = xs[k] := ⟨_, rfl⟩
      rw [← hv] at c0 c1 c2 c3 hca1 hl3
      have HV : Hid (ndA xs k = v) := Lib.hid (by unfold ndA; rw [getD_at hlt]; exact hv.symm)
      obtain ⟨v0, v1, v2, v3⟩ := v
      dsimp only at c0 c1 c2 c3 hca1 hl3
      have hlt' : (k : Int) < (xs.length : Int) := by omega
      have hge' : (0 : Int) ≤ (k : Int) := by omega
      have hm := HM3.out.later hb
      have hr := HR3.out.later hb
      have hZB : b3 < wr.heap.size := Nat.lt_of_lt_of_le hbl3 hb.size
      have hb2 : Below wr.heap.size wr (wr.alloc (.cells #[.int .i64 v0, .string v1, .int .i64 v2, .slice a v3.length ca] 44)) := by go_grown
      have hm := hm.later hb2
      have hr := hr.later hb2
      have hz := (hb2.cell (p := ⟨b3, o3 + k, none⟩) hZB).trans hz
      have hb := hb.trans (hb2.mono hb.size)
      have hZB2 := Nat.lt_of_lt_of_le hZB hb2.size
      clear hrow hv hca1 hca2 hbl hbl3 hZB hb2
      go_upto_region 5 with fail
      obtain ⟨W2, hW2⟩ : ∃ W, W = wr.alloc (.cells #[.int .i64 v0, .string v1, .int .i64 v2, .slice a v3.length ca] 44) := ⟨_, rfl⟩
      obtain ⟨g, hg⟩ : ∃ g, g = wr.heap.size := ⟨_, rfl⟩
      have M2 := Mbox.new wr #[.int .i64 v0, .string v1, .int .i64 v2, .slice a v3.length ca] 44
      rw [← hW2] at M2 hm hr hz hb hZB2 ⊢
      rw [← hg] at M2 ⊢
      clear hW2 hg c0 c1 c2 c3
      have HT : Held W2 W2 [(g, [.int .i64 v0, .string v1, .int .i64 v2, .slice a v3.length ca]), (w.heap.size, [.slice (some ⟨bb, o, none⟩) xs.length c, .slice A' ys.length c'])] := ((Held.nil W2).cons hm).cons M2
      have HC : ∀ W', Held W2 W' [(g, [.int .i64 v0, .string v1, .int .i64 v2, .slice a v3.length ca]), (w.heap.size, [.slice (some ⟨bb, o, none⟩) xs.length c, .slice A' ys.length c'])] → W'.cell? ⟨g, 0, none⟩ = some (.int .i64 v0) ∧ W'.cell? ⟨g, 1, none⟩ = some (.string v1) ∧ W'.cell? ⟨w.heap.size, 0, none⟩ = some (.slice (some ⟨bb, o, none⟩) xs.length c) ∧ W'.cell? ⟨w.heap.size, 1, none⟩ = some (.slice A' ys.length c') ∧ W'.cell? ⟨b3, o3 + k, none⟩ = some (.int .i64 z) := fun W' h => ⟨(h.box 0).c 0, (h.box 0).c 1, (h.box 1).c 0, (h.box 1).c 1, (h.below.cell (p := ⟨b3, o3 + k, none⟩) hZB2).trans hz⟩
      have HVAR := Lib.hid (fun W => sVar_any v1 W)
      have HAS := Lib.hid (fun W (h : Below W2.heap.size W2 W) => sAsgd_any _ A' c c' xs ys v1 z W (hr.later h) (by omega))
      obtain ⟨q, hq⟩ : ∃ q, q = asgd ys v1 z := ⟨_, rfl⟩
      rw [← hq] at HAS
      obtain ⟨vb, hvb⟩ : ∃ b, b = varB v1 := ⟨_, rfl⟩
      rw [← hvb] at HVAR
      obtain ⟨B1, hB1⟩ : ∃ B : Bool, B = (decide (v0 = 2) && !vb && decide (q < 0)) := ⟨_, rfl⟩
      have HB1 := Lib.hid hB1
      have HBD : Hid (badN xs ys k = (B1 || (decide (v0 = 8) && decide (arN v1 < 0)))) := Lib.hid (by unfold badN; rw [HV.out]; simp only; rw [← hvb, ← hzz, ← hq, ← hB1])
      have HBW := Lib.hid hb
      clear hm hr hz hb M2 hq hvb hB1 hzz
      go_cut [35] (fun y wx => y = .bool B1 ∧ Held W2 wx [(g, [.int .i64 v0, .string v1, .int .i64 v2, .slice a v3.length ca]), (w.heap.size, [.slice (some ⟨bb, o, none⟩) xs.length c, .slice A' ys.length c'])])
      case first =>
        by_cases e2 : v0 = 2
        · have b2 : (v0 == 2) = true := by simp [e2]
          rw [decide_eq_true e2] at HB1
          clear e2
          cases vb with
          | true =>
            have hHC := HC _ HT.drew
            have HQ := HT.drew
            refine wp_region_held_drew (S := fun W' => W'.cell? ⟨g, 0, none⟩ = some (.int .i64 v0) ∧ W'.cell? ⟨g, 1, none⟩ = some (.string v1) ∧ W'.cell? ⟨w.heap.size, 0, none⟩ = some (.slice (some ⟨bb, o, none⟩) xs.length c) ∧ W'.cell? ⟨w.heap.size, 1, none⟩ = some (.slice A' ys.length c') ∧ W'.cell? ⟨b3, o3 + k, none⟩ = some (.int .i64 z)) (by kernel_rfl) hHC (fun hHeld => ?_)
            clear hHC
            refine wpAnyH_take (i := 0) (oi := { dst := some 16, op := Op.fieldAddr 44 (Operand.tmp 5) 0, type := 0, pos := "l14_checker.go:73", after := #[], guard := none }) (v := ?_) rfl (by kernel_rfl) (by kernel_rfl) (by kernel_rfl) (fun _ _ _ h => h) (Or.inl ⟨by rfl, ?_⟩) (by assumption) ?_
            rotate_left 1
            · (intro w hSw; (try dsimp only at hSw); go_simp <;> with_reducible rfl)
            (try simp only [Act.put, List.setIfInBounds_toArray, List.set_cons_zero, List.set_cons_succ])
            refine wpAnyH_take (i := 1) (oi := { dst := some 17, op := Op.load 3 (Operand.tmp 16), type := 3, pos := "l14_checker.go:73", after := #[{ on := 0, ground := Ground.data }], guard := none }) (v := ?_) rfl (by kernel_rfl) (by kernel_rfl) (by kernel_rfl) (fun _ _ _ h => h) (Or.inl ⟨by rfl, ?_⟩) (by assumption) ?_
            rotate_left 1
            · (intro w hSw; (try dsimp only at hSw); go_simp <;> with_reducible rfl)
            (try simp only [Act.put, List.setIfInBounds_toArray, List.set_cons_zero, List.set_cons_succ])
            refine wpAnyH_take (i := 2) (oi := { dst := some 18, op := Op.binOp BinOp.eql 3 (Operand.tmp 17) (Operand.const (Value.int IntKind.i64 2)) 3, type := 4, pos := "l14_checker.go:73", after := #[{ on := 1, ground := Ground.data }], guard := none }) (v := ?_) rfl (by kernel_rfl) (by kernel_rfl) (by kernel_rfl) (fun _ _ _ h => h) (Or.inl ⟨by rfl, ?_⟩) (by assumption) ?_
            rotate_left 1
            · (intro w hSw; (try dsimp only at hSw); go_simp <;> with_reducible rfl)
            (try simp only [Act.put, List.setIfInBounds_toArray, List.set_cons_zero, List.set_cons_succ])
            refine wpAnyH_take (i := 3) (oi := { dst := some 19, op := Op.move (Operand.tmp 18), type := 4, pos := "l14_checker.go:73", after := #[{ on := 2, ground := Ground.data }], guard := none }) (v := ?_) rfl (by kernel_rfl) (by kernel_rfl) (by kernel_rfl) (fun _ _ _ h => h) (Or.inl ⟨by rfl, ?_⟩) (by assumption) ?_
            rotate_left 1
            · (intro w hSw; (try dsimp only at hSw); go_simp <;> with_reducible rfl)
            (try simp only [Act.put, List.setIfInBounds_toArray, List.set_cons_zero, List.set_cons_succ])
            refine wpAnyH_take (i := 4) (oi := { dst := some 20, op := Op.fieldAddr 44 (Operand.tmp 5) 1, type := 0, pos := "l14_checker.go:73", after := #[{ on := 3, ground := Ground.guard }], guard := some (3, true) }) (v := ?_) rfl (by kernel_rfl) (by kernel_rfl) (by kernel_rfl) (fun _ _ _ h => h) (Or.inl ⟨by rfl, ?_⟩) (by assumption) ?_
            rotate_left 1
            · (intro w hSw; (try dsimp only at hSw); go_simp <;> with_reducible rfl)
            (try simp only [Act.put, List.setIfInBounds_toArray, List.set_cons_zero, List.set_cons_succ])
            refine wpAnyH_take (i := 5) (oi := { dst := some 21, op := Op.load 9 (Operand.tmp 20), type := 9, pos := "l14_checker.go:73", after := #[{ on := 4, ground := Ground.data }, { on := 3, ground := Ground.guard }], guard := some (3, true) }) (v := ?_) rfl (by kernel_rfl) (by kernel_rfl) (by kernel_rfl) (fun _ _ _ h => h) (Or.inl ⟨by rfl, ?_⟩) (by assumption) ?_
            rotate_left 1
            · (intro w hSw; (try dsimp only at hSw); go_simp <;> with_reducible rfl)
            (try simp only [Act.put, List.setIfInBounds_toArray, List.set_cons_zero, List.set_cons_succ])
            refine wpAnyH_ready (rs := [6]) (by kernel_rfl) (by simp) ?_
            refine AllReadyH.cons (o := { dst := some 22, op := Op.call { callee := Callee.value (Operand.func 46), args := #[Operand.tmp 21], argTypes := #[9] }, type := 4, pos := "l14_checker.go:73", after := #[{ on := 5, ground := Ground.data }, { on := 3, ground := Ground.chain }, { on := 3, ground := Ground.guard }], guard := some (3, true) }) rfl (fun K hK => ?_) ?_
            · go_simp
              (with_reducible refine (HVAR.out _).mono ?_)
              rintro e w7 ⟨rfl, hb7⟩
              have HQ := HQ.later hb7
              clear hb7
              (try go_wp2_with fail)
              refine hK.out _ _ (by (try dsimp only); with_reducible exact HC _ HQ) (fun hHeld => ?_)
              clear hK K
              (try simp only [Act.put, List.setIfInBounds_toArray, List.set_cons_zero, List.set_cons_succ])
              refine wpAnyH_take (i := 7) (oi := { dst := some 23, op := Op.unOp UnOp.not 4 (Operand.tmp 22), type := 4, pos := "l14_checker.go:73", after := #[{ on := 6, ground := Ground.data }, { on := 3, ground := Ground.guard }], guard := some (3, true) }) (v := ?_) rfl (by kernel_rfl) (by kernel_rfl) (by kernel_rfl) (fun _ _ _ h => h) (Or.inl ⟨by rfl, ?_⟩) (by assumption) ?_
              rotate_left 1
              · (intro w hSw; (try dsimp only at hSw); go_simp <;> with_reducible rfl)
              (try simp only [Act.put, List.setIfInBounds_toArray, List.set_cons_zero, List.set_cons_succ])
              refine wpAnyH_take (i := 8) (oi := { dst := some 24, op := Op.pick (Operand.tmp 19) (Operand.tmp 23) (Operand.const (Value.bool false)), type := 4, pos := "l14_checker.go:73", after := #[{ on := 3, ground := Ground.data }, { on := 7, ground := Ground.data }], guard := none }) (v := ?_) rfl (by kernel_rfl) (by kernel_rfl) (by kernel_rfl) (fun _ _ _ h => h) (Or.inl ⟨by rfl, ?_⟩) (by assumption) ?_
              rotate_left 1
              · (intro w hSw; (try dsimp only at hSw); go_simp <;> with_reducible rfl)
              (try simp only [Act.put, List.setIfInBounds_toArray, List.set_cons_zero, List.set_cons_succ])
              refine wpAnyH_take (i := 9) (oi := { dst := some 25, op := Op.move (Operand.tmp 24), type := 4, pos := "l14_checker.go:73", after := #[{ on := 8, ground := Ground.data }, { on := 6, ground := Ground.chain }], guard := none }) (v := ?_) rfl (by kernel_rfl) (by kernel_rfl) (by kernel_rfl) (fun _ _ _ h => h) (Or.inl ⟨by rfl, ?_⟩) (by assumption) ?_
              rotate_left 1
              · (intro w hSw; (try dsimp only at hSw); go_simp <;> with_reducible rfl)
              (try simp only [Act.put, List.setIfInBounds_toArray, List.set_cons_zero, List.set_cons_succ])
              refine wpAnyH_take (i := 10) (oi := { dst := some 26, op := Op.load 26 (Operand.tmp 1), type := 26, pos := "l14_checker.go:73", after := #[{ on := 9, ground := Ground.guard }], guard := some (9, true) }) (v := undef) rfl (by kernel_rfl) (by kernel_rfl) (by kernel_rfl) (fun _ _ _ h => h) (Or.inr ⟨by rfl, rfl⟩) (by assumption) ?_
              (try simp only [Act.put, List.setIfInBounds_toArray, List.set_cons_zero, List.set_cons_succ])
              refine wpAnyH_take (i := 11) (oi := { dst := some 27, op := Op.fieldAddr 44 (Operand.tmp 5) 1, type := 0, pos := "l14_checker.go:73", after := #[{ on := 9, ground := Ground.guard }], guard := some (9, true) }) (v := undef) rfl (by kernel_rfl) (by kernel_rfl) (by kernel_rfl) (fun _ _ _ h => h) (Or.inr ⟨by rfl, rfl⟩) (by assumption) ?_
              (try simp only [Act.put, List.setIfInBounds_toArray, List.set_cons_zero, List.set_cons_succ])
              refine wpAnyH_take (i := 12) (oi := { dst := some 28, op := Op.load 9 (Operand.tmp 27), type := 9, pos := "l14_checker.go:73", after := #[{ on := 11, ground := Ground.data }, { on := 9, ground := Ground.guard }], guard := some (9, true) }) (v := undef) rfl (by kernel_rfl) (by kernel_rfl) (by kernel_rfl) (fun _ _ _ h => h) (Or.inr ⟨by rfl, rfl⟩) (by assumption) ?_
              (try simp only [Act.put, List.setIfInBounds_toArray, List.set_cons_zero, List.set_cons_succ])
              refine wpAnyH_take (i := 13) (oi := { dst := some 29, op := Op.move (Operand.tmp 3), type := 42, pos := "l14_checker.go:73", after := #[{ on := 9, ground := Ground.guard }], guard := some (9, true) }) (v := undef) rfl (by kernel_rfl) (by kernel_rfl) (by kernel_rfl) (fun _ _ _ h => h) (Or.inr ⟨by rfl, rfl⟩) (by assumption) ?_
              (try simp only [Act.put, List.setIfInBounds_toArray, List.set_cons_zero, List.set_cons_succ])
              refine wpAnyH_take (i := 14) (oi := { dst := some 30, op := Op.move (Operand.tmp 4), type := 3, pos := "l14_checker.go:73", after := #[{ on := 9, ground := Ground.guard }], guard := some (9, true) }) (v := undef) rfl (by kernel_rfl) (by kernel_rfl) (by kernel_rfl) (fun _ _ _ h => h) (Or.inr ⟨by rfl, rfl⟩) (by assumption) ?_
              (try simp only [Act.put, List.setIfInBounds_toArray, List.set_cons_zero, List.set_cons_succ])
              refine wpAnyH_take (i := 15) (oi := { dst := some 31, op := Op.indexAddr 42 (Operand.tmp 29) (Operand.tmp 30), type := 0, pos := "l14_checker.go:73", after := #[{ on := 13, ground := Ground.data }, { on := 14, ground := Ground.data }, { on := 9, ground := Ground.guard }], guard := some (9, true) }) (v := undef) rfl (by kernel_rfl) (by kernel_rfl) (by kernel_rfl) (fun _ _ _ h => h) (Or.inr ⟨by rfl, rfl⟩) (by assumption) ?_
              (try simp only [Act.put, List.setIfInBounds_toArray, List.set_cons_zero, List.set_cons_succ])
              refine wpAnyH_take (i := 16) (oi := { dst := some 32, op := Op.load 3 (Operand.tmp 31), type := 3, pos := "l14_checker.go:73", after := #[{ on := 15, ground := Ground.data }, { on := 9, ground := Ground.guard }], guard := some (9, true) }) (v := undef) rfl (by kernel_rfl) (by kernel_rfl) (by kernel_rfl) (fun _ _ _ h => h) (Or.inr ⟨by rfl, rfl⟩) (by assumption) ?_
              (try simp only [Act.put, List.setIfInBounds_toArray, List.set_cons_zero, List.set_cons_succ])
              refine wpAnyH_take (i := 17) (oi := { dst := some 33, op := Op.call { callee := Callee.value (Operand.func 47), args := #[Operand.tmp 26, Operand.tmp 28, Operand.tmp 32], argTypes := #[26, 9, 3] }, type := 3, pos := "l14_checker.go:73", after := #[{ on := 10, ground := Ground.data }, { on := 12, ground := Ground.data }, { on := 16, ground := Ground.data }, { on := 9, ground := Ground.chain }, { on := 9, ground := Ground.guard }], guard := some (9, true) }) (v := undef) rfl (by kernel_rfl) (by kernel_rfl) (by kernel_rfl) (fun _ _ _ h => h) (Or.inr ⟨by rfl, rfl⟩) (by assumption) ?_
              (try simp only [Act.put, List.setIfInBounds_toArray, List.set_cons_zero, List.set_cons_succ])
              refine wpAnyH_take (i := 18) (oi := { dst := some 34, op := Op.binOp BinOp.lss 3 (Operand.tmp 33) (Operand.const (Value.int IntKind.i64 0)) 3, type := 4, pos := "l14_checker.go:73", after := #[{ on := 17, ground := Ground.data }, { on := 9, ground := Ground.guard }], guard := some (9, true) }) (v := undef) rfl (by kernel_rfl) (by kernel_rfl) (by kernel_rfl) (fun _ _ _ h => h) (Or.inr ⟨by rfl, rfl⟩) (by assumption) ?_
              (try simp only [Act.put, List.setIfInBounds_toArray, List.set_cons_zero, List.set_cons_succ])
              refine wpAnyH_take (i := 19) (oi := { dst := some 35, op := Op.pick (Operand.tmp 25) (Operand.tmp 34) (Operand.const (Value.bool false)), type := 4, pos := "l14_checker.go:73", after := #[{ on := 9, ground := Ground.data }, { on := 18, ground := Ground.data }], guard := none }) (v := ?_) rfl (by kernel_rfl) (by kernel_rfl) (by kernel_rfl) (fun _ _ _ h => h) (Or.inl ⟨by rfl, ?_⟩) (by assumption) ?_
              rotate_left 1
              · (intro w hSw; (try dsimp only at hSw); go_simp <;> with_reducible rfl)
              (try simp only [Act.put, List.setIfInBounds_toArray, List.set_cons_zero, List.set_cons_succ])
              refine wpAnyH_done (by kernel_rfl) ?_ _
              clear hHeld
              go_wp2
              go_meet
              exact ⟨by rw [HB1.out]; rfl, HQ⟩
            exact AllReadyH.nil
          | false =>
            go_region_held3 (fun W' => W'.cell? ⟨g, 0, none⟩ = some (.int .i64 v0) ∧ W'.cell? ⟨g, 1, none⟩ = some (.string v1) ∧ W'.cell? ⟨w.heap.size, 0, none⟩ = some (.slice (some ⟨bb, o, none⟩) xs.length c) ∧ W'.cell? ⟨w.heap.size, 1, none⟩ = some (.slice A' ys.length c') ∧ W'.cell? ⟨b3, o3 + k, none⟩ = some (.int .i64 z))
              (first | (with_reducible exact HC _ HT) | (with_reducible exact HC _ HT.drew))
              ((first | (go_at_call 46; (with_reducible refine (HVAR.out _).mono ?_); rintro e w7 ⟨rfl, hb7⟩; (first | (have HT := HT.later hb7) | (have HT := HT.drew.later hb7))) | (go_at_call 47; (with_reducible refine (HAS.out _ (by first | with_reducible exact HT.below | with_reducible exact HT.drew.below)).mono ?_); rintro e w7 ⟨rfl, hb7⟩; (first | (have HT := HT.later hb7) | (have HT := HT.drew.later hb7)))))
            all_goals (go_wp2_with fail; go_meet)
            all_goals (first | exact ⟨by rw [HB1.out]; rfl, HT⟩ | exact ⟨by rw [HB1.out]; rfl, HT.drew⟩)
        · have b2 : (v0 == 2) = false := by simp [e2]
          rw [decide_eq_false e2] at HB1
          clear e2
          obtain ⟨q0, q1, q2, q3, q4⟩ := HC _ HT
          clear HC
          go_quiet (fail)
          go_wp2_with fail
          go_meet
          exact ⟨by rw [HB1.out]; rfl, HT.drewN nq⟩
      case rest =>
        clear HC HT HVAR HAS
        obtain ⟨rfl, HT⟩ := hcut
        have n0 := (HT.box 0).c 0
        have n1 := (HT.box 0).c 1
        have HBX := Lib.hid (HBW.out.trans (HT.below.mono HBW.out.size))
        cases B1 with
        | true =>
          have HF : Hid (namP xs ys = (k : Int)) := Lib.hid (by unfold namP; rw [first_some hlt (by rw [HBD.out]; rfl) HNO.out])
          have HF2 := Lib.hid (HB3.out.trans (HBX.out.mono HB3.out.size))
          clear HT
          go_wp2_with fail
          go_ret
          exact ⟨by rw [HF.out]; rfl, HF2.out⟩
        | false =>
          by_cases e8 : v0 = 8
          · have b8 : (v0 == 8) = true := by simp [e8]
            have HAR := Lib.hid (sArity_any v1 wc)
            obtain ⟨r, hr⟩ : ∃ r, r = arN v1 := ⟨_, rfl⟩
            rw [← hr] at HAR HBD
            rw [decide_eq_true e8] at HBD
            clear hr e8 HT
            go_wp2_with fail
            refine HAR.out.mono ?_
            rintro e w7 ⟨rfl, hb7⟩
            have HBY := Lib.hid (HBX.out.trans (hb7.mono HBX.out.size))
            clear hb7
            by_cases hr0 : r < 0
            · have HF : Hid (namP xs ys = (k : Int)) := Lib.hid (by unfold namP; rw [first_some hlt (by rw [HBD.out, decide_eq_true hr0]; rfl) HNO.out])
              have HF2 := Lib.hid (HB3.out.trans (HBY.out.mono HB3.out.size))
              go_wp2_with fail
              go_ret
              exact ⟨by rw [HF.out]; rfl, HF2.out⟩
            · have HN2 : Hid (∀ j, j < k + 1 → badN xs ys j = false) := Lib.hid (fun j hj => by
                by_cases e : j = k
                · rw [e, HBD.out, decide_eq_false hr0]
                  rfl
                · exact HNO.out j (by omega))
              go_wp2_with fail
              go_roundw
              case rel => exact ⟨k + 1, by omega, by go_num, HBY.out, HN2.out⟩
              case measure => simp [intOf]; omega
          · have b8 : (v0 == 8) = false := by simp [e8]
            have HN2 : Hid (∀ j, j < k + 1 → badN xs ys j = false) := Lib.hid (fun j hj => by
              by_cases e : j = k
              · rw [e, HBD.out, decide_eq_false e8]
                rfl
              · exact HNO.out j (by omega))
            clear HT e8
            go_wp2_with fail
            go_roundw
            case rel => exact ⟨k + 1, by omega, by go_num, HBX.out, HN2.out⟩
            case measure => simp [intOf]; omega
    · obtain rfl : k = xs.length := by omega
      have HF : Hid (namP xs ys = -1) := Lib.hid (by unfold namP; rw [first_none HNO.out])
      have HF2 := Lib.hid (HB3.out.trans (hb.mono HB3.out.size))
      have hge2 : ¬ ((xs.length : Nat) : Int) < ((xs.length : Nat) : Int) := by omega
      clear hb
      go_wp2_with fail
      go_ret
      exact ⟨by rw [HF.out]; rfl, HF2.out⟩
end

section
open Go.RowKit

section
variable {xs : List Nd} {ys : List As} {i : Nat}
theorem chk_bad (h : ¬ okPr xs ys) : chkP xs ys = (1, 0) := by unfold chkP; rw [if_neg h]
theorem chk_n (h : okPr xs ys) (h1 : firstB xs.length (badN xs ys) = some i) : chkP xs ys = (2, (i : Int)) := by unfold chkP chkV; rw [if_pos h, h1]
theorem chk_r (h : okPr xs ys) (h1 : firstB xs.length (badN xs ys) = none) (h2 : firstB xs.length (badR xs) = some i) : chkP xs ys = (3, (i : Int)) := by unfold chkP chkV; rw [if_pos h, h1, h2]
theorem chk_s (h : okPr xs ys) (h1 : firstB xs.length (badN xs ys) = none) (h2 : firstB xs.length (badR xs) = none) (h3 : firstB ys.length (badS ys) = some i) : chkP xs ys = (4, (i : Int)) := by unfold chkP chkV; rw [if_pos h, h1, h2, h3]
theorem chk_c (h : okPr xs ys) (h1 : firstB xs.length (badN xs ys) = none) (h2 : firstB xs.length (badR xs) = none) (h3 : firstB ys.length (badS ys) = none) (h4 : asgd ys ⟨#[99, 111, 108, 111, 114]⟩ ys.length < 0) : chkP xs ys = (5, 0) := by unfold chkP chkV; rw [if_pos h, h1, h2, h3]; simp only; rw [if_pos h4]
theorem chk_0 (h : okPr xs ys) (h1 : firstB xs.length (badN xs ys) = none) (h2 : firstB xs.length (badR xs) = none) (h3 : firstB ys.length (badS ys) = none) (h4 : ¬ asgd ys ⟨#[99, 111, 108, 111, 114]⟩ ys.length < 0) : chkP xs ys = (0, 0) := by unfold chkP chkV; rw [if_pos h, h1, h2, h3]; simp only; rw [if_neg h4]
end

set_option maxRecDepth 100000 in
set_option maxHeartbeats 8000000 in
theorem sCheck_any (A A' : Option Addr) (c c' : Nat) (xs : List Nd) (ys : List As) (w : World) (hR : ProgIn w w.heap.size A A' xs ys) (hl : xs.length ≤ 1048576) (hl2 : ys.length ≤ 1048576) (hz : (argsL xs).length ≤ 1099511627776) (hx : ∀ x ∈ xs, x.2.1.size ≤ 1048576 ∧ x.2.2.2.length ≤ 1048576) (hy : ∀ y ∈ ys, y.1.size ≤ 1048576) :
    Calls Try.prog 24 #[pgv A A' xs.length c ys.length c'] w fun e w' => e = .returned (.tuple #[.int .i64 (chkP xs ys).1, .int .i64 (chkP xs ys).2]) ∧ Below w.heap.size w w' := by
  have HVC := Lib.hid (fun W (h : ProgIn W W.heap.size A A' xs ys) => sIsValidProg_any A A' c c' xs ys W h hl hl2 hz hx hy)
  have HXS := Lib.hid (fun x (h : x ∈ xs) => (hx x h).2)
  clear hz hx hy
  obtain ⟨W1, hW1⟩ : ∃ W, W = w.alloc (.cells #[.slice A xs.length c, .slice A' ys.length c'] 26) := ⟨_, rfl⟩
  have M := Mbox.new w #[.slice A xs.length c, .slice A' ys.length c'] 26
  have hB : Below w.heap.size w (w.alloc (.cells #[.slice A xs.length c, .slice A' ys.length c'] 26)) := by go_grown
  have hR1 := (hR.alloc (Nat.le_refl _) (.cells #[.slice A xs.length c, .slice A' ys.length c'] 26)).more (B' := (w.alloc (.cells #[.slice A xs.length c, .slice A' ys.length c'] 26)).heap.size) (by simp)
  rw [← hW1] at M hB hR1
  have HM := Lib.hid M
  have HB := Lib.hid hB
  have HR := Lib.hid hR1
  clear M hB hR hR1
  go_enter Try.func24, Try.ntmps24
  go_upto_region 1 with fail
  rw [← hW1]
  clear hW1
  have m0 := HM.out.c 0
  have m1 := HM.out.c 1
  go_wp2_with fail
  refine (HVC.out _ HR.out).mono ?_
  rintro e w2 hq
  obtain ⟨v, rfl, hv, hb2⟩ := hq
  have HM2 := Lib.hid (HM.out.later hb2)
  have HB2 := Lib.hid (HB.out.trans (hb2.mono HB.out.size))
  have HR2 := Lib.hid (HR.out.later hb2)
  clear m0 m1 HB HR HM
  cases v with
  | false =>
    have HC1 := Lib.hid (chk_bad (fun k => by have := hv.2 k; cases this))
    clear hv hb2
    go_wp2_with fail
    exact bodyPost_ret (v := .tuple #[.int .i64 1, .int .i64 0]) (by simp [results, Try.results24, go_sem]) rfl ⟨by rw [HC1.out], HB2.out⟩
  | true =>
    have hok : okPr xs ys := hv.1 rfl
    have h60 : xs.length ≤ 60 := hok.1
    have hy60 : ys.length ≤ 60 := by have := okPr_len hok; omega
    have HOK := Lib.hid hok
    have HNC := Lib.hid (sNames_any A A' c c' xs ys w2 HR2.out hok (fun x h => HXS.out x h))
    obtain ⟨nm, hnm⟩ : ∃ n, n = namP xs ys := ⟨_, rfl⟩
    rw [← hnm] at HNC
    have HNM := Lib.hid hnm
    have m0 := HM2.out.c 0
    have m1 := HM2.out.c 1
    clear hv hb2 hok hnm
    go_wp2_with fail
    refine HNC.out.mono ?_
    rintro e w3 ⟨rfl, hb3⟩
    have HM3 := Lib.hid (HM2.out.later hb3)
    have HB3 := Lib.hid (HB2.out.trans (hb3.mono HB2.out.size))
    have HR3 := Lib.hid (HR2.out.later hb3)
    clear hb3 m0 m1 HNC HB2 HR2 HM2
    cases hf : firstB xs.length (badN xs ys) with
    | some i =>
      have hnm : nm = (i : Int) := by rw [HNM.out]; unfold namP; rw [hf]
      have HC1 := Lib.hid (chk_n HOK.out hf)
      subst hnm
      clear hf
      go_wp2_with fail
      exact bodyPost_ret (v := .tuple #[.int .i64 2, .int .i64 i]) (by simp [results, Try.results24, go_sem]) rfl ⟨by rw [HC1.out], HB3.out⟩
    | none =>
      have hnm : nm = -1 := by rw [HNM.out]; unfold namP; rw [hf]
      have HN1 := Lib.hid hf
      subst hnm
      have m0 := HM3.out.c 0
      have m1 := HM3.out.c 1
      clear hf HNM
      go_wp2_with fail
      go_loopw [20] (fun i wr => ∃ k : Nat, k ≤ xs.length ∧ i = .int .i64 k ∧ Below w3.heap.size w3 wr ∧ ∀ j, j < k → badR xs j = false) (fun i _ => xs.length - (intOf i).toNat)
      case atStart => exact ⟨0, Nat.zero_le _, rfl, Below.refl _ _, fun j h => by omega⟩
      case round =>
        clear m0 m1
        obtain ⟨k, hk, rfl, hb, hno⟩ := hrel
        have HNO := Lib.hid hno
        clear hno
        by_cases hlt : k < xs.length
        · obtain ⟨bb, o, rfl, hbl, a, ca, c0, c1, c2, c3, hca1, hca2, hrow⟩ := HR3.out.1.at hlt
          have c0 := (hb.cell (p := ⟨bb, o + k * 4, none⟩) hbl).trans c0
          have c1 := (hb.cell (p := ⟨bb, o + k * 4 + 1, none⟩) hbl).trans c1
          have c2 := (hb.cell (p := ⟨bb, o + k * 4 + 2, none⟩) hbl).trans c2
          have c3 := (hb.cell (p := ⟨bb, o + k * 4 + 3, none⟩) hbl).trans c3
          have hl3 := HXS.out _ (List.getElem_mem hlt)
          obtain ⟨v, hv⟩ : ∃ v, v = xs[k] := ⟨_, rfl⟩
          rw [← hv] at c0 c1 c2 c3 hca1 hl3
          have HV : Hid (ndA xs k = v) := Lib.hid (by unfold ndA; rw [getD_at hlt]; exact hv.symm)
          obtain ⟨v0, v1, v2, v3⟩ := v
          dsimp only at c0 c1 c2 c3 hca1 hl3
          have hlt' : (k : Int) < (xs.length : Int) := by omega
          have hge' : (0 : Int) ≤ (k : Int) := by omega
          have hb2 : Below wr.heap.size wr (wr.alloc (.cells #[.int .i64 v0, .string v1, .int .i64 v2, .slice a v3.length ca] 44)) := by go_grown
          have hb := hb.trans (hb2.mono hb.size)
          clear hrow hv hca1 hca2 hbl hb2
          go_upto_region 9 with fail
          obtain ⟨W2, hW2⟩ : ∃ W, W = wr.alloc (.cells #[.int .i64 v0, .string v1, .int .i64 v2, .slice a v3.length ca] 44) := ⟨_, rfl⟩
          obtain ⟨g, hg⟩ : ∃ g, g = wr.heap.size := ⟨_, rfl⟩
          have M2 := Mbox.new wr #[.int .i64 v0, .string v1, .int .i64 v2, .slice a v3.length ca] 44
          rw [← hW2] at M2 hb ⊢
          rw [← hg] at M2 ⊢
          clear hW2 hg c0 c1 c2 c3
          have HT : Held W2 W2 [(g, [.int .i64 v0, .string v1, .int .i64 v2, .slice a v3.length ca])] := (Held.nil W2).cons M2
          have HC : ∀ W', Held W2 W' [(g, [.int .i64 v0, .string v1, .int .i64 v2, .slice a v3.length ca])] → W'.cell? ⟨g, 0, none⟩ = some (.int .i64 v0) ∧ W'.cell? ⟨g, 1, none⟩ = some (.string v1) ∧ W'.cell? ⟨g, 3, none⟩ = some (.slice a v3.length ca) := fun W' h => ⟨(h.box 0).c 0, (h.box 0).c 1, (h.box 0).c 3⟩
          have HAR := Lib.hid (fun W => sArity_any v1 W)
          obtain ⟨r, hr⟩ : ∃ r, r = arN v1 := ⟨_, rfl⟩
          rw [← hr] at HAR
          obtain ⟨B1, hB1⟩ : ∃ B : Bool, B = (decide (v0 = 8) && (r != (v3.length : Int))) := ⟨_, rfl⟩
          have HB1 := Lib.hid hB1
          have HBD : Hid (badR xs k = B1) := Lib.hid (by
            unfold badR
            rw [HV.out, hB1, hr]
            simp only
            congr 1
            by_cases e : arN v1 = (v3.length : Int) <;> simp [e])
          have HBW := Lib.hid hb
          clear hb M2 hr hB1
          go_cut [36] (fun y wx => y = .bool B1 ∧ Held W2 wx [(g, [.int .i64 v0, .string v1, .int .i64 v2, .slice a v3.length ca])])
          case first =>
            by_cases e2 : v0 = 8
            · have b2 : (v0 == 8) = true := by simp [e2]
              rw [decide_eq_true e2] at HB1
              clear e2
              go_region_held3 (fun W' => W'.cell? ⟨g, 0, none⟩ = some (.int .i64 v0) ∧ W'.cell? ⟨g, 1, none⟩ = some (.string v1) ∧ W'.cell? ⟨g, 3, none⟩ = some (.slice a v3.length ca))
                (first | (with_reducible exact HC _ HT) | (with_reducible exact HC _ HT.drew))
                ((go_at_call 45; (with_reducible refine (HAR.out _).mono ?_); rintro e w7 ⟨rfl, hb7⟩; (first | (have HT := HT.later hb7) | (have HT := HT.drew.later hb7))))
              all_goals (go_wp2_with fail; go_meet)
              all_goals (first | exact ⟨by rw [HB1.out]; rfl, HT⟩ | exact ⟨by rw [HB1.out]; rfl, HT.drew⟩)
            · have b2 : (v0 == 8) = false := by simp [e2]
              rw [decide_eq_false e2] at HB1
              clear e2
              obtain ⟨q0, q1, q2⟩ := HC _ HT
              clear HC
              go_quiet (fail)
              go_wp2_with fail
              go_meet
              exact ⟨by rw [HB1.out]; rfl, HT.drewN nq⟩
          case rest =>
            clear HC HT HAR
            obtain ⟨rfl, HT⟩ := hcut
            have HBX := Lib.hid (HBW.out.trans (HT.below.mono HBW.out.size))
            cases B1 with
            | true =>
              have HC1 := Lib.hid (chk_r HOK.out HN1.out (first_some hlt (by rw [HBD.out]) HNO.out))
              have HF2 := Lib.hid (HB3.out.trans (HBX.out.mono HB3.out.size))
              clear HT
              go_wp2_with fail
              exact bodyPost_ret (v := .tuple #[.int .i64 3, .int .i64 k]) (by simp [results, Try.results24, go_sem]) rfl ⟨by rw [HC1.out], HF2.out⟩
            | false =>
              have HN2 : Hid (∀ j, j < k + 1 → badR xs j = false) := Lib.hid (fun j hj => by
                by_cases e : j = k
                · rw [e, HBD.out]
                · exact HNO.out j (by omega))
              clear HT
              go_wp2_with fail
              go_roundw
              case rel => exact ⟨k + 1, by omega, by go_num, HBX.out, HN2.out⟩
              case measure => simp [intOf]; omega
        · obtain rfl : k = xs.length := by omega
          have HN2 := Lib.hid (first_none HNO.out)
          have HM4 := Lib.hid (HM3.out.later hb)
          have HB4 := Lib.hid (HB3.out.trans (hb.mono HB3.out.size))
          have HR4 := Lib.hid (HR3.out.later hb)
          have m0 := HM4.out.c 0
          have m1 := HM4.out.c 1
          have hge2 : ¬ ((xs.length : Nat) : Int) < ((xs.length : Nat) : Int) := by omega
          obtain ⟨w4, hw4⟩ : ∃ w4, w4 = wr := ⟨_, rfl⟩
          rw [← hw4] at HM4 HB4 HR4 m0 m1 ⊢
          clear hb hw4 HNO HM3 HB3 HR3 hk hlt
          go_wp2_with fail
          go_loopw [42] (fun i wr => ∃ k : Nat, k ≤ ys.length ∧ i = .int .i64 k ∧ Below w4.heap.size w4 wr ∧ ∀ j, j < k → badS ys j = false) (fun i _ => ys.length - (intOf i).toNat)
          case atStart => exact ⟨0, Nat.zero_le _, rfl, Below.refl _ _, fun j h => by omega⟩
          case round =>
            clear m0 m1 hge2
            obtain ⟨k, hk, rfl, hb, hno⟩ := hrel
            have HNO := Lib.hid hno
            clear hno
            by_cases hlt : k < ys.length
            · obtain ⟨bb, o, rfl, hbl, hc⟩ := HR4.out.2.at hlt
              obtain ⟨c0, c1⟩ := asg_at hc
              have c0 := (hb.cell (p := ⟨bb, o + k * 2, none⟩) hbl).trans c0
              have c1 := (hb.cell (p := ⟨bb, o + k * 2 + 1, none⟩) hbl).trans c1
              obtain ⟨v, hv⟩ : ∃ v, v = ys[k] := ⟨_, rfl⟩
              rw [← hv] at c0 c1
              have HV : Hid (ys.getD k (⟨#[]⟩, 0) = v) := Lib.hid (by rw [getD_at hlt]; exact hv.symm)
              obtain ⟨v0, v1⟩ := v
              dsimp only at c0 c1
              have hlt' : (k : Int) < (ys.length : Int) := by omega
              have hge' : (0 : Int) ≤ (k : Int) := by omega
              have hb2 : Below wr.heap.size wr (wr.alloc (.cells #[.string v0, .int .i64 v1] 33)) := by go_grown
              have hm := (HM4.out.later hb).later hb2
              have hr := (HR4.out.later hb).later hb2
              have hb := hb.trans (hb2.mono hb.size)
              clear hc hv hbl hb2
              go_upto_region 15 with fail
              obtain ⟨W2, hW2⟩ : ∃ W, W = wr.alloc (.cells #[.string v0, .int .i64 v1] 33) := ⟨_, rfl⟩
              have M2 := Mbox.new wr #[.string v0, .int .i64 v1] 33
              rw [← hW2] at M2 hm hr hb ⊢
              have n0 := M2.c 0
              have HVAR := Lib.hid (sVar_any v0 W2)
              obtain ⟨vb, hvb⟩ : ∃ b, b = varB v0 := ⟨_, rfl⟩
              rw [← hvb] at HVAR
              obtain ⟨q, hq⟩ : ∃ q, q = asgd ys v0 (k : Int) := ⟨_, rfl⟩
              have HAS := Lib.hid (fun W (h : Below W2.heap.size W2 W) => sAsgd_any _ _ c c' xs ys v0 (k : Int) W (hr.later h) (by omega))
              rw [← hq] at HAS
              have HBD : Hid (badS ys k = (vb || decide (0 ≤ q))) := Lib.hid (by unfold badS; rw [HV.out, hvb, hq])
              have HBW := Lib.hid hb
              have HMW := Lib.hid hm
              have HMV := Lib.hid M2
              clear hW2 c0 c1 hm hr hb M2 hvb hq
              go_wp2_with fail
              refine HVAR.out.mono ?_
              rintro e w7 ⟨rfl, hb7⟩
              have HBX := Lib.hid (HBW.out.trans (hb7.mono HBW.out.size))
              cases vb with
              | true =>
                have HC1 := Lib.hid (chk_s HOK.out HN1.out HN2.out (first_some hlt (by rw [HBD.out]; rfl) HNO.out))
                have HF2 := Lib.hid (HB4.out.trans (HBX.out.mono HB4.out.size))
                clear hb7 n0
                go_wp2_with fail
                exact bodyPost_ret (v := .tuple #[.int .i64 4, .int .i64 k]) (by simp [results, Try.results24, go_sem]) rfl ⟨by rw [HC1.out], HF2.out⟩
              | false =>
                have m0 := (HMW.out.later hb7).c 0
                have m1 := (HMW.out.later hb7).c 1
                have n0 := (HMV.out.later hb7).c 0
                have HAS2 := Lib.hid (HAS.out _ hb7)
                clear hb7
                go_wp2_with fail
                refine HAS2.out.mono ?_
                rintro e w8 ⟨rfl, hb8⟩
                have HBY := Lib.hid (HBX.out.trans (hb8.mono HBX.out.size))
                clear hb8 m0 m1 n0
                by_cases hq0 : 0 ≤ q
                · have HC1 := Lib.hid (chk_s HOK.out HN1.out HN2.out (first_some hlt (by rw [HBD.out, decide_eq_true hq0]; rfl) HNO.out))
                  have HF2 := Lib.hid (HB4.out.trans (HBY.out.mono HB4.out.size))
                  go_wp2_with fail
                  exact bodyPost_ret (v := .tuple #[.int .i64 4, .int .i64 k]) (by simp [results, Try.results24, go_sem]) rfl ⟨by rw [HC1.out], HF2.out⟩
                · have HN3 : Hid (∀ j, j < k + 1 → badS ys j = false) := Lib.hid (fun j hj => by
                    by_cases e : j = k
                    · rw [e, HBD.out, decide_eq_false hq0]
                      rfl
                    · exact HNO.out j (by omega))
                  go_wp2_with fail
                  go_roundw
                  case rel => exact ⟨k + 1, by omega, by go_num, HBY.out, HN3.out⟩
                  case measure => simp [intOf]; omega
            · obtain rfl : k = ys.length := by omega
              have HN3 := Lib.hid (first_none HNO.out)
              have HM5 := Lib.hid (HM4.out.later hb)
              have HB5 := Lib.hid (HB4.out.trans (hb.mono HB4.out.size))
              have HAS := Lib.hid (sAsgd_any _ _ c c' xs ys ⟨#[99, 111, 108, 111, 114]⟩ (ys.length : Int) wr (HR4.out.later hb) (by omega))
              obtain ⟨q, hq⟩ : ∃ q, q = asgd ys ⟨#[99, 111, 108, 111, 114]⟩ (ys.length : Int) := ⟨_, rfl⟩
              rw [← hq] at HAS
              have HQ := Lib.hid hq
              have m0 := HM5.out.c 0
              have m1 := HM5.out.c 1
              have hge2 : ¬ ((ys.length : Nat) : Int) < ((ys.length : Nat) : Int) := by omega
              clear hb hq
              go_wp2_with fail
              refine HAS.out.mono ?_
              rintro e w8 ⟨rfl, hb8⟩
              have HF2 := Lib.hid (HB5.out.trans (hb8.mono HB5.out.size))
              clear hb8 m0 m1
              by_cases hq0 : q < 0
              · have HC1 := Lib.hid (chk_c HOK.out HN1.out HN2.out HN3.out (by rw [← HQ.out]; exact hq0))
                go_wp2_with fail
                exact bodyPost_ret (v := .tuple #[.int .i64 5, .int .i64 0]) (by simp [results, Try.results24, go_sem]) rfl ⟨by rw [HC1.out], HF2.out⟩
              · have HC1 := Lib.hid (chk_0 HOK.out HN1.out HN2.out HN3.out (by rw [← HQ.out]; exact hq0))
                go_wp2_with fail
                exact bodyPost_ret (v := .tuple #[.int .i64 0, .int .i64 0]) (by simp [results, Try.results24, go_sem]) rfl ⟨by rw [HC1.out], HF2.out⟩
end
end Go.Proofs.Ytlcnjiephbhdaaa
