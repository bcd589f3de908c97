/- What the checker answers, as values; nothing of the program. -/
import Derived.Test.YtpcdlehicdepaaaPn
import Derived.Test.YtpcdlehicdepaaaSa
namespace Go.Proofs.Ytpcdlehicdepaaa

def varsL : List ByteArray := [⟨#[117]⟩, ⟨#[118]⟩, ⟨#[120]⟩, ⟨#[121]⟩, ⟨#[122]⟩, ⟨#[116]⟩]
/-- a predefined variable -/
def inL (l : List ByteArray) (s : ByteArray) : Bool := l.any fun x => decide (x = s)
def varB (s : ByteArray) : Bool := inL varsL s
def ar1L : List ByteArray := [⟨#[97, 98, 115]⟩, ⟨#[102, 108, 111, 111, 114]⟩, ⟨#[100, 117]⟩, ⟨#[100, 118]⟩]
def ar2L : List ByteArray := [⟨#[109, 105, 110]⟩, ⟨#[109, 97, 120]⟩, ⟨#[115, 116, 101, 112]⟩, ⟨#[110, 111, 105, 115, 101]⟩, ⟨#[116, 101, 120]⟩]
def ar3L : List ByteArray := [⟨#[99, 108, 97, 109, 112]⟩, ⟨#[109, 105, 120]⟩]
/-- the number of a function's parameters -/
def arN (s : ByteArray) : Int := if inL ar1L s = true then 1 else if inL ar2L s = true then 2 else if inL ar3L s = true then 3 else -1
/-- the last of the first k assignments to a name before b -/
def asgF (ys : List As) (nm : ByteArray) (b : Int) : Nat → Int
  | 0 => -1
  | k + 1 => if (k : Int) < b ∧ (ys.getD k (⟨#[]⟩, 0)).1 = nm then (k : Int) else asgF ys nm b k
def asgd (ys : List As) (nm : ByteArray) (b : Int) : Int := asgF ys nm b ys.length
theorem asgF_in {ys : List As} {nm : ByteArray} {b : Int} : ∀ (k : Nat), k ≤ ys.length → 0 ≤ asgF ys nm b k → ∃ i, ∃ h : i < ys.length, i < k ∧ asgF ys nm b k = (i : Int) ∧ (i : Int) < b ∧ (ys[i]).1 = nm := by
  intro k
  induction k with
  | zero => intro _ h; simp [asgF] at h
  | succ k ih =>
    intro hk h
    unfold asgF at h ⊢
    by_cases hc : (k : Int) < b ∧ (ys.getD k (⟨#[]⟩, 0)).1 = nm
    · rw [if_pos hc]
      rw [getD_at (by omega)] at hc
      exact ⟨k, by omega, by omega, rfl, hc.1, hc.2⟩
    · rw [if_neg hc] at h ⊢
      obtain ⟨i, h1, h2, h3⟩ := ih (by omega) h
      exact ⟨i, h1, by omega, h3⟩
theorem asgF_no {ys : List As} {nm : ByteArray} {b : Int} : ∀ (k : Nat), k ≤ ys.length → asgF ys nm b k < 0 → ∀ i (h : i < ys.length), i < k → (i : Int) < b → (ys[i]).1 ≠ nm := by
  intro k
  induction k with
  | zero => intro _ _ i _ h; omega
  | succ k ih =>
    intro hk h i hi hik hib
    unfold asgF at h
    by_cases hc : (k : Int) < b ∧ (ys.getD k (⟨#[]⟩, 0)).1 = nm
    · rw [if_pos hc] at h
      omega
    · rw [if_neg hc] at h
      by_cases e : i = k
      · subst e
        intro e2
        exact hc ⟨hib, by rw [getD_at hi]; exact e2⟩
      · exact ih (by omega) h i hi (by omega) hib
section
variable (xs : List Nd) (ys : List As)
abbrev ndA (i : Nat) : Nd := xs.getD i (0, ⟨#[]⟩, 0, [])
def badN (i : Nat) : Bool := (decide ((ndA xs i).1 = 2) && !varB (ndA xs i).2.1 && decide (asgd ys (ndA xs i).2.1 (ownV xs ys i) < 0)) || (decide ((ndA xs i).1 = 8) && decide (arN (ndA xs i).2.1 < 0))
def badR (i : Nat) : Bool := decide ((ndA xs i).1 = 8) && decide (arN (ndA xs i).2.1 ≠ ((ndA xs i).2.2.2.length : Int))
def badS (i : Nat) : Bool := varB (ys.getD i (⟨#[]⟩, 0)).1 || decide (0 ≤ asgd ys (ys.getD i (⟨#[]⟩, 0)).1 (i : Int))
def firstB (n : Nat) (p : Nat → Bool) : Option Nat := (List.range n).find? p
/-- the four tests behind validity -/
def chkV : Int × Int :=
  match firstB xs.length (badN xs ys) with
  | some i => (2, (i : Int))
  | none => match firstB xs.length (badR xs) with
    | some i => (3, (i : Int))
    | none => match firstB ys.length (badS ys) with
      | some i => (4, (i : Int))
      | none => if asgd ys ⟨#[99, 111, 108, 111, 114]⟩ ys.length < 0 then (5, 0) else (0, 0)
open Classical in
/-- what Check answers -/
noncomputable def chkP : Int × Int := if okPr xs ys then chkV xs ys else (1, 0)
/-- a uniform node, with fuel -/
def uF : Nat → Nat → Bool
  | 0, _ => false
  | f + 1, i =>
    if (ndA xs i).1 = 2 then
      if (ndA xs i).2.1 = ⟨#[116]⟩ then true
      else if varB (ndA xs i).2.1 = true then false
      else uF f (ys.getD (asgd ys (ndA xs i).2.1 (ownV xs ys i)).toNat (⟨#[]⟩, 0)).2.toNat
    else if (ndA xs i).1 = 8 ∧ (ndA xs i).2.1 = ⟨#[116, 101, 120]⟩ then false
    else (ndA xs i).2.2.2.all fun a => uF f a.toNat
def mU (i : Nat) : Nat := (ownV xs ys i).toNat * (xs.length + 1) + i
def uV (i : Nat) : Bool := uF xs ys ((ys.length + 1) * (xs.length + 1)) i
end
theorem first_some {n : Nat} {p : Nat → Bool} {k : Nat} (hk : k < n) (hp : p k = true) (hb : ∀ j, j < k → p j = false) : firstB n p = some k := by
  unfold firstB
  rw [List.find?_range_eq_some]
  exact ⟨hp, by simpa using hk, fun j hj => by rw [hb j hj]; rfl⟩
theorem first_none {n : Nat} {p : Nat → Bool} (hb : ∀ j, j < n → p j = false) : firstB n p = none := by
  unfold firstB
  rw [List.find?_range_eq_none]
  exact fun j hj => by rw [hb j hj]; rfl
section
variable {xs : List Nd} {ys : List As}
theorem chk_ok (h : chkP xs ys = (0, 0)) : okPr xs ys ∧ (∀ i, i < xs.length → badN xs ys i = false) ∧ (∀ i, i < xs.length → badR xs i = false) ∧ (∀ k, k < ys.length → badS ys k = false) ∧ 0 ≤ asgd ys ⟨#[99, 111, 108, 111, 114]⟩ ys.length := by
  unfold chkP at h
  split at h
  · rename_i hok
    unfold chkV at h
    split at h
    · simp at h
    rename_i h1
    split at h
    · simp at h
    rename_i h2
    split at h
    · simp at h
    rename_i h3
    split at h
    · simp at h
    · exact ⟨hok, find_none h1, find_none h2, find_none h3, by omega⟩
  · simp at h
/-- the local variable that a name means lies before -/
theorem ref_before (h : okPr xs ys) (hb : ∀ i, i < xs.length → badN xs ys i = false) {i : Nat} (hi : i < xs.length) (h2 : (ndA xs i).1 = 2) (hv : varB (ndA xs i).2.1 = false) :
    ∃ k, ∃ hk : k < ys.length, asgd ys (ndA xs i).2.1 (ownV xs ys i) = (k : Int) ∧ (k : Int) < ownV xs ys i ∧ (ys[k]).2.toNat < xs.length ∧ 0 ≤ (ys[k]).2 ∧ ownV xs ys (ys[k]).2.toNat = (k : Int) := by
  have hbi := hb i hi
  unfold badN at hbi
  rw [Bool.or_eq_false_iff] at hbi
  have h3 : 0 ≤ asgd ys (ndA xs i).2.1 (ownV xs ys i) := by
    have := hbi.1
    rw [h2, hv] at this
    simpa using this
  obtain ⟨k, hk, _, he, hlt, _⟩ := asgF_in _ (Nat.le_refl _) h3
  have hr := okPr_root h hk
  exact ⟨k, hk, he, hlt, by omega, hr.1, ownV_root h hk⟩
theorem mU_lt (h : okPr xs ys) {i : Nat} (hi : i < xs.length) : mU xs ys i < (ys.length + 1) * (xs.length + 1) := by
  have := ownV_bd h hi
  unfold mU
  have h2 : (ownV xs ys i).toNat + 1 ≤ ys.length := by omega
  have h3 := Nat.mul_le_mul_right (xs.length + 1) h2
  rw [Nat.add_mul] at h3 ⊢
  omega
theorem mU_before {i k r : Nat} (hk : (k : Int) < ownV xs ys i) (hr : r < xs.length) (ho : ownV xs ys r = (k : Int)) : mU xs ys r < mU xs ys i := by
  unfold mU
  rw [ho]
  have h2 : ((k : Int)).toNat + 1 ≤ (ownV xs ys i).toNat := by omega
  have h3 := Nat.mul_le_mul_right (xs.length + 1) h2
  rw [Nat.add_mul] at h3
  omega
theorem mU_arg (h : okPr xs ys) {i : Nat} (hi : i < xs.length) {a : Int} (ha : a ∈ (xs[i]).2.2.2) : mU xs ys a.toNat < mU xs ys i := by
  unfold mU
  rw [ownV_arg h hi ha]
  have := arg_in h hi ha
  omega
theorem uF_fuel (h : okPr xs ys) (hb : ∀ i, i < xs.length → badN xs ys i = false) : ∀ (f g i : Nat), i < xs.length → mU xs ys i < f → mU xs ys i < g → uF xs ys f i = uF xs ys g i := by
  intro f
  induction f with
  | zero => intro g i hi hf; omega
  | succ f ih =>
    intro g i hi hf hg
    cases g with
    | zero => omega
    | succ g =>
      unfold uF
      split
      · rename_i h2
        split
        · rfl
        split
        · rfl
        rename_i hv
        have hv : varB (ndA xs i).2.1 = false := by simpa using hv
        obtain ⟨k, hk, he, hlt, hr, _, ho⟩ := ref_before h hb hi h2 hv
        rw [he]
        have e2 : ((k : Int)).toNat = k := by omega
        rw [e2, getD_at hk]
        have hm := mU_before hlt hr ho
        exact ih g _ hr (by omega) (by omega)
      · split
        · rfl
        · have hall : ∀ a ∈ (ndA xs i).2.2.2, uF xs ys f a.toNat = uF xs ys g a.toNat := fun a ha => by
            unfold ndA at ha
            rw [getD_at hi] at ha
            have hm := mU_arg h hi ha
            have hin := arg_in h hi ha
            exact ih g _ (by omega) (by omega) (by omega)
          rw [Bool.eq_iff_iff, List.all_eq_true, List.all_eq_true]
          exact ⟨fun hh a ha => by rw [← hall a ha]; exact hh a ha, fun hh a ha => by rw [hall a ha]; exact hh a ha⟩
theorem uV_step (h : okPr xs ys) (hb : ∀ i, i < xs.length → badN xs ys i = false) {i : Nat} (hi : i < xs.length) : uV xs ys i =
    (if (ndA xs i).1 = 2 then
      if (ndA xs i).2.1 = ⟨#[116]⟩ then true
      else if varB (ndA xs i).2.1 = true then false
      else uV xs ys (ys.getD (asgd ys (ndA xs i).2.1 (ownV xs ys i)).toNat (⟨#[]⟩, 0)).2.toNat
    else if (ndA xs i).1 = 8 ∧ (ndA xs i).2.1 = ⟨#[116, 101, 120]⟩ then false
    else (ndA xs i).2.2.2.all fun a => uV xs ys a.toNat) := by
  have hlt := mU_lt h hi
  unfold uV
  obtain ⟨n, hn⟩ : ∃ n, (ys.length + 1) * (xs.length + 1) = n + 1 := ⟨(ys.length + 1) * (xs.length + 1) - 1, by omega⟩
  rw [hn] at hlt ⊢
  conv => lhs; unfold uF
  split
  · rename_i h2
    split
    · rfl
    split
    · rfl
    rename_i hv
    have hv : varB (ndA xs i).2.1 = false := by simpa using hv
    obtain ⟨k, hk, he, hkl, hr, _, ho⟩ := ref_before h hb hi h2 hv
    rw [he]
    have e2 : ((k : Int)).toNat = k := by omega
    rw [e2, getD_at hk]
    have hm := mU_before hkl hr ho
    exact uF_fuel h hb _ _ _ hr (by omega) (by omega)
  · split
    · rfl
    · have hall : ∀ a ∈ (ndA xs i).2.2.2, uF xs ys n a.toNat = uF xs ys (n + 1) a.toNat := fun a ha => by
        unfold ndA at ha
        rw [getD_at hi] at ha
        have hm := mU_arg h hi ha
        have hin := arg_in h hi ha
        exact uF_fuel h hb _ _ _ (by omega) (by omega) (by omega)
      rw [Bool.eq_iff_iff, List.all_eq_true, List.all_eq_true]
      exact ⟨fun hh a ha => by rw [← hall a ha]; exact hh a ha, fun hh a ha => by rw [hall a ha]; exact hh a ha⟩
end
end Go.Proofs.Ytpcdlehicdepaaa
