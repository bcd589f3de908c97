/- Decimal numerals as plain lists of bytes (nothing of the program). -/
import Derived.Test.YtjbpfgaakkkaaaaDoorStrS
import Derived.Lib.Atoi
import Derived.Lib.AtoiAll
import Derived.Lib.AtoiTie
import Derived.Lib.ItoaNum
import Derived.Lib.ItoaMem
import Derived.Lib.ItoaLen
namespace Go.Proofs.YtjbpfgaakkkaaaaDoor
open Go.RowKit Go.Lib

theorem digit_of (d : Nat) (h : d < 10) : digitVal (UInt8.ofNat (48 + d)) = some d := by
  have : ∀ d : Fin 10, digitVal (UInt8.ofNat (48 + d.val)) = some d.val := by decide
  exact this ⟨d, h⟩
theorem decFrom_snoc : ∀ (l : List UInt8) (acc n : Nat) (c : UInt8) (d : Nat), decFrom acc l = some n → digitVal c = some d → decFrom acc (l ++ [c]) = some (n * 10 + d)
  | [], acc, n, c, d, h, hd => by
    simp only [decFrom, Option.some.injEq] at h
    subst h
    simp [decFrom, hd]
  | b :: r, acc, n, c, d, h, hd => by
    rw [List.cons_append, decFrom]
    rw [decFrom] at h
    cases hb : digitVal b with
    | none => rw [hb] at h; cases h
    | some e => rw [hb] at h; exact decFrom_snoc r _ n c d h hd
theorem decFrom_digits (u : Nat) : decFrom 0 (decDigits u) = some u := by
  induction u using Nat.strongRecOn with
  | _ u ih =>
    by_cases h : u < 10
    · rw [decDigits, dif_pos h]
      simp only [decFrom, digit_of u h, Nat.zero_mul, Nat.zero_add]
    · rw [decDigits, dif_neg h, decFrom_snoc _ 0 (u / 10) _ (u % 10) (ih (u / 10) (by omega)) (digit_of _ (by omega))]
      congr 1
      omega
theorem digits_all (u : Nat) : ∀ c ∈ decDigits u, 48 ≤ c.toNat ∧ c.toNat ≤ 57 := by
  induction u using Nat.strongRecOn with
  | _ u ih =>
    have one : ∀ d : Fin 10, 48 ≤ (UInt8.ofNat (48 + d.val)).toNat ∧ (UInt8.ofNat (48 + d.val)).toNat ≤ 57 := by decide
    by_cases h : u < 10
    · rw [decDigits, dif_pos h]
      intro c hc
      rw [List.mem_singleton] at hc
      subst hc
      exact one ⟨u, h⟩
    · rw [decDigits, dif_neg h]
      intro c hc
      rcases List.mem_append.1 hc with hc | hc
      · exact ih _ (by omega) c hc
      · rw [List.mem_singleton] at hc
        subst hc
        exact one ⟨u % 10, by omega⟩
theorem digits_ne (u : Nat) : decDigits u ≠ [] := by
  rw [decDigits]
  split <;> simp
theorem nDigits_le (k : Nat) : ∀ u, u < 10 ^ (k + 1) → nDigits u ≤ k + 1 := by
  induction k with
  | zero => intro u h; rw [nDigits_small (by omega)]; omega
  | succ k ih =>
    intro u h
    by_cases hs : u < 10
    · rw [nDigits_small hs]; omega
    · rw [nDigits_big hs]
      have := ih (u / 10) (by rw [Nat.div_lt_iff_lt_mul (by omega)]; rw [Nat.pow_succ] at h; exact h)
      omega
theorem digits_len (u : Nat) (h : u ≤ 1000000000) : (decDigits u).length ≤ 10 := by
  rw [decDigits_length]
  exact nDigits_le 9 u (by omega)
/-- s is what FormatInt writes of m -/
def IsNum (s : ByteArray) (m : Int) : Prop := -1000000000 ≤ m ∧ m ≤ 1000000000 ∧ s = strOf (itoa m)
def fmtP (n : Int) : ByteArray := if -1000000000 ≤ n ∧ n ≤ 1000000000 then strOf (itoa n) else ⟨#[]⟩
theorem strOf_list (l : List UInt8) : (strOf l).data.toList = l := by simp [strOf]
theorem itoa_cases (m : Int) : (m < 0 ∧ itoa m = 45 :: decDigits m.natAbs) ∨ (0 ≤ m ∧ itoa m = decDigits m.natAbs) := by
  unfold itoa
  by_cases h : m < 0
  · exact .inl ⟨h, if_pos h⟩
  · refine .inr ⟨by omega, ?_⟩
    rw [if_neg h]
    congr 1
    omega
theorem itoa_ne (m : Int) : itoa m ≠ [] := by
  rcases itoa_cases m with ⟨_, h⟩ | ⟨_, h⟩ <;> rw [h]
  · simp
  · exact digits_ne _
theorem num_len {s : ByteArray} {m : Int} (h : IsNum s m) : 1 ≤ s.size ∧ s.size ≤ 11 := by
  obtain ⟨h0, h1, rfl⟩ := h
  rw [strOf_size]
  have hd := digits_len m.natAbs (by omega)
  have hn := List.length_pos_iff.2 (itoa_ne m)
  refine ⟨hn, ?_⟩
  rcases itoa_cases m with ⟨_, h⟩ | ⟨_, h⟩ <;> rw [h]
  · simp; omega
  · omega
theorem head_digit (u : Nat) : ∃ c r, decDigits u = c :: r ∧ 48 ≤ c.toNat ∧ c.toNat ≤ 57 := by
  cases h : decDigits u with
  | nil => exact absurd h (digits_ne u)
  | cons c r => exact ⟨c, r, rfl, digits_all u c (by rw [h]; simp)⟩
/-- the sign of a numeral stands at its head -/
theorem num_sign {s : ByteArray} {m : Int} (h : IsNum s m) (h0 : 0 < s.size) : (s[0]'h0).toNat = 45 ↔ m < 0 := by
  obtain ⟨_, _, rfl⟩ := h
  have e : ((strOf (itoa m))[0]'h0) = (itoa m)[0]'(by rw [strOf_size] at h0; exact h0) := by
    show (strOf (itoa m)).data[0]'h0 = _
    simp [strOf]
  rw [e]
  rcases itoa_cases m with ⟨hm, h⟩ | ⟨hm, h⟩
  · simp [h, hm]
  · obtain ⟨c, r, hc, h1, h2⟩ := head_digit m.natAbs
    simp only [h, hc, List.getElem_cons_zero]
    omega
def offOf (neg : Bool) : Nat := if neg then 1 else 0
theorem num_drop {s : ByteArray} {m : Int} (h : IsNum s m) (neg : Bool) (hn : neg = true ↔ m < 0) : s.data.toList.drop (offOf neg) = decDigits m.natAbs := by
  obtain ⟨_, _, rfl⟩ := h
  rw [strOf_list]
  rcases itoa_cases m with ⟨hm, h⟩ | ⟨hm, h⟩
  · rw [h, hn.2 hm]; rfl
  · have : neg = false := by rw [← Bool.not_eq_true, hn]; omega
    rw [h, this]; rfl
theorem num_val {s : ByteArray} {m : Int} (h : IsNum s m) (neg : Bool) (hn : neg = true ↔ m < 0) {x : Nat} (hx : decFrom 0 (s.data.toList.drop (offOf neg)) = some x) : m = if neg then -(x : Int) else x := by
  rw [num_drop h neg hn, decFrom_digits] at hx
  injection hx with hx
  cases neg
  · have : ¬ m < 0 := by rw [← hn]; simp
    simp; omega
  · have : m < 0 := hn.1 rfl
    simp; omega
theorem num_digit {s : ByteArray} {m : Int} (h : IsNum s m) (neg : Bool) (hn : neg = true ↔ m < 0) (k : Nat) (hk : k < s.size) (ho : offOf neg ≤ k) : 48 ≤ (s[k]'hk).toNat ∧ (s[k]'hk).toNat ≤ 57 := by
  have hd := num_drop h neg hn
  refine digits_all m.natAbs _ ?_
  rw [← hd]
  have : (s[k]'hk) = (s.data.toList.drop (offOf neg))[k - offOf neg]'(by rw [List.length_drop, Array.length_toList]; show k - offOf neg < s.size - offOf neg; omega) := by
    rw [List.getElem_drop]
    simp only [show offOf neg + (k - offOf neg) = k by omega]
    rw [Array.getElem_toList]
    rfl
  rw [this]
  exact List.getElem_mem _
theorem num_inj {s : ByteArray} {m k : Int} (h : IsNum s m) (h' : IsNum s k) : m = k := by
  have h0 := (num_len h).1
  have hn : decide ((s[0]'(by omega)).toNat = 45) = true ↔ m < 0 := by rw [decide_eq_true_eq]; exact num_sign h (by omega)
  have hn' : decide ((s[0]'(by omega)).toNat = 45) = true ↔ k < 0 := by rw [decide_eq_true_eq]; exact num_sign h' (by omega)
  have e := num_drop h _ hn
  have hx := decFrom_digits m.natAbs
  rw [← e] at hx
  rw [num_val h _ hn hx, num_val h' _ hn' hx]
theorem atoi_num {s : ByteArray} {m : Int} (h : IsNum s m) : atoiAll s.data.toList = .ok m := by
  have hl := num_len h
  rw [atoiAll_short _ (by rw [Array.length_toList]; show s.size ≤ 18; omega)]
  obtain ⟨_, _, rfl⟩ := h
  rw [strOf_list]
  have e : atoi (itoa m) = some m := by
    rcases itoa_cases m with ⟨hm, h⟩ | ⟨hm, h⟩
    · rw [h, atoi]
      have : decNat (decDigits m.natAbs) = some m.natAbs := by
        unfold decNat
        rw [if_neg (by simp [digits_ne]), decFrom_digits]
      simp only [beq_self_eq_true, if_true, this, Option.map_some, Option.some.injEq]
      omega
    · obtain ⟨c, r, hc, h1, h2⟩ := head_digit m.natAbs
      have : decNat (decDigits m.natAbs) = some m.natAbs := by
        unfold decNat
        rw [if_neg (by simp [digits_ne]), decFrom_digits]
      rw [h, hc, atoi]
      rw [hc] at this
      have n1 : (c == 45) = false := by rw [beq_eq_false_iff_ne]; intro h; subst h; simp at h1
      have n2 : (c == 43) = false := by rw [beq_eq_false_iff_ne]; intro h; subst h; simp at h1
      simp only [n1, n2, this, Option.map_some, Bool.false_eq_true, if_false, Option.some.injEq]
      omega
  rw [e]; rfl
theorem fmt_num {n : Int} {s : ByteArray} (h : fmtP n = s) (hs : 1 ≤ s.size) : IsNum s n := by
  unfold fmtP at h
  split at h
  · rename_i hr; exact ⟨hr.1, hr.2, h.symm⟩
  · subst h; simp [ByteArray.size] at hs
theorem num_fmt {n : Int} {s : ByteArray} (h : IsNum s n) : fmtP n = s := by
  unfold fmtP
  rw [if_pos ⟨h.1, h.2.1⟩, h.2.2]
end Go.Proofs.YtjbpfgaakkkaaaaDoor
