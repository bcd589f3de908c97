/- Merged texts: Fm Tp Tk Tl Tm. -/
import Derived.Test.YtlcnjiephbhdaaaProg
import Derived.Test.YtlcnjiephbhdaaaC0
import Derived.WalkKit
import Derived.Lib.Walk
import Derived.Lib.Strings
import Derived.WalkSpells
import Derived.WalkLawsBesides
import Derived.Lib.Hide
import Derived.Deep.RegionHeld3
import Derived.Deep.QuietTactic
import Derived.BigQuiet
import Derived.Handy
import Derived.Deep.DeepCutAuto
import Derived.Deep.CutRange
import Derived.Lib.SlBytesConst
import Derived.Lib.SmallJoins
namespace Go.Proofs.Ytlcnjiephbhdaaa
section

/-- the whole units that are read of a fraction f of d digits -/
def uniF (f d : Nat) : Nat := f * 256 / 10 ^ d
def p10 (k : Nat) : Nat := 10 ^ k
end

section
open Go.RowKit

def digB (b : UInt8) : Bool := decide (48 ≤ b.toNat) && decide (b.toNat ≤ 57)
def letB (b : UInt8) : Bool := decide (97 ≤ b.toNat) && decide (b.toNat ≤ 122)
def namB (b : UInt8) : Bool := letB b || digB b
def blkB (b : UInt8) : Bool := ([32, 10] : List UInt8).contains b
def symB (b : UInt8) : Bool := ([43, 45, 42, 47, 40, 41, 44, 61, 59] : List UInt8).contains b
theorem digB_iff (b : UInt8) : digB b = true ↔ 48 ≤ b.toNat ∧ b.toNat ≤ 57 := by simp [digB]
theorem letB_iff (b : UInt8) : letB b = true ↔ 97 ≤ b.toNat ∧ b.toNat ≤ 122 := by simp [letB]
theorem u8_eq (b c : UInt8) : b = c ↔ b.toNat = c.toNat := ⟨fun h => by rw [h], fun h => UInt8.toNat_inj.1 h⟩
theorem blkB_iff (b : UInt8) : blkB b = true ↔ b.toNat = 32 ∨ b.toNat = 10 := by
  simp [blkB, u8_eq]
theorem symB_iff (b : UInt8) : symB b = true ↔ b.toNat = 43 ∨ b.toNat = 45 ∨ b.toNat = 42 ∨ b.toNat = 47 ∨ b.toNat = 40 ∨ b.toNat = 41 ∨ b.toNat = 44 ∨ b.toNat = 61 ∨ b.toNat = 59 := by
  simp [symB, u8_eq]
/-- how many bytes from k on are p -/
def runP (p : UInt8 → Bool) (s : ByteArray) (k : Nat) : Nat := ((s.data.toList.drop k).takeWhile p).length
theorem drop_b (s : ByteArray) {k : Nat} (h : k < s.size) : s.data.toList.drop k = s[k] :: s.data.toList.drop (k + 1) := by
  have hl : k < s.data.toList.length := by rw [← Lib.size_eq]; exact h
  rw [List.drop_eq_getElem_cons hl]
  rfl
theorem runP_yes {p : UInt8 → Bool} {s : ByteArray} {k : Nat} (h : k < s.size) (hp : p s[k] = true) : runP p s k = runP p s (k + 1) + 1 := by
  unfold runP
  rw [drop_b s h, List.takeWhile_cons, hp]
  rfl
theorem runP_no {p : UInt8 → Bool} {s : ByteArray} {k : Nat} (h : k < s.size) (hp : p s[k] = false) : runP p s k = 0 := by
  unfold runP
  rw [drop_b s h, List.takeWhile_cons, hp]
  rfl
theorem runP_end {p : UInt8 → Bool} {s : ByteArray} {k : Nat} (h : s.size ≤ k) : runP p s k = 0 := by
  unfold runP
  rw [List.drop_eq_nil_of_le (by rw [← Lib.size_eq]; exact h)]
  rfl
theorem runP_le {p : UInt8 → Bool} {s : ByteArray} {k : Nat} (h : k ≤ s.size) : k + runP p s k ≤ s.size := by
  have h1 : runP p s k ≤ (s.data.toList.drop k).length := (List.takeWhile_sublist _).length_le
  rw [List.length_drop, ← Lib.size_eq] at h1
  omega
theorem runP_all {p : UInt8 → Bool} {s : ByteArray} : ∀ (n k : Nat), s.size - k = n → (∀ j (h : k + j < s.size), j < runP p s k → p s[k + j] = true) ∧ (∀ h : k + runP p s k < s.size, p s[k + runP p s k] = false)
  | 0, k, hn => by
    have := runP_end (p := p) (s := s) (k := k) (by omega)
    exact ⟨fun j h => by omega, fun h => by omega⟩
  | n + 1, k, hn => by
    have hk : k < s.size := by omega
    cases hp : p s[k] with
    | false =>
      have := runP_no hk hp
      exact ⟨fun j h hj => by rw [this] at hj; omega, fun h => by simp only [this, Nat.add_zero]; exact hp⟩
    | true =>
      have e := runP_yes hk hp
      have hn' : s.size - (k + 1) = n := by clear e; omega
      obtain ⟨h1, h2⟩ := runP_all (p := p) n (k + 1) hn'
      refine ⟨fun j h hj => ?_, fun h => ?_⟩
      · match j, h, hj with
        | 0, _, _ => exact hp
        | j + 1, h, hj =>
          have := h1 j (by omega) (by omega)
          simp only [show k + (j + 1) = k + 1 + j by omega]
          exact this
      · have := h2 (by omega)
        simp only [e, show k + (runP p s (k + 1) + 1) = k + 1 + runP p s (k + 1) by omega]
        exact this
theorem runP_in {p : UInt8 → Bool} {s : ByteArray} {k : Nat} (j : Nat) (h : k + j < s.size) (hj : j < runP p s k) : p s[k + j] = true := (runP_all _ k rfl).1 j h hj
theorem runP_out {p : UInt8 → Bool} {s : ByteArray} {k : Nat} (h : k + runP p s k < s.size) : p s[k + runP p s k] = false := (runP_all _ k rfl).2 h
theorem runP_eq {p : UInt8 → Bool} {s : ByteArray} {k n : Nat} (hk : k + n ≤ s.size) (h1 : ∀ j (h : k + j < s.size), j < n → p s[k + j] = true) (h2 : ∀ h : k + n < s.size, p s[k + n] = false) : runP p s k = n := by
  have hl := runP_le (p := p) (s := s) (k := k) (by omega)
  rcases Nat.lt_trichotomy (runP p s k) n with h | h | h
  · have a := h1 _ (by omega) h
    have b := runP_out (p := p) (s := s) (k := k) (by omega)
    rw [a] at b
    cases b
  · exact h
  · have a := runP_in (p := p) (s := s) (k := k) n (by omega) h
    rw [h2 (by omega)] at a
    cases a
theorem run_stop {p : UInt8 → Bool} {s : ByteArray} {k q : Nat} (hk : k ≤ q) (hq : q ≤ k + runP p s k) (hs : k ≤ s.size) (h : ∀ hl : q < s.size, p s[q] = false) : q = k + runP p s k := by
  have hle := runP_le (p := p) (s := s) hs
  rcases Nat.lt_or_ge q (k + runP p s k) with hlt | hge
  · have a := runP_in (p := p) (s := s) (k := k) (q - k) (by omega) (by omega)
    have b := h (by omega)
    simp only [show k + (q - k) = q by omega] at a
    rw [a] at b
    cases b
  · omega
theorem run_go {p : UInt8 → Bool} {s : ByteArray} {k q : Nat} (hq : q ≤ k + runP p s k) (hl : q < s.size) (h : p s[q] = true) : q + 1 ≤ k + runP p s k := by
  rcases Nat.lt_or_ge q (k + runP p s k) with hlt | hge
  · omega
  · have e : k + runP p s k = q := by omega
    have b := runP_out (p := p) (s := s) (k := k) (by omega)
    simp only [e] at b
    rw [h] at b
    cases b
/-- a part of a string, as a list -/
theorem ext_list (s : ByteArray) (a b : Nat) : (s.extract a b).data.toList = (s.data.toList.drop a).take (b - a) := by
  rw [Lib.extract_eq]
theorem ext_size (s : ByteArray) {a b : Nat} (h : b ≤ s.size) : (s.extract a b).size = b - a := by
  rw [Lib.size_eq, ext_list, List.length_take, List.length_drop, ← Lib.size_eq]
  omega
theorem run_ext (p : UInt8 → Bool) (s : ByteArray) (k : Nat) : runP p (s.extract k s.size) 0 = runP p s k := by
  unfold runP
  rw [ext_list, List.drop_zero, List.take_of_length_le (by rw [List.length_drop, ← Lib.size_eq]; exact Nat.le_refl _)]
theorem ext_eq {s t : ByteArray} (h : s.data.toList = t.data.toList) : s = t := by rw [← Lib.mk_data s, ← Lib.mk_data t, h]
theorem ext_ext (s : ByteArray) (k n : Nat) : (s.extract k s.size).extract 0 n = s.extract k (k + n) := by
  apply ext_eq
  rw [ext_list, ext_list, ext_list, List.drop_zero, List.take_of_length_le (l := s.data.toList.drop k) (by rw [List.length_drop, ← Lib.size_eq]; exact Nat.le_refl _)]
  congr 1
  omega
/-- the digits' value -/
def lval (l : List UInt8) : Nat := l.foldl (fun a b => a * 10 + (b.toNat - 48)) 0
theorem lval_snoc (l : List UInt8) (b : UInt8) : lval (l ++ [b]) = lval l * 10 + (b.toNat - 48) := by simp [lval, List.foldl_append]
theorem lval_from (l : List UInt8) : ∀ a : Nat, l.foldl (fun a b => a * 10 + (b.toNat - 48)) a = a * 10 ^ l.length + lval l := by
  induction l with
  | nil => intro a; simp [lval]
  | cons x l ih =>
    intro a
    have h0 := ih (0 * 10 + (x.toNat - 48))
    have h1 := ih (a * 10 + (x.toNat - 48))
    show l.foldl _ (a * 10 + (x.toNat - 48)) = _
    rw [h1]
    show _ = a * 10 ^ (l.length + 1) + l.foldl _ (0 * 10 + (x.toNat - 48))
    rw [h0, Nat.pow_succ]
    grind
theorem lval_app (l m : List UInt8) : lval (l ++ m) = lval l * 10 ^ m.length + lval m := by
  rw [← lval_from m (lval l)]
  simp [lval, List.foldl_append]
theorem lval_lt : ∀ (l : List UInt8), (∀ b ∈ l, digB b = true) → lval l < 10 ^ l.length := by
  intro l
  induction l with
  | nil => intro _; simp [lval]
  | cons x l ih =>
    intro h
    have h1 := ih (fun b hb => h b (List.mem_cons_of_mem _ hb))
    have hx := (digB_iff x).1 (h x List.mem_cons_self)
    have e : lval (x :: l) = (0 * 10 + (x.toNat - 48)) * 10 ^ l.length + lval l := by rw [← lval_from l]; rfl
    rw [e, List.length_cons, Nat.pow_succ]
    have : (0 * 10 + (x.toNat - 48)) * 10 ^ l.length ≤ 9 * 10 ^ l.length := Nat.mul_le_mul_right _ (by omega)
    omega
/-- n bytes from k on -/
def dg (s : ByteArray) (k n : Nat) : List UInt8 := (s.data.toList.drop k).take n
theorem dg_succ (s : ByteArray) {k n : Nat} (h : k + n < s.size) : dg s k (n + 1) = dg s k n ++ [s[k + n]] := by
  unfold dg
  have hl : n < (s.data.toList.drop k).length := by rw [List.length_drop, ← Lib.size_eq]; omega
  rw [List.take_succ_eq_append_getElem hl, List.getElem_drop]
  rfl
theorem dg_zero (s : ByteArray) (k : Nat) : dg s k 0 = [] := by simp [dg]
theorem dg_len (s : ByteArray) {k n : Nat} (h : k + n ≤ s.size) : (dg s k n).length = n := by
  unfold dg
  rw [List.length_take, List.length_drop, ← Lib.size_eq]
  omega
theorem dg_dig (s : ByteArray) {k n : Nat} (hn : n ≤ runP digB s k) : ∀ b ∈ dg s k n, digB b = true := by
  intro b hb
  obtain ⟨i, hi, rfl⟩ := List.getElem_of_mem hb
  have hlen : i < n ∧ k + i < s.size := by
    have : (dg s k n).length ≤ n ∧ (dg s k n).length ≤ s.size - k := by
      unfold dg
      rw [List.length_take, List.length_drop, ← Lib.size_eq]
      omega
    omega
  have : (dg s k n)[i] = s[k + i]'hlen.2 := by
    have e : (dg s k n)[i]? = some (s[k + i]'hlen.2) := by
      unfold dg
      rw [List.getElem?_take_of_lt hlen.1, List.getElem?_drop, List.getElem?_eq_getElem (by rw [← Lib.size_eq]; exact hlen.2)]
      rfl
    rw [List.getElem?_eq_getElem hi] at e
    exact Option.some.inj e
  rw [this]
  exact runP_in i hlen.2 (by omega)
theorem lval6 {s : ByteArray} {k n : Nat} (hn : n ≤ runP digB s k) (h6 : n ≤ 6) (hk : k + n ≤ s.size) : lval (dg s k n) < 1000000 := by
  have h := lval_lt (dg s k n) (dg_dig s hn)
  rw [dg_len s hk] at h
  have : 10 ^ n ≤ 10 ^ 6 := Nat.pow_le_pow_right (by omega) h6
  have e : (10 : Nat) ^ 6 = 1000000 := by rfl
  omega
theorem lval_step {s : ByteArray} {k q : Nat} (hk : k ≤ q) (hl : q < s.size) : lval (dg s k (q + 1 - k)) = lval (dg s k (q - k)) * 10 + (s[q].toNat - 48) := by
  have := dg_succ s (k := k) (n := q - k) (by omega)
  simp only [show k + (q - k) = q by omega] at this
  rw [show q + 1 - k = q - k + 1 by omega, this, lval_snoc]
theorem num_eq (a b m : Nat) : uniF (a * 10 ^ m + b) m = a * 256 + b * 256 / 10 ^ m := by
  unfold uniF
  have hp : 0 < 10 ^ m := Nat.pow_pos (by omega)
  have e : (a * 10 ^ m + b) * 256 = b * 256 + a * 256 * 10 ^ m := by grind
  rw [e, Nat.add_mul_div_right _ _ hp]
  omega
/-- a point at j -/
def dotAt (s : ByteArray) (j : Nat) : Bool := s.data.toList[j]? == some 46
theorem dot_yes {s : ByteArray} {j : Nat} (h : dotAt s j = true) : ∃ h : j < s.size, (s[j]).toNat = 46 := by
  unfold dotAt at h
  have h := eq_of_beq h
  obtain ⟨hl, e⟩ := List.getElem?_eq_some_iff.1 h
  refine ⟨by rw [Lib.size_eq]; exact hl, ?_⟩
  have e : s[j]'(by rw [Lib.size_eq]; exact hl) = 46 := e
  rw [e]; rfl
theorem dot_no {s : ByteArray} {j : Nat} (h : dotAt s j = false) (hj : j < s.size) : (s[j]).toNat ≠ 46 := by
  intro e
  unfold dotAt at h
  have hl : j < s.data.toList.length := by rw [← Lib.size_eq]; exact hj
  rw [List.getElem?_eq_getElem hl] at h
  have e2 : s[j] = 46 := (u8_eq _ _).2 e
  have e3 : s.data.toList[j] = s[j] := rfl
  rw [e3, e2] at h
  simp at h
theorem dot_end {s : ByteArray} {j : Nat} (hj : s.size ≤ j) : dotAt s j = false := by
  unfold dotAt
  rw [List.getElem?_eq_none (by rw [← Lib.size_eq]; exact hj)]
  rfl
/-- the number that begins at k: its number of bytes, and its value -/
def numS (s : ByteArray) (k : Nat) : Option (Nat × Nat) :=
  if 4 < runP digB s k then none
  else if dotAt s (k + runP digB s k) = true then
    if 1 ≤ runP digB s (k + runP digB s k + 1) ∧ runP digB s (k + runP digB s k + 1) ≤ 4 then
      some (runP digB s k + 1 + runP digB s (k + runP digB s k + 1), lval (dg s k (runP digB s k)) * 256 + lval (dg s (k + runP digB s k + 1) (runP digB s (k + runP digB s k + 1))) * 256 / 10 ^ runP digB s (k + runP digB s k + 1))
    else none
  else some (runP digB s k, lval (dg s k (runP digB s k)) * 256)
/-- the token that begins at k -/
def scanT (s : ByteArray) (k : Nat) (b : UInt8) : Option Tk :=
  if digB b = true then (numS s k).map fun x => (1, s.extract k (k + x.1), (x.2 : Int), (k : Int))
  else if letB b = true then (if runP namB s k ≤ 8 then some (2, s.extract k (k + runP namB s k), 0, (k : Int)) else none)
  else if symB b = true then some (3, s.extract k (k + 1), 0, (k : Int))
  else none
theorem scan_size {s : ByteArray} {k : Nat} (h : k < s.size) {t : Tk} (ht : scanT s k s[k] = some t) : 1 ≤ t.2.1.size ∧ k + t.2.1.size ≤ s.size ∧ t.2.1 = s.extract k (k + t.2.1.size) := by
  have key : ∀ n, 1 ≤ n → k + n ≤ s.size → t.2.1 = s.extract k (k + n) → 1 ≤ t.2.1.size ∧ k + t.2.1.size ≤ s.size ∧ t.2.1 = s.extract k (k + t.2.1.size) := fun n h1 h2 e => by
    have : t.2.1.size = n := by rw [e, ext_size s h2]; omega
    rw [this]
    exact ⟨h1, h2, e⟩
  unfold scanT at ht
  by_cases hd : digB s[k] = true
  · rw [if_pos hd] at ht
    have hn1 := runP_yes (p := digB) h hd
    have hle := runP_le (p := digB) (s := s) (k := k) (by omega)
    obtain ⟨x, hx, rfl⟩ := Option.map_eq_some_iff.1 ht
    unfold numS at hx
    split at hx
    · cases hx
    · split at hx
      · rename_i hdot
        obtain ⟨hdl, _⟩ := dot_yes hdot
        have hle2 := runP_le (p := digB) (s := s) (k := k + runP digB s k + 1) (by omega)
        split at hx
        · obtain rfl := Option.some.inj hx
          exact key _ (by omega) (by show k + (runP digB s k + 1 + runP digB s (k + runP digB s k + 1)) ≤ _; omega) rfl
        · cases hx
      · obtain rfl := Option.some.inj hx
        exact key _ (by omega) hle rfl
  · rw [if_neg hd] at ht
    by_cases hl : letB s[k] = true
    · rw [if_pos hl] at ht
      have hn1 := runP_yes (p := namB) h (by unfold namB; rw [hl]; rfl)
      have hle := runP_le (p := namB) (s := s) (k := k) (by omega)
      split at ht
      · obtain rfl := Option.some.inj ht
        exact key _ (by omega) hle rfl
      · cases ht
    · rw [if_neg hl] at ht
      split at ht
      · obtain rfl := Option.some.inj ht
        exact key 1 (Nat.le_refl _) (by omega) rfl
      · cases ht
theorem num_bd {s : ByteArray} {k m v : Nat} (h : k < s.size) (hd : digB s[k] = true) (hx : numS s k = some (m, v)) : 1 ≤ m ∧ k + m ≤ s.size := by
  have hn1 := runP_yes (p := digB) h hd
  have hle := runP_le (p := digB) (s := s) (k := k) (by omega)
  unfold numS at hx
  split at hx
  · cases hx
  · split at hx
    · rename_i hdot
      obtain ⟨hdl, _⟩ := dot_yes hdot
      have hle2 := runP_le (p := digB) (s := s) (k := k + runP digB s k + 1) (by omega)
      split at hx
      · have e := Option.some.inj hx
        injection e with e1 _
        omega
      · cases hx
    · have e := Option.some.inj hx
      injection e with e1 _
      omega
/-- all tokens from k on, behind those that are read, and -1; or none and the place of what is none -/
def tokT (s : ByteArray) (k : Nat) (acc : List Tk) : List Tk × Int :=
  if h : k < s.size then
    if blkB s[k] = true then tokT s (k + 1) acc
    else match scanT s k s[k] with
      | none => ([], (k : Int))
      | some t => if 0 < t.2.1.size then tokT s (k + t.2.1.size) (acc ++ [t]) else ([], 0)
  else (acc ++ [(0, ByteArray.empty, 0, (s.size : Int))], -1)
termination_by s.size - k
decreasing_by
  all_goals omega
theorem tok_blank {s : ByteArray} {k : Nat} {acc : List Tk} (h : k < s.size) (hb : blkB s[k] = true) : tokT s k acc = tokT s (k + 1) acc := by
  rw [tokT, dif_pos h, if_pos hb]
theorem tok_none {s : ByteArray} {k : Nat} {acc : List Tk} (h : k < s.size) (hb : blkB s[k] = false) (ht : scanT s k s[k] = none) : tokT s k acc = ([], (k : Int)) := by
  rw [tokT, dif_pos h, if_neg (by rw [hb]; simp), ht]
theorem tok_some {s : ByteArray} {k : Nat} {acc : List Tk} {t : Tk} (h : k < s.size) (hb : blkB s[k] = false) (ht : scanT s k s[k] = some t) : tokT s k acc = tokT s (k + t.2.1.size) (acc ++ [t]) := by
  have := (scan_size h ht).1
  conv => lhs; rw [tokT, dif_pos h, if_neg (by rw [hb]; simp), ht]
  simp only
  rw [if_pos (by omega)]
theorem tok_end {s : ByteArray} {k : Nat} {acc : List Tk} (h : s.size ≤ k) : tokT s k acc = (acc ++ [(0, ByteArray.empty, 0, (s.size : Int))], -1) := by
  rw [tokT, dif_neg (by omega)]
theorem tok_blanks {s : ByteArray} {acc : List Tk} : ∀ (n k : Nat), runP blkB s k = n → tokT s k acc = tokT s (k + n) acc
  | 0, k, _ => rfl
  | n + 1, k, hn => by
    have hk : k < s.size := by
      rcases Nat.lt_or_ge k s.size with h | h
      · exact h
      · rw [runP_end h] at hn; omega
    have hb : blkB s[k] = true := runP_in (k := k) 0 hk (by omega)
    have e := runP_yes (p := blkB) hk hb
    rw [tok_blank hk hb, tok_blanks n (k + 1) (by omega)]
    congr 1
    omega
theorem tok_len {s : ByteArray} : ∀ (n k : Nat) (acc : List Tk), s.size - k = n → acc.length ≤ k → k ≤ s.size → (tokT s k acc).1.length ≤ s.size + 1 := by
  intro n
  induction n using Nat.strongRecOn with
  | ind n ih =>
    intro k acc hn ha hk
    by_cases h : k < s.size
    · cases hb : blkB s[k] with
      | true =>
        rw [tok_blank h hb]
        exact ih (s.size - (k + 1)) (by omega) (k + 1) acc rfl (by omega) (by omega)
      | false =>
        cases ht : scanT s k s[k] with
        | none => rw [tok_none h hb ht]; simp
        | some t =>
          obtain ⟨h1, h2, _⟩ := scan_size h ht
          rw [tok_some h hb ht]
          exact ih (s.size - (k + t.2.1.size)) (by omega) _ _ rfl (by simp; omega) h2
    · rw [tok_end (by omega)]
      simp
      omega
/-- what Tokenize answers -/
def tokP (s : ByteArray) : List Tk × Int := if 2000 < s.size then ([], 0) else tokT s 0 []
end

section
open Go.RowKit

theorem p6_bd {k : Nat} (h : k ≤ 6) : 1 ≤ p10 k ∧ p10 k ≤ 1000000 := ⟨Nat.pow_pos (by omega), Nat.le_trans (Nat.pow_le_pow_right (n := 10) (by omega) h) (by decide)⟩
theorem p10_succ (k : Nat) : p10 (k + 1) = p10 k * 10 := Nat.pow_succ ..

theorem sDig_any (b : UInt8) (w : World) :
    Calls Try.prog 64 #[.int .u8 b.toNat] w fun e w' => e = .returned (.bool (digB b)) ∧ w = w' := by
  unfold digB
  by_cases h0 : 48 ≤ b.toNat
  · by_cases h1 : b.toNat ≤ 57
    · have b0 : decide ((48 : Int) ≤ (b.toNat : Int)) = true := decide_eq_true (by omega)
      have b1 : decide ((b.toNat : Int) ≤ 57) = true := decide_eq_true (by omega)
      go_enter Try.func64, Try.ntmps64
      go_wp2
      go_ret
      exact ⟨by simp [h0, h1], rfl⟩
    · have b0 : decide ((48 : Int) ≤ (b.toNat : Int)) = true := decide_eq_true (by omega)
      have b1 : decide ((b.toNat : Int) ≤ 57) = false := decide_eq_false (by omega)
      go_enter Try.func64, Try.ntmps64
      go_wp2
      go_ret
      exact ⟨by simp [h0, h1], rfl⟩
  · have b0 : decide ((48 : Int) ≤ (b.toNat : Int)) = false := decide_eq_false (by omega)
    go_enter Try.func64, Try.ntmps64
    go_wp2
    go_ret
    exact ⟨by simp [h0], rfl⟩

theorem sLet_any (b : UInt8) (w : World) :
    Calls Try.prog 66 #[.int .u8 b.toNat] w fun e w' => e = .returned (.bool (letB b)) ∧ w = w' := by
  unfold letB
  by_cases h0 : 97 ≤ b.toNat
  · by_cases h1 : b.toNat ≤ 122
    · have b0 : decide ((97 : Int) ≤ (b.toNat : Int)) = true := decide_eq_true (by omega)
      have b1 : decide ((b.toNat : Int) ≤ 122) = true := decide_eq_true (by omega)
      go_enter Try.func66, Try.ntmps66
      go_wp2
      go_ret
      exact ⟨by simp [h0, h1], rfl⟩
    · have b0 : decide ((97 : Int) ≤ (b.toNat : Int)) = true := decide_eq_true (by omega)
      have b1 : decide ((b.toNat : Int) ≤ 122) = false := decide_eq_false (by omega)
      go_enter Try.func66, Try.ntmps66
      go_wp2
      go_ret
      exact ⟨by simp [h0, h1], rfl⟩
  · have b0 : decide ((97 : Int) ≤ (b.toNat : Int)) = false := decide_eq_false (by omega)
    go_enter Try.func66, Try.ntmps66
    go_wp2
    go_ret
    exact ⟨by simp [h0], rfl⟩

def NumOut (s : ByteArray) (k : Nat) (w : World) (e : Ending) (w' : World) : Prop := Below w.heap.size w w' ∧ match numS s k with
  | none => ∃ (q : Nat) (v : Int), e = .returned (.tuple #[.int .i64 q, .int .i64 v, .bool false]) ∧ k ≤ q ∧ q ≤ s.size
  | some (m, v) => e = .returned (.tuple #[.int .i64 (k + m : Nat), .int .i64 v, .bool true])

set_option maxRecDepth 100000 in
set_option maxHeartbeats 4000000 in
theorem sNum_any (s : ByteArray) (k : Nat) (w : World) (hk : k ≤ s.size) (hs : s.size ≤ 2000) :
    Calls Try.prog 65 #[.string s, .int .i64 k] w (NumOut s k w) := by
  have hle := runP_le (p := digB) (s := s) hk
  obtain ⟨n, hn⟩ : ∃ n, n = runP digB s k := ⟨_, rfl⟩
  go_enter Try.func65, Try.ntmps65
  go_wp2_with fail
  go_loop [7, 8] (fun i x => ∃ q : Nat, k ≤ q ∧ q ≤ k + n ∧ q ≤ k + 6 ∧ i = .int .i64 q ∧ x = .int .i64 (lval (dg s k (q - k)) : Nat)) (fun i _ => s.size - (intOf i).toNat)
  case atStart => exact ⟨k, Nat.le_refl _, by omega, by omega, rfl, by rw [Nat.sub_self, dg_zero]; rfl⟩
  case round =>
    obtain ⟨q, hq1, hq2, hq3, rfl, rfl⟩ := hrel
    have hx6 := lval6 (s := s) (k := k) (n := q - k) (by omega) (by omega) (by omega)
    obtain ⟨x, hx⟩ : ∃ x, x = lval (dg s k (q - k)) := ⟨_, rfl⟩
    rw [← hx] at hx6 ⊢
    have HX := Lib.hid hx
    clear hx
    go_upto_region 3 with fail
    go_cut [28] from 13 to 38 (fun y wx => w = wx ∧ ∃ c : Bool, y = .bool c ∧ (c = true → ∃ hl : q < s.size, digB s[q] = true ∧ q ≤ k + 5) ∧ (c = false → q = k + 6 ∨ q = k + n))
    case first =>
      by_cases hl : q < s.size
      · have hdc := fun W => sDig_any s[q] W
        have hl' : (q : Int) < (s.size : Int) := by omega
        cases hd : digB s[q] with
        | true =>
          rw [hd] at hdc
          have HD := Lib.hid hdc
          have HDD := Lib.hid hd
          clear hdc hd
          by_cases h5 : q ≤ k + 5
          · have h5' : decide ((q : Int) - (k : Int) ≤ 5) = true := decide_eq_true (by omega)
            go_wp2_with (go_at_call 64; refine (HD.out _).mono ?_; rintro e w1 ⟨rfl, rfl⟩)
            go_meet
            exact ⟨rfl, true, rfl, fun _ => ⟨hl, HDD.out, h5⟩, fun e => by cases e⟩
          · have h5' : decide ((q : Int) - (k : Int) ≤ 5) = false := decide_eq_false (by omega)
            go_wp2_with (go_at_call 64; refine (HD.out _).mono ?_; rintro e w1 ⟨rfl, rfl⟩)
            go_meet
            exact ⟨rfl, false, rfl, (fun e => by cases e), fun _ => .inl (by omega)⟩
        | false =>
          rw [hd] at hdc
          have HD := Lib.hid hdc
          have HDD := Lib.hid hd
          clear hdc hd
          go_wp2_with (go_at_call 64; refine (HD.out _).mono ?_; rintro e w1 ⟨rfl, rfl⟩)
          go_meet
          exact ⟨rfl, false, rfl, (fun e => by cases e), fun _ => .inr (by have := run_stop (p := digB) (s := s) (k := k) (q := q) (by omega) (by omega) (by omega) (fun _ => HDD.out); omega)⟩
      · have hl' : ¬ (q : Int) < (s.size : Int) := by omega
        go_wp2_with fail
        go_meet
        exact ⟨rfl, false, rfl, (fun e => by cases e), fun _ => .inr (by have := run_stop (p := digB) (s := s) (k := k) (q := q) (by omega) (by omega) (by omega) (fun h => by omega); omega)⟩
    case rest =>
      obtain ⟨rfl, c, rfl, hc1, hc2⟩ := hcut
      cases c with
      | true =>
        obtain ⟨hl, hd, h5⟩ := hc1 rfl
        have hst := lval_step (s := s) hq1 hl
        rw [← HX.out] at hst
        have hgo := run_go (p := digB) (s := s) (k := k) (q := q) (by omega) hl hd
        have hd2 := (digB_iff _).1 hd
        have HST := Lib.hid hst
        have HGO := Lib.hid hgo
        have hl' : (q : Int) < (s.size : Int) := by omega
        clear hc1 hc2 hst hgo hd
        go_wp2_with fail
        go_round
        case rel => exact ⟨q + 1, by omega, by have := HGO.out; omega, by omega, by go_num, by rw [HST.out]; go_num⟩
        case measure => simp [intOf]; omega
      | false =>
        have hstop := hc2 rfl
        clear hc1 hc2
        by_cases h4 : 4 < n
        · have hgt : decide ((4 : Int) < (q : Int) - (k : Int)) = true := decide_eq_true (by omega)
          have HN : Hid (numS s k = none) := Lib.hid (by unfold numS; rw [← hn, if_pos h4])
          go_wp2_with fail
          exact bodyPost_ret (v := .tuple #[.int .i64 (q : Nat), .int .i64 0, .bool false]) (by simp [results, Try.results65, go_sem]) rfl ⟨Below.refl _ _, by rw [HN.out]; exact ⟨q, 0, rfl, hq1, by omega⟩⟩
        · obtain rfl : q = k + n := by omega
          have hgt : decide ((4 : Int) < ((k + n : Nat) : Int) - (k : Int)) = false := decide_eq_false (by omega)
          rw [show k + n - k = n by omega] at HX
          have hN : numS s k = if dotAt s (k + n) = true then (if 1 ≤ runP digB s (k + n + 1) ∧ runP digB s (k + n + 1) ≤ 4 then some (n + 1 + runP digB s (k + n + 1), x * 256 + lval (dg s (k + n + 1) (runP digB s (k + n + 1))) * 256 / 10 ^ runP digB s (k + n + 1)) else none) else some (n, x * 256) := by
            rw [HX.out]; unfold numS; rw [← hn, if_neg h4]
          obtain ⟨g0, hg0⟩ : ∃ g0, g0 = k + n := ⟨_, rfl⟩
          rw [← hg0] at hN hgt ⊢
          have hg1 : (g0 : Int) = (k : Int) + (n : Int) := by omega
          have hkg : k + n = g0 := hg0.symm
          have HG1 := Lib.hid hg1
          have HKG := Lib.hid hkg
          clear hg1 hg0 hstop
          cases hdot : dotAt s g0 with
          | false =>
            rw [hdot, if_neg (by simp)] at hN
            have HN := Lib.hid hN
            clear hN
            by_cases hl : g0 < s.size
            · have hb : (((s[g0]).toNat : Int) != 46) = true := by have := dot_no hdot hl; simp; omega
              have he : ((g0 : Int) == (s.size : Int)) = false := by simp; omega
              go_wp2_with fail
              exact bodyPost_ret (v := .tuple #[.int .i64 (g0 : Nat), .int .i64 ((x * 256 : Nat) : Int), .bool true]) (by simp [results, Try.results65, go_sem]) rfl ⟨Below.refl _ _, by rw [HN.out]; show _ = Ending.returned (.tuple #[.int .i64 ((k + n : Nat) : Int), _, _]); rw [HKG.out]⟩
            · have he : ((g0 : Int) == (s.size : Int)) = true := by simp; omega
              go_wp2_with fail
              exact bodyPost_ret (v := .tuple #[.int .i64 (g0 : Nat), .int .i64 ((x * 256 : Nat) : Int), .bool true]) (by simp [results, Try.results65, go_sem]) rfl ⟨Below.refl _ _, by rw [HN.out]; show _ = Ending.returned (.tuple #[.int .i64 ((k + n : Nat) : Int), _, _]); rw [HKG.out]⟩
          | true =>
            rw [hdot, if_pos rfl] at hN
            obtain ⟨hl, hd46⟩ := dot_yes hdot
            have hb : (((s[g0]).toNat : Int) != 46) = false := by simp; omega
            have he : ((g0 : Int) == (s.size : Int)) = false := by simp; omega
            have hle2 := runP_le (p := digB) (s := s) (k := g0 + 1) (by omega)
            obtain ⟨g, hg⟩ : ∃ g, g = g0 + 1 := ⟨_, rfl⟩
            have hgi : (g0 : Int) + 1 = (g : Int) := by omega
            have HGI := Lib.hid hgi
            clear hgi
            rw [← hg] at hN hle2
            obtain ⟨m, hm⟩ : ∃ m, m = runP digB s g := ⟨_, rfl⟩
            rw [← hm] at hN hle2
            have HN := Lib.hid hN
            have HDOT := Lib.hid hdot
            have hgs : g ≤ s.size := by omega
            clear hN hdot hd46
            go_wp2_with fail
            go_loop [7, 10, 11] (fun i y u => ∃ q : Nat, g ≤ q ∧ q ≤ g + m ∧ q ≤ g + 6 ∧ i = .int .i64 q ∧ y = .int .i64 (lval (dg s g (q - g)) : Nat) ∧ u = .int .i64 (p10 (q - g) : Nat)) (fun i _ _ => s.size - (intOf i).toNat)
            case atStart => exact ⟨g, Nat.le_refl _, by omega, by omega, by rw [← HGI.out], by rw [Nat.sub_self, dg_zero]; rfl, by rw [Nat.sub_self]; rfl⟩
            case round =>
              obtain ⟨q, hq1, hq2, hq3, rfl, rfl, rfl⟩ := hrel
              have hy6 := lval6 (s := s) (k := g) (n := q - g) (by omega) (by omega) (by omega)
              obtain ⟨hp1, hp2⟩ := p6_bd (k := q - g) (by omega)
              have hps := p10_succ (q - g)
              obtain ⟨y, hy⟩ : ∃ y, y = lval (dg s g (q - g)) := ⟨_, rfl⟩
              obtain ⟨u, hu⟩ : ∃ u, u = p10 (q - g) := ⟨_, rfl⟩
              rw [← hy] at hy6 ⊢
              rw [← hu] at hp1 hp2 hps ⊢
              have HY := Lib.hid hy
              have HU := Lib.hid hu
              have HPS := Lib.hid hps
              clear hy hu hps
              go_upto_region 14 with fail
              go_cut [75] from 60 to 87 (fun y wx => w = wx ∧ ∃ c : Bool, y = .bool c ∧ (c = true → ∃ hl : q < s.size, digB s[q] = true ∧ q ≤ g + 5) ∧ (c = false → q = g + 6 ∨ q = g + m))
              case first =>
                by_cases hl : q < s.size
                · have hdc := fun W => sDig_any s[q] W
                  have hl' : (q : Int) < (s.size : Int) := by omega
                  cases hd : digB s[q] with
                  | true =>
                    rw [hd] at hdc
                    have HD := Lib.hid hdc
                    have HDD := Lib.hid hd
                    clear hdc hd
                    by_cases h5 : q ≤ g + 5
                    · have h5' : decide ((q : Int) - ((g0 : Int) + 1) ≤ 5) = true := decide_eq_true (by have := HGI.out; omega)
                      go_wp2_with (go_at_call 64; refine (HD.out _).mono ?_; rintro e w1 ⟨rfl, rfl⟩)
                      go_meet
                      exact ⟨rfl, true, rfl, fun _ => ⟨hl, HDD.out, h5⟩, fun e => by cases e⟩
                    · have h5' : decide ((q : Int) - ((g0 : Int) + 1) ≤ 5) = false := decide_eq_false (by have := HGI.out; omega)
                      go_wp2_with (go_at_call 64; refine (HD.out _).mono ?_; rintro e w1 ⟨rfl, rfl⟩)
                      go_meet
                      exact ⟨rfl, false, rfl, (fun e => by cases e), fun _ => .inl (by omega)⟩
                  | false =>
                    rw [hd] at hdc
                    have HD := Lib.hid hdc
                    have HDD := Lib.hid hd
                    clear hdc hd
                    go_wp2_with (go_at_call 64; refine (HD.out _).mono ?_; rintro e w1 ⟨rfl, rfl⟩)
                    go_meet
                    exact ⟨rfl, false, rfl, (fun e => by cases e), fun _ => .inr (by have := run_stop (p := digB) (s := s) (k := g) (q := q) (by omega) (by omega) (by omega) (fun _ => HDD.out); omega)⟩
                · have hl' : ¬ (q : Int) < (s.size : Int) := by omega
                  go_wp2_with fail
                  go_meet
                  exact ⟨rfl, false, rfl, (fun e => by cases e), fun _ => .inr (by have := run_stop (p := digB) (s := s) (k := g) (q := q) (by omega) (by omega) (by omega) (fun h => by omega); omega)⟩
              case rest =>
                obtain ⟨rfl, c, rfl, hc1, hc2⟩ := hcut
                cases c with
                | true =>
                  obtain ⟨hl2, hd, h5⟩ := hc1 rfl
                  have hst := lval_step (s := s) hq1 hl2
                  rw [← HY.out] at hst
                  have hgo := run_go (p := digB) (s := s) (k := g) (q := q) (by omega) hl2 hd
                  have hd2 := (digB_iff _).1 hd
                  have HST := Lib.hid hst
                  have HGO := Lib.hid hgo
                  have hl' : (q : Int) < (s.size : Int) := by omega
                  clear hc1 hc2 hst hgo hd
                  go_wp2_with fail
                  go_round
                  case rel => exact ⟨q + 1, by omega, by have := HGO.out; omega, by omega, by go_num, by rw [HST.out]; go_num, by rw [show q + 1 - g = q - g + 1 by omega, HPS.out]; go_num⟩
                  case measure => simp [intOf]; omega
                | false =>
                  have hstop2 := hc2 rfl
                  clear hc1 hc2
                  by_cases h0 : m = 0
                  · have hqg : ((q : Int) == (g0 : Int) + 1) = true := by have := HGI.out; simp; omega
                    have HN2 : Hid (numS s k = none) := Lib.hid (by rw [HN.out, if_neg (by omega)])
                    go_wp2_with fail
                    exact bodyPost_ret (v := .tuple #[.int .i64 (q : Nat), .int .i64 0, .bool false]) (by simp [results, Try.results65, go_sem]) rfl ⟨Below.refl _ _, by rw [HN2.out]; exact ⟨q, 0, rfl, by have := HKG.out; omega, by omega⟩⟩
                  · have hqg : ((q : Int) == (g0 : Int) + 1) = false := by have := HGI.out; simp; omega
                    by_cases hm4 : 4 < m
                    · have hgt2 : decide ((4 : Int) < (q : Int) - ((g0 : Int) + 1)) = true := decide_eq_true (by have := HGI.out; omega)
                      have HN2 : Hid (numS s k = none) := Lib.hid (by rw [HN.out, if_neg (by omega)])
                      go_wp2_with fail
                      exact bodyPost_ret (v := .tuple #[.int .i64 (q : Nat), .int .i64 0, .bool false]) (by simp [results, Try.results65, go_sem]) rfl ⟨Below.refl _ _, by rw [HN2.out]; exact ⟨q, 0, rfl, by have := HKG.out; omega, by omega⟩⟩
                    · have hqm : q = g + m := by omega
                      have hgt2 : decide ((4 : Int) < (q : Int) - ((g0 : Int) + 1)) = false := decide_eq_false (by have := HGI.out; omega)
                      rw [show q - g = m by omega] at HY HU
                      have HN2 : Hid (numS s k = some (n + 1 + m, x * 256 + y * 256 / u)) := Lib.hid (by rw [HN.out, if_pos ⟨by omega, by omega⟩, HY.out, HU.out]; rfl)
                      obtain ⟨v, hv⟩ : ∃ v, v = y * 256 / u := ⟨_, rfl⟩
                      have hv1 : (y : Int) * 256 / (u : Int) = (v : Int) := by rw [hv]; push_cast; rfl
                      have hv2 : ((y : Int) * 256).tdiv (u : Int) = (v : Int) := by rw [Int.tdiv_eq_ediv_of_nonneg (by omega)]; exact hv1
                      have hvb : v ≤ 256000000 := by rw [hv]; exact Nat.le_trans (Nat.div_le_self _ _) (by omega)
                      rw [← hv] at HN2
                      have hu0 : ¬ (u : Int) = 0 := by omega
                      have HE : Hid (q = k + (n + 1 + m)) := Lib.hid (by have := HKG.out; omega)
                      clear hv hqm hstop2
                      go_upto_region 20 with fail
                      go_quiet (fail)
                      go_wp2_with fail
                      exact bodyPost_ret (v := .tuple #[.int .i64 (q : Nat), .int .i64 ((x * 256 + v : Nat) : Int), .bool true]) (by simp [results, Try.results65, go_sem]) rfl ⟨below_drewN (Below.refl _ _) nq, by rw [HN2.out, HE.out]⟩
end

section
open Go.RowKit

def ScanOut (s : ByteArray) (k : Nat) (b : UInt8) (w : World) (e : Ending) (w' : World) : Prop := Below w.heap.size w w' ∧ match scanT s k b with
  | none => ∃ (t : Tk) (q : Nat), e = .returned (.tuple #[tkv t, .int .i64 q, .bool false])
  | some t => e = .returned (.tuple #[tkv t, .int .i64 (k + t.2.1.size : Nat), .bool true])
def syL : List Int := [43, 45, 42, 47, 40, 41, 44, 61, 59]
theorem sy_yes {b : UInt8} {i : Nat} (h : i < 9) (e : syL.getD i 0 = (b.toNat : Int)) : symB b = true := by
  rw [symB_iff]
  have : i = 0 ∨ i = 1 ∨ i = 2 ∨ i = 3 ∨ i = 4 ∨ i = 5 ∨ i = 6 ∨ i = 7 ∨ i = 8 := by omega
  rcases this with rfl | rfl | rfl | rfl | rfl | rfl | rfl | rfl | rfl <;> (simp [syL] at e; omega)
theorem sy_no {b : UInt8} (h : ∀ i, i < 9 → syL.getD i 0 ≠ (b.toNat : Int)) : symB b = false := by
  cases hs : symB b with
  | false => rfl
  | true =>
    exfalso
    have h0 := h 0 (by omega); have h1 := h 1 (by omega); have h2 := h 2 (by omega); have h3 := h 3 (by omega); have h4 := h 4 (by omega); have h5 := h 5 (by omega); have h6 := h 6 (by omega); have h7 := h 7 (by omega); have h8 := h 8 (by omega)
    rw [symB_iff] at hs
    simp [syL] at h0 h1 h2 h3 h4 h5 h6 h7 h8
    omega
theorem sy_cell {w : World} {g : Nat} (h : Mbox w g [.int .u8 43, .int .u8 45, .int .u8 42, .int .u8 47, .int .u8 40, .int .u8 41, .int .u8 44, .int .u8 61, .int .u8 59]) {i : Nat} (hi : i < 9) : w.cell? ⟨g, i, none⟩ = some (.int .u8 (syL.getD i 0)) := by
  have : i = 0 ∨ i = 1 ∨ i = 2 ∨ i = 3 ∨ i = 4 ∨ i = 5 ∨ i = 6 ∨ i = 7 ∨ i = 8 := by omega
  rcases this with rfl | rfl | rfl | rfl | rfl | rfl | rfl | rfl | rfl <;> exact h.c _
theorem sy_bd (i : Nat) : 0 ≤ syL.getD i 0 ∧ syL.getD i 0 < 256 := by
  by_cases h : i < 9
  · have : i = 0 ∨ i = 1 ∨ i = 2 ∨ i = 3 ∨ i = 4 ∨ i = 5 ∨ i = 6 ∨ i = 7 ∨ i = 8 := by omega
    rcases this with rfl | rfl | rfl | rfl | rfl | rfl | rfl | rfl | rfl <;> simp [syL]
  · have : syL[i]? = none := List.getElem?_eq_none (by simp [syL]; omega)
    simp [List.getD, this]

set_option maxRecDepth 100000 in
set_option maxHeartbeats 4000000 in
theorem sScanD_any (s : ByteArray) (k : Nat) (w : World) (hk : k < s.size) (hs : s.size ≤ 2000) (hd : digB s[k] = true) :
    Calls Try.prog 52 #[.string s, .int .i64 k] w (ScanOut s k s[k] w) := by
  have hdc := fun W => sDig_any s[k] W
  rw [hd] at hdc
  have HD := Lib.hid hdc
  have hnum := fun W => sNum_any s k W (by omega) hs
  have HN := Lib.hid hnum
  have HS : Hid (scanT s k s[k] = (numS s k).map fun x => (1, s.extract k (k + x.1), (x.2 : Int), (k : Int))) := Lib.hid (by unfold scanT; rw [if_pos hd])
  have HDD := Lib.hid hd
  have HT : Held w (w.alloc (.cells #[.int .i64 0, .string ⟨#[]⟩, .int .i64 0, .int .i64 0] 79)) [(w.heap.size, [.int .i64 0, .string ⟨#[]⟩, .int .i64 0, .int .i64 0])] := by
    have h := (Held.nil w).new #[.int .i64 0, .string ⟨#[]⟩, .int .i64 0, .int .i64 0] 79
    simpa only [World.size_alloc] using h
  clear hdc hnum hd
  go_enter Try.func52, Try.ntmps52
  go_wp2_with fail
  refine (HD.out _).mono ?_
  rintro e w1 ⟨rfl, rfl⟩
  go_wp2_with fail
  refine (HN.out _).mono ?_
  rintro e w2 ⟨hb2, he⟩
  have HT := HT.later hb2
  clear hb2
  cases hn : numS s k with
  | none =>
    rw [hn] at he HS
    obtain ⟨q, v, rfl, hq1, hq2⟩ := he
    have r0 := (HT.box 0).c 0
    have r1 := (HT.box 0).c 1
    have r2 := (HT.box 0).c 2
    have r3 := (HT.box 0).c 3
    have g0 := (HT.box 0).f 0
    have g1 := (HT.box 0).f 1
    have g2 := (HT.box 0).f 2
    have g3 := (HT.box 0).f 3
    go_wp2_with fail
    exact bodyPost_ret (v := .tuple #[tkv (1, s.extract k q, v, (k : Int)), .int .i64 (q : Nat), .bool false]) (by simp [results, Try.results52, go_sem, r0, r1, r2, r3]) rfl ⟨(((((HT.below).setCell (p := ⟨w.heap.size, 0, none⟩) (Nat.le_refl _) _).setCell (p := ⟨w.heap.size, 1, none⟩) (Nat.le_refl _) _).setCell (p := ⟨w.heap.size, 2, none⟩) (Nat.le_refl _) _).setCell (p := ⟨w.heap.size, 3, none⟩) (Nat.le_refl _) _), by rw [HS.out]; exact ⟨_, q, rfl⟩⟩
  | some x =>
    obtain ⟨m, v⟩ := x
    rw [hn] at he HS
    obtain rfl := he
    obtain ⟨hm1, hm2⟩ := num_bd hk HDD.out hn
    have hsz : (s.extract k (k + m)).size = m := by rw [ext_size s hm2]; omega
    obtain ⟨q, hq⟩ : ∃ q, q = k + m := ⟨_, rfl⟩
    rw [← hq] at hsz hm2 ⊢
    have HQ := Lib.hid hq
    have HSZ := Lib.hid hsz
    have hkq : k ≤ q := by omega
    clear hq hsz hn hm1
    have r0 := (HT.box 0).c 0
    have r1 := (HT.box 0).c 1
    have r2 := (HT.box 0).c 2
    have r3 := (HT.box 0).c 3
    have g0 := (HT.box 0).f 0
    have g1 := (HT.box 0).f 1
    have g2 := (HT.box 0).f 2
    have g3 := (HT.box 0).f 3
    go_wp2_with fail
    exact bodyPost_ret (v := .tuple #[tkv (1, s.extract k q, (v : Int), (k : Int)), .int .i64 (q : Nat), .bool true]) (by simp [results, Try.results52, go_sem, r0, r1, r2, r3]) rfl ⟨(((((HT.below).setCell (p := ⟨w.heap.size, 0, none⟩) (Nat.le_refl _) _).setCell (p := ⟨w.heap.size, 1, none⟩) (Nat.le_refl _) _).setCell (p := ⟨w.heap.size, 2, none⟩) (Nat.le_refl _) _).setCell (p := ⟨w.heap.size, 3, none⟩) (Nat.le_refl _) _), by rw [HS.out]; show _ = Ending.returned (.tuple #[tkv (1, s.extract k (k + m), (v : Int), (k : Int)), .int .i64 (k + (s.extract k (k + m)).size : Nat), .bool true]); rw [← HQ.out, HSZ.out, ← HQ.out]⟩

set_option maxRecDepth 100000 in
set_option maxHeartbeats 4000000 in
theorem sScanL_any (s : ByteArray) (k : Nat) (w : World) (hk : k < s.size) (hs : s.size ≤ 2000) (hd : digB s[k] = false) (hl : letB s[k] = true) :
    Calls Try.prog 52 #[.string s, .int .i64 k] w (ScanOut s k s[k] w) := by
  have hdc := fun W => sDig_any s[k] W
  rw [hd] at hdc
  have HD := Lib.hid hdc
  have hlc := fun W => sLet_any s[k] W
  rw [hl] at hlc
  have HL := Lib.hid hlc
  have hle := runP_le (p := namB) (s := s) (k := k) (by omega)
  have HS : Hid (scanT s k s[k] = if runP namB s k ≤ 8 then some (2, s.extract k (k + runP namB s k), 0, (k : Int)) else none) := Lib.hid (by unfold scanT; rw [if_neg (by rw [hd]; simp), if_pos hl])
  obtain ⟨n, hn⟩ : ∃ n, n = runP namB s k := ⟨_, rfl⟩
  rw [← hn] at HS hle
  have HNN := Lib.hid hn
  have HT : Held w (w.alloc (.cells #[.int .i64 0, .string ⟨#[]⟩, .int .i64 0, .int .i64 0] 79)) [(w.heap.size, [.int .i64 0, .string ⟨#[]⟩, .int .i64 0, .int .i64 0])] := by
    have h := (Held.nil w).new #[.int .i64 0, .string ⟨#[]⟩, .int .i64 0, .int .i64 0] 79
    simpa only [World.size_alloc] using h
  clear hdc hlc hd hl hn
  go_enter Try.func52, Try.ntmps52
  go_wp2_with fail
  refine (HD.out _).mono ?_
  rintro e w1 ⟨rfl, rfl⟩
  go_wp2_with fail
  refine (HL.out _).mono ?_
  rintro e w1 ⟨rfl, rfl⟩
  obtain ⟨W, hW⟩ : ∃ W, W = w.alloc (.cells #[.int .i64 0, .string ⟨#[]⟩, .int .i64 0, .int .i64 0] 79) := ⟨_, rfl⟩
  rw [← hW] at HT ⊢
  clear hW
  go_wp2_with fail
  go_loop [11] (fun i => ∃ q : Nat, k ≤ q ∧ q ≤ k + n ∧ i = .int .i64 q) (fun i => s.size - (intOf i).toNat)
  case atStart => exact ⟨k, Nat.le_refl _, by omega, rfl⟩
  case round =>
    obtain ⟨q, hq1, hq2, rfl⟩ := hrel
    go_upto_region 7 with fail
    go_cut [53] from 38 to 55 (fun y wx => W = wx ∧ ∃ c : Bool, y = .bool c ∧ (c = true → ∃ hl : q < s.size, namB s[q] = true) ∧ (c = false → q = k + n))
    case first =>
      by_cases hl : q < s.size
      · have hdc := fun W => sDig_any s[q] W
        have hlc := fun W => sLet_any s[q] W
        have hl' : (q : Int) < (s.size : Int) := by omega
        cases hl0 : letB s[q] with
        | true =>
          rw [hl0] at hlc
          have HL := Lib.hid hlc
          have HLL := Lib.hid hl0
          clear hlc hl0 hdc
          go_wp2_with (go_at_call 66; refine (HL.out _).mono ?_; rintro e w1 ⟨rfl, rfl⟩)
          go_meet
          exact ⟨rfl, true, rfl, fun _ => ⟨hl, by unfold namB; rw [HLL.out]; rfl⟩, fun e => by cases e⟩
        | false =>
          rw [hl0] at hlc
          have HL := Lib.hid hlc
          have HLL := Lib.hid hl0
          clear hlc hl0
          cases hd0 : digB s[q] with
          | true =>
            rw [hd0] at hdc
            have HD := Lib.hid hdc
            have HDD := Lib.hid hd0
            clear hdc hd0
            go_wp2_with (first | (go_at_call 66; refine (HL.out _).mono ?_; rintro e w1 ⟨rfl, rfl⟩) | (go_at_call 64; refine (HD.out _).mono ?_; rintro e w1 ⟨rfl, rfl⟩))
            go_meet
            exact ⟨rfl, true, rfl, fun _ => ⟨hl, by unfold namB; rw [HDD.out]; simp⟩, fun e => by cases e⟩
          | false =>
            rw [hd0] at hdc
            have HD := Lib.hid hdc
            have HDD := Lib.hid hd0
            clear hdc hd0
            go_wp2_with (first | (go_at_call 66; refine (HL.out _).mono ?_; rintro e w1 ⟨rfl, rfl⟩) | (go_at_call 64; refine (HD.out _).mono ?_; rintro e w1 ⟨rfl, rfl⟩))
            go_meet
            exact ⟨rfl, false, rfl, (fun e => by cases e), fun _ => by have h0 : namB s[q] = false := by (unfold namB; rw [HLL.out, HDD.out]; rfl)
                                                                       have := run_stop (p := namB) (s := s) (k := k) (q := q) hq1 (by rw [← HNN.out]; exact hq2) (by omega) (fun _ => h0); rw [← HNN.out] at this; exact this⟩
      · have hl' : ¬ (q : Int) < (s.size : Int) := by omega
        go_wp2_with fail
        go_meet
        exact ⟨rfl, false, rfl, (fun e => by cases e), fun _ => by have := run_stop (p := namB) (s := s) (k := k) (q := q) hq1 (by rw [← HNN.out]; exact hq2) (by omega) (fun h => by omega); rw [← HNN.out] at this; exact this⟩
    case rest =>
      obtain ⟨rfl, c, rfl, hc1, hc2⟩ := hcut
      cases c with
      | true =>
        obtain ⟨hl, hd⟩ := hc1 rfl
        have HGO := Lib.hid (run_go (p := namB) (s := s) (k := k) (q := q) (by rw [← HNN.out]; exact hq2) hl hd)
        clear hc1 hc2 hd
        go_wp2_with fail
        go_round
        case rel => exact ⟨q + 1, by omega, by have := HGO.out; rw [← HNN.out] at this; exact this, by go_num⟩
        case measure => simp [intOf]; omega
      | false =>
        have hqn := hc2 rfl
        have HQ := Lib.hid hqn
        clear hc1 hc2
        by_cases h8 : n ≤ 8
        · have hb8 : decide ((q : Int) - (k : Int) ≤ 8) = true := decide_eq_true (by omega)
          have hqs : q ≤ s.size := by omega
          have hsz : (s.extract k q).size = n := by rw [ext_size s hqs]; omega
          have HSZ := Lib.hid hsz
          rw [if_pos h8] at HS
          clear hqn hsz
          have r0 := (HT.box 0).c 0
          have r1 := (HT.box 0).c 1
          have r2 := (HT.box 0).c 2
          have r3 := (HT.box 0).c 3
          have g0 := (HT.box 0).f 0
          have g1 := (HT.box 0).f 1
          have g2 := (HT.box 0).f 2
          have g3 := (HT.box 0).f 3
          go_wp2_with fail
          exact bodyPost_ret (v := .tuple #[tkv (2, s.extract k q, 0, (k : Int)), .int .i64 (q : Nat), .bool true]) (by simp [results, Try.results52, go_sem, r0, r1, r2, r3]) rfl ⟨(((((HT.below).setCell (p := ⟨w.heap.size, 0, none⟩) (Nat.le_refl _) _).setCell (p := ⟨w.heap.size, 1, none⟩) (Nat.le_refl _) _).setCell (p := ⟨w.heap.size, 2, none⟩) (Nat.le_refl _) _).setCell (p := ⟨w.heap.size, 3, none⟩) (Nat.le_refl _) _), by rw [HS.out]; show _ = Ending.returned (.tuple #[tkv (2, s.extract k (k + n), 0, (k : Int)), .int .i64 (k + (s.extract k (k + n)).size : Nat), .bool true]); rw [← HQ.out, HSZ.out, ← HQ.out]⟩
        · have hb8 : decide ((q : Int) - (k : Int) ≤ 8) = false := decide_eq_false (by omega)
          have hqs : q ≤ s.size := by omega
          rw [if_neg h8] at HS
          clear hqn
          have r0 := (HT.box 0).c 0
          have r1 := (HT.box 0).c 1
          have r2 := (HT.box 0).c 2
          have r3 := (HT.box 0).c 3
          have g0 := (HT.box 0).f 0
          have g1 := (HT.box 0).f 1
          have g2 := (HT.box 0).f 2
          have g3 := (HT.box 0).f 3
          go_wp2_with fail
          exact bodyPost_ret (v := .tuple #[tkv (2, s.extract k q, 0, (k : Int)), .int .i64 (q : Nat), .bool false]) (by simp [results, Try.results52, go_sem, r0, r1, r2, r3]) rfl ⟨(((((HT.below).setCell (p := ⟨w.heap.size, 0, none⟩) (Nat.le_refl _) _).setCell (p := ⟨w.heap.size, 1, none⟩) (Nat.le_refl _) _).setCell (p := ⟨w.heap.size, 2, none⟩) (Nat.le_refl _) _).setCell (p := ⟨w.heap.size, 3, none⟩) (Nat.le_refl _) _), by rw [HS.out]; exact ⟨(2, s.extract k q, 0, (k : Int)), q, rfl⟩⟩

set_option maxRecDepth 100000 in
set_option maxHeartbeats 4000000 in
theorem sScanS_any (s : ByteArray) (k : Nat) (w : World) (hk : k < s.size) (hs : s.size ≤ 2000) (hd : digB s[k] = false) (hl : letB s[k] = false) :
    Calls Try.prog 52 #[.string s, .int .i64 k] w (ScanOut s k s[k] w) := by
  have hdc := fun W => sDig_any s[k] W
  rw [hd] at hdc
  have HD := Lib.hid hdc
  have hlc := fun W => sLet_any s[k] W
  rw [hl] at hlc
  have HL := Lib.hid hlc
  have HS : Hid (scanT s k s[k] = if symB s[k] = true then some (3, s.extract k (k + 1), 0, (k : Int)) else none) := Lib.hid (by unfold scanT; rw [if_neg (by rw [hd]; simp), if_neg (by rw [hl]; simp)])
  have HT : Held w (w.alloc (.cells #[.int .i64 0, .string ⟨#[]⟩, .int .i64 0, .int .i64 0] 79)) [(w.heap.size, [.int .i64 0, .string ⟨#[]⟩, .int .i64 0, .int .i64 0])] := by
    have h := (Held.nil w).new #[.int .i64 0, .string ⟨#[]⟩, .int .i64 0, .int .i64 0] 79
    simpa only [World.size_alloc] using h
  clear hdc hlc hd hl
  go_enter Try.func52, Try.ntmps52
  go_wp2_with fail
  refine (HD.out _).mono ?_
  rintro e w1 ⟨rfl, rfl⟩
  go_wp2_with fail
  refine (HL.out _).mono ?_
  rintro e w1 ⟨rfl, rfl⟩
  obtain ⟨W, hW⟩ : ∃ W, W = w.alloc (.cells #[.int .i64 0, .string ⟨#[]⟩, .int .i64 0, .int .i64 0] 79) := ⟨_, rfl⟩
  rw [← hW] at HT ⊢
  clear hW
  have hcv : (convert 22 22 (.slice (some ⟨W.heap.size, 0, none⟩) 9 9)).run Try.prog (W.alloc (.cells #[.int .u8 43, .int .u8 45, .int .u8 42, .int .u8 47, .int .u8 40, .int .u8 41, .int .u8 44, .int .u8 61, .int .u8 59] 5)) = .ok (.slice (some ⟨W.heap.size, 0, none⟩) 9 9) (W.alloc (.cells #[.int .u8 43, .int .u8 45, .int .u8 42, .int .u8 47, .int .u8 40, .int .u8 41, .int .u8 44, .int .u8 61, .int .u8 59] 5 (9, 10))) :=
    Lib.run_convert_bytes_const W 22 5 #[.int .u8 43, .int .u8 45, .int .u8 42, .int .u8 47, .int .u8 40, .int .u8 41, .int .u8 44, .int .u8 61, .int .u8 59] 9 9 Try.underlying22 Try.underlying5
  go_upto_region 11 with fail
  clear hcv
  have HT := HT.alloc (.cells #[.int .u8 43, .int .u8 45, .int .u8 42, .int .u8 47, .int .u8 40, .int .u8 41, .int .u8 44, .int .u8 61, .int .u8 59] 5 (9, 10))
  have hsy : ∀ i, i < 9 → (W.alloc (.cells #[.int .u8 43, .int .u8 45, .int .u8 42, .int .u8 47, .int .u8 40, .int .u8 41, .int .u8 44, .int .u8 61, .int .u8 59] 5 (9, 10))).cell? ⟨W.heap.size, i, none⟩ = some (.int .u8 (syL.getD i 0)) := fun i hi => by
    rw [World.cell?_alloc_mark]
    have : i = 0 ∨ i = 1 ∨ i = 2 ∨ i = 3 ∨ i = 4 ∨ i = 5 ∨ i = 6 ∨ i = 7 ∨ i = 8 := by omega
    rcases this with rfl | rfl | rfl | rfl | rfl | rfl | rfl | rfl | rfl <;> rfl
  have hnx : (W.alloc (.cells #[.int .u8 43, .int .u8 45, .int .u8 42, .int .u8 47, .int .u8 40, .int .u8 41, .int .u8 44, .int .u8 61, .int .u8 59] 5 (9, 10))).heap.size = W.heap.size + 1 := by simp
  obtain ⟨g, hg⟩ : ∃ g, g = W.heap.size := ⟨_, rfl⟩
  obtain ⟨W2, hW2⟩ : ∃ W2, W2 = W.alloc (.cells #[.int .u8 43, .int .u8 45, .int .u8 42, .int .u8 47, .int .u8 40, .int .u8 41, .int .u8 44, .int .u8 61, .int .u8 59] 5 (9, 10)) := ⟨_, rfl⟩
  rw [← hg] at hsy hnx ⊢
  rw [← hW2] at HT hsy hnx ⊢
  have HSY := Lib.hid hsy
  clear hW2 hg hsy hnx
  go_loop [70] (fun i => ∃ q : Nat, q ≤ 9 ∧ i = .int .i64 q ∧ ∀ j, j < q → syL.getD j 0 ≠ ((s[k]).toNat : Int)) (fun i => 9 - (intOf i).toNat)
  case atStart => exact ⟨0, Nat.zero_le _, rfl, fun j h => by omega⟩
  case round =>
    obtain ⟨q, hq, rfl, hno⟩ := hrel
    have HNO := Lib.hid hno
    clear hno
    by_cases h9 : q < 9
    · have hc := HSY.out q h9
      obtain ⟨y, hy⟩ : ∃ y, y = syL.getD q 0 := ⟨_, rfl⟩
      rw [← hy] at hc
      have HY := Lib.hid hy
      have h9' : (q : Int) < 9 := by omega
      clear hy
      by_cases he : y = ((s[k]).toNat : Int)
      · have hb : (y == ((s[k]).toNat : Int)) = true := by simp [he]
        have hsym : symB s[k] = true := sy_yes h9 (by rw [← HY.out]; exact he)
        rw [if_pos hsym] at HS
        have hsz : (s.extract k (k + 1)).size = 1 := by rw [ext_size s (by omega)]; omega
        have HSZ := Lib.hid hsz
        clear he hsym hsz
        have r0 := (HT.box 0).c 0
        have r1 := (HT.box 0).c 1
        have r2 := (HT.box 0).c 2
        have r3 := (HT.box 0).c 3
        have g0 := (HT.box 0).f 0
        have g1 := (HT.box 0).f 1
        have g2 := (HT.box 0).f 2
        have g3 := (HT.box 0).f 3
        go_wp2_with fail
        exact bodyPost_ret (v := .tuple #[tkv (3, s.extract k (k + 1), 0, (k : Int)), .int .i64 ((k + 1 : Nat) : Int), .bool true]) (by simp [results, Try.results52, go_sem, r0, r1, r2, r3]) rfl ⟨(((((HT.below).setCell (p := ⟨w.heap.size, 0, none⟩) (Nat.le_refl _) _).setCell (p := ⟨w.heap.size, 1, none⟩) (Nat.le_refl _) _).setCell (p := ⟨w.heap.size, 2, none⟩) (Nat.le_refl _) _).setCell (p := ⟨w.heap.size, 3, none⟩) (Nat.le_refl _) _), by rw [HS.out]; show _ = Ending.returned (.tuple #[tkv (3, s.extract k (k + 1), 0, (k : Int)), .int .i64 (k + (s.extract k (k + 1)).size : Nat), .bool true]); rw [HSZ.out]⟩
      · have hb : (y == ((s[k]).toNat : Int)) = false := by simp [he]
        have HE := Lib.hid he
        clear he
        go_wp2_with fail
        go_round
        case rel => exact ⟨q + 1, by omega, by go_num, fun j hj => by
          rcases Nat.lt_or_ge j q with h | h
          · exact HNO.out j h
          · obtain rfl : j = q := by omega
            rw [← HY.out]; exact HE.out⟩
        case measure => simp [intOf]; omega
    · have h9' : ¬ (q : Int) < 9 := by omega
      have hsym : symB s[k] = false := sy_no (fun j hj => HNO.out j (by omega))
      rw [if_neg (by rw [hsym]; simp)] at HS
      clear hsym
      have r0 := (HT.box 0).c 0
      have r1 := (HT.box 0).c 1
      have r2 := (HT.box 0).c 2
      have r3 := (HT.box 0).c 3
      have g0 := (HT.box 0).f 0
      have g1 := (HT.box 0).f 1
      have g2 := (HT.box 0).f 2
      have g3 := (HT.box 0).f 3
      go_wp2_with fail
      exact bodyPost_ret (v := .tuple #[tkv (0, ⟨#[]⟩, 0, 0), .int .i64 (k : Nat), .bool false]) (by simp [results, Try.results52, go_sem, r0, r1, r2, r3]) rfl ⟨(((((HT.below).setCell (p := ⟨w.heap.size, 0, none⟩) (Nat.le_refl _) _).setCell (p := ⟨w.heap.size, 1, none⟩) (Nat.le_refl _) _).setCell (p := ⟨w.heap.size, 2, none⟩) (Nat.le_refl _) _).setCell (p := ⟨w.heap.size, 3, none⟩) (Nat.le_refl _) _), by rw [HS.out]; exact ⟨(0, ⟨#[]⟩, 0, 0), k, rfl⟩⟩
theorem sScan_any (s : ByteArray) (k : Nat) (w : World) (hk : k < s.size) (hs : s.size ≤ 2000) :
    Calls Try.prog 52 #[.string s, .int .i64 k] w (ScanOut s k s[k] w) := by
  cases hd : digB s[k] with
  | true => exact sScanD_any s k w hk hs hd
  | false =>
    cases hl : letB s[k] with
    | true => exact sScanL_any s k w hk hs hd hl
    | false => exact sScanS_any s k w hk hs hd hl
end

section
open Go.RowKit

def TokRes (R : List Tk × Int) (w : World) (e : Ending) (w' : World) : Prop :=
  ∃ (A : Option Addr) (c : Nat), e = .returned (.tuple #[.slice A R.1.length c, .int .i64 R.2]) ∧ w'.ownsRow w.heap.size 79 4 (.slice A R.1.length c) R.1.length (R.1.flatMap tkg) ∧ Below w.heap.size w w'
theorem tokRes_nil {n : Int} {w w' : World} (hb : Below w.heap.size w w') : TokRes ([], n) w (.returned (.tuple #[.slice none 0 0, .int .i64 n])) w' :=
  ⟨none, 0, rfl, World.ownsRow_nil _ _ _ _, hb⟩
theorem snoc_flat (xs : List Tk) (v : Tk) : (xs ++ [v]).flatMap tkg = xs.flatMap tkg ++ tkg v := by simp

set_option maxRecDepth 100000 in
set_option maxHeartbeats 4000000 in
theorem sTok_any (s : ByteArray) (w : World) :
    Calls Try.prog 37 #[.string s] w (TokRes (tokP s) w) := by
  by_cases hbig : 2000 < s.size
  · have hb : (2000 : Int) < (s.size : Int) := by omega
    have HR : Hid (tokP s = ([], 0)) := Lib.hid (by unfold tokP; rw [if_pos hbig])
    go_enter Try.func37, Try.ntmps37
    go_wp2_with fail
    exact bodyPost_ret (v := .tuple #[.slice none 0 0, .int .i64 0]) (by simp [results, Try.results37, go_sem]) rfl (by rw [HR.out]; exact tokRes_nil (Below.refl _ _))
  · have hb : ¬ (2000 : Int) < (s.size : Int) := by omega
    obtain ⟨R, hR⟩ : ∃ R, R = tokP s := ⟨_, rfl⟩
    have hR0 : tokT s 0 [] = R := by rw [hR]; unfold tokP; rw [if_neg hbig]
    rw [← hR]
    have HR0 := Lib.hid hR0
    clear hR hR0
    go_enter Try.func37, Try.ntmps37
    go_wp2
    have h0own : World.ownsRow (w.alloc (.cells #[] 79)) w.heap.size 79 4 (.slice (some ⟨w.heap.size, 0, none⟩) 0 0) 0 [] := World.ownsRow_lit w #[] 0 (Nat.le_refl _) (Nat.zero_le _) (by simp)
    go_loopw [4, 5] (fun v i wr => ∃ (k : Nat) (acc : List Tk), k ≤ s.size ∧ acc.length ≤ k ∧ i = .int .i64 k ∧ wr.ownsRow w.heap.size 79 4 v acc.length (acc.flatMap tkg) ∧ Below w.heap.size w wr ∧ tokT s k acc = R) (fun _ i _ => s.size - (intOf i).toNat)
    case atStart => exact ⟨0, [], Nat.zero_le _, Nat.le_refl _, rfl, h0own, (Below.refl _ _).alloc (Nat.le_refl _) _, HR0.out⟩
    case round =>
      obtain ⟨k, acc, hk, hacc, rfl, hown, hbel, hT⟩ := hrel
      have HO := Lib.hid hown
      have HB := Lib.hid hbel
      have HT := Lib.hid hT
      clear hown hbel hT h0own
      by_cases hlt : k < s.size
      · have hlt' : (k : Int) < (s.size : Int) := by omega
        cases hbl : blkB s[k] with
        | true =>
          have hst := Lib.hid (HT.out.symm.trans (tok_blank hlt hbl)).symm
          go_upto_region 6 with fail
          go_cut [26] from 13 to 43 (fun y wx => wr = wx ∧ y = .bool true)
          case first =>
            have hor := (blkB_iff _).1 hbl
            by_cases h32 : (s[k]).toNat = 32
            · have b0 : (((s[k]).toNat : Int) == 32) = true := by simp [h32]; 
              go_wp2_with fail
              go_meet
              exact ⟨rfl, rfl⟩
            · have b0 : (((s[k]).toNat : Int) == 32) = false := by simp; omega
              have b1 : (((s[k]).toNat : Int) == 10) = true := by simp; omega
              go_wp2_with fail
              go_meet
              exact ⟨rfl, rfl⟩
          case rest =>
            obtain ⟨rfl, rfl⟩ := hcut
            go_wp2_with fail
            go_roundw
            case rel => exact ⟨k + 1, acc, by omega, by omega, by go_num, HO.out, HB.out, hst.out⟩
            case measure => simp [intOf]; omega
        | false =>
          have hscan := fun W => sScan_any s k W hlt (by omega)
          have HSC := Lib.hid hscan
          go_upto_region 6 with fail
          go_cut [26] from 13 to 43 (fun y wx => wr = wx ∧ y = .bool false)
          case first =>
            have hor : ¬ ((s[k]).toNat = 32 ∨ (s[k]).toNat = 10) := fun h => by rw [(blkB_iff _).2 h] at hbl; cases hbl
            have b0 : (((s[k]).toNat : Int) == 32) = false := by simp; omega
            have b1 : (((s[k]).toNat : Int) == 10) = false := by simp; omega
            clear hscan
            go_wp2_with fail
            go_meet
            exact ⟨rfl, rfl⟩
          case rest =>
            obtain ⟨rfl, rfl⟩ := hcut
            clear hscan
            go_wp2_with fail
            refine (HSC.out _).mono ?_
            rintro e w2 ⟨hb2, he⟩
            have HO2 := Lib.hid (own_keep' HO.out hb2)
            have HB2 := Lib.hid (HB.out.trans (hb2.mono HB.out.size))
            clear hb2
            cases hsc : scanT s k s[k] with
            | none =>
              rw [hsc] at he
              obtain ⟨t, q, rfl⟩ := he
              have hst : R = ([], (k : Int)) := HT.out.symm.trans (tok_none hlt hbl hsc)
              have HST := Lib.hid hst
              clear hst hsc hbl
              go_wp2_with fail
              exact bodyPost_ret (v := .tuple #[.slice none 0 0, .int .i64 k]) (by simp [results, Try.results37, go_sem]) rfl (by rw [HST.out]; exact tokRes_nil (HB2.out.alloc HB2.out.size _))
            | some t =>
              rw [hsc] at he
              have hst := Lib.hid (HT.out.symm.trans (tok_some hlt hbl hsc)).symm
              obtain ⟨hz1, hz2, -⟩ := scan_size hlt hsc
              obtain ⟨q, hq⟩ : ∃ q, q = k + t.2.1.size := ⟨_, rfl⟩
              have hst' : Hid (tokT s q (acc ++ [t]) = R) := Lib.hid (by rw [hq]; exact hst.out)
              have hqs : q ≤ s.size := by rw [hq]; exact hz2
              have hkq : k + 1 ≤ q := by rw [hq]; exact Nat.add_le_add_left hz1 k
              have he' : e = .returned (.tuple #[tkv t, .int .i64 (q : Nat), .bool true]) := by rw [hq]; exact he
              subst he'
              have HQS := Lib.hid hqs
              have HKQ := Lib.hid hkq
              clear he hst hsc hbl hz1 hz2 hq HO HB HT hqs hkq
              go_upto_region 9 with fail
              obtain ⟨W1, hW1⟩ : ∃ W, W = w2.alloc (.cells #[.int .i64 t.1, .string t.2.1, .int .i64 t.2.2.1, .int .i64 t.2.2.2] 79) := ⟨_, rfl⟩
              have M := Mbox.new w2 #[.int .i64 t.1, .string t.2.1, .int .i64 t.2.2.1, .int .i64 t.2.2.2] 79
              have HO1 := Lib.hid (HO2.out.alloc (.cells #[.int .i64 t.1, .string t.2.1, .int .i64 t.2.2.1, .int .i64 t.2.2.2] 79))
              have HB1 := Lib.hid (HB2.out.alloc HB2.out.size (.cells #[.int .i64 t.1, .string t.2.1, .int .i64 t.2.2.1, .int .i64 t.2.2.2] 79))
              rw [← hW1] at M HO1 HB1 ⊢
              have m0 := M.c 0
              have m1 := M.c 1
              have m2 := M.c 2
              have m3 := M.c 3
              clear hW1 M
              have hs1 : w.heap.size ≤ W1.heap.size := HB1.out.size
              go_wp2_with (at_builtin; refine wpList_app4 W1 rfl _ _ 72 rfl w.heap.size 79 (tok 0 ⟨#[]⟩ 0 0) 40 Try.underlying72 infoTok rfl _ _ _ (by rfl) HO1.out _ _ _ _ (by rfl) ⟨rfl, rfl, rfl, rfl⟩ (by unfold maxLen; omega) (by omega) hs1 ?_)
              intro v' w4 ho4 hg4
              have HO4 := Lib.hid ho4
              have HB4 := Lib.hid (HB1.out.grown hg4 hs1 (own_block HO1.out))
              clear ho4 hg4
              go_wp2_with fail
              go_roundw
              case rel => exact ⟨q, acc ++ [t], HQS.out, by have := HKQ.out; simp; omega, by go_num, by rw [snoc_flat, List.length_append]; exact HO4.out, HB4.out, hst'.out⟩
              case measure => have := HKQ.out; have := HQS.out; simp [intOf]; omega
      · have hge : s.size ≤ k := by omega
        have hl' : ¬ (k : Int) < (s.size : Int) := by omega
        have hst := HT.out.symm.trans (tok_end hge)
        have HST := Lib.hid hst
        have hs1 : w.heap.size ≤ wr.heap.size := HB.out.size
        clear hst HT
        go_wp2_with (at_builtin; refine wpList_app4 wr rfl _ _ 72 rfl w.heap.size 79 (tok 0 ⟨#[]⟩ 0 0) 40 Try.underlying72 infoTok rfl _ _ _ (by rfl) HO.out _ _ _ _ (by rfl) ⟨rfl, rfl, rfl, rfl⟩ (by unfold maxLen; omega) (by omega) hs1 ?_)
        intro v' w4 ho4 hg4
        obtain ⟨A4, c4, rfl⟩ := own_shape ho4
        have HO4 := Lib.hid ho4
        have HB4 := Lib.hid (HB.out.grown hg4 hs1 (own_block HO.out))
        clear ho4 hg4
        go_wp2_with fail
        refine bodyPost_ret (v := .tuple #[.slice A4 (acc.length + 1) c4, .int .i64 (-1)]) (by simp [results, Try.results37, go_sem]) rfl ?_
        rw [HST.out]
        refine ⟨A4, c4, ?_, ?_, HB4.out⟩
        · rw [List.length_append]; rfl
        · rw [snoc_flat, List.length_append]; exact HO4.out
end
end Go.Proofs.Ytlcnjiephbhdaaa
