/- What the lexer answers, as values: runs of bytes, numbers, one token, all tokens (nothing of the program). -/
import Derived.WalkKit
import Derived.Lib.Walk
import Derived.Lib.Strings
import Derived.Lib.SlTrimSet
import Derived.Test.YtkbdnjhgcoihhaaGreatDoorRowC
import Derived.Test.YtkbdnjhgcoihhaaGreatDoorKS
import Derived.Test.YtkbdnjhgcoihhaaGreatDoorFn
namespace Go.Proofs.YtkbdnjhgcoihhaaGreatDoor
open Go.RowKit

def digB (b : UInt8) : Bool := decide (48 ≤ b.toNat) && decide (b.toNat ≤ 57)
def letB (b : UInt8) : Bool := decide (97 ≤ b.toNat) && decide (b.toNat ≤ 122)
def namB (b : UInt8) : Bool := letB b || digB b
def blkB (b : UInt8) : Bool := ([32, 10] : List UInt8).contains b
def symB (b : UInt8) : Bool := ([43, 45, 42, 47, 40, 41, 44, 61, 59] : List UInt8).contains b
theorem digB_iff (b : UInt8) : digB b = true ↔ 48 ≤ b.toNat ∧ b.toNat ≤ 57 := by simp [digB]
theorem letB_iff (b : UInt8) : letB b = true ↔ 97 ≤ b.toNat ∧ b.toNat ≤ 122 := by simp [letB]
theorem u8_eq (b c : UInt8) : b = c ↔ b.toNat = c.toNat := ⟨fun h => by rw [h], fun h => UInt8.toNat_inj.1 h⟩
theorem blkB_iff (b : UInt8) : blkB b = true ↔ b.toNat = 32 ∨ b.toNat = 10 := by
  simp [blkB, u8_eq]
theorem symB_iff (b : UInt8) : symB b = true ↔ b.toNat = 43 ∨ b.toNat = 45 ∨ b.toNat = 42 ∨ b.toNat = 47 ∨ b.toNat = 40 ∨ b.toNat = 41 ∨ b.toNat = 44 ∨ b.toNat = 61 ∨ b.toNat = 59 := by
  simp [symB, u8_eq]
/-- how many bytes from k on are p -/
def runP (p : UInt8 → Bool) (s : ByteArray) (k : Nat) : Nat := ((s.data.toList.drop k).takeWhile p).length
theorem drop_b (s : ByteArray) {k : Nat} (h : k < s.size) : s.data.toList.drop k = s[k] :: s.data.toList.drop (k + 1) := by
  have hl : k < s.data.toList.length := by rw [← Lib.size_eq]; exact h
  rw [List.drop_eq_getElem_cons hl]
  rfl
theorem runP_yes {p : UInt8 → Bool} {s : ByteArray} {k : Nat} (h : k < s.size) (hp : p s[k] = true) : runP p s k = runP p s (k + 1) + 1 := by
  unfold runP
  rw [drop_b s h, List.takeWhile_cons, hp]
  rfl
theorem runP_no {p : UInt8 → Bool} {s : ByteArray} {k : Nat} (h : k < s.size) (hp : p s[k] = false) : runP p s k = 0 := by
  unfold runP
  rw [drop_b s h, List.takeWhile_cons, hp]
  rfl
theorem runP_end {p : UInt8 → Bool} {s : ByteArray} {k : Nat} (h : s.size ≤ k) : runP p s k = 0 := by
  unfold runP
  rw [List.drop_eq_nil_of_le (by rw [← Lib.size_eq]; exact h)]
  rfl
theorem runP_le {p : UInt8 → Bool} {s : ByteArray} {k : Nat} (h : k ≤ s.size) : k + runP p s k ≤ s.size := by
  have h1 : runP p s k ≤ (s.data.toList.drop k).length := (List.takeWhile_sublist _).length_le
  rw [List.length_drop, ← Lib.size_eq] at h1
  omega
theorem runP_all {p : UInt8 → Bool} {s : ByteArray} : ∀ (n k : Nat), s.size - k = n → (∀ j (h : k + j < s.size), j < runP p s k → p s[k + j] = true) ∧ (∀ h : k + runP p s k < s.size, p s[k + runP p s k] = false)
  | 0, k, hn => by
    have := runP_end (p := p) (s := s) (k := k) (by omega)
    exact ⟨fun j h => by omega, fun h => by omega⟩
  | n + 1, k, hn => by
    have hk : k < s.size := by omega
    cases hp : p s[k] with
    | false =>
      have := runP_no hk hp
      exact ⟨fun j h hj => by rw [this] at hj; omega, fun h => by simp only [this, Nat.add_zero]; exact hp⟩
    | true =>
      have e := runP_yes hk hp
      have hn' : s.size - (k + 1) = n := by clear e; omega
      obtain ⟨h1, h2⟩ := runP_all (p := p) n (k + 1) hn'
      refine ⟨fun j h hj => ?_, fun h => ?_⟩
      · match j, h, hj with
        | 0, _, _ => exact hp
        | j + 1, h, hj =>
          have := h1 j (by omega) (by omega)
          simp only [show k + (j + 1) = k + 1 + j by omega]
          exact this
      · have := h2 (by omega)
        simp only [e, show k + (runP p s (k + 1) + 1) = k + 1 + runP p s (k + 1) by omega]
        exact this
theorem runP_in {p : UInt8 → Bool} {s : ByteArray} {k : Nat} (j : Nat) (h : k + j < s.size) (hj : j < runP p s k) : p s[k + j] = true := (runP_all _ k rfl).1 j h hj
theorem runP_out {p : UInt8 → Bool} {s : ByteArray} {k : Nat} (h : k + runP p s k < s.size) : p s[k + runP p s k] = false := (runP_all _ k rfl).2 h
theorem runP_eq {p : UInt8 → Bool} {s : ByteArray} {k n : Nat} (hk : k + n ≤ s.size) (h1 : ∀ j (h : k + j < s.size), j < n → p s[k + j] = true) (h2 : ∀ h : k + n < s.size, p s[k + n] = false) : runP p s k = n := by
  have hl := runP_le (p := p) (s := s) (k := k) (by omega)
  rcases Nat.lt_trichotomy (runP p s k) n with h | h | h
  · have a := h1 _ (by omega) h
    have b := runP_out (p := p) (s := s) (k := k) (by omega)
    rw [a] at b
    cases b
  · exact h
  · have a := runP_in (p := p) (s := s) (k := k) n (by omega) h
    rw [h2 (by omega)] at a
    cases a
theorem run_stop {p : UInt8 → Bool} {s : ByteArray} {k q : Nat} (hk : k ≤ q) (hq : q ≤ k + runP p s k) (hs : k ≤ s.size) (h : ∀ hl : q < s.size, p s[q] = false) : q = k + runP p s k := by
  have hle := runP_le (p := p) (s := s) hs
  rcases Nat.lt_or_ge q (k + runP p s k) with hlt | hge
  · have a := runP_in (p := p) (s := s) (k := k) (q - k) (by omega) (by omega)
    have b := h (by omega)
    simp only [show k + (q - k) = q by omega] at a
    rw [a] at b
    cases b
  · omega
theorem run_go {p : UInt8 → Bool} {s : ByteArray} {k q : Nat} (hq : q ≤ k + runP p s k) (hl : q < s.size) (h : p s[q] = true) : q + 1 ≤ k + runP p s k := by
  rcases Nat.lt_or_ge q (k + runP p s k) with hlt | hge
  · omega
  · have e : k + runP p s k = q := by omega
    have b := runP_out (p := p) (s := s) (k := k) (by omega)
    simp only [e] at b
    rw [h] at b
    cases b
/-- a part of a string, as a list -/
theorem ext_list (s : ByteArray) (a b : Nat) : (s.extract a b).data.toList = (s.data.toList.drop a).take (b - a) := by
  conv => lhs; rw [← Lib.mk_data s, Lib.extract_mk]
theorem ext_size (s : ByteArray) {a b : Nat} (h : b ≤ s.size) : (s.extract a b).size = b - a := by
  rw [Lib.size_eq, ext_list, List.length_take, List.length_drop, ← Lib.size_eq]
  omega
theorem run_ext (p : UInt8 → Bool) (s : ByteArray) (k : Nat) : runP p (s.extract k s.size) 0 = runP p s k := by
  unfold runP
  rw [ext_list, List.drop_zero, List.take_of_length_le (by rw [List.length_drop, ← Lib.size_eq]; exact Nat.le_refl _)]
theorem ext_eq {s t : ByteArray} (h : s.data.toList = t.data.toList) : s = t := by rw [← Lib.mk_data s, ← Lib.mk_data t, h]
theorem ext_ext (s : ByteArray) (k n : Nat) : (s.extract k s.size).extract 0 n = s.extract k (k + n) := by
  apply ext_eq
  rw [ext_list, ext_list, ext_list, List.drop_zero, List.take_of_length_le (l := s.data.toList.drop k) (by rw [List.length_drop, ← Lib.size_eq]; exact Nat.le_refl _)]
  congr 1
  omega
/-- the digits' value -/
def lval (l : List UInt8) : Nat := l.foldl (fun a b => a * 10 + (b.toNat - 48)) 0
theorem lval_snoc (l : List UInt8) (b : UInt8) : lval (l ++ [b]) = lval l * 10 + (b.toNat - 48) := by simp [lval, List.foldl_append]
theorem lval_from (l : List UInt8) : ∀ a : Nat, l.foldl (fun a b => a * 10 + (b.toNat - 48)) a = a * 10 ^ l.length + lval l := by
  induction l with
  | nil => intro a; simp [lval]
  | cons x l ih =>
    intro a
    have h0 := ih (0 * 10 + (x.toNat - 48))
    have h1 := ih (a * 10 + (x.toNat - 48))
    show l.foldl _ (a * 10 + (x.toNat - 48)) = _
    rw [h1]
    show _ = a * 10 ^ (l.length + 1) + l.foldl _ (0 * 10 + (x.toNat - 48))
    rw [h0, Nat.pow_succ]
    grind
theorem lval_app (l m : List UInt8) : lval (l ++ m) = lval l * 10 ^ m.length + lval m := by
  rw [← lval_from m (lval l)]
  simp [lval, List.foldl_append]
theorem lval_lt : ∀ (l : List UInt8), (∀ b ∈ l, digB b = true) → lval l < 10 ^ l.length := by
  intro l
  induction l with
  | nil => intro _; simp [lval]
  | cons x l ih =>
    intro h
    have h1 := ih (fun b hb => h b (List.mem_cons_of_mem _ hb))
    have hx := (digB_iff x).1 (h x List.mem_cons_self)
    have e : lval (x :: l) = (0 * 10 + (x.toNat - 48)) * 10 ^ l.length + lval l := by rw [← lval_from l]; rfl
    rw [e, List.length_cons, Nat.pow_succ]
    have : (0 * 10 + (x.toNat - 48)) * 10 ^ l.length ≤ 9 * 10 ^ l.length := Nat.mul_le_mul_right _ (by omega)
    omega
/-- n bytes from k on -/
def dg (s : ByteArray) (k n : Nat) : List UInt8 := (s.data.toList.drop k).take n
theorem dg_succ (s : ByteArray) {k n : Nat} (h : k + n < s.size) : dg s k (n + 1) = dg s k n ++ [s[k + n]] := by
  unfold dg
  have hl : n < (s.data.toList.drop k).length := by rw [List.length_drop, ← Lib.size_eq]; omega
  rw [List.take_succ_eq_append_getElem hl, List.getElem_drop]
  rfl
theorem dg_zero (s : ByteArray) (k : Nat) : dg s k 0 = [] := by simp [dg]
theorem dg_len (s : ByteArray) {k n : Nat} (h : k + n ≤ s.size) : (dg s k n).length = n := by
  unfold dg
  rw [List.length_take, List.length_drop, ← Lib.size_eq]
  omega
theorem dg_dig (s : ByteArray) {k n : Nat} (hn : n ≤ runP digB s k) : ∀ b ∈ dg s k n, digB b = true := by
  intro b hb
  obtain ⟨i, hi, rfl⟩ := List.getElem_of_mem hb
  have hlen : i < n ∧ k + i < s.size := by
    have : (dg s k n).length ≤ n ∧ (dg s k n).length ≤ s.size - k := by
      unfold dg
      rw [List.length_take, List.length_drop, ← Lib.size_eq]
      omega
    omega
  have : (dg s k n)[i] = s[k + i]'hlen.2 := by
    have e : (dg s k n)[i]? = some (s[k + i]'hlen.2) := by
      unfold dg
      rw [List.getElem?_take_of_lt hlen.1, List.getElem?_drop, List.getElem?_eq_getElem (by rw [← Lib.size_eq]; exact hlen.2)]
      rfl
    rw [List.getElem?_eq_getElem hi] at e
    exact Option.some.inj e
  rw [this]
  exact runP_in i hlen.2 (by omega)
theorem lval6 {s : ByteArray} {k n : Nat} (hn : n ≤ runP digB s k) (h6 : n ≤ 6) (hk : k + n ≤ s.size) : lval (dg s k n) < 1000000 := by
  have h := lval_lt (dg s k n) (dg_dig s hn)
  rw [dg_len s hk] at h
  have : 10 ^ n ≤ 10 ^ 6 := Nat.pow_le_pow_right (by omega) h6
  have e : (10 : Nat) ^ 6 = 1000000 := by rfl
  omega
theorem lval_step {s : ByteArray} {k q : Nat} (hk : k ≤ q) (hl : q < s.size) : lval (dg s k (q + 1 - k)) = lval (dg s k (q - k)) * 10 + (s[q].toNat - 48) := by
  have := dg_succ s (k := k) (n := q - k) (by omega)
  simp only [show k + (q - k) = q by omega] at this
  rw [show q + 1 - k = q - k + 1 by omega, this, lval_snoc]
theorem num_eq (a b m : Nat) : uniP (a * 10 ^ m + b) m = a * 256 + b * 256 / 10 ^ m := by
  unfold uniP
  have hp : 0 < 10 ^ m := Nat.pow_pos (by omega)
  have e : (a * 10 ^ m + b) * 256 = b * 256 + a * 256 * 10 ^ m := by grind
  rw [e, Nat.add_mul_div_right _ _ hp]
  omega
/-- a point at j -/
def dotAt (s : ByteArray) (j : Nat) : Bool := s.data.toList[j]? == some 46
theorem dot_yes {s : ByteArray} {j : Nat} (h : dotAt s j = true) : ∃ h : j < s.size, (s[j]).toNat = 46 := by
  unfold dotAt at h
  have h := eq_of_beq h
  obtain ⟨hl, e⟩ := List.getElem?_eq_some_iff.1 h
  refine ⟨by rw [Lib.size_eq]; exact hl, ?_⟩
  have e : s[j]'(by rw [Lib.size_eq]; exact hl) = 46 := e
  rw [e]; rfl
theorem dot_no {s : ByteArray} {j : Nat} (h : dotAt s j = false) (hj : j < s.size) : (s[j]).toNat ≠ 46 := by
  intro e
  unfold dotAt at h
  have hl : j < s.data.toList.length := by rw [← Lib.size_eq]; exact hj
  rw [List.getElem?_eq_getElem hl] at h
  have e2 : s[j] = 46 := (u8_eq _ _).2 e
  have e3 : s.data.toList[j] = s[j] := rfl
  rw [e3, e2] at h
  simp at h
theorem dot_end {s : ByteArray} {j : Nat} (hj : s.size ≤ j) : dotAt s j = false := by
  unfold dotAt
  rw [List.getElem?_eq_none (by rw [← Lib.size_eq]; exact hj)]
  rfl
/-- the number that begins at k: its number of bytes, and its value -/
def numS (s : ByteArray) (k : Nat) : Option (Nat × Nat) :=
  if 4 < runP digB s k then none
  else if dotAt s (k + runP digB s k) = true then
    if 1 ≤ runP digB s (k + runP digB s k + 1) ∧ runP digB s (k + runP digB s k + 1) ≤ 4 then
      some (runP digB s k + 1 + runP digB s (k + runP digB s k + 1), lval (dg s k (runP digB s k)) * 256 + lval (dg s (k + runP digB s k + 1) (runP digB s (k + runP digB s k + 1))) * 256 / 10 ^ runP digB s (k + runP digB s k + 1))
    else none
  else some (runP digB s k, lval (dg s k (runP digB s k)) * 256)
/-- the token that begins at k -/
def scanT (s : ByteArray) (k : Nat) (b : UInt8) : Option Tk :=
  if digB b = true then (numS s k).map fun x => (1, s.extract k (k + x.1), (x.2 : Int), (k : Int))
  else if letB b = true then (if runP namB s k ≤ 8 then some (2, s.extract k (k + runP namB s k), 0, (k : Int)) else none)
  else if symB b = true then some (3, s.extract k (k + 1), 0, (k : Int))
  else none
theorem scan_size {s : ByteArray} {k : Nat} (h : k < s.size) {t : Tk} (ht : scanT s k s[k] = some t) : 1 ≤ t.2.1.size ∧ k + t.2.1.size ≤ s.size ∧ t.2.1 = s.extract k (k + t.2.1.size) := by
  have key : ∀ n, 1 ≤ n → k + n ≤ s.size → t.2.1 = s.extract k (k + n) → 1 ≤ t.2.1.size ∧ k + t.2.1.size ≤ s.size ∧ t.2.1 = s.extract k (k + t.2.1.size) := fun n h1 h2 e => by
    have : t.2.1.size = n := by rw [e, ext_size s h2]; omega
    rw [this]
    exact ⟨h1, h2, e⟩
  unfold scanT at ht
  by_cases hd : digB s[k] = true
  · rw [if_pos hd] at ht
    have hn1 := runP_yes (p := digB) h hd
    have hle := runP_le (p := digB) (s := s) (k := k) (by omega)
    obtain ⟨x, hx, rfl⟩ := Option.map_eq_some_iff.1 ht
    unfold numS at hx
    split at hx
    · cases hx
    · split at hx
      · rename_i hdot
        obtain ⟨hdl, _⟩ := dot_yes hdot
        have hle2 := runP_le (p := digB) (s := s) (k := k + runP digB s k + 1) (by omega)
        split at hx
        · obtain rfl := Option.some.inj hx
          exact key _ (by omega) (by show k + (runP digB s k + 1 + runP digB s (k + runP digB s k + 1)) ≤ _; omega) rfl
        · cases hx
      · obtain rfl := Option.some.inj hx
        exact key _ (by omega) hle rfl
  · rw [if_neg hd] at ht
    by_cases hl : letB s[k] = true
    · rw [if_pos hl] at ht
      have hn1 := runP_yes (p := namB) h (by unfold namB; rw [hl]; rfl)
      have hle := runP_le (p := namB) (s := s) (k := k) (by omega)
      split at ht
      · obtain rfl := Option.some.inj ht
        exact key _ (by omega) hle rfl
      · cases ht
    · rw [if_neg hl] at ht
      split at ht
      · obtain rfl := Option.some.inj ht
        exact key 1 (Nat.le_refl _) (by omega) rfl
      · cases ht
theorem num_bd {s : ByteArray} {k m v : Nat} (h : k < s.size) (hd : digB s[k] = true) (hx : numS s k = some (m, v)) : 1 ≤ m ∧ k + m ≤ s.size := by
  have hn1 := runP_yes (p := digB) h hd
  have hle := runP_le (p := digB) (s := s) (k := k) (by omega)
  unfold numS at hx
  split at hx
  · cases hx
  · split at hx
    · rename_i hdot
      obtain ⟨hdl, _⟩ := dot_yes hdot
      have hle2 := runP_le (p := digB) (s := s) (k := k + runP digB s k + 1) (by omega)
      split at hx
      · have e := Option.some.inj hx
        injection e with e1 _
        omega
      · cases hx
    · have e := Option.some.inj hx
      injection e with e1 _
      omega
/-- all tokens from k on, behind those that are read, and -1; or none and the place of what is none -/
def tokT (s : ByteArray) (k : Nat) (acc : List Tk) : List Tk × Int :=
  if h : k < s.size then
    if blkB s[k] = true then tokT s (k + 1) acc
    else match scanT s k s[k] with
      | none => ([], (k : Int))
      | some t => if 0 < t.2.1.size then tokT s (k + t.2.1.size) (acc ++ [t]) else ([], 0)
  else (acc ++ [(0, ByteArray.empty, 0, (s.size : Int))], -1)
termination_by s.size - k
decreasing_by
  all_goals omega
theorem tok_blank {s : ByteArray} {k : Nat} {acc : List Tk} (h : k < s.size) (hb : blkB s[k] = true) : tokT s k acc = tokT s (k + 1) acc := by
  rw [tokT, dif_pos h, if_pos hb]
theorem tok_none {s : ByteArray} {k : Nat} {acc : List Tk} (h : k < s.size) (hb : blkB s[k] = false) (ht : scanT s k s[k] = none) : tokT s k acc = ([], (k : Int)) := by
  rw [tokT, dif_pos h, if_neg (by rw [hb]; simp), ht]
theorem tok_some {s : ByteArray} {k : Nat} {acc : List Tk} {t : Tk} (h : k < s.size) (hb : blkB s[k] = false) (ht : scanT s k s[k] = some t) : tokT s k acc = tokT s (k + t.2.1.size) (acc ++ [t]) := by
  have := (scan_size h ht).1
  conv => lhs; rw [tokT, dif_pos h, if_neg (by rw [hb]; simp), ht]
  simp only
  rw [if_pos (by omega)]
theorem tok_end {s : ByteArray} {k : Nat} {acc : List Tk} (h : s.size ≤ k) : tokT s k acc = (acc ++ [(0, ByteArray.empty, 0, (s.size : Int))], -1) := by
  rw [tokT, dif_neg (by omega)]
theorem tok_blanks {s : ByteArray} {acc : List Tk} : ∀ (n k : Nat), runP blkB s k = n → tokT s k acc = tokT s (k + n) acc
  | 0, k, _ => rfl
  | n + 1, k, hn => by
    have hk : k < s.size := by
      rcases Nat.lt_or_ge k s.size with h | h
      · exact h
      · rw [runP_end h] at hn; omega
    have hb : blkB s[k] = true := runP_in (k := k) 0 hk (by omega)
    have e := runP_yes (p := blkB) hk hb
    rw [tok_blank hk hb, tok_blanks n (k + 1) (by omega)]
    congr 1
    omega
theorem tok_len {s : ByteArray} : ∀ (n k : Nat) (acc : List Tk), s.size - k = n → acc.length ≤ k → k ≤ s.size → (tokT s k acc).1.length ≤ s.size + 1 := by
  intro n
  induction n using Nat.strongRecOn with
  | ind n ih =>
    intro k acc hn ha hk
    by_cases h : k < s.size
    · cases hb : blkB s[k] with
      | true =>
        rw [tok_blank h hb]
        exact ih (s.size - (k + 1)) (by omega) (k + 1) acc rfl (by omega) (by omega)
      | false =>
        cases ht : scanT s k s[k] with
        | none => rw [tok_none h hb ht]; simp
        | some t =>
          obtain ⟨h1, h2, _⟩ := scan_size h ht
          rw [tok_some h hb ht]
          exact ih (s.size - (k + t.2.1.size)) (by omega) _ _ rfl (by simp; omega) h2
    · rw [tok_end (by omega)]
      simp
      omega
/-- what Tokenize answers -/
def tokP (s : ByteArray) : List Tk × Int := if 2000 < s.size then ([], 0) else tokT s 0 []
end Go.Proofs.YtkbdnjhgcoihhaaGreatDoor
