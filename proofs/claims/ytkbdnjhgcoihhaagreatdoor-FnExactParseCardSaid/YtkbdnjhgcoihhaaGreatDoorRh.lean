/- What the lexer leaves has the form of tokens; a whole program, read by the parser on values; nothing of the program. -/
import Derived.Test.YtkbdnjhgcoihhaaGreatDoorTp
import Derived.Test.YtkbdnjhgcoihhaaGreatDoorRe
namespace Go.Proofs.YtkbdnjhgcoihhaaGreatDoor

theorem symB_dig {b : UInt8} (h : digB b = true) : symB b = false := by
  have h1 := (digB_iff b).1 h
  cases hs : symB b with
  | false => rfl
  | true =>
    have h2 := (symB_iff b).1 hs
    omega
theorem symB_let {b : UInt8} (h : letB b = true) : symB b = false := by
  have h1 := (letB_iff b).1 h
  cases hs : symB b with
  | false => rfl
  | true =>
    have h2 := (symB_iff b).1 hs
    omega
theorem ext_first {s : ByteArray} {k n : Nat} (h : k < s.size) (hn : 1 ≤ n) : ∃ l, (s.extract k (k + n)).data.toList = s[k] :: l := by
  rw [ext_list, show k + n - k = n by omega, drop_b s h]
  obtain ⟨m, rfl⟩ : ∃ m, n = m + 1 := ⟨n - 1, by omega⟩
  exact ⟨_, rfl⟩
theorem scan_form {s : ByteArray} {k : Nat} (h : k < s.size) {t : Tk} (ht : scanT s k s[k] = some t) : TkForm t ∧ 0 ≤ t.2.2.2 := by
  have hsz := scan_size h ht
  unfold scanT at ht
  by_cases hd : digB s[k] = true
  · rw [if_pos hd] at ht
    obtain ⟨x, hx, rfl⟩ := Option.map_eq_some_iff.1 ht
    obtain ⟨l, hl⟩ := ext_first h hsz.1
    rw [← hsz.2.2] at hl
    exact ⟨.inr (.inl ⟨rfl, _, l, hl, symB_dig hd⟩), by show (0 : Int) ≤ (k : Int); omega⟩
  · rw [if_neg hd] at ht
    by_cases hl : letB s[k] = true
    · rw [if_pos hl] at ht
      split at ht
      · obtain rfl := Option.some.inj ht
        obtain ⟨l, he⟩ := ext_first h hsz.1
        rw [← hsz.2.2] at he
        exact ⟨.inr (.inr (.inl ⟨rfl, _, l, he, symB_let hl⟩)), by show (0 : Int) ≤ (k : Int); omega⟩
      · cases ht
    · rw [if_neg hl] at ht
      split at ht
      · rename_i hs
        obtain rfl := Option.some.inj ht
        refine ⟨.inr (.inr (.inr ⟨rfl, s[k], ?_, hs⟩)), by show (0 : Int) ≤ (k : Int); omega⟩
        apply ext_eq
        rw [ext_list, show k + 1 - k = 1 by omega, drop_b s h]
        rfl
      · cases ht
def TkAll (l : List Tk) : Prop := ∀ t ∈ l, TkForm t ∧ 0 ≤ t.2.2.2
theorem tok_form {s : ByteArray} : ∀ (n k : Nat) (acc : List Tk), s.size - k = n → TkAll acc → k ≤ s.size → (tokT s k acc).2 = -1 → TkAll (tokT s k acc).1 ∧ ∃ l, (tokT s k acc).1 = l ++ [(0, ByteArray.empty, 0, (s.size : Int))] := by
  intro n
  induction n using Nat.strongRecOn with
  | ind n ih =>
    intro k acc hn ha hk h1
    by_cases h : k < s.size
    · cases hb : blkB s[k] with
      | true =>
        rw [tok_blank h hb] at h1 ⊢
        exact ih (s.size - (k + 1)) (by omega) (k + 1) acc rfl ha (by omega) h1
      | false =>
        cases ht : scanT s k s[k] with
        | none =>
          rw [tok_none h hb ht] at h1
          simp only at h1
          omega
        | some t =>
          obtain ⟨h2, h3, _⟩ := scan_size h ht
          rw [tok_some h hb ht] at h1 ⊢
          refine ih (s.size - (k + t.2.1.size)) (by omega) _ _ rfl (fun x hx => ?_) h3 h1
          rcases List.mem_append.1 hx with hx | hx
          · exact ha x hx
          · rw [List.mem_singleton] at hx
            rw [hx]
            exact scan_form h ht
    · rw [tok_end (by omega)] at h1 ⊢
      refine ⟨fun x hx => ?_, acc, rfl⟩
      rcases List.mem_append.1 hx with hx | hx
      · exact ha x hx
      · rw [List.mem_singleton] at hx
        rw [hx]
        exact ⟨.inl ⟨rfl, rfl⟩, by show (0 : Int) ≤ (s.size : Int); omega⟩
theorem tok_off {s : ByteArray} : ∀ (n k : Nat) (acc : List Tk), s.size - k = n → (tokT s k acc).2 = -1 ∨ 0 ≤ (tokT s k acc).2 := by
  intro n
  induction n using Nat.strongRecOn with
  | ind n ih =>
    intro k acc hn
    by_cases h : k < s.size
    · cases hb : blkB s[k] with
      | true =>
        rw [tok_blank h hb]
        exact ih (s.size - (k + 1)) (by omega) (k + 1) acc rfl
      | false =>
        cases ht : scanT s k s[k] with
        | none =>
          rw [tok_none h hb ht]
          right
          show (0 : Int) ≤ (k : Int)
          omega
        | some t =>
          obtain ⟨h2, h3, _⟩ := scan_size h ht
          rw [tok_some h hb ht]
          exact ih (s.size - (k + t.2.1.size)) (by omega) _ _ rfl
    · rw [tok_end (by omega)]
      exact .inl rfl
theorem tokP_off (s : ByteArray) : (tokP s).2 = -1 ∨ 0 ≤ (tokP s).2 := by
  unfold tokP
  split
  · exact .inr (by decide)
  · exact tok_off _ _ _ rfl
theorem tokP_good {s : ByteArray} (h : (tokP s).2 = -1) : TsG (tokP s).1 := by
  unfold tokP at h ⊢
  split at h
  · cases h
  · rename_i hs
    rw [if_neg hs]
    obtain ⟨h1, l, h2⟩ := tok_form _ 0 [] rfl (fun t ht => by cases ht) (Nat.zero_le _) h
    have h3 := tok_len (s := s) _ 0 [] rfl (Nat.le_refl _) (Nat.zero_le _)
    generalize (tokT s 0 []).1 = ts at h1 h2 h3
    refine ⟨⟨⟨by rw [h2]; simp, ?_⟩, by omega, fun a => ?_⟩, fun a ha => ?_⟩
    · rw [tkA_at (by rw [h2]; simp)]
      simp [h2]
    · unfold offA
      by_cases ha : a < ts.length
      · rw [tkA_at ha]
        exact (h1 _ (List.getElem_mem ha)).2
      · unfold tkA
        rw [show ts.getD a (0, ByteArray.empty, 0, 0) = (0, ByteArray.empty, 0, 0) by simp [List.getD, List.getElem?_eq_none (Nat.le_of_not_lt ha)]]
        exact Int.le_refl _
    · rw [tkA_at ha]
      exact (h1 _ (List.getElem_mem ha)).1
/-- a program, or the offset of the error -/
inductive PA where
  | bad (o : Int)
  | done (ns : List Nd) (ys : List As)
def prsP (ts : List Tk) (F : Nat) : Nat → Nat → List Nd → List As → Option PA
  | 0, _, _, _ => none
  | f + 1, a, ns, ys =>
    if (tkA ts a).1 = 0 then some (.done ns ys)
    else if (tkA ts a).1 ≠ 2 then some (.bad (offA ts a))
    else if symA ts (a + 1) ≠ ⟨#[61]⟩ then some (.bad (offA ts (a + 1)))
    else match par ts F (.bin true (a + 2) 1 ns) with
      | some (.ok r a' ns') => if symA ts a' = ⟨#[59]⟩ then prsP ts F f (a' + 1) ns' (ys ++ [((tkA ts a).2.1, (r : Int))]) else some (.bad (offA ts a'))
      | some (.bad o) => some (.bad o)
      | none => none
theorem prs_some {ts : List Tk} (h : EndsT ts) : ∀ (f a : Nat) (ns : List Nd) (ys : List As), a < ts.length → ts.length - a ≤ f → ∃ R, prsP ts (4 * ts.length + 4) f a ns ys = some R := by
  intro f
  induction f with
  | zero => intro a ns ys ha hf; omega
  | succ f ih =>
    intro a ns ys ha hf
    unfold prsP
    split
    · exact ⟨_, rfl⟩
    split
    · exact ⟨_, rfl⟩
    rename_i h0 h2
    have h2 : (tkA ts a).1 = 2 := by simpa using h2
    have hk := kind_next h ha (by rw [h2]; decide)
    split
    · exact ⟨_, rfl⟩
    rename_i h3
    have h3 : symA ts (a + 1) = ⟨#[61]⟩ := by simpa using h3
    have hk2 := sym_next h hk h3 (by decide)
    obtain ⟨R, hR, hG⟩ := par_some h (4 * ts.length + 4) (.bin true (a + 2) 1 ns) hk2 (by simp only [fuelM]; simp; omega)
    rw [hR]
    cases R with
    | bad o => exact ⟨_, rfl⟩
    | ok r a' ns' =>
      have hg := hG _ _ _ rfl
      simp only [atM] at hg
      simp only
      split
      · rename_i h4
        have hk3 := sym_next h hg.1 h4 (by decide)
        exact ih _ _ _ hk3 (by omega)
      · exact ⟨_, rfl⟩
/-- what Parse answers -/
def parseR (s : ByteArray) : PA :=
  if (tokP s).2 = -1 then (prsP (tokP s).1 (4 * (tokP s).1.length + 4) ((tokP s).1.length + 1) 0 [] []).getD (.bad 0) else .bad (tokP s).2
end Go.Proofs.YtkbdnjhgcoihhaaGreatDoor
