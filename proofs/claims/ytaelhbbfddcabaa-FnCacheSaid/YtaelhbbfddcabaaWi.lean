/- Caches stay valid; what was used lies in a great cache; a second lookup loads nothing (pure). -/
import Derived.Test.YtaelhbbfddcabaaProg
import Derived.Test.YtaelhbbfddcabaaInts
import Derived.Test.YtaelhbbfddcabaaVbox
import Derived.Test.YtaelhbbfddcabaaHeld
import Derived.Test.YtaelhbbfddcabaaMem
import Derived.Test.YtaelhbbfddcabaaFlat
import Derived.Test.YtaelhbbfddcabaaRowC
import Derived.Test.YtaelhbbfddcabaaKS
import Derived.Test.YtaelhbbfddcabaaStrS
import Derived.Test.YtaelhbbfddcabaaIntS
import Derived.Test.YtaelhbbfddcabaaSS
import Derived.Test.YtaelhbbfddcabaaVi
import Derived.Test.YtaelhbbfddcabaaVa
import Derived.Test.YtaelhbbfddcabaaVb
import Derived.Test.YtaelhbbfddcabaaVc
import Derived.Test.YtaelhbbfddcabaaWa
import Derived.Test.YtaelhbbfddcabaaWb
import Derived.Test.YtaelhbbfddcabaaVd
import Derived.Test.YtaelhbbfddcabaaWb
import Derived.Test.YtaelhbbfddcabaaWg
import Derived.WalkKit
import Derived.WalkSpells
import Derived.WalkLawsBesides
import Derived.Lib.Hide
import Derived.Deep.RegionHeld3
import Derived.Deep.QuietTactic
import Derived.BigQuiet
import Derived.Handy
import Derived.Deep.DeepCutAuto
namespace Go.Proofs.Ytaelhbbfddcabaa
open Go.RowKit

theorem cut_erase {ts : List V3} {x : V3} : ts.take (ts.idxOf x) ++ ts.drop (ts.idxOf x + 1) = ts.erase x := by
  rw [List.erase_eq_eraseIdx_of_idxOf rfl, List.eraseIdx_eq_take_drop_succ]
theorem use_perm {R : Int} {ts : List V3} {K : Int} {x : V3} (ho : okC R ts K = true) (hm : x ∈ ts) : (useL R ts K x).Perm ts := by
  unfold useL
  rw [if_pos ho, if_pos hm, ← List.append_assoc, cut_erase]
  exact (List.perm_append_comm).trans (List.perm_cons_erase hm).symm
theorem okC_use {R : Int} {ts : List V3} {K : Int} {x : V3} (ho : okC R ts K = true) (hK : K < 1000000000) : okC R (useL R ts K x) (useK R ts K x) = true ∧ K ≤ useK R ts K x ∧ useK R ts K x ≤ K + 1 := by
  obtain ⟨h1, h2, h3, h4⟩ := okC_iff.1 ho
  by_cases hm : x ∈ ts
  · have hp := use_perm ho hm
    have hk : useK R ts K x = K := by unfold useK; rw [if_neg (fun h => h.2 hm)]
    rw [hk]
    refine ⟨okC_iff.2 ⟨h1, ?_, ⟨?_, h3.2⟩, hp.nodup_iff.2 h4⟩, by omega, by omega⟩
    · rw [hp.length_eq]; exact h2
    · rw [hp.length_eq]; exact h3.1
  · have hk : useK R ts K x = K + 1 := by unfold useK; rw [if_pos ⟨ho, hm⟩]
    have hn : (ts ++ [x]).Nodup := by
      rw [List.nodup_append]
      refine ⟨h4, by simp, fun a ha b hb => ?_⟩
      obtain rfl : b = x := by simpa using hb
      exact fun e => hm (e ▸ ha)
    rw [hk]
    unfold useL
    rw [if_pos ho, if_neg hm]
    split
    · refine ⟨okC_iff.2 ⟨h1, ?_, ⟨?_, by omega⟩, hn.sublist (List.drop_sublist _ _)⟩, by omega, by omega⟩
      · simp; omega
      · simp; omega
    · refine ⟨okC_iff.2 ⟨h1, ?_, ⟨?_, by omega⟩, hn⟩, by omega, by omega⟩
      · simp; omega
      · simp; omega
theorem use_suffix {R : Int} {p q : List V3} {K : Int} {x : V3} (hR : 4 ≤ R) (ho : okC R (p ++ q) K = true) (hq : q.length ≤ 3) (hx : x ∉ q) : ∃ p', useL R (p ++ q) K x = p' ++ (q ++ [x]) := by
  unfold useL
  rw [if_pos ho]
  by_cases hm : x ∈ p ++ q
  · have hp : x ∈ p := (List.mem_append.1 hm).resolve_right hx
    have hi : (p ++ q).idxOf x = p.idxOf x := by simp [List.idxOf_append, hp]
    have hl := List.idxOf_lt_length_iff.2 hp
    refine ⟨p.take (p.idxOf x) ++ p.drop (p.idxOf x + 1), ?_⟩
    rw [if_pos hm, hi, List.take_append_of_le_length (Nat.le_of_lt hl), List.drop_append_of_le_length hl]
    simp
  · rw [if_neg hm]
    split
    · next hr =>
      have hp : 1 ≤ p.length := by
        simp at hr
        omega
      refine ⟨p.drop 1, ?_⟩
      rw [List.append_assoc, List.drop_append_of_le_length hp]
    · exact ⟨p, by simp⟩
theorem useA_ok {R : Int} : ∀ (xs : List V3) (zs : List V3) (K : Int), okC R zs K = true → K + xs.length ≤ 1000000000 → okC R (useA R xs (zs, K)).1 (useA R xs (zs, K)).2 = true ∧ K ≤ (useA R xs (zs, K)).2 ∧ (useA R xs (zs, K)).2 ≤ K + xs.length
  | [], zs, K, ho, _ => ⟨ho, Int.le_refl _, by simp [useA]⟩
  | x :: xs, zs, K, ho, hK => by
    simp only [List.length_cons] at hK
    have h1 := okC_use (x := x) ho (by omega)
    have h2 := useA_ok xs (useL R zs K x) (useK R zs K x) h1.1 (by omega)
    simp only [useA, List.length_cons]
    exact ⟨h2.1, by omega, by omega⟩
theorem useA_suffix {R : Int} (hR : 4 ≤ R) : ∀ (xs q p : List V3) (K : Int), okC R (p ++ q) K = true → (q ++ xs).Nodup → (q ++ xs).length ≤ 4 → K + xs.length ≤ 1000000000 → ∃ p', (useA R xs (p ++ q, K)).1 = p' ++ (q ++ xs)
  | [], q, p, K, _, _, _, _ => ⟨p, by simp [useA]⟩
  | x :: xs, q, p, K, ho, hn, hl, hK => by
    simp only [List.length_cons, List.length_append] at hK hl
    have hx : x ∉ q := fun h => (List.nodup_append.1 hn).2.2 x h x (by simp) rfl
    obtain ⟨p', hp⟩ := use_suffix (x := x) hR ho (by omega) hx
    have h1 := okC_use (x := x) ho (by omega)
    rw [hp] at h1
    obtain ⟨p2, h2⟩ := useA_suffix hR xs (q ++ [x]) p' (useK R (p ++ q) K x) h1.1 (by simpa using hn) (by simp; omega) (by omega)
    refine ⟨p2, ?_⟩
    simp only [useA]
    rw [hp, h2]
    simp
theorem useA_again {R : Int} : ∀ (xs zs : List V3) (K : Int), okC R zs K = true → (∀ x ∈ xs, x ∈ zs) → (useA R xs (zs, K)).2 = K
  | [], _, _, _, _ => rfl
  | x :: xs, zs, K, ho, hm => by
    have hx := hm x (by simp)
    have hk : useK R zs K x = K := by unfold useK; rw [if_neg (fun h => h.2 hx)]
    have hp := use_perm ho hx
    obtain ⟨h1, h2, h3, h4⟩ := okC_iff.1 ho
    have ho' : okC R (useL R zs K x) K = true := okC_iff.2 ⟨h1, by rw [hp.length_eq]; exact h2, ⟨by rw [hp.length_eq]; exact h3.1, h3.2⟩, hp.nodup_iff.2 h4⟩
    simp only [useA]
    rw [hk]
    exact useA_again xs (useL R zs K x) K ho' fun y hy => hp.mem_iff.2 (hm y (by simp [hy]))
theorem addT_nodup {ts : List V3} {x : V3} (h : ts.Nodup) : (addT ts x).Nodup := by
  unfold addT
  split
  · exact h
  · next hm =>
    rw [List.nodup_append]
    refine ⟨h, by simp, fun a ha b hb => ?_⟩
    obtain rfl : b = x := by simpa using hb
    exact fun e => hm (e ▸ ha)
theorem tilK_nodup (L : Int) (ts : List Int) (x y lv : Int) : ∀ k, (tilK L ts x y lv k).Nodup
  | 0 => List.nodup_nil
  | k + 1 => addT_nodup (tilK_nodup L ts x y lv k)
theorem tilesP_nodup (L : Int) (ts : List Int) (u v lv : Int) : (tilesP L ts u v lv).Nodup := by
  unfold tilesP
  split
  · exact tilK_nodup _ _ _ _ _ 4
  · exact List.nodup_nil
/-- what a lookup and a repeated one answer -/
theorem cache_law {L : Int} {ts : List Int} {R : Int} {gs : List V3} {K u v lv : Int} {zs : List V3} {J : Int} (hX : okX L ts = true) (hc : okC R gs K = true) (hK : K ≤ 999999990) (hz : clC L ts R gs K u v lv = (zs, J)) :
    clV L ts R gs K u v lv = lkP L ts u v lv ∧ clV L ts R zs J u v lv = lkP L ts u v lv ∧ okC R zs J = true ∧ okC R (clC L ts R zs J u v lv).1 (clC L ts R zs J u v lv).2 = true ∧ K ≤ J ∧ J ≤ K + 4 ∧ (4 ≤ R → (clC L ts R zs J u v lv).2 = J) := by
  have hl := tilesP_len L ts u v lv
  have h1 := clC_yes (u := u) (v := v) (lv := lv) ⟨hX, hc⟩
  have h2 := useA_ok (R := R) (tilesP L ts u v lv) gs K hc (by omega)
  rw [← h1.2, hz] at h2
  dsimp only at h2
  have h3 := clC_yes (u := u) (v := v) (lv := lv) ⟨hX, h2.1⟩
  have h4 := useA_ok (R := R) (tilesP L ts u v lv) zs J h2.1 (by omega)
  refine ⟨h1.1, h3.1, h2.1, by rw [h3.2]; exact h4.1, h2.2.1, by omega, fun hR => ?_⟩
  rw [h3.2]
  refine useA_again _ _ _ h2.1 fun x hx => ?_
  obtain ⟨p', hp⟩ := useA_suffix (R := R) hR (tilesP L ts u v lv) [] gs K (by simpa using hc) (by simpa using tilesP_nodup L ts u v lv) (by simpa using hl) (by omega)
  rw [List.append_nil] at hp
  rw [← h1.2, hz] at hp
  dsimp only at hp
  rw [hp]
  simp [hx]
theorem okC_empty {R : Int} (h1 : 1 ≤ R) (h2 : R ≤ 12) : okC R [] 0 = true := okC_iff.2 ⟨⟨h1, h2⟩, by simp; omega, by simp, List.nodup_nil⟩
end Go.Proofs.Ytaelhbbfddcabaa
