/- Names of parsed nodes are short; the least program is parsed and checked; nothing of the program. -/
import Derived.KernelRfl
import Derived.Test.YtlcnjiephbhdaaaC8
import Derived.Test.YtlcnjiephbhdaaaC7
import Derived.Test.YtlcnjiephbhdaaaC9
import Derived.Test.YtlcnjiephbhdaaaC2
import Derived.Test.YtlcnjiephbhdaaaC3
namespace Go.Proofs.Ytlcnjiephbhdaaa

/-- names of 2000 letters at most; arguments three at most -/
def Nm2 (ns : List Nd) : Prop := ∀ n ∈ ns, n.2.1.size ≤ 2000 ∧ n.2.2.2.length ≤ 3
def Nm2R (R : PR) : Prop := ∀ r a' ns', R = .ok r a' ns' → Nm2 ns'
def As2 (ys : List As) : Prop := ∀ y ∈ ys, y.1.size ≤ 2000
theorem nm2_add {ns : List Nd} (h : Nm2 ns) {n : Nd} (hn : n.2.1.size ≤ 2000 ∧ n.2.2.2.length ≤ 3) : Nm2 (ns ++ [n]) := fun x hx => by
  rcases List.mem_append.1 hx with hx | hx
  · exact h x hx
  · rw [List.mem_singleton] at hx
    rw [hx]
    exact hn
theorem nm2_bad (o : Int) : Nm2R (.bad o) := fun r a' ns' e => by cases e
theorem nm2_ok {r a : Nat} {ns : List Nd} (h : Nm2 ns) : Nm2R (.ok r a ns) := fun r' a' ns' e => by
  injection e with e1 e2 e3
  rw [← e3]
  exact h
theorem nm2_emit {ts : List Tk} {a : Nat} {ns : List Nd} {n : Nd} (h : Nm2 ns) (hn : n.2.1.size ≤ 2000 ∧ n.2.2.2.length ≤ 3) : Nm2R (emitP ts a ns n) := fun r a' ns' e => by
  obtain ⟨_, _, _, rfl⟩ := emit_ok e
  exact nm2_add h hn
def nsN : PM → List Nd
  | .fac _ _ ns => ns
  | .bin _ _ _ ns => ns
  | .chain _ _ _ _ ns => ns
  | .call _ _ _ _ ns => ns
def arN2 : PM → Prop
  | .call nm args _ _ _ => nm.size ≤ 2000 ∧ args.length ≤ 3
  | _ => True
def TkS (ts : List Tk) : Prop := ∀ a, (tkA ts a).2.1.size ≤ 2000
theorem par_names {ts : List Tk} (hts : TkS ts) : ∀ (f : Nat) (m : PM) (R : PR), Nm2 (nsN m) → arN2 m → par ts f m = some R → Nm2R R := by
  intro f
  induction f with
  | zero =>
    intro m R _ _ hp
    cases m <;> simp [par] at hp
  | succ f ih =>
    intro m R hns har hp
    cases m with
    | fac a d ns =>
      have hns : Nm2 ns := hns
      simp only [par] at hp
      split at hp
      · injection hp with hp; subst hp; exact nm2_bad _
      split at hp
      · cases hR : par ts f (.fac (a + 1) (d + 1) ns) with
        | none => rw [hR] at hp; cases hp
        | some R1 =>
          rw [hR] at hp
          have hG := ih (.fac (a + 1) (d + 1) ns) R1 hns trivial hR
          cases R1 with
          | bad o => injection hp with hp; subst hp; exact nm2_bad _
          | ok r a' ns' => injection hp with hp; subst hp; exact nm2_emit (hG _ _ _ rfl) ⟨Nat.zero_le _, by simp⟩
      split at hp
      · cases hR : par ts f (.bin true (a + 1) (d + 1) ns) with
        | none => rw [hR] at hp; cases hp
        | some R1 =>
          rw [hR] at hp
          have hG := ih (.bin true (a + 1) (d + 1) ns) R1 hns trivial hR
          cases R1 with
          | bad o => injection hp with hp; subst hp; exact nm2_bad _
          | ok r a' ns' =>
            simp only at hp
            split at hp
            · injection hp with hp; subst hp; exact nm2_ok (hG _ _ _ rfl)
            · injection hp with hp; subst hp; exact nm2_bad _
      split at hp
      · injection hp with hp; subst hp; exact nm2_emit hns ⟨Nat.zero_le _, by simp⟩
      split at hp
      · split at hp
        · split at hp
          · injection hp with hp; subst hp; exact nm2_emit hns ⟨hts _, by simp⟩
          · exact ih (.call _ [] _ _ ns) R hns ⟨hts _, by simp⟩ hp
        · injection hp with hp; subst hp; exact nm2_emit hns ⟨hts _, by simp⟩
      · injection hp with hp; subst hp; exact nm2_bad _
    | bin add a d ns =>
      have hns : Nm2 ns := hns
      simp only [par] at hp
      cases hR : par ts f (if add = true then .bin false a d ns else .fac a d ns) with
      | none => rw [hR] at hp; cases hp
      | some R1 =>
        rw [hR] at hp
        have hG := ih _ R1 (by cases add <;> exact hns) (by cases add <;> exact trivial) hR
        cases R1 with
        | bad o => injection hp with hp; subst hp; exact nm2_bad _
        | ok r a' ns' => exact ih (.chain add r a' d ns') R (hG _ _ _ rfl) trivial hp
    | chain add l a d ns =>
      have hns : Nm2 ns := hns
      simp only [par] at hp
      split at hp
      · injection hp with hp; subst hp; exact nm2_ok hns
      cases hR : par ts f (if add = true then .bin false (a + 1) d ns else .fac (a + 1) d ns) with
      | none => rw [hR] at hp; cases hp
      | some R1 =>
        rw [hR] at hp
        have hG := ih _ R1 (by cases add <;> exact hns) (by cases add <;> exact trivial) hR
        cases R1 with
        | bad o => injection hp with hp; subst hp; exact nm2_bad _
        | ok r a' ns' =>
          simp only at hp
          have hE := nm2_emit (ts := ts) (a := a') (n := (opP add (symA ts a), ⟨#[]⟩, 0, [(l : Int), (r : Int)])) (hG _ _ _ rfl) ⟨Nat.zero_le _, by simp⟩
          cases hq : emitP ts a' ns' (opP add (symA ts a), ⟨#[]⟩, 0, [(l : Int), (r : Int)]) with
          | bad o => rw [hq] at hp; injection hp with hp; subst hp; exact nm2_bad _
          | ok r2 a2 ns2 =>
            rw [hq] at hp hE
            exact ih (.chain add r2 a2 d ns2) R (hE _ _ _ rfl) trivial hp
    | call nm args a d ns =>
      have hns : Nm2 ns := hns
      have har : nm.size ≤ 2000 ∧ args.length ≤ 3 := har
      simp only [par] at hp
      split at hp
      · injection hp with hp; subst hp; exact nm2_bad _
      rename_i h3
      cases hR : par ts f (.bin true a d ns) with
      | none => rw [hR] at hp; cases hp
      | some R1 =>
        rw [hR] at hp
        have hG := ih (.bin true a d ns) R1 hns trivial hR
        cases R1 with
        | bad o => injection hp with hp; subst hp; exact nm2_bad _
        | ok r a' ns' =>
          simp only at hp
          split at hp
          · exact ih (.call nm (args ++ [(r : Int)]) (a' + 1) d ns') R (hG _ _ _ rfl) ⟨har.1, by simp only [List.length_append, List.length_singleton]; omega⟩ hp
          split at hp
          · injection hp with hp; subst hp; exact nm2_emit (hG _ _ _ rfl) ⟨har.1, by simp only [List.length_append, List.length_singleton]; omega⟩
          · injection hp with hp; subst hp; exact nm2_bad _
theorem prs_names {ts : List Tk} (hts : TkS ts) {F : Nat} : ∀ (f a : Nat) (ns : List Nd) (ys : List As) (R : PA), Nm2 ns → As2 ys → prsP ts F f a ns ys = some R → ∀ ns' ys', R = .done ns' ys' → Nm2 ns' ∧ As2 ys' := by
  intro f
  induction f with
  | zero => intro a ns ys R _ _ hp; simp [prsP] at hp
  | succ f ih =>
    intro a ns ys R hns hys hp ns' ys' e
    unfold prsP at hp
    split at hp
    · injection hp with hp
      rw [← hp] at e
      injection e with e1 e2
      rw [← e1, ← e2]
      exact ⟨hns, hys⟩
    split at hp
    · injection hp with hp; rw [← hp] at e; cases e
    split at hp
    · injection hp with hp; rw [← hp] at e; cases e
    cases hR : par ts F (.bin true (a + 2) 1 ns) with
    | none => rw [hR] at hp; cases hp
    | some R1 =>
      rw [hR] at hp
      have hG := par_names hts F (.bin true (a + 2) 1 ns) R1 hns trivial hR
      cases R1 with
      | bad o => injection hp with hp; rw [← hp] at e; cases e
      | ok r a' ns2 =>
        simp only at hp
        split at hp
        · refine ih _ _ _ _ (hG _ _ _ rfl) (fun y hy => ?_) hp ns' ys' e
          rcases List.mem_append.1 hy with hy | hy
          · exact hys y hy
          · rw [List.mem_singleton] at hy
            rw [hy]
            exact hts a
        · injection hp with hp; rw [← hp] at e; cases e
theorem tokT_small {s : ByteArray} (hs : s.size ≤ 2000) : ∀ (n k : Nat) (acc : List Tk), s.size - k = n → (∀ t ∈ acc, t.2.1.size ≤ 2000) → k ≤ s.size → ∀ t ∈ (tokT s k acc).1, t.2.1.size ≤ 2000 := by
  intro n
  induction n using Nat.strongRecOn with
  | ind n ih =>
    intro k acc hn ha hk
    by_cases h : k < s.size
    · cases hb : blkB s[k] with
      | true =>
        rw [tok_blank h hb]
        exact ih (s.size - (k + 1)) (by omega) (k + 1) acc rfl ha (by omega)
      | false =>
        cases ht : scanT s k s[k] with
        | none =>
          rw [tok_none h hb ht]
          intro t ht; cases ht
        | some t =>
          have hz := scan_size h ht
          rw [tok_some h hb ht]
          refine ih (s.size - (k + t.2.1.size)) (by omega) (k + t.2.1.size) (acc ++ [t]) rfl (fun x hx => ?_) (by omega)
          rcases List.mem_append.1 hx with hx | hx
          · exact ha x hx
          · rw [List.mem_singleton] at hx
            rw [hx]
            omega
    · rw [tok_end (by omega)]
      intro t ht
      rcases List.mem_append.1 ht with ht | ht
      · exact ha t ht
      · rw [List.mem_singleton] at ht
        rw [ht]
        exact Nat.zero_le _
theorem tokP_small (s : ByteArray) : TkS (tokP s).1 := fun a => by
  unfold tokP tkA
  split
  · simp
  · rename_i hs
    rw [List.getD]
    cases hg : ((tokT s 0 []).1)[a]? with
    | none => exact Nat.zero_le _
    | some t => exact tokT_small (by omega) _ 0 [] rfl (fun t ht => by cases ht) (Nat.zero_le _) t (List.mem_of_getElem? hg)
theorem parse_names (s : ByteArray) {ns : List Nd} {ys : List As} (h : parseR s = .done ns ys) : Nm2 ns ∧ As2 ys := by
  unfold parseR at h
  split at h
  · cases hp : prsP (tokP s).1 (4 * (tokP s).1.length + 4) ((tokP s).1.length + 1) 0 [] [] with
    | none => rw [hp] at h; cases h
    | some R =>
      rw [hp] at h
      exact prs_names (tokP_small s) _ _ _ _ _ (fun n hn => by cases hn) (fun y hy => by cases hy) hp ns ys h
  · cases h

/-- the least program's source -/
def fbS : ByteArray := ⟨#[99, 111, 108, 111, 114, 32, 61, 32, 117, 59]⟩
def fbN : List Nd := [(2, ⟨#[117]⟩, 0, [])]
def fbY : List As := [(⟨#[99, 111, 108, 111, 114]⟩, 0)]
def fbT : List Tk := [(2, ⟨#[99, 111, 108, 111, 114]⟩, 0, 0), (3, ⟨#[61]⟩, 0, 6), (2, ⟨#[117]⟩, 0, 8), (3, ⟨#[59]⟩, 0, 9), (0, ByteArray.empty, 0, 10)]
theorem fb_tok : tokP fbS = (fbT, -1) := by
  have hz : fbS.size = 10 := rfl
  unfold tokP
  rw [if_neg (by rw [hz]; omega)]
  have h0 : scanT fbS 0 fbS[0] = some (2, ⟨#[99, 111, 108, 111, 114]⟩, 0, 0) := by kernel_rfl
  have h6 : scanT fbS 6 fbS[6] = some (3, ⟨#[61]⟩, 0, 6) := by kernel_rfl
  have h8 : scanT fbS 8 fbS[8] = some (2, ⟨#[117]⟩, 0, 8) := by kernel_rfl
  have h9 : scanT fbS 9 fbS[9] = some (3, ⟨#[59]⟩, 0, 9) := by kernel_rfl
  rw [tok_some (k := 0) (by rw [hz]; omega) (by kernel_rfl) h0]
  show tokT fbS 5 _ = _
  rw [tok_blank (k := 5) (by rw [hz]; omega) (by kernel_rfl), tok_some (k := 6) (by rw [hz]; omega) (by kernel_rfl) h6]
  show tokT fbS 7 _ = _
  rw [tok_blank (k := 7) (by rw [hz]; omega) (by kernel_rfl), tok_some (k := 8) (by rw [hz]; omega) (by kernel_rfl) h8]
  show tokT fbS 9 _ = _
  rw [tok_some (k := 9) (by rw [hz]; omega) (by kernel_rfl) h9]
  show tokT fbS 10 _ = _
  rw [tok_end (by rw [hz]; omega)]
  rfl
theorem fb_parse : parseR fbS = .done fbN fbY := by
  unfold parseR
  rw [fb_tok, if_pos rfl]
  have h : prsP fbT (4 * fbT.length + 4) (fbT.length + 1) 0 [] [] = some (.done fbN fbY) := by kernel_rfl
  rw [h]
  rfl
theorem fb_id1 : Ident ⟨#[117]⟩ := ⟨by decide, by decide, fun i h => by
  have h : i < 1 := h
  obtain rfl : i = 0 := by omega
  exact .inl ⟨show 97 ≤ 117 by decide, show 117 ≤ 122 by decide⟩⟩
theorem fb_id5 : Ident ⟨#[99, 111, 108, 111, 114]⟩ := ⟨by decide, by decide, fun i h => by
  have h : i < 5 := h
  have : i = 0 ∨ i = 1 ∨ i = 2 ∨ i = 3 ∨ i = 4 := by omega
  rcases this with rfl | rfl | rfl | rfl | rfl
  · exact .inl ⟨show 97 ≤ 99 by decide, show 99 ≤ 122 by decide⟩
  · exact .inl ⟨show 97 ≤ 111 by decide, show 111 ≤ 122 by decide⟩
  · exact .inl ⟨show 97 ≤ 108 by decide, show 108 ≤ 122 by decide⟩
  · exact .inl ⟨show 97 ≤ 111 by decide, show 111 ≤ 122 by decide⟩
  · exact .inl ⟨show 97 ≤ 114 by decide, show 114 ≤ 122 by decide⟩⟩
theorem fb_ok : okPr fbN fbY := by
  refine ⟨by decide, fun i h => ?_, fun j h => ?_, ?_⟩
  · obtain rfl : i = 0 := by simp only [fbN, List.length_singleton] at h; omega
    exact ⟨.inr (.inl ⟨rfl, fb_id1, rfl, rfl⟩), fun a ha => by cases ha⟩
  · obtain rfl : j = 0 := by simp only [fbY, List.length_singleton] at h; omega
    exact fb_id5
  · exact List.Perm.refl _
theorem fb_chk : chkP fbN fbY = (0, 0) := by
  unfold chkP
  rw [if_pos fb_ok]
  kernel_rfl
end Go.Proofs.Ytlcnjiephbhdaaa
