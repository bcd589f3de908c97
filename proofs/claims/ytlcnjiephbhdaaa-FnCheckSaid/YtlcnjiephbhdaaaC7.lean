/- Merged texts: Pp Pq Pr Ps Pt Pu Pv Pw. -/
import Derived.Test.YtlcnjiephbhdaaaC0
import Derived.Test.YtlcnjiephbhdaaaC1
import Derived.Test.YtlcnjiephbhdaaaProg
import Derived.WalkKit
import Derived.WalkSpells
import Derived.WalkLawsBesides
import Derived.Lib.Hide
import Derived.Deep.RegionHeld3
import Derived.Deep.QuietTactic
import Derived.BigQuiet
import Derived.Handy
import Derived.Deep.DeepCutAuto
import Derived.Deep.AppendLies
import Derived.Deep.RegionLaw
import Derived.Maps.AppendAt
namespace Go.Proofs.Ytlcnjiephbhdaaa
section

def tkA (ts : List Tk) (a : Nat) : Tk := ts.getD a (0, ByteArray.empty, 0, 0)
/-- the text of the symbol at a place; nothing where no symbol stands -/
def symA (ts : List Tk) (a : Nat) : ByteArray := if (tkA ts a).1 = 3 then (tkA ts a).2.1 else ⟨#[]⟩
def offA (ts : List Tk) (a : Nat) : Int := (tkA ts a).2.2.2
/-- what a part leaves: the offset of the error, or the node's index, the next token and the nodes -/
inductive PR where
  | bad (o : Int)
  | ok (r a : Nat) (ns : List Nd)
def emitP (ts : List Tk) (a : Nat) (ns : List Nd) (n : Nd) : PR := if ns.length = 60 then .bad (offA ts (a - 1)) else .ok ns.length a (ns ++ [n])
def opP (add : Bool) (x : ByteArray) : Int :=
  if add = true then (if x = ⟨#[43]⟩ then 4 else if x = ⟨#[45]⟩ then 5 else 0) else (if x = ⟨#[42]⟩ then 6 else if x = ⟨#[47]⟩ then 7 else 0)
/-- what is asked: a factor; a chain of operands; a chain behind its left operand; a call behind its bracket, some arguments read -/
inductive PM where
  | fac (a d : Nat) (ns : List Nd)
  | bin (add : Bool) (a d : Nat) (ns : List Nd)
  | chain (add : Bool) (l a d : Nat) (ns : List Nd)
  | call (nm : ByteArray) (args : List Int) (a d : Nat) (ns : List Nd)
def par (ts : List Tk) : Nat → PM → Option PR
  | 0, _ => none
  | f + 1, .fac a d ns =>
    if 64 < d then some (.bad (offA ts a))
    else if symA ts a = ⟨#[45]⟩ then
      match par ts f (.fac (a + 1) (d + 1) ns) with
      | some (.ok r a' ns') => some (emitP ts a' ns' (3, ⟨#[]⟩, 0, [(r : Int)]))
      | x => x
    else if symA ts a = ⟨#[40]⟩ then
      match par ts f (.bin true (a + 1) (d + 1) ns) with
      | some (.ok r a' ns') => if symA ts a' = ⟨#[41]⟩ then some (.ok r (a' + 1) ns') else some (.bad (offA ts a'))
      | x => x
    else if (tkA ts a).1 = 1 then some (emitP ts (a + 1) ns (1, ⟨#[]⟩, (tkA ts a).2.2.1, []))
    else if (tkA ts a).1 = 2 then
      if symA ts (a + 1) = ⟨#[40]⟩ then
        if symA ts (a + 2) = ⟨#[41]⟩ then some (emitP ts (a + 3) ns (8, (tkA ts a).2.1, 0, []))
        else par ts f (.call (tkA ts a).2.1 [] (a + 2) (d + 1) ns)
      else some (emitP ts (a + 1) ns (2, (tkA ts a).2.1, 0, []))
    else some (.bad (offA ts a))
  | f + 1, .bin add a d ns =>
    match par ts f (if add = true then .bin false a d ns else .fac a d ns) with
    | some (.ok r a' ns') => par ts f (.chain add r a' d ns')
    | x => x
  | f + 1, .chain add l a d ns =>
    if opP add (symA ts a) = 0 then some (.ok l a ns)
    else match par ts f (if add = true then .bin false (a + 1) d ns else .fac (a + 1) d ns) with
      | some (.ok r a' ns') =>
        match emitP ts a' ns' (opP add (symA ts a), ⟨#[]⟩, 0, [(l : Int), (r : Int)]) with
        | .ok r2 a2 ns2 => par ts f (.chain add r2 a2 d ns2)
        | .bad o => some (.bad o)
      | x => x
  | f + 1, .call nm args a d ns =>
    if args.length = 3 then some (.bad (offA ts a))
    else match par ts f (.bin true a d ns) with
      | some (.ok r a' ns') =>
        if symA ts a' = ⟨#[44]⟩ then par ts f (.call nm (args ++ [(r : Int)]) (a' + 1) d ns')
        else if symA ts a' = ⟨#[41]⟩ then some (emitP ts (a' + 1) ns' (8, nm, 0, args ++ [(r : Int)]))
        else some (.bad (offA ts a'))
      | x => x
/-- the tokens end with an end token -/
def EndsT (ts : List Tk) : Prop := 0 < ts.length ∧ (tkA ts (ts.length - 1)).1 = 0
theorem sym_next {ts : List Tk} (h : EndsT ts) {a : Nat} {x : ByteArray} (ha : a < ts.length) (hx : symA ts a = x) (h0 : x ≠ ⟨#[]⟩) : a + 1 < ts.length := by
  by_cases e : a = ts.length - 1
  · subst e
    unfold symA at hx
    rw [h.2, if_neg (by decide)] at hx
    exact absurd hx.symm h0
  · omega
theorem kind_next {ts : List Tk} (h : EndsT ts) {a : Nat} (ha : a < ts.length) (hx : (tkA ts a).1 ≠ 0) : a + 1 < ts.length := by
  by_cases e : a = ts.length - 1
  · subst e
    exact absurd h.2 hx
  · omega
def atM : PM → Nat
  | .fac a _ _ => a
  | .bin _ a _ _ => a
  | .chain _ _ a _ _ => a
  | .call _ _ a _ _ => a
def fuelM (n : Nat) : PM → Nat
  | .fac a _ _ => 4 * (n - a) + 1
  | .bin add a _ _ => 4 * (n - a) + (if add = true then 3 else 2)
  | .chain _ _ a _ _ => 4 * (n - a)
  | .call _ _ a _ _ => 4 * (n - a) + 4
/-- what is left where it went well: a token further on, nodes that were there still there -/
def GoodR (ts : List Tk) (m : PM) (R : PR) : Prop := ∀ r a' ns', R = .ok r a' ns' → a' < ts.length ∧ (match m with | .chain _ _ a _ _ => a ≤ a' | m => atM m < a')
theorem emit_ok {ts : List Tk} {a : Nat} {ns : List Nd} {n : Nd} {r a' : Nat} {ns' : List Nd} (h : emitP ts a ns n = .ok r a' ns') : a' = a ∧ ns.length ≠ 60 ∧ r = ns.length ∧ ns' = ns ++ [n] := by
  unfold emitP at h
  split at h
  · cases h
  · injection h with h1 h2 h3
    exact ⟨h2.symm, by assumption, h1.symm, h3.symm⟩
theorem op_next {ts : List Tk} (h : EndsT ts) {add : Bool} {a : Nat} (ha : a < ts.length) (ho : opP add (symA ts a) ≠ 0) : a + 1 < ts.length := by
  refine sym_next h ha rfl (fun e => ho ?_)
  rw [e]
  cases add <;> decide
theorem par_some {ts : List Tk} (h : EndsT ts) : ∀ (f : Nat) (m : PM), atM m < ts.length → fuelM ts.length m ≤ f → ∃ R, par ts f m = some R ∧ GoodR ts m R := by
  intro f
  induction f with
  | zero =>
    intro m ha hf
    exfalso
    cases m <;> simp only [fuelM, atM] at hf ha
    all_goals (try split at hf)
    all_goals omega
  | succ f ih =>
    intro m ha hf
    cases m with
    | fac a d ns =>
      simp only [atM, fuelM] at ha hf
      simp only [par]
      split
      · exact ⟨_, rfl, fun r a' ns' e => by cases e⟩
      split
      · rename_i hs
        have h1 := sym_next h ha hs (by decide)
        obtain ⟨R, hR, hG⟩ := ih (.fac (a + 1) (d + 1) ns) h1 (by simp only [fuelM]; omega)
        rw [hR]
        cases R with
        | bad o => exact ⟨_, rfl, fun r a' ns' e => by cases e⟩
        | ok r a' ns' =>
          have hg := hG _ _ _ rfl
          simp only [atM] at hg
          refine ⟨_, rfl, fun r2 a2 ns2 e => ?_⟩
          obtain ⟨rfl, _⟩ := emit_ok e
          simp only [atM]
          omega
      split
      · rename_i hs
        have h1 := sym_next h ha hs (by decide)
        obtain ⟨R, hR, hG⟩ := ih (.bin true (a + 1) (d + 1) ns) h1 (by simp only [fuelM]; simp; omega)
        rw [hR]
        cases R with
        | bad o => exact ⟨_, rfl, fun r a' ns' e => by cases e⟩
        | ok r a' ns' =>
          have hg := hG _ _ _ rfl
          simp only [atM] at hg
          simp only
          split
          · rename_i hs2
            have h2 := sym_next h hg.1 hs2 (by decide)
            refine ⟨_, rfl, fun r2 a2 ns2 e => ?_⟩
            injection e with e1 e2 e3
            simp only [atM]
            omega
          · exact ⟨_, rfl, fun r a' ns' e => by cases e⟩
      split
      · rename_i hk
        have h1 := kind_next h ha (by rw [hk]; decide)
        refine ⟨_, rfl, fun r2 a2 ns2 e => ?_⟩
        obtain ⟨rfl, _⟩ := emit_ok e
        simp only [atM]
        omega
      split
      · rename_i hk
        have h1 := kind_next h ha (by rw [hk]; decide)
        split
        · rename_i hs
          have h2 := sym_next h h1 hs (by decide)
          split
          · rename_i hs2
            have h3 := sym_next h h2 hs2 (by decide)
            refine ⟨_, rfl, fun r2 a2 ns2 e => ?_⟩
            obtain ⟨rfl, _⟩ := emit_ok e
            simp only [atM]
            omega
          · obtain ⟨R, hR, hG⟩ := ih (.call (tkA ts a).2.1 [] (a + 2) (d + 1) ns) h2 (by simp only [fuelM]; omega)
            refine ⟨R, hR, fun r2 a2 ns2 e => ?_⟩
            have hg := hG _ _ _ e
            simp only [atM] at hg ⊢
            omega
        · refine ⟨_, rfl, fun r2 a2 ns2 e => ?_⟩
          obtain ⟨rfl, _⟩ := emit_ok e
          simp only [atM]
          omega
      · exact ⟨_, rfl, fun r a' ns' e => by cases e⟩
    | bin add a d ns =>
      simp only [atM, fuelM] at ha hf
      simp only [par]
      have hop : ∃ R, par ts f (if add = true then .bin false a d ns else .fac a d ns) = some R ∧ (∀ r a' ns', R = .ok r a' ns' → a' < ts.length ∧ a < a') := by
        cases add with
        | true =>
          obtain ⟨R, hR, hG⟩ := ih (.bin false a d ns) ha (by simp only [fuelM]; simp at hf ⊢; omega)
          exact ⟨R, hR, fun r a' ns' e => hG _ _ _ e⟩
        | false =>
          obtain ⟨R, hR, hG⟩ := ih (.fac a d ns) ha (by simp only [fuelM]; simp at hf ⊢; omega)
          exact ⟨R, hR, fun r a' ns' e => hG _ _ _ e⟩
      obtain ⟨R, hR, hG⟩ := hop
      rw [hR]
      cases R with
      | bad o => exact ⟨_, rfl, fun r a' ns' e => by cases e⟩
      | ok r a' ns' =>
        have hg := hG _ _ _ rfl
        obtain ⟨R2, hR2, hG2⟩ := ih (.chain add r a' d ns') hg.1 (by simp only [fuelM]; split at hf <;> omega)
        refine ⟨R2, hR2, fun r2 a2 ns2 e => ?_⟩
        have hg2 := hG2 _ _ _ e
        simp only [atM] at hg2 ⊢
        omega
    | chain add l a d ns =>
      simp only [atM, fuelM] at ha hf
      simp only [par]
      split
      · refine ⟨_, rfl, fun r2 a2 ns2 e => ?_⟩
        injection e with e1 e2 e3
        simp only
        omega
      · rename_i ho
        have h1 := op_next h ha ho
        have hop : ∃ R, par ts f (if add = true then .bin false (a + 1) d ns else .fac (a + 1) d ns) = some R ∧ (∀ r a' ns', R = .ok r a' ns' → a' < ts.length ∧ a + 1 < a') := by
          cases add with
          | true =>
            obtain ⟨R, hR, hG⟩ := ih (.bin false (a + 1) d ns) h1 (by simp only [fuelM]; simp; omega)
            exact ⟨R, hR, fun r a' ns' e => hG _ _ _ e⟩
          | false =>
            obtain ⟨R, hR, hG⟩ := ih (.fac (a + 1) d ns) h1 (by simp only [fuelM]; omega)
            exact ⟨R, hR, fun r a' ns' e => hG _ _ _ e⟩
        obtain ⟨R, hR, hG⟩ := hop
        rw [hR]
        cases R with
        | bad o => exact ⟨_, rfl, fun r a' ns' e => by cases e⟩
        | ok r a' ns' =>
          have hg := hG _ _ _ rfl
          simp only
          cases hem : emitP ts a' ns' (opP add (symA ts a), ⟨#[]⟩, 0, [(l : Int), (r : Int)]) with
          | bad o => exact ⟨_, rfl, fun r a' ns' e => by cases e⟩
          | ok r2 a2 ns2 =>
            obtain ⟨rfl, _⟩ := emit_ok hem
            obtain ⟨R2, hR2, hG2⟩ := ih (.chain add r2 a2 d ns2) hg.1 (by simp only [fuelM]; omega)
            refine ⟨R2, hR2, fun r3 a3 ns3 e => ?_⟩
            have hg2 := hG2 _ _ _ e
            simp only at hg2 ⊢
            omega
    | call nm args a d ns =>
      simp only [atM, fuelM] at ha hf
      simp only [par]
      split
      · exact ⟨_, rfl, fun r a' ns' e => by cases e⟩
      obtain ⟨R, hR, hG⟩ := ih (.bin true a d ns) ha (by simp only [fuelM]; simp; omega)
      rw [hR]
      cases R with
      | bad o => exact ⟨_, rfl, fun r a' ns' e => by cases e⟩
      | ok r a' ns' =>
        have hg := hG _ _ _ rfl
        simp only [atM] at hg
        simp only
        split
        · rename_i hs
          have h1 := sym_next h hg.1 hs (by decide)
          obtain ⟨R2, hR2, hG2⟩ := ih (.call nm (args ++ [(r : Int)]) (a' + 1) d ns') h1 (by simp only [fuelM]; omega)
          refine ⟨R2, hR2, fun r2 a2 ns2 e => ?_⟩
          have hg2 := hG2 _ _ _ e
          simp only [atM] at hg2 ⊢
          omega
        split
        · rename_i hs
          have h1 := sym_next h hg.1 hs (by decide)
          refine ⟨_, rfl, fun r2 a2 ns2 e => ?_⟩
          obtain ⟨rfl, _⟩ := emit_ok e
          simp only [atM]
          omega
        · exact ⟨_, rfl, fun r a' ns' e => by cases e⟩
theorem par_good {ts : List Tk} (h : EndsT ts) : ∀ (f : Nat) (m : PM) (R : PR), atM m < ts.length → par ts f m = some R → GoodR ts m R := by
  intro f
  induction f with
  | zero =>
    intro m R ha hp
    cases m <;> simp [par] at hp
  | succ f ih =>
    intro m R ha hp
    cases m with
    | fac a d ns =>
      simp only [atM] at ha
      simp only [par] at hp
      split at hp
      · injection hp with hp; subst hp
        exact fun r a' ns' e => by cases e
      split at hp
      · rename_i hs
        have h1 := sym_next h ha hs (by decide)
        cases hR : par ts f (.fac (a + 1) (d + 1) ns) with
        | none => rw [hR] at hp; cases hp
        | some R1 =>
          rw [hR] at hp
          have hG := ih (.fac (a + 1) (d + 1) ns) _ h1 hR
          cases R1 with
          | bad o => injection hp with hp; subst hp; exact fun r a' ns' e => by cases e
          | ok r a' ns' =>
            have hg := hG _ _ _ rfl
            simp only [atM] at hg
            injection hp with hp
            subst hp
            intro r2 a2 ns2 e
            obtain ⟨rfl, _⟩ := emit_ok e
            simp only [atM]
            omega
      split at hp
      · rename_i hs
        have h1 := sym_next h ha hs (by decide)
        cases hR : par ts f (.bin true (a + 1) (d + 1) ns) with
        | none => rw [hR] at hp; cases hp
        | some R1 =>
          rw [hR] at hp
          have hG := ih (.bin true (a + 1) (d + 1) ns) _ h1 hR
          cases R1 with
          | bad o => injection hp with hp; subst hp; exact fun r a' ns' e => by cases e
          | ok r a' ns' =>
            have hg := hG _ _ _ rfl
            simp only [atM] at hg
            simp only at hp
            split at hp
            · rename_i hs2
              have h2 := sym_next h hg.1 hs2 (by decide)
              injection hp with hp
              subst hp
              intro r2 a2 ns2 e
              injection e with e1 e2 e3
              simp only [atM]
              omega
            · injection hp with hp; subst hp; exact fun r a' ns' e => by cases e
      split at hp
      · rename_i hk
        have h1 := kind_next h ha (by rw [hk]; decide)
        injection hp with hp
        subst hp
        intro r2 a2 ns2 e
        obtain ⟨rfl, _⟩ := emit_ok e
        simp only [atM]
        omega
      split at hp
      · rename_i hk
        have h1 := kind_next h ha (by rw [hk]; decide)
        split at hp
        · rename_i hs
          have h2 := sym_next h h1 hs (by decide)
          split at hp
          · rename_i hs2
            have h3 := sym_next h h2 hs2 (by decide)
            injection hp with hp
            subst hp
            intro r2 a2 ns2 e
            obtain ⟨rfl, _⟩ := emit_ok e
            simp only [atM]
            omega
          · intro r2 a2 ns2 e
            have hg := ih (.call (tkA ts a).2.1 [] (a + 2) (d + 1) ns) _ h2 hp _ _ _ e
            simp only [atM] at hg ⊢
            omega
        · injection hp with hp
          subst hp
          intro r2 a2 ns2 e
          obtain ⟨rfl, _⟩ := emit_ok e
          simp only [atM]
          omega
      · injection hp with hp; subst hp; exact fun r a' ns' e => by cases e
    | bin add a d ns =>
      simp only [atM] at ha
      simp only [par] at hp
      have hop : ∀ R1, par ts f (if add = true then .bin false a d ns else .fac a d ns) = some R1 → ∀ r a' ns', R1 = .ok r a' ns' → a' < ts.length ∧ a < a' := by
        intro R1 hR r a' ns' e
        cases add with
        | true => exact ih (.bin false a d ns) _ ha hR _ _ _ e
        | false => exact ih (.fac a d ns) _ ha hR _ _ _ e
      cases hR : par ts f (if add = true then .bin false a d ns else .fac a d ns) with
      | none => rw [hR] at hp; cases hp
      | some R1 =>
        rw [hR] at hp
        cases R1 with
        | bad o => injection hp with hp; subst hp; exact fun r a' ns' e => by cases e
        | ok r a' ns' =>
          have hg := hop _ hR _ _ _ rfl
          intro r2 a2 ns2 e
          have hg2 := ih (.chain add r a' d ns') _ hg.1 hp _ _ _ e
          simp only [atM] at hg2 ⊢
          omega
    | chain add l a d ns =>
      simp only [atM] at ha
      simp only [par] at hp
      split at hp
      · injection hp with hp
        subst hp
        intro r2 a2 ns2 e
        injection e with e1 e2 e3
        simp only
        omega
      · rename_i ho
        have h1 := op_next h ha ho
        have hop : ∀ R1, par ts f (if add = true then .bin false (a + 1) d ns else .fac (a + 1) d ns) = some R1 → ∀ r a' ns', R1 = .ok r a' ns' → a' < ts.length ∧ a + 1 < a' := by
          intro R1 hR r a' ns' e
          cases add with
          | true => exact ih (.bin false (a + 1) d ns) _ h1 hR _ _ _ e
          | false => exact ih (.fac (a + 1) d ns) _ h1 hR _ _ _ e
        cases hR : par ts f (if add = true then .bin false (a + 1) d ns else .fac (a + 1) d ns) with
        | none => rw [hR] at hp; cases hp
        | some R1 =>
          rw [hR] at hp
          cases R1 with
          | bad o => injection hp with hp; subst hp; exact fun r a' ns' e => by cases e
          | ok r a' ns' =>
            have hg := hop _ hR _ _ _ rfl
            simp only at hp
            cases hem : emitP ts a' ns' (opP add (symA ts a), ⟨#[]⟩, 0, [(l : Int), (r : Int)]) with
            | bad o =>
              rw [hem] at hp
              injection hp with hp
              subst hp
              exact fun r a' ns' e => by cases e
            | ok r2 a2 ns2 =>
              rw [hem] at hp
              obtain ⟨rfl, _⟩ := emit_ok hem
              intro r3 a3 ns3 e
              have hg2 := ih (.chain add r2 a2 d ns2) _ hg.1 hp _ _ _ e
              simp only at hg2 ⊢
              omega
    | call nm args a d ns =>
      simp only [atM] at ha
      simp only [par] at hp
      split at hp
      · injection hp with hp; subst hp; exact fun r a' ns' e => by cases e
      cases hR : par ts f (.bin true a d ns) with
      | none => rw [hR] at hp; cases hp
      | some R1 =>
        rw [hR] at hp
        have hG := ih (.bin true a d ns) _ ha hR
        cases R1 with
        | bad o => injection hp with hp; subst hp; exact fun r a' ns' e => by cases e
        | ok r a' ns' =>
          have hg := hG _ _ _ rfl
          simp only [atM] at hg
          simp only at hp
          split at hp
          · rename_i hs
            have h1 := sym_next h hg.1 hs (by decide)
            intro r2 a2 ns2 e
            have hg2 := ih (.call nm (args ++ [(r : Int)]) (a' + 1) d ns') _ h1 hp _ _ _ e
            simp only [atM] at hg2 ⊢
            omega
          split at hp
          · rename_i hs
            have h1 := sym_next h hg.1 hs (by decide)
            injection hp with hp
            subst hp
            intro r2 a2 ns2 e
            obtain ⟨rfl, _⟩ := emit_ok e
            simp only [atM]
            omega
          · injection hp with hp; subst hp; exact fun r a' ns' e => by cases e
end

section
open Go.RowKit

theorem Held.far4 {w W : World} {bs : List (Nat × List Value)} (h : Held w W bs) {g i j l m : Nat} (hg : w.heap.size ≤ g) (hne : ∀ p ∈ bs, p.1 ≠ g) (x y z u : Value) : Held w ((((W.setCell ⟨g, i, none⟩ x).setCell ⟨g, j, none⟩ y).setCell ⟨g, l, none⟩ z).setCell ⟨g, m, none⟩ u) bs :=
  (h.far3 hg hne x y z).far hg hne u
theorem Mbox.new4 (w : World) (a b c d : Value) (t : TypeId) : Mbox (w.alloc (.cells #[a, b, c, d] t)) w.heap.size [a, b, c, d] := Mbox.new w #[a, b, c, d] t
theorem Mbox.put4 {w : World} {k : Nat} {p q r s : Value} (h : Mbox w k [p, q, r, s]) (a b c d : Value) : Mbox ((((w.setCell ⟨k, 0, none⟩ a).setCell ⟨k, 1, none⟩ b).setCell ⟨k, 2, none⟩ c).setCell ⟨k, 3, none⟩ d) k [a, b, c, d] :=
  (((h.put 0 a).put 1 b).put 2 c).put 3 d
theorem tkA_at {ts : List Tk} {a : Nat} (h : a < ts.length) : tkA ts a = ts[a] := by
  unfold tkA
  simp [h]

set_option maxHeartbeats 4000000 in
theorem sPeek_any (S c a : Nat) (A : Option Addr) (ts : List Tk) (x2 x3 x4 : Value) (w : World) (hM : Mbox w S [.slice A ts.length c, .int .i64 a, x2, x3, x4]) (hR : RowC 4 tkg w w.heap.size A ts) (ha : a < ts.length) :
    Calls Try.prog 53 #[.pointer (some ⟨S, 0, none⟩)] w fun e w' => e = .returned (.string (symA ts a)) ∧ Below w.heap.size w w' := by
  obtain ⟨b, o, rfl, hbl, hc⟩ := hR.at ha
  obtain ⟨t0, t1, t2, t3⟩ := tkg_at hc
  have htk := tkA_at ha
  obtain ⟨v, hv⟩ : ∃ v, v = ts[a] := ⟨_, rfl⟩
  rw [← hv] at t0 t1 t2 t3 htk
  obtain ⟨v0, v1, v2, v3⟩ := v
  dsimp only at t0 t1 t2 t3
  have HT : Held w w [(S, [.slice (some ⟨b, o, none⟩) ts.length c, .int .i64 a, x2, x3, x4])] := (Held.nil w).cons hM
  have HC : ∀ W', Held w W' [(S, [.slice (some ⟨b, o, none⟩) ts.length c, .int .i64 a, x2, x3, x4])] → W'.cell? ⟨S, 0, none⟩ = some (.slice (some ⟨b, o, none⟩) ts.length c) ∧ W'.cell? ⟨S, 1, none⟩ = some (.int .i64 a) ∧ W'.cell? ⟨b, o + a * 4, none⟩ = some (.int .i64 v0) ∧ W'.cell? ⟨b, o + a * 4 + 1, none⟩ = some (.string v1) ∧ W'.cell? ⟨b, o + a * 4 + 2, none⟩ = some (.int .i64 v2) ∧ W'.cell? ⟨b, o + a * 4 + 3, none⟩ = some (.int .i64 v3) := fun W' h =>
    ⟨(h.box 0).c 0, (h.box 0).c 1, (h.below.cell (p := ⟨b, o + a * 4, none⟩) hbl).trans t0, (h.below.cell (p := ⟨b, o + a * 4 + 1, none⟩) hbl).trans t1, (h.below.cell (p := ⟨b, o + a * 4 + 2, none⟩) hbl).trans t2, (h.below.cell (p := ⟨b, o + a * 4 + 3, none⟩) hbl).trans t3⟩
  have hlt' : (a : Int) < (ts.length : Int) := by omega
  have hge' : (0 : Int) ≤ (a : Int) := by omega
  have HTK := Lib.hid htk
  clear hR hc hv htk t0 t1 t2 t3 hM
  go_enter Try.func53, Try.ntmps53
  go_upto_region 1 with fail
  go_cut [3] (fun s wx => ∃ g : Nat, s = .pointer (some ⟨g, 0, none⟩) ∧ Mbox wx g [.int .i64 v0, .string v1, .int .i64 v2, .int .i64 v3] ∧ Held w wx [(S, [.slice (some ⟨b, o, none⟩) ts.length c, .int .i64 a, x2, x3, x4])])
  case first =>
    have hsz := HT.size
    go_region_held3 (fun W' => W'.cell? ⟨S, 0, none⟩ = some (.slice (some ⟨b, o, none⟩) ts.length c) ∧ W'.cell? ⟨S, 1, none⟩ = some (.int .i64 a) ∧ W'.cell? ⟨b, o + a * 4, none⟩ = some (.int .i64 v0) ∧ W'.cell? ⟨b, o + a * 4 + 1, none⟩ = some (.string v1) ∧ W'.cell? ⟨b, o + a * 4 + 2, none⟩ = some (.int .i64 v2) ∧ W'.cell? ⟨b, o + a * 4 + 3, none⟩ = some (.int .i64 v3))
      (first | (with_reducible exact HC _ HT) | (with_reducible exact HC _ HT.drew) | (with_reducible exact HC _ (HT.alloc _)) | (with_reducible exact HC _ (HT.alloc _).drew) | (with_reducible exact HC _ (HT.far4 (by omega) (by simp <;> omega) _ _ _ _)))
      (fail)
    all_goals (go_wp2_with fail; go_meet)
    all_goals (first | with_reducible exact ⟨_, rfl, Mbox.new4 _ _ _ _ _ _, HT.alloc _⟩ | with_reducible exact ⟨_, rfl, (Mbox.new4 _ _ _ _ _ _).drew, (HT.alloc _).drew⟩ | with_reducible exact ⟨_, rfl, Mbox.new4 _ _ _ _ _ _, HT.drew.alloc _⟩ | with_reducible exact ⟨_, rfl, (Mbox.new4 _ _ _ _ _ _).drew, (HT.drew.alloc _).drew⟩)
  case rest =>
    clear HC HT
    obtain ⟨g, rfl, HV, HT⟩ := hcut
    have m0 := HV.c 0
    have m1 := HV.c 1
    by_cases h3 : (v0 == 3) = true
    · have he : symA ts a = v1 := by
        unfold symA
        rw [HTK.out, if_pos (by simpa using h3)]
      have HE := Lib.hid he
      clear he
      go_wp2_with fail
      go_ret
      exact ⟨by rw [HE.out]; rfl, HT.below⟩
    · have h3 : (v0 == 3) = false := by simpa using h3
      have he : symA ts a = ⟨#[]⟩ := by
        unfold symA
        rw [HTK.out, if_neg (by simpa using h3)]
      have HE := Lib.hid he
      clear he
      go_wp2_with fail
      go_ret
      exact ⟨by rw [HE.out]; rfl, HT.below⟩

set_option maxHeartbeats 4000000 in
theorem sFail_any (S c a : Nat) (A : Option Addr) (ts : List Tk) (x2 x3 : Value) (w : World) (hM : Mbox w S [.slice A ts.length c, .int .i64 a, x2, x3, .int .i64 (-1)]) (hR : RowC 4 tkg w S A ts) (ha : a < ts.length) :
    Calls Try.prog 38 #[.pointer (some ⟨S, 0, none⟩)] w fun e w' => e = .returned (.int .i64 0) ∧ Turn (fun k => k = S) w w' ∧ Mbox w' S [.slice A ts.length c, .int .i64 a, x2, x3, .int .i64 (offA ts a)] := by
  obtain ⟨b, o, rfl, hbl, hc⟩ := hR.at ha
  obtain ⟨t0, t1, t2, t3⟩ := tkg_at hc
  have htk := tkA_at ha
  obtain ⟨v, hv⟩ : ∃ v, v = ts[a] := ⟨_, rfl⟩
  rw [← hv] at t0 t1 t2 t3 htk
  obtain ⟨v0, v1, v2, v3⟩ := v
  dsimp only at t0 t1 t2 t3
  have hne : S ≠ b := by omega
  have HTK : Hid (offA ts a = v3) := Lib.hid (by unfold offA; rw [htk])
  have hlt' : (a : Int) < (ts.length : Int) := by omega
  have hge' : (0 : Int) ≤ (a : Int) := by omega
  have c0 := hM.c 0
  have c1 := hM.c 1
  have c4 := hM.c 4
  have f4 := hM.f 4
  have HM := Lib.hid hM
  clear hR hc hv htk t0 t1 t2 hM c0 c1
  go_enter Try.func38, Try.ntmps38
  go_upto_region 2 with fail
  have HM := HM.out
  have K0 : w.cell? ⟨S, 0, none⟩ = some (.slice (some ⟨b, o, none⟩) ts.length c) ∧ w.cell? ⟨S, 1, none⟩ = some (.int .i64 a) ∧ w.cell? ⟨b, o + a * 4 + 3, none⟩ = some (.int .i64 v3) := ⟨HM.c 0, HM.c 1, t3⟩
  have K1 : w.drew.cell? ⟨S, 0, none⟩ = some (.slice (some ⟨b, o, none⟩) ts.length c) ∧ w.drew.cell? ⟨S, 1, none⟩ = some (.int .i64 a) ∧ w.drew.cell? ⟨b, o + a * 4 + 3, none⟩ = some (.int .i64 v3) := K0
  have K2 : ∀ v, (w.setCell ⟨S, 4, none⟩ v).cell? ⟨S, 0, none⟩ = some (.slice (some ⟨b, o, none⟩) ts.length c) ∧ (w.setCell ⟨S, 4, none⟩ v).cell? ⟨S, 1, none⟩ = some (.int .i64 a) ∧ (w.setCell ⟨S, 4, none⟩ v).cell? ⟨b, o + a * 4 + 3, none⟩ = some (.int .i64 v3) := fun v => ⟨(HM.put 4 v).c 0, (HM.put 4 v).c 1, (World.cell?_setCell_other w _ _ _ (by intro e; injection e with e; omega)).trans t3⟩
  have K3 : ∀ v, (w.setCell ⟨S, 4, none⟩ v).drew.cell? ⟨S, 0, none⟩ = some (.slice (some ⟨b, o, none⟩) ts.length c) ∧ (w.setCell ⟨S, 4, none⟩ v).drew.cell? ⟨S, 1, none⟩ = some (.int .i64 a) ∧ (w.setCell ⟨S, 4, none⟩ v).drew.cell? ⟨b, o + a * 4 + 3, none⟩ = some (.int .i64 v3) := K2
  have K4 : ∀ v, (w.drew.setCell ⟨S, 4, none⟩ v).cell? ⟨S, 0, none⟩ = some (.slice (some ⟨b, o, none⟩) ts.length c) ∧ (w.drew.setCell ⟨S, 4, none⟩ v).cell? ⟨S, 1, none⟩ = some (.int .i64 a) ∧ (w.drew.setCell ⟨S, 4, none⟩ v).cell? ⟨b, o + a * 4 + 3, none⟩ = some (.int .i64 v3) := K2
  go_region_held3 (fun W' => W'.cell? ⟨S, 0, none⟩ = some (.slice (some ⟨b, o, none⟩) ts.length c) ∧ W'.cell? ⟨S, 1, none⟩ = some (.int .i64 a) ∧ W'.cell? ⟨b, o + a * 4 + 3, none⟩ = some (.int .i64 v3))
    (first | (with_reducible exact K0) | (with_reducible exact K1) | (with_reducible exact K2 _) | (with_reducible exact K3 _) | (with_reducible exact K4 _))
    (fail)
  have hb := (Below.refl w.heap.size w).drew
  have ht := (Turn.refl (fun k => k = S) w).setCell (g := S) (i := 4) rfl (.int .i64 v3)
  have hm := HM.put 4 (.int .i64 v3)
  all_goals go_wp2
  all_goals go_ret
  all_goals (first | exact ⟨rfl, ht, by rw [HTK.out]; exact hm⟩ | exact ⟨rfl, ht.trans (Turn.of_later (Below.refl _ _).drew), by rw [HTK.out]; exact hm.drew⟩)

theorem str_beqQ (a b : ByteArray) : (a.toList == b.toList) = decide (a = b) := by
  by_cases h : a = b
  · subst h; simp
  · have : a.toList ≠ b.toList := fun e => h (by
      have := congrArg List.toArray e
      have e2 : a.data = b.data := by simpa [ByteArray.toList_eq] using this
      cases a; cases b; simpa using e2)
    simp [h, this]

set_option maxHeartbeats 4000000 in
theorem sExpect_yes (S c a : Nat) (A : Option Addr) (ts : List Tk) (x2 x3 : Value) (x : ByteArray) (w : World) (hM : Mbox w S [.slice A ts.length c, .int .i64 a, x2, x3, .int .i64 (-1)]) (hS : S < w.heap.size) (hR : RowC 4 tkg w S A ts) (ha : a < ts.length) (hl : ts.length ≤ 1099511627776) (hx : symA ts a = x) :
    Calls Try.prog 39 #[.pointer (some ⟨S, 0, none⟩), .string x] w fun e w' => e = .returned (.bool true) ∧ Turn (fun k => k = S) w w' ∧ Mbox w' S [.slice A ts.length c, .int .i64 ((a + 1 : Nat) : Int), x2, x3, .int .i64 (-1)] := by
  have HM := Lib.hid hM
  have HR := Lib.hid hR
  have hR0 : RowC 4 tkg w w.heap.size A ts := hR.more (by omega)
  have hcmp : ((symA ts a).toList == x.toList) = true := by rw [str_beqQ]; exact decide_eq_true hx
  have hp := sPeek_any S c a A ts x2 x3 (.int .i64 (-1)) w hM hR0 ha
  obtain ⟨y, hy⟩ : ∃ y, y = symA ts a := ⟨_, rfl⟩
  rw [← hy] at hcmp hp
  have HP := Lib.hid hp
  clear hM hR hR0 hp hx hy
  go_enter Try.func39, Try.ntmps39
  go_wp2_with fail
  refine HP.out.mono ?_
  rintro e w1 ⟨rfl, hb1⟩
  clear HP
  have hm1 : Mbox w1 S [.slice A ts.length c, .int .i64 a, x2, x3, .int .i64 (-1)] := HM.out.later hb1
  have c1 := hm1.c 1
  have f1 := hm1.f 1
  have hm := hm1.put 1 (.int .i64 ((a + 1 : Nat) : Int))
  have e1 : ((a + 1 : Nat) : Int) = (a : Int) + 1 := by omega
  rw [e1] at hm
  have ht := (Turn.of_later (S := fun k => k = S) hb1).setCell (g := S) (i := 1) rfl (.int .i64 ((a : Int) + 1))
  have HM2 := Lib.hid hm
  have HT2 := Lib.hid ht
  have HE := Lib.hid e1
  clear hm ht hb1 hm1 HM e1
  go_wp2
  go_ret
  exact ⟨rfl, HT2.out, by rw [HE.out]; exact HM2.out⟩

set_option maxHeartbeats 4000000 in
theorem sExpect_no (S c a : Nat) (A : Option Addr) (ts : List Tk) (x2 x3 : Value) (x : ByteArray) (w : World) (hM : Mbox w S [.slice A ts.length c, .int .i64 a, x2, x3, .int .i64 (-1)]) (hS : S < w.heap.size) (hR : RowC 4 tkg w S A ts) (ha : a < ts.length) (hx : symA ts a ≠ x) :
    Calls Try.prog 39 #[.pointer (some ⟨S, 0, none⟩), .string x] w fun e w' => e = .returned (.bool false) ∧ Turn (fun k => k = S) w w' ∧ Mbox w' S [.slice A ts.length c, .int .i64 a, x2, x3, .int .i64 (offA ts a)] := by
  have HM := Lib.hid hM
  have HR := Lib.hid hR
  have hR0 : RowC 4 tkg w w.heap.size A ts := hR.more (by omega)
  have hcmp : ((symA ts a).toList == x.toList) = false := by rw [str_beqQ]; exact decide_eq_false hx
  have hp := sPeek_any S c a A ts x2 x3 (.int .i64 (-1)) w hM hR0 ha
  obtain ⟨y, hy⟩ : ∃ y, y = symA ts a := ⟨_, rfl⟩
  rw [← hy] at hcmp hp
  have HP := Lib.hid hp
  clear hM hR hR0 hp hx hy
  go_enter Try.func39, Try.ntmps39
  go_wp2_with fail
  refine HP.out.mono ?_
  rintro e w1 ⟨rfl, hb1⟩
  clear HP
  have hm1 : Mbox w1 S [.slice A ts.length c, .int .i64 a, x2, x3, .int .i64 (-1)] := HM.out.later hb1
  have hr1 : RowC 4 tkg w1 S A ts := HR.out.below (hb1.mono (by omega))
  have HB1 := Lib.hid hb1
  clear hb1
  go_wp2_with fail
  refine (sFail_any S c a A ts x2 x3 w1 hm1 hr1 ha).mono ?_
  rintro e w2 ⟨rfl, ht2, hm2⟩
  have HM2 := Lib.hid hm2
  have HT2 := Lib.hid ((Turn.of_later (S := fun k => k = S) HB1.out).trans ht2)
  clear ht2 hm2 hm1 hr1
  go_wp2_with fail
  go_ret
  exact ⟨rfl, HT2.out, HM2.out⟩
end

section
open Go.RowKit

theorem turn_app {S n c : Nat} {NA : Option Addr} {w w' : World} (h : w.grownBy w' (Value.slice NA n c).ownBlock) : Turn (fun k => k = S ∨ blk NA = some k) w w' :=
  ⟨h.os, h.tape, h.output, h.size, fun k hk hn => h.block k hk (fun e => hn (.inr (blk_of e.symm)))⟩

set_option maxHeartbeats 4000000 in
theorem sEmit_ok (S base c a nc : Nat) (A NA : Option Addr) (ts : List Tk) (ps : List PN) (x3 : Value) (q : PN) (w : World) (hM : Mbox w S [.slice A ts.length c, .int .i64 a, .slice NA ps.length nc, x3, .int .i64 (-1)]) (hS : base ≤ w.heap.size ∧ S < w.heap.size) (ho : w.ownsRow base 44 4 (.slice NA ps.length nc) ps.length (ps.flatMap ng)) (hap : blk NA ≠ some S) (hn : ps.length ≤ 60) (hn2 : ps.length ≠ 60) :
    Calls Try.prog 69 #[.pointer (some ⟨S, 0, none⟩), .agg #[.int .i64 q.2.1, .string q.2.2.1, .int .i64 q.2.2.2.1, .slice q.1.1 q.2.2.2.2.length q.1.2]] w fun e w' => e = .returned (.int .i64 (ps.length : Nat)) ∧ ∃ (NA' : Option Addr) (nc' : Nat), Turn (fun k => k = S ∨ blk NA = some k) w w' ∧ Mbox w' S [.slice A ts.length c, .int .i64 a, .slice NA' (ps.length + 1 : Nat) nc', x3, .int .i64 (-1)] ∧ w'.ownsRow base 44 4 (.slice NA' (ps.length + 1) nc') (ps.length + 1) ((ps ++ [q]).flatMap ng) ∧ (blk NA' = blk NA ∨ ∃ k, blk NA' = some k ∧ w.heap.size ≤ k) := by
  obtain ⟨i9, hi9, hz90, hz91, hz92⟩ := info_parts infoNode
  have hne : ((ps.length : Int) == 60) = false := by simp; omega
  obtain ⟨W1, hW1⟩ : ∃ W, W = w.alloc (.cells #[.int .i64 q.2.1, .string q.2.2.1, .int .i64 q.2.2.2.1, .slice q.1.1 q.2.2.2.2.length q.1.2] 44) := ⟨_, rfl⟩
  have hB : Mbox W1 w.heap.size [.int .i64 q.2.1, .string q.2.2.1, .int .i64 q.2.2.2.1, .slice q.1.1 q.2.2.2.2.length q.1.2] := by rw [hW1]; exact Mbox.new w #[.int .i64 q.2.1, .string q.2.2.1, .int .i64 q.2.2.2.1, .slice q.1.1 q.2.2.2.2.length q.1.2] 44
  have hM1 : Mbox W1 S [.slice A ts.length c, .int .i64 a, .slice NA ps.length nc, x3, .int .i64 (-1)] := by rw [hW1]; exact hM.alloc _
  have hO1 : W1.ownsRow base 44 4 (.slice NA ps.length nc) ps.length (ps.flatMap ng) := by rw [hW1]; exact ho.alloc _
  have hsz : W1.heap.size = w.heap.size + 1 := by rw [hW1]; simp
  have hT : Turn (fun k => k = S ∨ blk NA = some k) w W1 := by rw [hW1]; exact Turn.of_later (by go_grown)
  have HT := Lib.hid hT
  have HSZ := Lib.hid hsz
  clear hM ho hT hsz
  go_enter Try.func69, Try.ntmps69
  go_upto_region 1 with fail
  rw [← hW1]
  clear hW1
  have k2 := hM1.c 2
  go_wp2_with fail
  go_upto_region 4 with fail
  have k2' := hM1.drew.c 2
  have k2o : ∀ o, (W1.alloc o).cell? ⟨S, 2, none⟩ = some (.slice NA ps.length nc) := fun o => (hM1.alloc o).c 2
  have b0 := hB.c 0
  have b1 := hB.c 1
  have b2 := hB.c 2
  have b3 := hB.c 3
  have b0' := hB.drew.c 0
  have b1' := hB.drew.c 1
  have b2' := hB.drew.c 2
  have b3' := hB.drew.c 3
  go_region_law (refine step_append_lies _ (by rfl) _ _ _ (by rfl) base 44 i9 _ 4 56 Try.underlying23 hi9 hz90 hz91 hz92 rfl (by omega) (.slice NA ps.length nc) ps.length _ (by rfl) (by first | with_reducible exact hO1.alloc _ | with_reducible exact (hO1.alloc _).drew) ⟨_, 0, none⟩ 1 1 [_, _, _, _] (by rfl) (by rfl) (World.news_of_block (cs := #[_, _, _, _]) (t := 44) (fr := (0, 0)) (heap_alloc_new _ _)) (by simp [Value.oneCell']) (by omega) (by unfold maxLen; omega) (by omega) (by have h1 := HSZ.out; simp; omega) _ rfl ?_; intro gg cap w5 hown5 hgrow hat hlt5; have hM5 : Mbox w5 S [.slice A ts.length c, .int .i64 a, .slice NA ps.length nc, x3, .int .i64 (-1)] := (hM1.alloc _).keep (fun hl => hgrow.block _ hl (fun c => hap (blk_of c.symm))); have k5 := hM5.c 2; have f5 := hM5.f 2)
  all_goals
    have hgS : gg ≠ S := by
      rcases hat with h | h
      · intro e
        exact hap (by rw [← e]; exact blk_of h)
      · intro e
        have h1 := HSZ.out
        simp at h
        omega
    have hnew : blk (some (⟨gg, 0, none⟩ : Addr)) = blk NA ∨ ∃ k, blk (some (⟨gg, 0, none⟩ : Addr)) = some k ∧ w.heap.size ≤ k := by
      rcases hat with h | h
      · exact .inl (blk_of h).symm
      · refine .inr ⟨gg, rfl, ?_⟩
        have h1 := HSZ.out
        simp at h
        omega
    have hT5 : Turn (fun k => k = S ∨ blk NA = some k) W1 w5 := Turn.trans (Turn.of_later (by go_grown)) (turn_app hgrow)
    have HF := Lib.hid ((HT.out.trans hT5).setCell (g := S) (i := 2) (.inl rfl) (.slice (some ⟨gg, 0, none⟩) (ps.length + 1) cap))
    have HM6 := Lib.hid (hM5.put 2 (.slice (some ⟨gg, 0, none⟩) (ps.length + 1) cap))
    have HO6 := Lib.hid (own_far1 hown5 (b := S) (i := 2) (by simp [Value.ownBlock]; exact hgS) (.slice (some ⟨gg, 0, none⟩) (ps.length + 1) cap))
    have HNW := Lib.hid hnew
    clear hgS hnew hT5 hown5 hgrow hat hlt5 hM5 k2 k2' k2o b0 b1 b2 b3 b0' b1' b2' b3' hB hM1 hO1 HT
    go_wp2_with fail
    go_ret
    exact ⟨retIP (by omega), some ⟨gg, 0, none⟩, cap, HF.out, HM6.out, by rw [List.flatMap_append]; simpa [ng] using HO6.out, HNW.out⟩

set_option maxHeartbeats 4000000 in
theorem sEmit_bad (S c a n nc : Nat) (A NA : Option Addr) (ts : List Tk) (x3 : Value) (q : PN) (w : World) (hM : Mbox w S [.slice A ts.length c, .int .i64 ((a + 1 : Nat) : Int), .slice NA n nc, x3, .int .i64 (-1)]) (hS : S < w.heap.size) (hR : RowC 4 tkg w S A ts) (ha : a < ts.length) (hl : ts.length ≤ 1099511627776) (hn : n = 60) :
    Calls Try.prog 69 #[.pointer (some ⟨S, 0, none⟩), .agg #[.int .i64 q.2.1, .string q.2.2.1, .int .i64 q.2.2.2.1, .slice q.1.1 q.2.2.2.2.length q.1.2]] w fun e w' => e = .returned (.int .i64 0) ∧ Turn (fun k => k = S) w w' ∧ Mbox w' S [.slice A ts.length c, .int .i64 a, .slice NA n nc, x3, .int .i64 (offA ts a)] := by
  subst hn
  obtain ⟨W1, hW1⟩ : ∃ W, W = w.alloc (.cells #[.int .i64 q.2.1, .string q.2.2.1, .int .i64 q.2.2.2.1, .slice q.1.1 q.2.2.2.2.length q.1.2] 44) := ⟨_, rfl⟩
  have hM1 : Mbox W1 S [.slice A ts.length c, .int .i64 ((a + 1 : Nat) : Int), .slice NA 60 nc, x3, .int .i64 (-1)] := by rw [hW1]; exact hM.alloc _
  have hR1 : RowC 4 tkg W1 S A ts := by rw [hW1]; exact hR.below (show Below S w _ by exact (Below.refl _ _).alloc (Nat.le_of_lt hS) _)
  have hT : Turn (fun k => k = S) w W1 := by rw [hW1]; exact Turn.of_later (by go_grown)
  have HT := Lib.hid hT
  have e1 : ((a + 1 : Nat) : Int) = (a : Int) + 1 := by omega
  rw [e1] at hM1
  have ha1 : (a : Int) + 1 ≤ 1099511627776 := by omega
  have ha0 : (0 : Int) ≤ (a : Int) := by omega
  clear hM hR hT e1
  go_enter Try.func69, Try.ntmps69
  go_upto_region 1 with fail
  rw [← hW1]
  clear hW1
  have k1 := hM1.c 1
  have k2 := hM1.c 2
  have f1 := hM1.f 1
  have hm2 := hM1.put 1 (.int .i64 a)
  have hr2 : RowC 4 tkg (W1.setCell ⟨S, 1, none⟩ (.int .i64 a)) S A ts := hR1.below ((Below.refl _ _).setCell (p := ⟨S, 1, none⟩) (Nat.le_refl _) _)
  have HF := Lib.hid (sFail_any S c a A ts (.slice NA 60 nc) x3 _ hm2 hr2 ha)
  have HT2 := Lib.hid (HT.out.setCell (g := S) (i := 1) rfl (.int .i64 a))
  clear hM1 hR1 hm2 hr2
  go_wp2_with fail
  refine HF.out.mono ?_
  rintro e w3 ⟨rfl, ht3, hm3⟩
  have HT3 := Lib.hid (HT2.out.trans ht3)
  have HM3 := Lib.hid hm3
  clear ht3 hm3 k1 k2 f1
  go_wp2_with fail
  go_ret
  exact ⟨rfl, HT3.out, HM3.out⟩
end

section
open Go.RowKit

/-- arguments that a call made: a row of its own, or none -/
def QO (base : Nat) (w : World) (a : Option Addr × Nat) (xs : List Int) : Prop := w.ownsRow base 3 1 (.slice a.1 xs.length a.2) xs.length (xs.map I64)
theorem qo_keep {base : Nat} {w w' : World} {a : Option Addr × Nat} {xs : List Int} (h : QO base w a xs) (hk : ∀ b, blk a.1 = some b → w'.heap[b]? = w.heap[b]?) : QO base w' a xs := own_keepN h (fun b hb => hk b (blk_of hb))
theorem qo_lt {base : Nat} {w : World} {a : Option Addr × Nat} {xs : List Int} (h : QO base w a xs) {b : Nat} (hb : blk a.1 = some b) : b < w.heap.size := (h.lt b (of_blk hb)).2
/-- the parser under way: its state in block S, its tokens below base, its nodes its own -/
structure PSt (w : World) (base S : Nat) (A : Option Addr) (c a : Nat) (ts : List Tk) (NA : Option Addr) (nc : Nat) (ps : List PN) (x3 : Value) : Prop where
  box : Mbox w S [.slice A ts.length c, .int .i64 a, .slice NA ps.length nc, x3, .int .i64 (-1)]
  low : base ≤ S
  lt : S < w.heap.size
  toks : RowC 4 tkg w base A ts
  nodes : NdG (QO base) w base NA nc ps
  apN : blk NA ≠ some S
  apA : ∀ i (h : i < ps.length), blk (ps[i]).1.1 ≠ some S
/-- only the state, and the nodes' row as it was, may have turned -/
abbrev TS (S : Nat) (NA : Option Addr) (k : Nat) : Prop := k = S ∨ blk NA = some k
def NewN (w : World) (NA NA' : Option Addr) : Prop := blk NA' = blk NA ∨ ∃ k, blk NA' = some k ∧ w.heap.size ≤ k
theorem turn_chain {S : Nat} {NA NA' : Option Addr} {w w1 w2 : World} (h1 : Turn (TS S NA) w w1) (hn : NewN w NA NA') (h2 : Turn (TS S NA') w1 w2) : Turn (TS S NA) w w2 :=
  ⟨h2.1.trans h1.1, h2.2.1.trans h1.2.1, h2.2.2.1.trans h1.2.2.1, Nat.le_trans h1.size h2.size, fun k hk hnk => (h2.block (Nat.lt_of_lt_of_le hk h1.size) (fun c => by
    rcases c with c | c
    · exact hnk (.inl c)
    · rcases hn with e | ⟨j, e, hj⟩
      · exact hnk (.inr (by rw [← e]; exact c))
      · rw [e] at c
        injection c with c
        omega)).trans (h1.block hk hnk)⟩
theorem newN_trans {w w1 : World} {NA NA' NA2 : Option Addr} (hs : w.heap.size ≤ w1.heap.size) (h : NewN w NA NA') (h2 : NewN w1 NA' NA2) : NewN w NA NA2 := by
  rcases h2 with e | ⟨j, e, hj⟩
  · rcases h with e2 | ⟨i, e2, hi⟩
    · exact .inl (e.trans e2)
    · exact .inr ⟨i, e.trans e2, hi⟩
  · exact .inr ⟨j, e, Nat.le_trans hs hj⟩
theorem newN_refl (w : World) (NA : Option Addr) : NewN w NA NA := .inl rfl
/-- the arguments of these nodes lie where those of the nodes before lay, or in new blocks -/
def FrA (w : World) (ps ps' : List PN) : Prop := ∀ p ∈ ps', ∀ b, blk p.1.1 = some b → w.heap.size ≤ b ∨ ∃ p0 ∈ ps, blk p0.1.1 = some b
theorem FrA.refl (w : World) (ps : List PN) : FrA w ps ps := fun p hp _ hb => .inr ⟨p, hp, hb⟩
theorem FrA.trans {w w1 : World} {ps ps1 ps2 : List PN} (h : FrA w ps ps1) (hs : w.heap.size ≤ w1.heap.size) (h2 : FrA w1 ps1 ps2) : FrA w ps ps2 := fun p hp b hb => by
  rcases h2 p hp b hb with e | ⟨p0, hp0, hb0⟩
  · exact .inl (Nat.le_trans hs e)
  · exact h p0 hp0 b hb0
theorem FrA.add {w : World} {ps ps1 : List PN} {q : PN} (h : FrA w ps ps1) (hq : ∀ b, blk q.1.1 = some b → w.heap.size ≤ b) : FrA w ps (ps1 ++ [q]) := fun p hp b hb => by
  rcases List.mem_append.1 hp with hp | hp
  · exact h p hp b hb
  · rw [List.mem_singleton] at hp
    rw [hp] at hb
    exact .inl (hq b hb)
section
variable {w w' : World} {base S : Nat} {A NA : Option Addr} {c a nc : Nat} {ts : List Tk} {ps : List PN} {x3 : Value}
/-- behind a call that leaves all that lay -/
theorem PSt.later (h : PSt w base S A c a ts NA nc ps x3) (hb : Below w.heap.size w w') : PSt w' base S A c a ts NA nc ps x3 where
  box := h.box.later hb
  low := h.low
  lt := Nat.lt_of_lt_of_le h.lt hb.size
  toks := h.toks.below (hb.mono (Nat.le_of_lt (Nat.lt_of_le_of_lt h.low h.lt)))
  nodes := ⟨own_keep' h.nodes.1 hb, fun i hi => ⟨qo_keep (h.nodes.2.1 i hi).1 (fun b hbk => hb.block b (qo_lt (h.nodes.2.1 i hi).1 hbk)), (h.nodes.2.1 i hi).2⟩, h.nodes.2.2⟩
  apN := h.apN
  apA := h.apA
/-- where only the state's block has turned -/
theorem PSt.turned {a' : Nat} (h : PSt w base S A c a ts NA nc ps x3) (ht : Turn (fun k => k = S) w w') (hb : Mbox w' S [.slice A ts.length c, .int .i64 a', .slice NA ps.length nc, x3, .int .i64 (-1)]) : PSt w' base S A c a' ts NA nc ps x3 where
  box := hb
  low := h.low
  lt := Nat.lt_of_lt_of_le h.lt ht.size
  toks := h.toks.below (ht.below (Nat.le_of_lt (Nat.lt_of_le_of_lt h.low h.lt)) (fun k e => by rw [e]; exact h.low))
  nodes := ⟨own_keepN h.nodes.1 (fun b hbk => ht.block (h.nodes.1.lt b hbk).2 (fun e => h.apN (by rw [← e]; exact blk_of hbk))), fun i hi => ⟨qo_keep (h.nodes.2.1 i hi).1 (fun b hbk => ht.block (qo_lt (h.nodes.2.1 i hi).1 hbk) (fun e => h.apA i hi (by rw [← e]; exact hbk))), (h.nodes.2.1 i hi).2⟩, h.nodes.2.2⟩
  apN := h.apN
  apA := h.apA
/-- a store into the state: the next token -/
theorem PSt.next {a' : Nat} (h : PSt w base S A c a ts NA nc ps x3) : PSt (w.setCell ⟨S, 1, none⟩ (.int .i64 a')) base S A c a' ts NA nc ps x3 :=
  h.turned ((Turn.refl (fun k => k = S) w).setCell (g := S) (i := 1) rfl _) (h.box.put 1 _)
end
/-- what a part of the parser leaves -/
def PPost (base S : Nat) (A : Option Addr) (c : Nat) (ts : List Tk) (NA : Option Addr) (ps : List PN) (x3 : Value) (R : PR) (w : World) (e : Ending) (w' : World) : Prop :=
  match R with
  | .bad o => (∃ v : Int, e = .returned (.int .i64 v)) ∧ 0 ≤ o ∧ Below base w w' ∧ S < w'.heap.size ∧ ∃ x1 x2, Mbox w' S [.slice A ts.length c, x1, x2, x3, .int .i64 o]
  | .ok r a' ns' => e = .returned (.int .i64 r) ∧ ∃ (NA' : Option Addr) (nc' : Nat) (ps' : List PN), ps'.map Prod.snd = ns' ∧ PSt w' base S A c a' ts NA' nc' ps' x3 ∧ Turn (TS S NA) w w' ∧ NewN w NA NA' ∧ ps'.length ≤ 60 ∧ FrA w ps ps'

theorem emit_any {base S c a nc : Nat} {A NA : Option Addr} {ts : List Tk} {ps : List PN} {x3 : Value} (q : PN) (w : World) (h : PSt w base S A c (a + 1) ts NA nc ps x3) (ha : a < ts.length) (hl : ts.length ≤ 1099511627776) (hoff : ∀ a, 0 ≤ offA ts a) (hn : ps.length ≤ 60)
    (hq : QO base w q.1 q.2.2.2.2) (hqN : Apart q.1.1 NA) (hqS : blk q.1.1 ≠ some S) (hqA : ∀ i (h : i < ps.length), Apart (ps[i]).1.1 q.1.1) :
    Calls Try.prog 69 #[.pointer (some ⟨S, 0, none⟩), .agg #[.int .i64 q.2.1, .string q.2.2.1, .int .i64 q.2.2.2.1, .slice q.1.1 q.2.2.2.2.length q.1.2]] w (PPost base S A c ts NA (ps ++ [q]) x3 (emitP ts (a + 1) (ps.map Prod.snd) q.2) w) := by
  unfold emitP
  rw [List.length_map]
  by_cases h60 : ps.length = 60
  · rw [if_pos h60]
    refine (sEmit_bad S c a ps.length nc A NA ts x3 q w h.box h.lt (h.toks.more h.low) ha hl h60).mono ?_
    rintro e w' ⟨rfl, ht, hm⟩
    exact ⟨⟨0, rfl⟩, hoff _, ht.below (Nat.le_of_lt (Nat.lt_of_le_of_lt h.low h.lt)) (fun k e => by rw [e]; exact h.low), Nat.lt_of_lt_of_le h.lt ht.size, _, _, hm⟩
  · rw [if_neg h60]
    refine (sEmit_ok S base c (a + 1) nc A NA ts ps x3 q w h.box ⟨Nat.le_of_lt (Nat.lt_of_le_of_lt h.low h.lt), h.lt⟩ h.nodes.1 h.apN hn h60).mono ?_
    rintro e w' ⟨rfl, NA', nc', ht, hm, ho, hnew⟩
    have hkq : ∀ (a' : Option Addr × Nat) (xs : List Int), QO base w a' xs → Apart a'.1 NA → blk a'.1 ≠ some S → QO base w' a' xs := fun a' xs hqo h1 h2 => qo_keep hqo (fun b hb => ht.block (qo_lt hqo hb) (fun c => by
      rcases c with c | c
      · exact h2 (by rw [← c]; exact hb)
      · exact h1 b hb c))
    have hkn : ∀ (a' : Option Addr × Nat) (xs : List Int), QO base w a' xs → Apart a'.1 NA → Apart a'.1 NA' := fun a' xs hqo h1 k hk he => by
      rcases hnew with e | ⟨j, e, hj⟩
      · exact h1 k hk (by rw [← e]; exact he)
      · rw [e] at he
        injection he with he
        have := qo_lt hqo hk
        omega
    refine ⟨rfl, NA', nc', ps ++ [q], by simp, ⟨by simpa using hm, h.low, Nat.lt_of_lt_of_le h.lt ht.size, h.toks.below (ht.below (Nat.le_of_lt (Nat.lt_of_le_of_lt h.low h.lt)) (fun k e => ?_)), ⟨by simpa using ho, fun i hi => ?_, fun i j hi hj hne => ?_⟩, ?_, fun i hi => ?_⟩, ht, hnew, by simp; omega, FrA.refl _ _⟩
    · rcases e with e | e
      · rw [e]; exact h.low
      · exact (h.nodes.1.lt k (of_blk e)).1
    · by_cases hi2 : i < ps.length
      · rw [List.getElem_append_left hi2]
        have := h.nodes.2.1 i hi2
        exact ⟨hkq _ _ this.1 this.2 (h.apA i hi2), hkn _ _ this.1 this.2⟩
      · have e : i = ps.length := by simp at hi; omega
        subst e
        rw [List.getElem_append_right (Nat.le_refl _)]
        simp only [Nat.sub_self, List.getElem_cons_zero]
        exact ⟨hkq _ _ hq hqN hqS, hkn _ _ hq hqN⟩
    · by_cases hi2 : i < ps.length
      · by_cases hj2 : j < ps.length
        · rw [List.getElem_append_left hi2, List.getElem_append_left hj2]
          exact h.nodes.2.2 i j hi2 hj2 hne
        · have e : j = ps.length := by simp at hj; omega
          subst e
          rw [List.getElem_append_left hi2, List.getElem_append_right (Nat.le_refl _)]
          simp only [Nat.sub_self, List.getElem_cons_zero]
          exact hqA i hi2
      · have e : i = ps.length := by simp at hi; omega
        subst e
        have hj2 : j < ps.length := by simp at hj; omega
        rw [List.getElem_append_left hj2, List.getElem_append_right (Nat.le_refl _)]
        simp only [Nat.sub_self, List.getElem_cons_zero]
        exact (hqA j hj2).symm
    · intro e2
      rcases hnew with e | ⟨j, e, hj⟩
      · exact h.apN (by rw [← e]; exact e2)
      · rw [e] at e2
        injection e2 with e2
        have := h.lt
        omega
    · by_cases hi2 : i < ps.length
      · rw [List.getElem_append_left hi2]
        exact h.apA i hi2
      · have e : i = ps.length := by simp at hi; omega
        subst e
        rw [List.getElem_append_right (Nat.le_refl _)]
        simp only [Nat.sub_self, List.getElem_cons_zero]
        exact hqS
end

section
open Go.RowKit

theorem str_is (x : ByteArray) (b : UInt8) : (x.toList == [b]) = decide (x = ⟨#[b]⟩) := by
  have h := str_beqQ x ⟨#[b]⟩
  rw [show (⟨#[b]⟩ : ByteArray).toList = [b] by rw [ByteArray.toList_eq]] at h
  exact h

set_option maxHeartbeats 4000000 in
theorem sOp_any (x : ByteArray) (add : Bool) (w : World) :
    Calls Try.prog 68 #[.string x, .bool add] w fun e w' => e = .returned (.int .i64 (opP add x)) ∧ w' = w := by
  cases add
  · by_cases h1 : x = ⟨#[42]⟩
    · have b1 : (x.toList == [42]) = true := by rw [str_is]; exact decide_eq_true h1
      have hv : opP false x = 6 := by unfold opP; simp [h1]
      rw [hv]
      clear hv h1
      go_enter Try.func68, Try.ntmps68
      go_wp2
      go_ret
      exact ⟨rfl, rfl⟩
    · have b1 : (x.toList == [42]) = false := by rw [str_is]; exact decide_eq_false h1
      by_cases h2 : x = ⟨#[47]⟩
      · have b2 : (x.toList == [47]) = true := by rw [str_is]; exact decide_eq_true h2
        have hv : opP false x = 7 := by unfold opP; simp [h2]
        rw [hv]
        clear hv h1 h2
        go_enter Try.func68, Try.ntmps68
        go_wp2
        go_ret
        exact ⟨rfl, rfl⟩
      · have b2 : (x.toList == [47]) = false := by rw [str_is]; exact decide_eq_false h2
        have hv : opP false x = 0 := by unfold opP; simp [h1, h2]
        rw [hv]
        clear hv h1 h2
        go_enter Try.func68, Try.ntmps68
        go_wp2
        go_ret
        exact ⟨rfl, rfl⟩
  · by_cases h1 : x = ⟨#[43]⟩
    · have b1 : (x.toList == [43]) = true := by rw [str_is]; exact decide_eq_true h1
      have hv : opP true x = 4 := by unfold opP; simp [h1]
      rw [hv]
      clear hv h1
      go_enter Try.func68, Try.ntmps68
      go_wp2
      go_ret
      exact ⟨rfl, rfl⟩
    · have b1 : (x.toList == [43]) = false := by rw [str_is]; exact decide_eq_false h1
      by_cases h2 : x = ⟨#[45]⟩
      · have b2 : (x.toList == [45]) = true := by rw [str_is]; exact decide_eq_true h2
        have hv : opP true x = 5 := by unfold opP; simp [h2]
        rw [hv]
        clear hv h1 h2
        go_enter Try.func68, Try.ntmps68
        go_wp2
        go_ret
        exact ⟨rfl, rfl⟩
      · have b2 : (x.toList == [45]) = false := by rw [str_is]; exact decide_eq_false h2
        have hv : opP true x = 0 := by unfold opP; simp [h1, h2]
        rw [hv]
        clear hv h1 h2
        go_enter Try.func68, Try.ntmps68
        go_wp2
        go_ret
        exact ⟨rfl, rfl⟩

/-- what holds of the tokens all along -/
structure TsOk (ts : List Tk) : Prop where
  ends : EndsT ts
  len : ts.length ≤ 1099511627776
  off : ∀ a, 0 ≤ offA ts a

def FacC (f : Nat) : Prop := ∀ (w : World) (base S c a d nc : Nat) (A NA : Option Addr) (ts : List Tk) (ps : List PN) (x3 : Value) (R : PR), TsOk ts → PSt w base S A c a ts NA nc ps x3 → ps.length ≤ 60 → a < ts.length → d ≤ 65 → par ts f (.fac a d (ps.map Prod.snd)) = some R →
  Calls Try.prog 82 #[.pointer (some ⟨S, 0, none⟩), .int .i64 (d : Nat)] w (PPost base S A c ts NA ps x3 R w)

def BinC (f : Nat) : Prop := ∀ (w : World) (base S c a d nc : Nat) (A NA : Option Addr) (ts : List Tk) (ps : List PN) (x3 : Value) (add : Bool) (R : PR), TsOk ts → PSt w base S A c a ts NA nc ps x3 → ps.length ≤ 60 → a < ts.length → d ≤ 65 → par ts f (.bin add a d (ps.map Prod.snd)) = some R →
  Calls Try.prog 54 #[.pointer (some ⟨S, 0, none⟩), .int .i64 (d : Nat), .bool add] w (PPost base S A c ts NA ps x3 R w)

def CallC (f : Nat) : Prop := ∀ (w : World) (base S c a d nc : Nat) (A NA : Option Addr) (ts : List Tk) (ps : List PN) (x3 : Value) (nm : ByteArray) (R : PR), TsOk ts → PSt w base S A c a ts NA nc ps x3 → ps.length ≤ 60 → a < ts.length → d ≤ 65 → (if symA ts a = ⟨#[41]⟩ then some (emitP ts (a + 1) (ps.map Prod.snd) (8, nm, 0, [])) else par ts f (.call nm [] a d (ps.map Prod.snd))) = some R →
  Calls Try.prog 89 #[.pointer (some ⟨S, 0, none⟩), .string nm, .int .i64 (d : Nat)] w (PPost base S A c ts NA ps x3 R w)

theorem sExpr_any {f : Nat} (ih : BinC f) (w : World) (base S c a d nc : Nat) (A NA : Option Addr) (ts : List Tk) (ps : List PN) (x3 : Value) (R : PR) (hT : TsOk ts) (h : PSt w base S A c a ts NA nc ps x3) (hn : ps.length ≤ 60) (ha : a < ts.length) (hd : d ≤ 65) (hp : par ts f (.bin true a d (ps.map Prod.snd)) = some R) :
    Calls Try.prog 40 #[.pointer (some ⟨S, 0, none⟩), .int .i64 (d : Nat)] w (PPost base S A c ts NA ps x3 R w) := by
  have hc := ih w base S c a d nc A NA ts ps x3 true R hT h hn ha hd hp
  clear h hp
  go_enter Try.func40, Try.ntmps40
  go_wp2_with fail
  refine hc.mono ?_
  rintro e w1 h1
  cases R with
  | bad o =>
    obtain ⟨⟨v, rfl⟩, h1⟩ := h1
    go_wp2_with fail
    go_ret
    exact ⟨⟨v, rfl⟩, h1⟩
  | ok r a' ns' =>
    obtain ⟨rfl, h1⟩ := h1
    go_wp2_with fail
    go_ret
    exact ⟨rfl, h1⟩

theorem sOperand_any {f : Nat} (ihf : FacC f) (ihb : BinC f) (w : World) (base S c a d nc : Nat) (A NA : Option Addr) (ts : List Tk) (ps : List PN) (x3 : Value) (add : Bool) (R : PR) (hT : TsOk ts) (h : PSt w base S A c a ts NA nc ps x3) (hn : ps.length ≤ 60) (ha : a < ts.length) (hd : d ≤ 65) (hp : par ts f (if add = true then .bin false a d (ps.map Prod.snd) else .fac a d (ps.map Prod.snd)) = some R) :
    Calls Try.prog 67 #[.pointer (some ⟨S, 0, none⟩), .int .i64 (d : Nat), .bool add] w (PPost base S A c ts NA ps x3 R w) := by
  cases add with
  | false =>
    have hc := ihf w base S c a d nc A NA ts ps x3 R hT h hn ha hd hp
    clear h hp
    go_enter Try.func67, Try.ntmps67
    go_wp2_with fail
    refine hc.mono ?_
    rintro e w1 h1
    cases R with
    | bad o =>
      obtain ⟨⟨v, rfl⟩, h1⟩ := h1
      go_wp2_with fail
      go_ret
      exact ⟨⟨v, rfl⟩, h1⟩
    | ok r a' ns' =>
      obtain ⟨rfl, h1⟩ := h1
      go_wp2_with fail
      go_ret
      exact ⟨rfl, h1⟩
  | true =>
    have hc := ihb w base S c a d nc A NA ts ps x3 false R hT h hn ha hd hp
    clear h hp
    go_enter Try.func67, Try.ntmps67
    go_wp2_with fail
    refine hc.mono ?_
    rintro e w1 h1
    cases R with
    | bad o =>
      obtain ⟨⟨v, rfl⟩, h1⟩ := h1
      go_wp2_with fail
      go_ret
      exact ⟨⟨v, rfl⟩, h1⟩
    | ok r a' ns' =>
      obtain ⟨rfl, h1⟩ := h1
      go_wp2_with fail
      go_ret
      exact ⟨rfl, h1⟩
end

section
open Go.RowKit

section
variable {w w1 w2 : World} {base S : Nat} {A NA NA' : Option Addr} {c a nc : Nat} {ts : List Tk} {ps : List PN} {x3 : Value}
theorem PSt.under (h : PSt w base S A c a ts NA nc ps x3) (ht : Turn (TS S NA) w w1) : Below base w w1 :=
  ht.below (Nat.le_of_lt (Nat.lt_of_le_of_lt h.low h.lt)) (fun k e => by
    rcases e with e | e
    · rw [e]; exact h.low
    · exact (h.nodes.1.lt k (of_blk e)).1)
theorem PPost.up {ps1 : List PN} {R : PR} {e : Ending} (hp : PPost base S A c ts NA' ps1 x3 R w1 e w2) (hb : Below base w w1) (ht : Turn (TS S NA) w w1) (hn : NewN w NA NA') (hf : FrA w ps ps1) : PPost base S A c ts NA ps x3 R w e w2 := by
  cases R with
  | bad o => exact ⟨hp.1, hp.2.1, hb.trans hp.2.2.1, hp.2.2.2⟩
  | ok r a' ns' =>
    obtain ⟨he, NA2, nc2, ps2, h1, h2, h3, h4, h5, h6⟩ := hp
    exact ⟨he, NA2, nc2, ps2, h1, h2, turn_chain ht hn h3, newN_trans ht.size hn h4, h5, hf.trans ht.size h6⟩
/-- a literal of integers beside the state: arguments for the next node -/
theorem PSt.lit (h : PSt w base S A c a ts NA nc ps x3) (xs : List Int) (cs : Array Value) (hc : cs.toList = xs.map I64) (hm : xs.length ≤ maxLen) :
    PSt (w.alloc (.cells cs 3)) base S A c a ts NA nc ps x3 ∧ QO base (w.alloc (.cells cs 3)) (some ⟨w.heap.size, 0, none⟩, xs.length) xs ∧ Apart (some ⟨w.heap.size, 0, none⟩) NA ∧ blk (some ⟨w.heap.size, 0, none⟩) ≠ some S ∧ ∀ i (hi : i < ps.length), Apart (ps[i]).1.1 (some ⟨w.heap.size, 0, none⟩) := by
  have hl : cs.size = xs.length := by
    have := congrArg List.length hc
    simpa using this
  refine ⟨h.later ((Below.refl _ _).alloc (Nat.le_refl _) _), ?_, fun k hk he => ?_, fun he => ?_, fun i hi k hk he => ?_⟩
  · have ho := World.ownsRow_lit w cs xs.length (e := 3) (size := 1) (base := base) (Nat.le_of_lt (Nat.lt_of_le_of_lt h.low h.lt)) hm (by rw [hl]; simp)
    unfold QO
    rw [← hc]
    exact ho
  · have e1 : w.heap.size = k := by injection hk
    have := (h.nodes.1.lt k (of_blk he)).2
    omega
  · have e1 : w.heap.size = S := by injection he
    have := h.lt
    omega
  · have e1 : w.heap.size = k := by injection he
    have := qo_lt (h.nodes.2.1 i hi).1 hk
    omega
theorem PSt.bare : QO base w (none, 0) [] ∧ Apart none NA ∧ blk none ≠ some S ∧ ∀ i (hi : i < ps.length), Apart (ps[i]).1.1 none := by
  exact ⟨World.ownsRow_nil _ _ _ _, (fun k hk => (by cases hk)), (fun he => (by cases he)), (fun i hi k hk he => (by cases he))⟩
end

set_option maxRecDepth 100000 in
set_option maxHeartbeats 8000000 in
theorem sFac_any {f : Nat} (ihf : FacC f) (ihb : BinC f) (ihc : CallC f) : FacC (f + 1) := by
  intro w base S c a d nc A NA ts ps x3 R hT h hn ha hd hp
  have hoff := hT.off
  have hlen := hT.len
  have hends := hT.ends
  simp only [par] at hp
  have IHF := Lib.hid ihf
  have IHB := Lib.hid ihb
  have IHC := Lib.hid ihc
  have HTS := Lib.hid hT
  clear ihf ihb ihc hT
  by_cases hd2 : 64 < d
  · rw [if_pos hd2] at hp
    injection hp with hp
    subst hp
    have hfl := sFail_any S c a A ts (.slice NA ps.length nc) x3 w h.box (h.toks.more h.low) ha
    have H := Lib.hid h
    have HOFF := Lib.hid hoff
    clear h hoff
    go_enter Try.func82, Try.ntmps82
    go_wp2_with fail
    refine hfl.mono ?_
    rintro e w1 ⟨rfl, ht, hm⟩
    go_wp2_with fail
    go_ret
    exact ⟨⟨0, rfl⟩, HOFF.out _, H.out.under (ht.mono fun k e => .inl e), Nat.lt_of_lt_of_le H.out.lt ht.size, _, _, hm⟩
  · rw [if_neg hd2] at hp
    have hRow := h.toks.more (Nat.le_of_lt (Nat.lt_of_le_of_lt h.low h.lt))
    obtain ⟨b, o, rfl, hbl, hc⟩ := hRow.at ha
    obtain ⟨t0, t1, t2, t3⟩ := tkg_at hc
    have htk := tkA_at ha
    obtain ⟨v, hv⟩ : ∃ v, v = ts[a] := ⟨_, rfl⟩
    rw [← hv] at t0 t1 t2 t3 htk
    obtain ⟨v0, v1, v2, v3⟩ := v
    dsimp only at t0 t1 t2 t3
    have HT : Held w w [(S, [.slice (some ⟨b, o, none⟩) ts.length c, .int .i64 a, .slice NA ps.length nc, x3, .int .i64 (-1)])] := (Held.nil w).cons h.box
    have HC : ∀ W', Held w W' [(S, [.slice (some ⟨b, o, none⟩) ts.length c, .int .i64 a, .slice NA ps.length nc, x3, .int .i64 (-1)])] → W'.cell? ⟨S, 0, none⟩ = some (.slice (some ⟨b, o, none⟩) ts.length c) ∧ W'.cell? ⟨S, 1, none⟩ = some (.int .i64 a) ∧ W'.cell? ⟨b, o + a * 4, none⟩ = some (.int .i64 v0) ∧ W'.cell? ⟨b, o + a * 4 + 1, none⟩ = some (.string v1) ∧ W'.cell? ⟨b, o + a * 4 + 2, none⟩ = some (.int .i64 v2) ∧ W'.cell? ⟨b, o + a * 4 + 3, none⟩ = some (.int .i64 v3) := fun W' h =>
      ⟨(h.box 0).c 0, (h.box 0).c 1, (h.below.cell (p := ⟨b, o + a * 4, none⟩) hbl).trans t0, (h.below.cell (p := ⟨b, o + a * 4 + 1, none⟩) hbl).trans t1, (h.below.cell (p := ⟨b, o + a * 4 + 2, none⟩) hbl).trans t2, (h.below.cell (p := ⟨b, o + a * 4 + 3, none⟩) hbl).trans t3⟩
    have hlt' : (a : Int) < (ts.length : Int) := by omega
    have hge' : (0 : Int) ≤ (a : Int) := by omega
    rw [htk] at hp
    dsimp only at hp
    obtain ⟨y, hy⟩ : ∃ y, y = symA ts a := ⟨_, rfl⟩
    rw [← hy] at hp
    have H0 := Lib.hid h
    have HP := Lib.hid hp
    have HTK := Lib.hid htk
    have HY := Lib.hid hy
    have HOFF := Lib.hid hoff
    have HEN := Lib.hid hends
    clear hRow hc hv htk t0 t1 t2 t3 h hp hy hoff hends
    go_enter Try.func82, Try.ntmps82
    go_upto_region 3 with fail
    go_cut [5] (fun s wx => ∃ g : Nat, s = .pointer (some ⟨g, 0, none⟩) ∧ Mbox wx g [.int .i64 v0, .string v1, .int .i64 v2, .int .i64 v3] ∧ Held w wx [(S, [.slice (some ⟨b, o, none⟩) ts.length c, .int .i64 a, .slice NA ps.length nc, x3, .int .i64 (-1)])])
    case first =>
      have hsz := HT.size
      go_region_held3 (fun W' => W'.cell? ⟨S, 0, none⟩ = some (.slice (some ⟨b, o, none⟩) ts.length c) ∧ W'.cell? ⟨S, 1, none⟩ = some (.int .i64 a) ∧ W'.cell? ⟨b, o + a * 4, none⟩ = some (.int .i64 v0) ∧ W'.cell? ⟨b, o + a * 4 + 1, none⟩ = some (.string v1) ∧ W'.cell? ⟨b, o + a * 4 + 2, none⟩ = some (.int .i64 v2) ∧ W'.cell? ⟨b, o + a * 4 + 3, none⟩ = some (.int .i64 v3))
        (first | (with_reducible exact HC _ HT) | (with_reducible exact HC _ HT.drew) | (with_reducible exact HC _ (HT.alloc _)) | (with_reducible exact HC _ (HT.alloc _).drew) | (with_reducible exact HC _ (HT.far4 (by omega) (by simp <;> omega) _ _ _ _)))
        (fail)
      all_goals (go_wp2_with fail; go_meet)
      all_goals (first | with_reducible exact ⟨_, rfl, Mbox.new4 _ _ _ _ _ _, HT.alloc _⟩ | with_reducible exact ⟨_, rfl, (Mbox.new4 _ _ _ _ _ _).drew, (HT.alloc _).drew⟩ | with_reducible exact ⟨_, rfl, Mbox.new4 _ _ _ _ _ _, HT.drew.alloc _⟩ | with_reducible exact ⟨_, rfl, (Mbox.new4 _ _ _ _ _ _).drew, (HT.drew.alloc _).drew⟩)
    case rest =>
      clear HC
      obtain ⟨g, rfl, HV, HTx⟩ := hcut
      have hst := H0.out.later HTx.below
      have hb0 := HTx.below
      have hT0 : Turn (TS S NA) w wc := Turn.of_later hb0
      clear HT HTx
      have hpk := sPeek_any S c a _ ts _ _ _ wc hst.box (hst.toks.more (Nat.le_of_lt (Nat.lt_of_le_of_lt hst.low hst.lt))) ha
      rw [← HY.out] at hpk
      have HS := Lib.hid hst
      have HB0 := Lib.hid hb0
      have HT0 := Lib.hid hT0
      have HPK := Lib.hid hpk
      clear hst hb0 hT0 hpk
      by_cases s1 : y = ⟨#[45]⟩
      · have b1 : (y.toList == [45]) = true := by rw [str_is]; exact decide_eq_true s1
        have h1 := sym_next HEN.out ha (HY.out.symm.trans s1) (by decide)
        have hp := HP.out
        rw [if_pos s1] at hp
        cases hR1 : par ts f (.fac (a + 1) (d + 1) (ps.map Prod.snd)) with
        | none => rw [hR1] at hp; cases hp
        | some R1 =>
          rw [hR1] at hp
          have hgood := par_good HEN.out f (.fac (a + 1) (d + 1) (ps.map Prod.snd)) _ h1 hR1
          have HPP := Lib.hid hp
          clear hp HP HY HTK HV s1
          go_wp2_with fail
          refine HPK.out.mono ?_
          rintro e w1 ⟨rfl, hb1⟩
          have hst1 := HS.out.later hb1
          have c1 := hst1.box.c 1
          have f1 := hst1.box.f 1
          have hnx := hst1.next (a' := a + 1)
          have e1 : ((a + 1 : Nat) : Int) = (a : Int) + 1 := by omega
          rw [e1] at hnx
          have hcl := IHF.out _ base S c (a + 1) (d + 1) nc _ NA ts ps x3 R1 HTS.out hnx hn h1 (by omega) hR1
          rw [show ((d + 1 : Nat) : Int) = (d : Int) + 1 by omega] at hcl
          have hT1 : Turn (TS S NA) w (w1.setCell ⟨S, 1, none⟩ (.int .i64 ((a : Int) + 1))) := (HT0.out.trans (Turn.of_later hb1)).setCell (g := S) (i := 1) (.inl rfl) _
          have HT1 := Lib.hid hT1
          have HCL := Lib.hid hcl
          have HE1 := Lib.hid e1
          have HGD := Lib.hid hgood
          have HSZ1 : Hid (base ≤ (w1.setCell ⟨S, 1, none⟩ (.int .i64 ((a : Int) + 1))).heap.size) := Lib.hid (Nat.le_of_lt (Nat.lt_of_le_of_lt hnx.low hnx.lt))
          clear hb1 hst1 hnx hcl hT1 HS HT0 HPK HB0 e1 hgood hR1 IHF IHB IHC
          go_wp2_with fail
          refine HCL.out.mono ?_
          rintro e w2 hpp
          clear HCL c1 f1
          cases R1 with
          | bad o1 =>
            obtain ⟨⟨v1, rfl⟩, hz0, hz1, hz2, x1, x2, hz3⟩ := hpp
            have c4 := hz3.c 4
            have hp2 := HPP.out
            injection hp2 with hp2
            subst hp2
            have HZ := Lib.hid (PPost.up (base := base) (S := S) (A := some ⟨b, o, none⟩) (c := c) (ts := ts) (NA := NA) (NA' := NA) (ps := ps) (ps1 := ps) (x3 := x3) (R := .bad o1) (e := .returned (.int .i64 0)) ⟨⟨0, rfl⟩, hz0, hz1, hz2, x1, x2, hz3⟩ (H0.out.under HT1.out) HT1.out (newN_refl w NA) (FrA.refl w ps))
            clear hz1 hz2 hz3
            go_wp2_with fail
            go_ret
            exact HZ.out
          | ok r1 a1 ns1 =>
            obtain ⟨rfl, NA1, nc1, ps1, hps1, hst2, ht2, hn2, hl2, hf2⟩ := hpp
            subst hps1
            have hg := HGD.out _ _ _ rfl
            simp only [atM] at hg
            obtain ⟨a2, rfl⟩ : ∃ a2, a1 = a2 + 1 := ⟨a1 - 1, by omega⟩
            have c4 := hst2.box.c 4
            have hlit := hst2.lit [(r1 : Int)] #[.int .i64 r1] rfl (by unfold maxLen; simp)
            have hem := emit_any ((some ⟨w2.heap.size, 0, none⟩, 1), (3, ⟨#[]⟩, 0, [(r1 : Int)])) _ hlit.1 (by omega) HTS.out.len HTS.out.off hl2 hlit.2.1 hlit.2.2.1 hlit.2.2.2.1 hlit.2.2.2.2
            have hp2 := HPP.out
            injection hp2 with hp2
            have hT3 : Turn (TS S NA) w (w2.alloc (.cells #[.int .i64 r1] 3)) := (turn_chain HT1.out (newN_refl w NA) ht2).trans (Turn.of_later (by go_grown))
            have hn3 : NewN w NA NA1 := newN_trans HT1.out.size (newN_refl w NA) hn2
            have hfq : FrA w ps (ps1 ++ [((some ⟨w2.heap.size, 0, none⟩, 1), (3, ⟨#[]⟩, 0, [(r1 : Int)]))]) := (FrA.trans (FrA.refl w ps) HT1.out.size hf2).add (fun b hb => by
              have e : w2.heap.size = b := by injection hb
              rw [← e]
              exact Nat.le_trans HT1.out.size ht2.size)
            have HFQ := Lib.hid hfq
            clear hfq hf2
            have HT3 := Lib.hid hT3
            have HN3 := Lib.hid hn3
            have HEM := Lib.hid hem
            have HP2 := Lib.hid hp2
            clear hst2 ht2 hn2 hlit hem hp2 hT3 hn3 HT1 HPP hg
            go_wp2_with fail
            refine HEM.out.mono ?_
            rintro e w3 hpp
            have hpp := hpp.up (H0.out.under HT3.out) HT3.out HN3.out HFQ.out
            rw [HP2.out] at hpp
            clear HEM HT3 HN3 HP2 c4
            cases R with
            | bad o1 =>
              obtain ⟨⟨v1, rfl⟩, hz⟩ := hpp
              go_wp2_with fail
              go_ret
              exact ⟨⟨v1, rfl⟩, hz⟩
            | ok r1 a1 ns1 =>
              obtain ⟨rfl, hz⟩ := hpp
              go_wp2_with fail
              go_ret
              exact ⟨rfl, hz⟩
      · have b1 : (y.toList == [45]) = false := by rw [str_is]; exact decide_eq_false s1
        have hp := HP.out
        rw [if_neg s1] at hp
        have HP1 := Lib.hid hp
        clear hp HP s1
        go_wp2_with fail
        refine HPK.out.mono ?_
        rintro e w1 ⟨rfl, hb1⟩
        have hst1 := HS.out.later hb1
        have hm1 := HV.later hb1
        have hpk2 := sPeek_any S c a _ ts _ _ _ w1 hst1.box (hst1.toks.more (Nat.le_of_lt (Nat.lt_of_le_of_lt hst1.low hst1.lt))) ha
        rw [← HY.out] at hpk2
        have HS1 := Lib.hid hst1
        have HT1 := Lib.hid (HT0.out.trans (Turn.of_later hb1))
        have HV1 := Lib.hid hm1
        have HPK2 := Lib.hid hpk2
        clear hb1 hst1 hm1 hpk2 HS HT0 HV HPK HB0
        by_cases s2 : y = ⟨#[40]⟩
        · have b2 : (y.toList == [40]) = true := by rw [str_is]; exact decide_eq_true s2
          have h1 := sym_next HEN.out ha (HY.out.symm.trans s2) (by decide)
          have hp := HP1.out
          rw [if_pos s2] at hp
          cases hR1 : par ts f (.bin true (a + 1) (d + 1) (ps.map Prod.snd)) with
          | none => rw [hR1] at hp; cases hp
          | some R1 =>
            rw [hR1] at hp
            have hgood := par_good HEN.out f (.bin true (a + 1) (d + 1) (ps.map Prod.snd)) _ h1 hR1
            have HPP := Lib.hid hp
            clear hp HP1 HY HTK HV1 s2
            go_wp2_with fail
            refine HPK2.out.mono ?_
            rintro e w2 ⟨rfl, hb2⟩
            have hst2 := HS1.out.later hb2
            have c1 := hst2.box.c 1
            have f1 := hst2.box.f 1
            have hnx := hst2.next (a' := a + 1)
            have e1 : ((a + 1 : Nat) : Int) = (a : Int) + 1 := by omega
            rw [e1] at hnx
            have hcl := sExpr_any IHB.out _ base S c (a + 1) (d + 1) nc _ NA ts ps x3 R1 HTS.out hnx hn h1 (by omega) hR1
            rw [show ((d + 1 : Nat) : Int) = (d : Int) + 1 by omega] at hcl
            have hT2 : Turn (TS S NA) w (w2.setCell ⟨S, 1, none⟩ (.int .i64 ((a : Int) + 1))) := (HT1.out.trans (Turn.of_later hb2)).setCell (g := S) (i := 1) (.inl rfl) _
            have HT2 := Lib.hid hT2
            have HCL := Lib.hid hcl
            have HGD := Lib.hid hgood
            clear hb2 hst2 hnx hcl hT2 HS1 HT1 HPK2 e1 hgood hR1 IHF IHB IHC
            go_wp2_with fail
            refine HCL.out.mono ?_
            rintro e w3 hpp
            clear HCL c1 f1
            cases R1 with
            | bad o1 =>
              obtain ⟨⟨v1, rfl⟩, hz0, hz1, hz2, x1, x2, hz3⟩ := hpp
              have c4 := hz3.c 4
              have hp2 := HPP.out
              injection hp2 with hp2
              subst hp2
              have HZ := Lib.hid (PPost.up (base := base) (S := S) (A := some ⟨b, o, none⟩) (c := c) (ts := ts) (NA := NA) (NA' := NA) (ps := ps) (ps1 := ps) (x3 := x3) (R := .bad o1) (e := .returned (.int .i64 0)) ⟨⟨0, rfl⟩, hz0, hz1, hz2, x1, x2, hz3⟩ (H0.out.under HT2.out) HT2.out (newN_refl w NA) (FrA.refl w ps))
              clear hz1 hz2 hz3
              go_wp2_with fail
              go_ret
              exact HZ.out
            | ok r1 a1 ns1 =>
              obtain ⟨rfl, NA1, nc1, ps1, hps1, hst3, ht3, hn3, hl3, hf3⟩ := hpp
              subst hps1
              have hg := HGD.out _ _ _ rfl
              have c4 := hst3.box.c 4
              have hT3 : Turn (TS S NA) w w3 := turn_chain HT2.out (newN_refl w NA) ht3
              have hn4 : NewN w NA NA1 := newN_trans HT2.out.size (newN_refl w NA) hn3
              have HT3 := Lib.hid hT3
              have HN3 := Lib.hid hn4
              have HF3 := Lib.hid (FrA.trans (FrA.refl w ps) HT2.out.size hf3)
              clear hf3
              clear ht3 hn3 hT3 hn4 HT2
              by_cases s3 : symA ts a1 = ⟨#[41]⟩
              · have hex := sExpect_yes S c a1 _ ts _ _ ⟨#[41]⟩ w3 hst3.box hst3.lt (hst3.toks.more hst3.low) hg.1 HTS.out.len s3
                have HS3 := Lib.hid hst3
                have HEX := Lib.hid hex
                have hp2 := HPP.out
                simp only [if_pos s3] at hp2
                injection hp2 with hp2
                have HP2 := Lib.hid hp2
                clear hst3 hex hp2 HPP s3 hg
                go_wp2_with fail
                refine HEX.out.mono ?_
                rintro e w4 ⟨rfl, ht4, hm4⟩
                have hst4 := HS3.out.turned ht4 hm4
                have HZ : Hid (PPost base S (some ⟨b, o, none⟩) c ts NA ps x3 R w (.returned (.int .i64 r1)) w4) := Lib.hid (by
                  rw [← HP2.out]
                  exact ⟨rfl, NA1, nc1, ps1, rfl, hst4, turn_chain HT3.out HN3.out (ht4.mono fun k e => .inl e), HN3.out, hl3, HF3.out⟩)
                clear hst4 ht4 hm4 HEX HS3 HT3 HN3 HP2
                go_wp2_with fail
                go_ret
                exact HZ.out
              · have hex := sExpect_no S c a1 _ ts _ _ ⟨#[41]⟩ w3 hst3.box hst3.lt (hst3.toks.more hst3.low) hg.1 s3
                have HS3 := Lib.hid hst3
                have HEX := Lib.hid hex
                have hp2 := HPP.out
                simp only [if_neg s3] at hp2
                injection hp2 with hp2
                have HP2 := Lib.hid hp2
                clear hst3 hex hp2 HPP s3 hg
                go_wp2_with fail
                refine HEX.out.mono ?_
                rintro e w4 ⟨rfl, ht4, hm4⟩
                have HZ : Hid (PPost base S (some ⟨b, o, none⟩) c ts NA ps x3 R w (.returned (.int .i64 0)) w4) := Lib.hid (by
                  rw [← HP2.out]
                  exact ⟨⟨0, rfl⟩, HOFF.out _, (H0.out.under HT3.out).trans ((HS3.out.under (ht4.mono fun k e => .inl e))), Nat.lt_of_lt_of_le HS3.out.lt ht4.size, _, _, hm4⟩)
                clear ht4 hm4 HEX HS3 HT3 HN3 HP2
                go_wp2_with fail
                go_ret
                exact HZ.out
        · have b2 : (y.toList == [40]) = false := by rw [str_is]; exact decide_eq_false s2
          have hp := HP1.out
          rw [if_neg s2] at hp
          have HP2 := Lib.hid hp
          clear hp HP1 s2
          go_wp2_with fail
          refine HPK2.out.mono ?_
          rintro e w2 ⟨rfl, hb2⟩
          have hst2 := HS1.out.later hb2
          have hm2 := HV1.out.later hb2
          have hgS : g ≠ S := by
            intro e
            subst e
            have q0 := hm2.c 0
            have q1 := hst2.box.c 0
            rw [q0] at q1
            cases q1
          have hTw : Turn (TS S NA) w w2 := HT1.out.trans (Turn.of_later hb2)
          have c1 := hst2.box.c 1
          have f1 := hst2.box.f 1
          have m0 := hm2.c 0
          have m1 := hm2.c 1
          have m2 := hm2.c 2
          have hnx := hst2.next (a' := a + 1)
          have e1 : ((a + 1 : Nat) : Int) = (a : Int) + 1 := by omega
          rw [e1] at hnx
          have hT2 : Turn (TS S NA) w (w2.setCell ⟨S, 1, none⟩ (.int .i64 ((a : Int) + 1))) := hTw.setCell (g := S) (i := 1) (.inl rfl) _
          have HS2 := Lib.hid hst2
          have HTW := Lib.hid hTw
          have HT2 := Lib.hid hT2
          have HNX := Lib.hid hnx
          have HE1 := Lib.hid e1
          have HV2 := Lib.hid hm2
          clear hb2 hst2 hm2 hTw hnx hT2 HS1 HT1 HV1 HPK2 e1
          by_cases k1 : v0 = 1
          · subst k1
            have hp := HP2.out
            rw [if_pos rfl] at hp
            injection hp with hp
            have hba := PSt.bare (w := w2.setCell ⟨S, 1, none⟩ (.int .i64 ((a : Int) + 1))) (base := base) (S := S) (NA := NA) (ps := ps)
            have hem := emit_any ((none, 0), (1, ⟨#[]⟩, v2, [])) _ HNX.out ha HTS.out.len HTS.out.off hn hba.1 hba.2.1 hba.2.2.1 hba.2.2.2
            have HEM := Lib.hid hem
            have HPE := Lib.hid hp
            clear hp hba hem HP2
            go_wp2_with fail
            refine HEM.out.mono ?_
            rintro e w3 hpp
            have hpp := hpp.up (H0.out.under HT2.out) HT2.out (newN_refl w NA) ((FrA.refl w ps).add (fun b hb => by cases hb))
            rw [HPE.out] at hpp
            clear HEM HPE HT2 HNX HS2 HV2 c1 f1 m0 m1 m2
            cases R with
            | bad o1 =>
              obtain ⟨⟨v1, rfl⟩, hz⟩ := hpp
              go_wp2_with fail
              go_ret
              exact ⟨⟨v1, rfl⟩, hz⟩
            | ok r1 a1 ns1 =>
              obtain ⟨rfl, hz⟩ := hpp
              go_wp2_with fail
              go_ret
              exact ⟨rfl, hz⟩
          · have k1' : (v0 == 1) = false := by simpa using k1
            have hp := HP2.out
            rw [if_neg k1] at hp
            by_cases k2 : v0 = 2
            · subst k2
              rw [if_pos rfl] at hp
              have h1 := kind_next HEN.out ha (by rw [HTK.out]; show (2 : Int) ≠ 0; decide)
              have hst3 := HNX.out
              have hpk3 := sPeek_any S c (a + 1) _ ts _ _ _ _ hst3.box (hst3.toks.more (Nat.le_of_lt (Nat.lt_of_le_of_lt hst3.low hst3.lt))) h1
              obtain ⟨z, hz⟩ : ∃ z, z = symA ts (a + 1) := ⟨_, rfl⟩
              rw [← hz] at hp hpk3
              have HPK3 := Lib.hid hpk3
              have HP3 := Lib.hid hp
              have HZ := Lib.hid hz
              clear hst3 hpk3 hp HP2 hz k1
              go_wp2_with fail
              refine HPK3.out.mono ?_
              rintro e w3 ⟨rfl, hb3⟩
              have hst3 := HNX.out.later hb3
              have hm3 := ((HV2.out.far (g := S) (i := 1) (fun e => hgS e) (.int .i64 ((a : Int) + 1))).later hb3)
              have hT3 : Turn (TS S NA) w w3 := HT2.out.trans (Turn.of_later hb3)
              clear c1 f1 m0 m1 m2 HPK3 HT2 HNX HS2 HV2
              have c1 := hst3.box.c 1
              have f1 := hst3.box.f 1
              have m1 := hm3.c 1
              rw [HE1.out] at c1
              by_cases s4 : z = ⟨#[40]⟩
              · have b4 : (z.toList == [40]) = true := by rw [str_is]; exact decide_eq_true s4
                have h2 := sym_next HEN.out h1 (HZ.out.symm.trans s4) (by decide)
                have hp := HP3.out
                rw [if_pos s4] at hp
                have hnx := hst3.next (a' := a + 2)
                have e2 : ((a + 2 : Nat) : Int) = (a : Int) + 1 + 1 := by omega
                rw [e2] at hnx
                have hcl := IHC.out _ base S c (a + 2) (d + 1) nc _ NA ts ps x3 v1 R HTS.out hnx hn h2 (by omega) hp
                rw [show ((d + 1 : Nat) : Int) = (d : Int) + 1 by omega] at hcl
                have hT4 : Turn (TS S NA) w (w3.setCell ⟨S, 1, none⟩ (.int .i64 ((a : Int) + 1 + 1))) := hT3.setCell (g := S) (i := 1) (.inl rfl) _
                have HT4 := Lib.hid hT4
                have HCL := Lib.hid hcl
                clear hp hnx e2 hcl hT4 hT3 hm3 hst3 HP3 HZ s4 hb3 IHF IHB IHC
                go_wp2_with fail
                refine HCL.out.mono ?_
                rintro e w4 hpp
                have hpp := hpp.up (H0.out.under HT4.out) HT4.out (newN_refl w NA) (FrA.refl w ps)
                clear HCL HT4 c1 f1 m1
                cases R with
                | bad o1 =>
                  obtain ⟨⟨v1, rfl⟩, hz⟩ := hpp
                  go_wp2_with fail
                  go_ret
                  exact ⟨⟨v1, rfl⟩, hz⟩
                | ok r1 a1 ns1 =>
                  obtain ⟨rfl, hz⟩ := hpp
                  go_wp2_with fail
                  go_ret
                  exact ⟨rfl, hz⟩
              · have b4 : (z.toList == [40]) = false := by rw [str_is]; exact decide_eq_false s4
                have hp := HP3.out
                rw [if_neg s4] at hp
                injection hp with hp
                have hba := PSt.bare (w := w3) (base := base) (S := S) (NA := NA) (ps := ps)
                have hem := emit_any ((none, 0), (2, v1, 0, [])) _ hst3 ha HTS.out.len HTS.out.off hn hba.1 hba.2.1 hba.2.2.1 hba.2.2.2
                have HEM := Lib.hid hem
                have HPE := Lib.hid hp
                have HT3 := Lib.hid hT3
                clear hp hba hem HP3 hst3 hT3 hm3 hb3 s4 HZ
                go_wp2_with fail
                refine HEM.out.mono ?_
                rintro e w4 hpp
                have hpp := hpp.up (H0.out.under HT3.out) HT3.out (newN_refl w NA) ((FrA.refl w ps).add (fun b hb => by cases hb))
                rw [HPE.out] at hpp
                clear HEM HPE HT3 c1 f1 m1
                cases R with
                | bad o1 =>
                  obtain ⟨⟨v1, rfl⟩, hz⟩ := hpp
                  go_wp2_with fail
                  go_ret
                  exact ⟨⟨v1, rfl⟩, hz⟩
                | ok r1 a1 ns1 =>
                  obtain ⟨rfl, hz⟩ := hpp
                  go_wp2_with fail
                  go_ret
                  exact ⟨rfl, hz⟩
            · have k2' : (v0 == 2) = false := by simpa using k2
              rw [if_neg k2] at hp
              injection hp with hp
              have hst3 := HS2.out
              have hfl := sFail_any S c a _ ts _ x3 w2 hst3.box (hst3.toks.more hst3.low) ha
              have HFL := Lib.hid hfl
              have HPE := Lib.hid hp
              clear hst3 hfl hp HP2 k1 k2
              go_wp2_with fail
              refine HFL.out.mono ?_
              rintro e w3 ⟨rfl, ht3, hm3⟩
              have HZ : Hid (PPost base S (some ⟨b, o, none⟩) c ts NA ps x3 R w (.returned (.int .i64 0)) w3) := Lib.hid (by
                rw [← HPE.out]
                exact ⟨⟨0, rfl⟩, HOFF.out _, (H0.out.under HTW.out).trans (HS2.out.under (ht3.mono fun k e => .inl e)), Nat.lt_of_lt_of_le HS2.out.lt ht3.size, _, _, hm3⟩)
              clear ht3 hm3 c1 f1 m0 m1 m2 HFL HPE HT2 HTW HNX HS2 HV2
              go_wp2_with fail
              go_ret
              exact HZ.out
end

section
open Go.RowKit

/-- what is left of a chain: 0 behind an error, else the tokens -/
def leftB (S n : Nat) (w : World) : Nat :=
  match w.cell? ⟨S, 4, none⟩, w.cell? ⟨S, 1, none⟩ with
  | some (.int _ b), some (.int _ q) => if 0 ≤ b then 0 else n + 1 - q.toNat
  | _, _ => 0
/-- a chain under way: well so far, or an error met -/
def BinInv (f base S : Nat) (A : Option Addr) (c d : Nat) (ts : List Tk) (NA : Option Addr) (ps : List PN) (x3 : Value) (add : Bool) (R : PR) (w : World) (v : Value) (wr : World) : Prop :=
  (∃ (f' l a : Nat) (NA' : Option Addr) (nc' : Nat) (ps' : List PN), f' ≤ f ∧ v = .int .i64 l ∧ par ts f' (.chain add l a d (ps'.map Prod.snd)) = some R ∧ PSt wr base S A c a ts NA' nc' ps' x3 ∧ Turn (TS S NA) w wr ∧ NewN w NA NA' ∧ ps'.length ≤ 60 ∧ a < ts.length ∧ FrA w ps ps') ∨
  (∃ (v1 o : Int) (x1 x2 : Value), v = .int .i64 v1 ∧ R = .bad o ∧ 0 ≤ o ∧ Below base w wr ∧ S < wr.heap.size ∧ Mbox wr S [.slice A ts.length c, x1, x2, x3, .int .i64 o])
theorem leftB_good {w : World} {base S : Nat} {A : Option Addr} {c a : Nat} {ts : List Tk} {NA : Option Addr} {nc : Nat} {ps : List PN} {x3 : Value} (h : PSt w base S A c a ts NA nc ps x3) : leftB S ts.length w = ts.length + 1 - a := by
  unfold leftB
  rw [h.box.c 4, h.box.c 1]
  simp
theorem leftB_bad {w : World} {S n : Nat} {x0 x1 x2 x3 : Value} {o : Int} (h : Mbox w S [x0, x1, x2, x3, .int .i64 o]) (ho : 0 ≤ o) : leftB S n w = 0 := by
  unfold leftB
  rw [h.c 4, h.c 1]
  cases x1 <;> simp [ho]

set_option maxRecDepth 100000 in
set_option maxHeartbeats 8000000 in
theorem sBin_any {f : Nat} (ihf : ∀ g, g ≤ f → FacC g) (ihb : ∀ g, g ≤ f → BinC g) : BinC (f + 1) := by
  intro w base S c a d nc A NA ts ps x3 add R hT h hn ha hd hp
  simp only [par] at hp
  have IHF := Lib.hid ihf
  have IHB := Lib.hid ihb
  have HTS := Lib.hid hT
  have H0 := Lib.hid h
  clear ihf ihb hT
  have hR1 : ∃ R1, par ts f (if add = true then .bin false a d (ps.map Prod.snd) else .fac a d (ps.map Prod.snd)) = some R1 := by
    cases e : par ts f (if add = true then .bin false a d (ps.map Prod.snd) else .fac a d (ps.map Prod.snd)) with
    | none => rw [e] at hp; cases hp
    | some R1 => exact ⟨R1, rfl⟩
  obtain ⟨R1, hR1⟩ := hR1
  rw [hR1] at hp
  have hcl := sOperand_any (IHF.out f (Nat.le_refl _)) (IHB.out f (Nat.le_refl _)) w base S c a d nc A NA ts ps x3 add R1 HTS.out h hn ha hd hR1
  have hgd : ∀ r a' ns', R1 = .ok r a' ns' → a' < ts.length := fun r a' ns' e => by
    cases add with
    | true => exact (par_good HTS.out.ends f (.bin false a d (ps.map Prod.snd)) _ ha hR1 _ _ _ e).1
    | false => exact (par_good HTS.out.ends f (.fac a d (ps.map Prod.snd)) _ ha hR1 _ _ _ e).1
  have HCL := Lib.hid hcl
  have HGD := Lib.hid hgd
  have HP := Lib.hid hp
  clear hcl hgd hp h hR1
  go_enter Try.func54, Try.ntmps54
  go_wp2_with fail
  refine HCL.out.mono ?_
  rintro e w1 hpp
  have hinv : ∃ v, e = .returned v ∧ BinInv f base S A c d ts NA ps x3 add R w v w1 := by
    cases R1 with
    | bad o1 =>
      obtain ⟨⟨v1, rfl⟩, hz0, hz1, hz2, x1, x2, hz3⟩ := hpp
      have hp2 := HP.out
      injection hp2 with hp2
      exact ⟨_, rfl, .inr ⟨v1, o1, x1, x2, rfl, hp2.symm, hz0, hz1, hz2, hz3⟩⟩
    | ok r1 a1 ns1 =>
      obtain ⟨rfl, NA1, nc1, ps1, hps1, hst1, ht1, hn1, hl1, hf1⟩ := hpp
      subst hps1
      exact ⟨_, rfl, .inl ⟨f, r1, a1, NA1, nc1, ps1, Nat.le_refl _, rfl, HP.out, hst1, ht1, hn1, hl1, HGD.out _ _ _ rfl, hf1⟩⟩
  obtain ⟨v0, rfl, hinv⟩ := hinv
  have HI := Lib.hid hinv
  clear hinv hpp HCL HGD HP
  go_wp2_with fail
  go_loopw [7] (fun v wr => BinInv f base S A c d ts NA ps x3 add R w v wr) (fun _ wr => leftB S ts.length wr)
  case atStart => exact HI.out
  case round =>
    clear HI
    rcases hrel with ⟨f', l, a', NA', nc', ps', hf, rfl, hpc, hst, ht, hnw, hl, ha', hfr⟩ | ⟨v1, o, x1, x2, rfl, rfl, ho, hb, hsz, hm⟩
    · cases f' with
      | zero => simp [par] at hpc
      | succ f' =>
      simp only [par] at hpc
      have c4 := hst.box.c 4
      have hpk := sPeek_any S c a' _ ts _ _ _ wr hst.box (hst.toks.more (Nat.le_of_lt (Nat.lt_of_le_of_lt hst.low hst.lt))) ha'
      obtain ⟨y, hy⟩ : ∃ y, y = symA ts a' := ⟨_, rfl⟩
      rw [← hy] at hpc hpk
      obtain ⟨q, hq⟩ : ∃ q, q = opP add y := ⟨_, rfl⟩
      have HPK := Lib.hid hpk
      have HST := Lib.hid hst
      have HT := Lib.hid ht
      have HNW := Lib.hid hnw
      have HPC := Lib.hid hpc
      have HY := Lib.hid hy
      have HQ := Lib.hid hq
      clear hpk hst ht hnw hpc hy hq
      go_wp2_with fail
      refine HPK.out.mono ?_
      rintro e w2 ⟨rfl, hb2⟩
      have HST2 := Lib.hid (HST.out.later hb2)
      have HT2 := Lib.hid (HT.out.trans (Turn.of_later hb2))
      clear hb2 HPK
      go_wp2_with fail
      refine (sOp_any y add _).mono ?_
      rintro e w3 ⟨rfl, rfl⟩
      rw [← HQ.out]
      by_cases hq0 : q = 0
      · have b0 : (q == 0) = true := by simpa using hq0
        have hpc := HPC.out
        rw [← HQ.out, if_pos hq0] at hpc
        injection hpc with hpc
        have HZ : Hid (PPost base S A c ts NA ps x3 R w (.returned (.int .i64 l)) w3) := Lib.hid (by
          rw [← hpc]
          exact ⟨rfl, NA', nc', ps', rfl, HST2.out, HT2.out, HNW.out, hl, hfr⟩)
        clear hpc HPC HST2 HT2 HST HT HNW c4 hq0
        go_wp2_with fail
        go_ret
        exact HZ.out
      · have b0 : (q == 0) = false := by simpa using hq0
        have hpc := HPC.out
        rw [← HQ.out, if_neg hq0] at hpc
        have h1 := op_next HTS.out.ends ha' (show opP add (symA ts a') ≠ 0 by rw [← HY.out, ← HQ.out]; exact hq0)
        have hR2 : ∃ R2, par ts f' (if add = true then .bin false (a' + 1) d (ps'.map Prod.snd) else .fac (a' + 1) d (ps'.map Prod.snd)) = some R2 := by
          cases e : par ts f' (if add = true then .bin false (a' + 1) d (ps'.map Prod.snd) else .fac (a' + 1) d (ps'.map Prod.snd)) with
          | none => rw [e] at hpc; cases hpc
          | some R2 => exact ⟨R2, rfl⟩
        obtain ⟨R2, hR2⟩ := hR2
        rw [hR2] at hpc
        have hgd : ∀ r a2 ns2, R2 = .ok r a2 ns2 → a2 < ts.length ∧ a' + 1 < a2 := fun r a2 ns2 e => by
          cases add with
          | true => exact par_good HTS.out.ends f' (.bin false (a' + 1) d (ps'.map Prod.snd)) _ h1 hR2 _ _ _ e
          | false => exact par_good HTS.out.ends f' (.fac (a' + 1) d (ps'.map Prod.snd)) _ h1 hR2 _ _ _ e
        have hst2 := HST2.out
        have c1 := hst2.box.c 1
        have f1 := hst2.box.f 1
        have hnx := hst2.next (a' := a' + 1)
        have e1 : ((a' + 1 : Nat) : Int) = (a' : Int) + 1 := by omega
        rw [e1] at hnx
        have hlb : (a' : Int) < 1099511627776 := by have := HTS.out.len; omega
        have hge : (0 : Int) ≤ (a' : Int) := by omega
        have hcl := sOperand_any (IHF.out f' (by omega)) (IHB.out f' (by omega)) _ base S c (a' + 1) d nc' A NA' ts ps' x3 add R2 HTS.out hnx hl h1 hd hR2
        have hT3 : Turn (TS S NA') w3 (w3.setCell ⟨S, 1, none⟩ (.int .i64 ((a' : Int) + 1))) := (Turn.refl _ w3).setCell (g := S) (i := 1) (.inl rfl) _
        have HT3 := Lib.hid (turn_chain HT2.out HNW.out hT3)
        have HCL := Lib.hid hcl
        have HGD := Lib.hid hgd
        have HPC2 := Lib.hid hpc
        clear hcl hgd hpc hR2 hnx e1 hst2 hT3 HPC c4 hq0
        go_wp2_with fail
        refine HCL.out.mono ?_
        rintro e w4 hpp
        clear HCL c1 f1
        cases R2 with
        | bad o1 =>
          obtain ⟨⟨v1, rfl⟩, hz0, hz1, hz2, x1, x2, hz3⟩ := hpp
          have c4 := hz3.c 4
          have hp2 := HPC2.out
          injection hp2 with hp2
          subst hp2
          have HZ := Lib.hid (PPost.up (base := base) (S := S) (A := A) (c := c) (ts := ts) (NA := NA) (NA' := NA) (ps := ps) (ps1 := ps) (x3 := x3) (R := .bad o1) (e := .returned (.int .i64 0)) ⟨⟨0, rfl⟩, hz0, hz1, hz2, x1, x2, hz3⟩ (H0.out.under HT3.out) HT3.out (newN_refl w NA) (FrA.refl w ps))
          clear hz1 hz2 hz3 HT3 HT2 HST2 HST HT
          go_wp2_with fail
          go_ret
          exact HZ.out
        | ok r1 a1 ns1 =>
          obtain ⟨rfl, NA1, nc1, ps1, hps1, hst4, ht4, hn4, hl4, hf4⟩ := hpp
          subst hps1
          have hg := HGD.out _ _ _ rfl
          obtain ⟨a2, rfl⟩ : ∃ a2, a1 = a2 + 1 := ⟨a1 - 1, by omega⟩
          have c4 := hst4.box.c 4
          have hlit := hst4.lit [(l : Int), (r1 : Int)] #[.int .i64 l, .int .i64 r1] rfl (by unfold maxLen; simp)
          have hem := emit_any ((some ⟨w4.heap.size, 0, none⟩, 2), (q, ⟨#[]⟩, 0, [(l : Int), (r1 : Int)])) _ hlit.1 (by omega) HTS.out.len HTS.out.off hl4 hlit.2.1 hlit.2.2.1 hlit.2.2.2.1 hlit.2.2.2.2
          have hn3 : NewN w NA NA1 := newN_trans HT3.out.size HNW.out hn4
          have hT4 : Turn (TS S NA) w (w4.alloc (.cells #[.int .i64 l, .int .i64 r1] 3)) := (turn_chain HT3.out HNW.out ht4).trans (Turn.of_later (by go_grown))
          have hfq : FrA w ps (ps1 ++ [((some ⟨w4.heap.size, 0, none⟩, 2), (q, ⟨#[]⟩, 0, [(l : Int), (r1 : Int)]))]) := (FrA.trans hfr HT3.out.size hf4).add (fun b hb => by
            have e : w4.heap.size = b := by injection hb
            rw [← e]
            exact Nat.le_trans HT3.out.size ht4.size)
          have HFQ := Lib.hid hfq
          clear hfq hf4
          have HT4 := Lib.hid hT4
          have HN3 := Lib.hid hn3
          have HEM := Lib.hid hem
          clear hst4 ht4 hn4 hlit hem hT4 hn3 HT3 HT2
          go_wp2_with fail
          refine HEM.out.mono ?_
          rintro e w5 hpp
          clear HEM c4
          have hlW : leftB S ts.length wr = ts.length + 1 - a' := leftB_good HST.out
          have hnext : ∃ v, e = .returned v ∧ BinInv f base S A c d ts NA ps x3 add R w v w5 ∧ leftB S ts.length w5 < leftB S ts.length wr := by
            have hpc := HPC2.out
            cases hem : emitP ts (a2 + 1) (ps1.map Prod.snd) (q, ⟨#[]⟩, 0, [(l : Int), (r1 : Int)]) with
            | bad o1 =>
              rw [hem] at hpc hpp
              injection hpc with hpc
              obtain ⟨⟨v1, rfl⟩, hz0, hz1, hz2, x1, x2, hz3⟩ := hpp
              exact ⟨_, rfl, .inr ⟨v1, o1, x1, x2, rfl, hpc.symm, hz0, (H0.out.under HT4.out).trans hz1, hz2, hz3⟩, by rw [leftB_bad hz3 hz0, hlW]; omega⟩
            | ok r2 a3 ns2 =>
              rw [hem] at hpc hpp
              obtain ⟨rfl, _⟩ := emit_ok hem
              obtain ⟨rfl, NA2, nc2, ps2, hps2, hst5, ht5, hn5, hl5, hf5⟩ := hpp
              subst hps2
              exact ⟨_, rfl, .inl ⟨f', r2, a2 + 1, NA2, nc2, ps2, by omega, rfl, hpc, hst5, turn_chain HT4.out HN3.out ht5, newN_trans HT4.out.size HN3.out hn5, hl5, hg.1, HFQ.out.trans HT4.out.size hf5⟩, by rw [leftB_good hst5, hlW]; omega⟩
          obtain ⟨v5, rfl, hbi, hms⟩ := hnext
          have HBI := Lib.hid hbi
          have HMS := Lib.hid hms
          clear hbi hms hlW hpp HT4 HN3 HPC2 HST2 HST HT
          go_wp2_with fail
          go_roundw
          case rel => exact HBI.out
          case measure => exact HMS.out
    · have c4 := hm.c 4
      have HZ : Hid (PPost base S A c ts NA ps x3 (.bad o) w (.returned (.int .i64 v1)) wr) := Lib.hid ⟨⟨v1, rfl⟩, ho, hb, hsz, _, _, hm⟩
      clear hm hb
      go_wp2_with fail
      go_ret
      exact HZ.out
end

section
open Go.RowKit
theorem wpList_app1_atP {P : Program} {ops : Array Oper} {rest : List Oper} {o : Oper} {a : Act} {Q : Exit → Act → World → Prop} (w : World) (hgd : o.guard = none) (s x : Operand) (t : TypeId)
    (ho : o.op = .call { callee := .builtin .append, args := #[s, x], argTypes := #[t, t] }) (base : Nat) (e : TypeId) (z : Value) (bytes : Nat)
    (ht : P.underlying t = some (.slice e)) (hinfo : (P.info? e).map (fun i => (i.zero, i.size, i.bytes)) = some (some z, 1, bytes)) (hzs : z.cells.size = 1)
    (v : Value) (n : Nat) (xs : List Value) (hs : a.eval s = v) (hown : w.ownsRow base e 1 v n xs) (g : Nat) (u : Value) (hx : a.eval x = .slice (some ⟨g, 0, none⟩) 1 1) (hc : w.cell? ⟨g, 0, none⟩ = some u) (hu : u.oneCell' = true)
    (h63 : n + 1 ≤ maxLen) (hbytes : (n + 1) * bytes ≤ 140737488355328) (hbase : base ≤ w.heap.size)
    (h : ∀ v' w', w'.ownsRow base e 1 v' (n + 1) (xs ++ [u]) → w.grownBy w' v.ownBlock → (v'.ownBlock = v.ownBlock ∨ v'.ownBlock = some w.heap.size) → wpList P ops Q rest (a.put o.dst v') w') : wpList P ops Q (o :: rest) a w := by
  obtain ⟨i0, hi, hz0, hz1, hz2⟩ := info_parts hinfo
  refine wpList_append_own_at _ hgd s x t ho base e i0 z 1 bytes ht hi hz0 hz1 hz2 hzs (by omega) v n xs hs hown ⟨g, 0, none⟩ 1 1 [u] hx rfl ?_ ?_ h63 hbytes hbase ?_
  · intro j y hj
    match j, hj with
    | 0, hj => simp at hj; subst hj; simpa [Addr.add] using hc
  · intro y hy; simp at hy; subst hy; exact hu
  · intro v' w' h1 h2 _ h4
    exact h v' w' h1 h2 h4

/-- the arguments of a call under way: a row of their own, apart from the state and the nodes -/
structure ArgS (w0 wr : World) (base S : Nat) (NA : Option Addr) (ps : List PN) (GA : Option Addr) (gc : Nat) (xs : List Int) : Prop where
  own : QO base wr (GA, gc) xs
  apN : Apart GA NA
  apS : blk GA ≠ some S
  apA : ∀ p ∈ ps, Apart p.1.1 GA
  new : ∀ b, blk GA = some b → w0.heap.size ≤ b
section
variable {w0 wr w' : World} {base S : Nat} {A NA NA' GA GA' : Option Addr} {ps ps' : List PN} {c a nc gc gc' : Nat} {xs : List Int} {ts : List Tk} {x3 : Value}
theorem ArgS.later (h : ArgS w0 wr base S NA ps GA gc xs) (hb : Below wr.heap.size wr w') : ArgS w0 w' base S NA ps GA gc xs :=
  ⟨qo_keep h.own (fun b hbk => hb.block b (qo_lt h.own hbk)), h.apN, h.apS, h.apA, h.new⟩
theorem ArgS.step (h : ArgS w0 wr base S NA ps GA gc xs) (ht : Turn (TS S NA) wr w') (hn : NewN wr NA NA') (hf : FrA wr ps ps') : ArgS w0 w' base S NA' ps' GA gc xs where
  own := qo_keep h.own (fun b hbk => ht.block (qo_lt h.own hbk) (fun c => by
    rcases c with c | c
    · exact h.apS (by rw [← c]; exact hbk)
    · exact h.apN b hbk c))
  apN := fun k hk he => by
    rcases hn with e | ⟨j, e, hj⟩
    · exact h.apN k hk (by rw [← e]; exact he)
    · rw [e] at he
      injection he with he
      have := qo_lt h.own hk
      omega
  apS := h.apS
  apA := fun p hp k hk he => by
    rcases hf p hp k hk with hge | ⟨p0, hp0, hb0⟩
    · have := qo_lt h.own he
      omega
    · exact h.apA p0 hp0 k hb0 he
  new := h.new
/-- where only the arguments' block has turned -/
theorem PSt.argT (h : PSt wr base S A c a ts NA nc ps x3) (hg : ArgS w0 wr base S NA ps GA gc xs) (ht : Turn (fun k => blk GA = some k) wr w') : PSt w' base S A c a ts NA nc ps x3 where
  box := h.box.keep fun _ => ht.block h.lt hg.apS
  low := h.low
  lt := Nat.lt_of_lt_of_le h.lt ht.size
  toks := h.toks.below (ht.below (Nat.le_of_lt (Nat.lt_of_le_of_lt h.low h.lt)) (fun k e => (hg.own.lt k (of_blk e)).1))
  nodes := ⟨own_keepN h.nodes.1 (fun b hbk => ht.block (h.nodes.1.lt b hbk).2 (fun e => hg.apN b e (blk_of hbk))), fun i hi => ⟨qo_keep (h.nodes.2.1 i hi).1 (fun b hbk => ht.block (qo_lt (h.nodes.2.1 i hi).1 hbk) (fun e => hg.apA _ (List.getElem_mem hi) b hbk e)), (h.nodes.2.1 i hi).2⟩, h.nodes.2.2⟩
  apN := h.apN
  apA := h.apA
theorem ArgS.app (h : ArgS w0 wr base S NA ps GA gc xs) (hst : PSt wr base S A c a ts NA nc ps x3) (hsz : w0.heap.size ≤ wr.heap.size) {r : Int} (ho : QO base w' (GA', gc') (xs ++ [r])) (hat : blk GA' = blk GA ∨ blk GA' = some wr.heap.size) : ArgS w0 w' base S NA ps GA' gc' (xs ++ [r]) where
  own := ho
  apN := fun k hk he => by
    rcases hat with e | e
    · exact h.apN k (by rw [← e]; exact hk) he
    · rw [e] at hk
      injection hk with hk
      have := (hst.nodes.1.lt k (of_blk he)).2
      omega
  apS := fun he => by
    rcases hat with e | e
    · exact h.apS (by rw [← e]; exact he)
    · rw [e] at he
      injection he with he
      have := hst.lt
      omega
  apA := fun p hp k hk he => by
    rcases hat with e | e
    · exact h.apA p hp k hk (by rw [← e]; exact he)
    · rw [e] at he
      injection he with he
      obtain ⟨i, hi, rfl⟩ := List.getElem_of_mem hp
      have := qo_lt (hst.nodes.2.1 i hi).1 hk
      omega
  new := fun b hb => by
    rcases hat with e | e
    · exact h.new b (by rw [← e]; exact hb)
    · rw [e] at hb
      injection hb with hb
      omega
theorem own_blk (A : Option Addr) (n c : Nat) : (Value.slice A n c).ownBlock = blk A := by cases A <;> rfl
theorem turn_argA {n c : Nat} {NA : Option Addr} {w w' : World} (h : w.grownBy w' (Value.slice NA n c).ownBlock) : Turn (fun k => blk NA = some k) w w' :=
  ⟨h.os, h.tape, h.output, h.size, fun k hk hn => h.block k hk (fun e => hn (blk_of e.symm))⟩
/-- blocks that are new do not count -/
theorem Turn.newer {T : Nat → Prop} {w w1 w2 : World} (h1 : Turn T w w1) (h2 : Turn (fun k => blk GA = some k) w1 w2) (hn : ∀ b, blk GA = some b → w.heap.size ≤ b) : Turn T w w2 :=
  ⟨h2.1.trans h1.1, h2.2.1.trans h1.2.1, h2.2.2.1.trans h1.2.2.1, Nat.le_trans h1.size h2.size, fun k hk hnk => (h2.block (Nat.lt_of_lt_of_le hk h1.size) (fun c => by
    have := hn k c
    omega)).trans (h1.block hk hnk)⟩
end

set_option maxRecDepth 100000 in
set_option maxHeartbeats 8000000 in
theorem sCall_any {f : Nat} (ihb : ∀ g, g < f → BinC g) : CallC f := by
  intro w base S c a d nc A NA ts ps x3 nm R hT h hn ha hd hp
  have hlit := h.lit [] #[] rfl (by unfold maxLen; simp)
  have hag : ArgS w (w.alloc (.cells #[] 3)) base S NA ps (some ⟨w.heap.size, 0, none⟩) 0 [] := ⟨hlit.2.1, hlit.2.2.1, hlit.2.2.2.1, fun p hp => by
    obtain ⟨i, hi, rfl⟩ := List.getElem_of_mem hp
    exact hlit.2.2.2.2 i hi, fun b hb => by
    have e : w.heap.size = b := by injection hb
    omega⟩
  have hst0 := hlit.1
  have hT0 : Turn (TS S NA) w (w.alloc (.cells #[] 3)) := Turn.of_later (by go_grown)
  have hpk := sPeek_any S c a _ ts _ _ _ _ hst0.box (hst0.toks.more (Nat.le_of_lt (Nat.lt_of_le_of_lt hst0.low hst0.lt))) ha
  have H0 := Lib.hid h
  have HTS := Lib.hid hT
  have IHB := Lib.hid ihb
  have HP := Lib.hid hp
  have HAG := Lib.hid hag
  have HST := Lib.hid hst0
  have HT0 := Lib.hid hT0
  have HPK := Lib.hid hpk
  clear h hT ihb hp hag hst0 hT0 hpk hlit
  go_enter Try.func89, Try.ntmps89
  go_wp2_with fail
  refine HPK.out.mono ?_
  rintro e w1 ⟨rfl, hb1⟩
  have HAG1 := Lib.hid (HAG.out.later hb1)
  have HST1 := Lib.hid (HST.out.later hb1)
  have HT1 := Lib.hid (HT0.out.trans (Turn.of_later hb1))
  clear hb1 HAG HST HT0 HPK
  by_cases sc : symA ts a = ⟨#[41]⟩
  · have hp := HP.out
    rw [if_pos sc] at hp
    injection hp with hp
    have b1 : ((symA ts a).toList == [41]) = true := by rw [str_is]; exact decide_eq_true sc
    have hst1 := HST1.out
    have HEX := Lib.hid (sExpect_yes S c a _ ts _ _ ⟨#[41]⟩ w1 hst1.box hst1.lt (hst1.toks.more hst1.low) ha HTS.out.len sc)
    have HP2 := Lib.hid hp
    clear hp hst1 sc HP
    go_wp2_with fail
    refine HEX.out.mono ?_
    rintro e w2 ⟨rfl, ht2, hm2⟩
    have hst2 := HST1.out.turned ht2 hm2
    have hag2 := HAG1.out.step (ht2.mono fun k e => .inl e) (newN_refl w1 NA) (FrA.refl w1 ps)
    have hem := emit_any ((some ⟨w.heap.size, 0, none⟩, 0), (8, nm, 0, [])) _ hst2 ha HTS.out.len HTS.out.off hn hag2.own hag2.apN hag2.apS (fun i hi => hag2.apA _ (List.getElem_mem hi))
    have hT2 : Turn (TS S NA) w w2 := HT1.out.trans (ht2.mono fun k e => .inl e)
    have HT2 := Lib.hid hT2
    have HEM := Lib.hid hem
    clear ht2 hm2 hst2 hag2 hem hT2 HEX HT1 HAG1 HST1 b1
    go_wp2_with fail
    refine HEM.out.mono ?_
    rintro e w3 hpp
    have hpp := hpp.up (H0.out.under HT2.out) HT2.out (newN_refl w NA) ((FrA.refl w ps).add (fun b hb => by
      have e : w.heap.size = b := by injection hb
      omega))
    rw [HP2.out] at hpp
    clear HEM HT2 HP2
    cases R with
    | bad o1 =>
      obtain ⟨⟨v1, rfl⟩, hz⟩ := hpp
      go_wp2_with fail
      go_ret
      exact ⟨⟨v1, rfl⟩, hz⟩
    | ok r1 a1 ns1 =>
      obtain ⟨rfl, hz⟩ := hpp
      go_wp2_with fail
      go_ret
      exact ⟨rfl, hz⟩
  · have hp := HP.out
    rw [if_neg sc] at hp
    have b1 : ((symA ts a).toList == [41]) = false := by rw [str_is]; exact decide_eq_false sc
    have HP1 := Lib.hid hp
    clear hp HP sc
    go_wp2_with fail
    go_loopw [7] (fun v wr => ∃ (f' a' : Nat) (NA' : Option Addr) (nc' : Nat) (ps' : List PN) (xs : List Int) (GA : Option Addr) (gc : Nat), f' ≤ f ∧ v = .slice GA xs.length gc ∧ par ts f' (.call nm xs a' d (ps'.map Prod.snd)) = some R ∧ PSt wr base S A c a' ts NA' nc' ps' x3 ∧ Turn (TS S NA) w wr ∧ NewN w NA NA' ∧ ps'.length ≤ 60 ∧ a' < ts.length ∧ FrA w ps ps' ∧ ArgS w wr base S NA' ps' GA gc xs ∧ xs.length ≤ 3) (fun _ wr => leftB S ts.length wr)
    case atStart => exact ⟨f, a, NA, nc, ps, [], some ⟨w.heap.size, 0, none⟩, 0, Nat.le_refl _, rfl, HP1.out, HST1.out, HT1.out, newN_refl w NA, hn, ha, FrA.refl w ps, HAG1.out, by simp⟩
    case round =>
      clear b1 HAG1 HST1 HT1 HP1
      obtain ⟨f', a', NA', nc', ps', xs, GA, gc, hf, rfl, hpc, hst, ht, hnw, hl, ha', hfr, hag, hxl⟩ := hrel
      cases f' with
      | zero => simp [par] at hpc
      | succ f' =>
      simp only [par] at hpc
      by_cases h3 : xs.length = 3
      · rw [if_pos h3] at hpc
        injection hpc with hpc
        subst hpc
        have b3 : ((xs.length : Int) == 3) = true := by simp; omega
        have hfl := sFail_any S c a' A ts (.slice NA' ps'.length nc') x3 wr hst.box (hst.toks.more hst.low) ha'
        have HST := Lib.hid hst
        have HT := Lib.hid ht
        have HFL := Lib.hid hfl
        clear hst ht hfl hag hfr hnw h3
        go_wp2_with fail
        refine HFL.out.mono ?_
        rintro e w2 ⟨rfl, ht2, hm2⟩
        have HZ : Hid (PPost base S A c ts NA ps x3 (.bad (offA ts a')) w (.returned (.int .i64 0)) w2) := Lib.hid ⟨⟨0, rfl⟩, HTS.out.off _, (H0.out.under HT.out).trans (HST.out.under (ht2.mono fun k e => .inl e)), Nat.lt_of_lt_of_le HST.out.lt ht2.size, _, _, hm2⟩
        clear ht2 hm2 HFL HST HT b3
        go_wp2_with fail
        go_ret
        exact HZ.out
      · rw [if_neg h3] at hpc
        have b3 : ((xs.length : Int) == 3) = false := by simp; omega
        have hR2 : ∃ R2, par ts f' (.bin true a' d (ps'.map Prod.snd)) = some R2 := by
          cases e : par ts f' (.bin true a' d (ps'.map Prod.snd)) with
          | none => rw [e] at hpc; cases hpc
          | some R2 => exact ⟨R2, rfl⟩
        obtain ⟨R2, hR2⟩ := hR2
        rw [hR2] at hpc
        have hgd := par_good HTS.out.ends f' (.bin true a' d (ps'.map Prod.snd)) _ ha' hR2
        have hcl := sExpr_any (IHB.out f' (by omega)) wr base S c a' d nc' A NA' ts ps' x3 R2 HTS.out hst hl ha' hd hR2
        have hlW : leftB S ts.length wr = ts.length + 1 - a' := leftB_good hst
        have HLW := Lib.hid hlW
        have HT := Lib.hid ht
        have HNW := Lib.hid hnw
        have HFR := Lib.hid hfr
        have HAG := Lib.hid hag
        have HGD := Lib.hid hgd
        have HCL := Lib.hid hcl
        have HPC := Lib.hid hpc
        clear hst ht hnw hfr hag hgd hcl hpc hR2 hlW
        go_wp2_with fail
        refine HCL.out.mono ?_
        rintro e w4 hpp
        clear HCL
        cases R2 with
        | bad o1 =>
          obtain ⟨⟨v1, rfl⟩, hz0, hz1, hz2, x1, x2, hz3⟩ := hpp
          have c4 := hz3.c 4
          have hp2 := HPC.out
          injection hp2 with hp2
          subst hp2
          have HZ : Hid (PPost base S A c ts NA ps x3 (.bad o1) w (.returned (.int .i64 0)) w4) := Lib.hid ⟨⟨0, rfl⟩, hz0, (H0.out.under HT.out).trans hz1, hz2, x1, x2, hz3⟩
          clear hz1 hz2 hz3 HT HNW HFR HAG HGD HPC HLW
          go_wp2_with fail
          go_ret
          exact HZ.out
        | ok r1 a1 ns1 =>
          obtain ⟨rfl, NA1, nc1, ps1, hps1, hst4, ht4, hn4, hl4, hf4⟩ := hpp
          subst hps1
          have hg := HGD.out _ _ _ rfl
          simp only [atM] at hg
          have hpc := HPC.out
          simp only at hpc
          have hag4 := HAG.out.step ht4 hn4 hf4
          have hT4 := turn_chain HT.out HNW.out ht4
          have hN4 := newN_trans HT.out.size HNW.out hn4
          have hF4 := FrA.trans HFR.out HT.out.size hf4
          have hbA : Below w4.heap.size w4 (w4.alloc (.cells #[.int .i64 (r1 : Nat)] 3)) := by go_grown
          have hst5 := hst4.later hbA
          have hag5 := hag4.later hbA
          have hT5 : Turn (TS S NA) w (w4.alloc (.cells #[.int .i64 (r1 : Nat)] 3)) := hT4.trans (Turn.of_later hbA)
          have c4 := hst4.box.c 4
          have c4' := hst5.box.c 4
          have HST5 := Lib.hid hst5
          have HAG5 := Lib.hid hag5
          have HT5 := Lib.hid hT5
          have HN4 := Lib.hid hN4
          have HF4 := Lib.hid hF4
          have HPC2 := Lib.hid hpc
          have hbs : base ≤ (w4.alloc (.cells #[.int .i64 (r1 : Nat)] 3)).heap.size := Nat.le_of_lt (Nat.lt_of_le_of_lt hst5.low hst5.lt)
          clear hst4 ht4 hn4 hf4 hag4 hT4 hN4 hF4 hbA hst5 hag5 hT5 hpc HPC HT HNW HFR HAG HGD
          go_wp2_with (at_builtin; refine wpList_app1_atP _ rfl _ _ 42 rfl base 3 (.int .i64 0) 8 Try.underlying42 infoInt rfl (.slice GA xs.length gc) xs.length (xs.map I64) (by rfl) HAG5.out.own w4.heap.size (.int .i64 (r1 : Nat)) (by rfl) (by first | rfl | simp) (by rfl) (by unfold maxLen; omega) (by omega) hbs ?_)
          intro v6 w6 ho6 hg6 hat6
          obtain ⟨GA6, gc6, rfl⟩ := own_shape ho6
          have ht6 := turn_argA hg6
          have hst6 := HST5.out.argT HAG5.out ht6
          have hag6 : ArgS w w6 base S NA1 ps1 GA6 gc6 (xs ++ [(r1 : Int)]) := HAG5.out.app HST5.out HT5.out.size (show w6.ownsRow base 3 1 (.slice GA6 (xs ++ [(r1 : Int)]).length gc6) (xs ++ [(r1 : Int)]).length ((xs ++ [(r1 : Int)]).map I64) by
            rw [List.length_append, List.map_append]; exact ho6) (by
            rw [own_blk, own_blk] at hat6
            simpa using hat6)
          have hT6 : Turn (TS S NA) w w6 := HT5.out.newer ht6 HAG5.out.new
          have HPK := Lib.hid (sPeek_any S c a1 _ ts _ _ _ w6 hst6.box (hst6.toks.more (Nat.le_of_lt (Nat.lt_of_le_of_lt hst6.low hst6.lt))) hg.1)
          have HST6 := Lib.hid hst6
          have HAG6 := Lib.hid hag6
          have HT6 := Lib.hid hT6
          have HG := Lib.hid hg
          have hx6 : (xs ++ [(r1 : Int)]).length = xs.length + 1 := by simp
          obtain ⟨zs, hzs⟩ : ∃ zs, zs = xs ++ [(r1 : Int)] := ⟨_, rfl⟩
          rw [← hzs] at HAG6 hx6
          have HZS := Lib.hid hzs
          have hx7 : zs.length ≤ 3 := by omega
          have hx8 : zs.length = xs.length + 1 := hx6
          rw [← hx8]
          have HX7 := Lib.hid hx7
          clear ho6 hg6 hat6 ht6 hst6 hag6 hT6 HST5 HAG5 HT5 hg c4 c4' hbs hzs b3 h3 hx6 hx7 hx8 hxl
          go_wp2_with fail
          refine HPK.out.mono ?_
          rintro e w7 ⟨rfl, hb7⟩
          have HST7 := Lib.hid (HST6.out.later hb7)
          have HAG7 := Lib.hid (HAG6.out.later hb7)
          have HT7 := Lib.hid (HT6.out.trans (Turn.of_later hb7))
          clear hb7 HST6 HAG6 HT6 HPK
          by_cases s2 : symA ts a1 = ⟨#[44]⟩
          · have b2 : ((symA ts a1).toList == [44]) = true := by rw [str_is]; exact decide_eq_true s2
            have hpc := HPC2.out
            rw [if_pos s2, ← HZS.out] at hpc
            have hnx1 := sym_next HTS.out.ends HG.out.1 s2 (by decide)
            have hst7 := HST7.out
            have c1 := hst7.box.c 1
            have f1 := hst7.box.f 1
            have hnx := hst7.next (a' := a1 + 1)
            have hag8 := HAG7.out.step ((Turn.refl (TS S NA1) w7).setCell (g := S) (i := 1) (.inl rfl) (.int .i64 ((a1 + 1 : Nat) : Int))) (newN_refl w7 NA1) (FrA.refl w7 ps1)
            have hT8 := HT7.out.trans (turn_chain (Turn.refl (TS S NA) w7) (newN_refl w7 NA) ((Turn.refl (TS S NA) w7).setCell (g := S) (i := 1) (.inl rfl) (.int .i64 ((a1 + 1 : Nat) : Int))))
            have hlb := leftB_good hnx
            have hrel : ∃ (f' a' : Nat) (NA' : Option Addr) (nc' : Nat) (ps' : List PN) (xs : List Int) (GA : Option Addr) (gc : Nat), f' ≤ f ∧ Value.slice GA6 zs.length gc6 = .slice GA xs.length gc ∧ par ts f' (.call nm xs a' d (ps'.map Prod.snd)) = some R ∧ PSt (w7.setCell ⟨S, 1, none⟩ (.int .i64 ((a1 + 1 : Nat) : Int))) base S A c a' ts NA' nc' ps' x3 ∧ Turn (TS S NA) w (w7.setCell ⟨S, 1, none⟩ (.int .i64 ((a1 + 1 : Nat) : Int))) ∧ NewN w NA NA' ∧ ps'.length ≤ 60 ∧ a' < ts.length ∧ FrA w ps ps' ∧ ArgS w (w7.setCell ⟨S, 1, none⟩ (.int .i64 ((a1 + 1 : Nat) : Int))) base S NA' ps' GA gc xs ∧ xs.length ≤ 3 :=
              ⟨f', a1 + 1, NA1, nc1, ps1, zs, GA6, gc6, by omega, rfl, hpc, hnx, hT8, HN4.out, hl4, hnx1, HF4.out, hag8, HX7.out⟩
            have hms : leftB S ts.length (w7.setCell ⟨S, 1, none⟩ (.int .i64 ((a1 + 1 : Nat) : Int))) < leftB S ts.length wr := by
              rw [hlb, HLW.out]
              have := HG.out
              omega
            have e1 : ((a1 + 1 : Nat) : Int) = (a1 : Int) + 1 := by omega
            rw [e1] at hrel hms
            have HREL := Lib.hid hrel
            have HMS := Lib.hid hms
            have hlb1 : (a1 : Int) < 1099511627776 := by have := HTS.out.len; have := HG.out.1; omega
            have hge1 : (0 : Int) ≤ (a1 : Int) := by omega
            clear hrel hms e1 hnx hag8 hT8 hlb hst7 hpc hnx1 HST7 HAG7 HT7 HPC2 s2
            go_wp2_with fail
            go_roundw
            case rel => exact HREL.out
            case measure => exact HMS.out
          · have b2 : ((symA ts a1).toList == [44]) = false := by rw [str_is]; exact decide_eq_false s2
            have hpc := HPC2.out
            rw [if_neg s2] at hpc
            have hst7 := HST7.out
            by_cases s3 : symA ts a1 = ⟨#[41]⟩
            · rw [if_pos s3, ← HZS.out] at hpc
              injection hpc with hpc
              have HEX := Lib.hid (sExpect_yes S c a1 _ ts _ _ ⟨#[41]⟩ w7 hst7.box hst7.lt (hst7.toks.more hst7.low) HG.out.1 HTS.out.len s3)
              have HP2 := Lib.hid hpc
              clear hpc hst7 s2 s3 HPC2
              go_wp2_with fail
              refine HEX.out.mono ?_
              rintro e w8 ⟨rfl, ht8, hm8⟩
              have hst8 := HST7.out.turned ht8 hm8
              have hag8 := HAG7.out.step (ht8.mono fun k e => .inl e) (newN_refl w7 NA1) (FrA.refl w7 ps1)
              have hem := emit_any ((GA6, gc6), (8, nm, 0, zs)) _ hst8 HG.out.1 HTS.out.len HTS.out.off hl4 hag8.own hag8.apN hag8.apS (fun i hi => hag8.apA _ (List.getElem_mem hi))
              have hT8 : Turn (TS S NA) w w8 := HT7.out.trans (ht8.mono fun k e => .inl e)
              have HFQ := Lib.hid (HF4.out.add (q := ((GA6, gc6), (8, nm, 0, zs))) hag8.new)
              have HT8 := Lib.hid hT8
              have HEM := Lib.hid hem
              clear ht8 hm8 hst8 hag8 hem hT8 HEX HT7 HAG7 HST7 b2
              go_wp2_with fail
              refine HEM.out.mono ?_
              rintro e w9 hpp
              have hpp := hpp.up (H0.out.under HT8.out) HT8.out HN4.out HFQ.out
              rw [HP2.out] at hpp
              clear HEM HT8 HP2 HFQ
              cases R with
              | bad o1 =>
                obtain ⟨⟨v1, rfl⟩, hz⟩ := hpp
                go_wp2_with fail
                go_ret
                exact ⟨⟨v1, rfl⟩, hz⟩
              | ok r1 a1 ns1 =>
                obtain ⟨rfl, hz⟩ := hpp
                go_wp2_with fail
                go_ret
                exact ⟨rfl, hz⟩
            · rw [if_neg s3] at hpc
              injection hpc with hpc
              subst hpc
              have HEX := Lib.hid (sExpect_no S c a1 _ ts _ _ ⟨#[41]⟩ w7 hst7.box hst7.lt (hst7.toks.more hst7.low) HG.out.1 s3)
              clear hst7 s2 s3 HPC2
              go_wp2_with fail
              refine HEX.out.mono ?_
              rintro e w8 ⟨rfl, ht8, hm8⟩
              have HZ : Hid (PPost base S A c ts NA ps x3 (.bad (offA ts a1)) w (.returned (.int .i64 0)) w8) := Lib.hid ⟨⟨0, rfl⟩, HTS.out.off _, (H0.out.under HT7.out).trans (HST7.out.under (ht8.mono fun k e => .inl e)), Nat.lt_of_lt_of_le HST7.out.lt ht8.size, _, _, hm8⟩
              clear ht8 hm8 HEX HT7 HST7 HAG7 b2
              go_wp2_with fail
              go_ret
              exact HZ.out

theorem fac_zero : FacC 0 := by
  intro w base S c a d nc A NA ts ps x3 R hT h hn ha hd hp
  simp [par] at hp
theorem bin_zero : BinC 0 := by
  intro w base S c a d nc A NA ts ps x3 add R hT h hn ha hd hp
  simp [par] at hp
/-- every part of the model's parser answers as the parser on values -/
theorem parts_any : ∀ f, ∀ g, g ≤ f → FacC g ∧ BinC g := by
  intro f
  induction f with
  | zero =>
    intro g hg
    obtain rfl : g = 0 := by omega
    exact ⟨fac_zero, bin_zero⟩
  | succ f ih =>
    intro g hg
    rcases Nat.lt_or_ge g (f + 1) with h | h
    · exact ih g (by omega)
    · obtain rfl : g = f + 1 := by omega
      have hc : CallC f := sCall_any fun g hg => (ih g (by omega)).2
      exact ⟨sFac_any (ih f (Nat.le_refl _)).1 (ih f (Nat.le_refl _)).2 hc, sBin_any (fun g hg => (ih g hg).1) (fun g hg => (ih g hg).2)⟩
end
end Go.Proofs.Ytlcnjiephbhdaaa
