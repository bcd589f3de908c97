/- The parser of the shading language as a function on values: tokens in, nodes out; nothing of the program. -/
import Derived.Test.YtkbdnjhgcoihhaaGreatDoorKS
import Derived.Test.YtkbdnjhgcoihhaaGreatDoorPg
namespace Go.Proofs.YtkbdnjhgcoihhaaGreatDoor

def tkA (ts : List Tk) (a : Nat) : Tk := ts.getD a (0, ByteArray.empty, 0, 0)
/-- the text of the symbol at a place; nothing where no symbol stands -/
def symA (ts : List Tk) (a : Nat) : ByteArray := if (tkA ts a).1 = 3 then (tkA ts a).2.1 else ⟨#[]⟩
def offA (ts : List Tk) (a : Nat) : Int := (tkA ts a).2.2.2
/-- what a part leaves: the offset of the error, or the node's index, the next token and the nodes -/
inductive PR where
  | bad (o : Int)
  | ok (r a : Nat) (ns : List Nd)
def emitP (ts : List Tk) (a : Nat) (ns : List Nd) (n : Nd) : PR := if ns.length = 60 then .bad (offA ts (a - 1)) else .ok ns.length a (ns ++ [n])
def opP (add : Bool) (x : ByteArray) : Int :=
  if add = true then (if x = ⟨#[43]⟩ then 4 else if x = ⟨#[45]⟩ then 5 else 0) else (if x = ⟨#[42]⟩ then 6 else if x = ⟨#[47]⟩ then 7 else 0)
/-- what is asked: a factor; a chain of operands; a chain behind its left operand; a call behind its bracket, some arguments read -/
inductive PM where
  | fac (a d : Nat) (ns : List Nd)
  | bin (add : Bool) (a d : Nat) (ns : List Nd)
  | chain (add : Bool) (l a d : Nat) (ns : List Nd)
  | call (nm : ByteArray) (args : List Int) (a d : Nat) (ns : List Nd)
def par (ts : List Tk) : Nat → PM → Option PR
  | 0, _ => none
  | f + 1, .fac a d ns =>
    if 64 < d then some (.bad (offA ts a))
    else if symA ts a = ⟨#[45]⟩ then
      match par ts f (.fac (a + 1) (d + 1) ns) with
      | some (.ok r a' ns') => some (emitP ts a' ns' (3, ⟨#[]⟩, 0, [(r : Int)]))
      | x => x
    else if symA ts a = ⟨#[40]⟩ then
      match par ts f (.bin true (a + 1) (d + 1) ns) with
      | some (.ok r a' ns') => if symA ts a' = ⟨#[41]⟩ then some (.ok r (a' + 1) ns') else some (.bad (offA ts a'))
      | x => x
    else if (tkA ts a).1 = 1 then some (emitP ts (a + 1) ns (1, ⟨#[]⟩, (tkA ts a).2.2.1, []))
    else if (tkA ts a).1 = 2 then
      if symA ts (a + 1) = ⟨#[40]⟩ then
        if symA ts (a + 2) = ⟨#[41]⟩ then some (emitP ts (a + 3) ns (8, (tkA ts a).2.1, 0, []))
        else par ts f (.call (tkA ts a).2.1 [] (a + 2) (d + 1) ns)
      else some (emitP ts (a + 1) ns (2, (tkA ts a).2.1, 0, []))
    else some (.bad (offA ts a))
  | f + 1, .bin add a d ns =>
    match par ts f (if add = true then .bin false a d ns else .fac a d ns) with
    | some (.ok r a' ns') => par ts f (.chain add r a' d ns')
    | x => x
  | f + 1, .chain add l a d ns =>
    if opP add (symA ts a) = 0 then some (.ok l a ns)
    else match par ts f (if add = true then .bin false (a + 1) d ns else .fac (a + 1) d ns) with
      | some (.ok r a' ns') =>
        match emitP ts a' ns' (opP add (symA ts a), ⟨#[]⟩, 0, [(l : Int), (r : Int)]) with
        | .ok r2 a2 ns2 => par ts f (.chain add r2 a2 d ns2)
        | .bad o => some (.bad o)
      | x => x
  | f + 1, .call nm args a d ns =>
    if args.length = 3 then some (.bad (offA ts a))
    else match par ts f (.bin true a d ns) with
      | some (.ok r a' ns') =>
        if symA ts a' = ⟨#[44]⟩ then par ts f (.call nm (args ++ [(r : Int)]) (a' + 1) d ns')
        else if symA ts a' = ⟨#[41]⟩ then some (emitP ts (a' + 1) ns' (8, nm, 0, args ++ [(r : Int)]))
        else some (.bad (offA ts a'))
      | x => x
/-- the tokens end with an end token -/
def EndsT (ts : List Tk) : Prop := 0 < ts.length ∧ (tkA ts (ts.length - 1)).1 = 0
theorem sym_next {ts : List Tk} (h : EndsT ts) {a : Nat} {x : ByteArray} (ha : a < ts.length) (hx : symA ts a = x) (h0 : x ≠ ⟨#[]⟩) : a + 1 < ts.length := by
  by_cases e : a = ts.length - 1
  · subst e
    unfold symA at hx
    rw [h.2, if_neg (by decide)] at hx
    exact absurd hx.symm h0
  · omega
theorem kind_next {ts : List Tk} (h : EndsT ts) {a : Nat} (ha : a < ts.length) (hx : (tkA ts a).1 ≠ 0) : a + 1 < ts.length := by
  by_cases e : a = ts.length - 1
  · subst e
    exact absurd h.2 hx
  · omega
def atM : PM → Nat
  | .fac a _ _ => a
  | .bin _ a _ _ => a
  | .chain _ _ a _ _ => a
  | .call _ _ a _ _ => a
def fuelM (n : Nat) : PM → Nat
  | .fac a _ _ => 4 * (n - a) + 1
  | .bin add a _ _ => 4 * (n - a) + (if add = true then 3 else 2)
  | .chain _ _ a _ _ => 4 * (n - a)
  | .call _ _ a _ _ => 4 * (n - a) + 4
/-- what is left where it went well: a token further on, nodes that were there still there -/
def GoodR (ts : List Tk) (m : PM) (R : PR) : Prop := ∀ r a' ns', R = .ok r a' ns' → a' < ts.length ∧ (match m with | .chain _ _ a _ _ => a ≤ a' | m => atM m < a')
theorem emit_ok {ts : List Tk} {a : Nat} {ns : List Nd} {n : Nd} {r a' : Nat} {ns' : List Nd} (h : emitP ts a ns n = .ok r a' ns') : a' = a ∧ ns.length ≠ 60 ∧ r = ns.length ∧ ns' = ns ++ [n] := by
  unfold emitP at h
  split at h
  · cases h
  · injection h with h1 h2 h3
    exact ⟨h2.symm, by assumption, h1.symm, h3.symm⟩
theorem op_next {ts : List Tk} (h : EndsT ts) {add : Bool} {a : Nat} (ha : a < ts.length) (ho : opP add (symA ts a) ≠ 0) : a + 1 < ts.length := by
  refine sym_next h ha rfl (fun e => ho ?_)
  rw [e]
  cases add <;> decide
theorem par_some {ts : List Tk} (h : EndsT ts) : ∀ (f : Nat) (m : PM), atM m < ts.length → fuelM ts.length m ≤ f → ∃ R, par ts f m = some R ∧ GoodR ts m R := by
  intro f
  induction f with
  | zero =>
    intro m ha hf
    exfalso
    cases m <;> simp only [fuelM, atM] at hf ha
    all_goals (try split at hf)
    all_goals omega
  | succ f ih =>
    intro m ha hf
    cases m with
    | fac a d ns =>
      simp only [atM, fuelM] at ha hf
      simp only [par]
      split
      · exact ⟨_, rfl, fun r a' ns' e => by cases e⟩
      split
      · rename_i hs
        have h1 := sym_next h ha hs (by decide)
        obtain ⟨R, hR, hG⟩ := ih (.fac (a + 1) (d + 1) ns) h1 (by simp only [fuelM]; omega)
        rw [hR]
        cases R with
        | bad o => exact ⟨_, rfl, fun r a' ns' e => by cases e⟩
        | ok r a' ns' =>
          have hg := hG _ _ _ rfl
          simp only [atM] at hg
          refine ⟨_, rfl, fun r2 a2 ns2 e => ?_⟩
          obtain ⟨rfl, _⟩ := emit_ok e
          simp only [atM]
          omega
      split
      · rename_i hs
        have h1 := sym_next h ha hs (by decide)
        obtain ⟨R, hR, hG⟩ := ih (.bin true (a + 1) (d + 1) ns) h1 (by simp only [fuelM]; simp; omega)
        rw [hR]
        cases R with
        | bad o => exact ⟨_, rfl, fun r a' ns' e => by cases e⟩
        | ok r a' ns' =>
          have hg := hG _ _ _ rfl
          simp only [atM] at hg
          simp only
          split
          · rename_i hs2
            have h2 := sym_next h hg.1 hs2 (by decide)
            refine ⟨_, rfl, fun r2 a2 ns2 e => ?_⟩
            injection e with e1 e2 e3
            simp only [atM]
            omega
          · exact ⟨_, rfl, fun r a' ns' e => by cases e⟩
      split
      · rename_i hk
        have h1 := kind_next h ha (by rw [hk]; decide)
        refine ⟨_, rfl, fun r2 a2 ns2 e => ?_⟩
        obtain ⟨rfl, _⟩ := emit_ok e
        simp only [atM]
        omega
      split
      · rename_i hk
        have h1 := kind_next h ha (by rw [hk]; decide)
        split
        · rename_i hs
          have h2 := sym_next h h1 hs (by decide)
          split
          · rename_i hs2
            have h3 := sym_next h h2 hs2 (by decide)
            refine ⟨_, rfl, fun r2 a2 ns2 e => ?_⟩
            obtain ⟨rfl, _⟩ := emit_ok e
            simp only [atM]
            omega
          · obtain ⟨R, hR, hG⟩ := ih (.call (tkA ts a).2.1 [] (a + 2) (d + 1) ns) h2 (by simp only [fuelM]; omega)
            refine ⟨R, hR, fun r2 a2 ns2 e => ?_⟩
            have hg := hG _ _ _ e
            simp only [atM] at hg ⊢
            omega
        · refine ⟨_, rfl, fun r2 a2 ns2 e => ?_⟩
          obtain ⟨rfl, _⟩ := emit_ok e
          simp only [atM]
          omega
      · exact ⟨_, rfl, fun r a' ns' e => by cases e⟩
    | bin add a d ns =>
      simp only [atM, fuelM] at ha hf
      simp only [par]
      have hop : ∃ R, par ts f (if add = true then .bin false a d ns else .fac a d ns) = some R ∧ (∀ r a' ns', R = .ok r a' ns' → a' < ts.length ∧ a < a') := by
        cases add with
        | true =>
          obtain ⟨R, hR, hG⟩ := ih (.bin false a d ns) ha (by simp only [fuelM]; simp at hf ⊢; omega)
          exact ⟨R, hR, fun r a' ns' e => hG _ _ _ e⟩
        | false =>
          obtain ⟨R, hR, hG⟩ := ih (.fac a d ns) ha (by simp only [fuelM]; simp at hf ⊢; omega)
          exact ⟨R, hR, fun r a' ns' e => hG _ _ _ e⟩
      obtain ⟨R, hR, hG⟩ := hop
      rw [hR]
      cases R with
      | bad o => exact ⟨_, rfl, fun r a' ns' e => by cases e⟩
      | ok r a' ns' =>
        have hg := hG _ _ _ rfl
        obtain ⟨R2, hR2, hG2⟩ := ih (.chain add r a' d ns') hg.1 (by simp only [fuelM]; split at hf <;> omega)
        refine ⟨R2, hR2, fun r2 a2 ns2 e => ?_⟩
        have hg2 := hG2 _ _ _ e
        simp only [atM] at hg2 ⊢
        omega
    | chain add l a d ns =>
      simp only [atM, fuelM] at ha hf
      simp only [par]
      split
      · refine ⟨_, rfl, fun r2 a2 ns2 e => ?_⟩
        injection e with e1 e2 e3
        simp only
        omega
      · rename_i ho
        have h1 := op_next h ha ho
        have hop : ∃ R, par ts f (if add = true then .bin false (a + 1) d ns else .fac (a + 1) d ns) = some R ∧ (∀ r a' ns', R = .ok r a' ns' → a' < ts.length ∧ a + 1 < a') := by
          cases add with
          | true =>
            obtain ⟨R, hR, hG⟩ := ih (.bin false (a + 1) d ns) h1 (by simp only [fuelM]; simp; omega)
            exact ⟨R, hR, fun r a' ns' e => hG _ _ _ e⟩
          | false =>
            obtain ⟨R, hR, hG⟩ := ih (.fac (a + 1) d ns) h1 (by simp only [fuelM]; omega)
            exact ⟨R, hR, fun r a' ns' e => hG _ _ _ e⟩
        obtain ⟨R, hR, hG⟩ := hop
        rw [hR]
        cases R with
        | bad o => exact ⟨_, rfl, fun r a' ns' e => by cases e⟩
        | ok r a' ns' =>
          have hg := hG _ _ _ rfl
          simp only
          cases hem : emitP ts a' ns' (opP add (symA ts a), ⟨#[]⟩, 0, [(l : Int), (r : Int)]) with
          | bad o => exact ⟨_, rfl, fun r a' ns' e => by cases e⟩
          | ok r2 a2 ns2 =>
            obtain ⟨rfl, _⟩ := emit_ok hem
            obtain ⟨R2, hR2, hG2⟩ := ih (.chain add r2 a2 d ns2) hg.1 (by simp only [fuelM]; omega)
            refine ⟨R2, hR2, fun r3 a3 ns3 e => ?_⟩
            have hg2 := hG2 _ _ _ e
            simp only at hg2 ⊢
            omega
    | call nm args a d ns =>
      simp only [atM, fuelM] at ha hf
      simp only [par]
      split
      · exact ⟨_, rfl, fun r a' ns' e => by cases e⟩
      obtain ⟨R, hR, hG⟩ := ih (.bin true a d ns) ha (by simp only [fuelM]; simp; omega)
      rw [hR]
      cases R with
      | bad o => exact ⟨_, rfl, fun r a' ns' e => by cases e⟩
      | ok r a' ns' =>
        have hg := hG _ _ _ rfl
        simp only [atM] at hg
        simp only
        split
        · rename_i hs
          have h1 := sym_next h hg.1 hs (by decide)
          obtain ⟨R2, hR2, hG2⟩ := ih (.call nm (args ++ [(r : Int)]) (a' + 1) d ns') h1 (by simp only [fuelM]; omega)
          refine ⟨R2, hR2, fun r2 a2 ns2 e => ?_⟩
          have hg2 := hG2 _ _ _ e
          simp only [atM] at hg2 ⊢
          omega
        split
        · rename_i hs
          have h1 := sym_next h hg.1 hs (by decide)
          refine ⟨_, rfl, fun r2 a2 ns2 e => ?_⟩
          obtain ⟨rfl, _⟩ := emit_ok e
          simp only [atM]
          omega
        · exact ⟨_, rfl, fun r a' ns' e => by cases e⟩
theorem par_good {ts : List Tk} (h : EndsT ts) : ∀ (f : Nat) (m : PM) (R : PR), atM m < ts.length → par ts f m = some R → GoodR ts m R := by
  intro f
  induction f with
  | zero =>
    intro m R ha hp
    cases m <;> simp [par] at hp
  | succ f ih =>
    intro m R ha hp
    cases m with
    | fac a d ns =>
      simp only [atM] at ha
      simp only [par] at hp
      split at hp
      · injection hp with hp; subst hp
        exact fun r a' ns' e => by cases e
      split at hp
      · rename_i hs
        have h1 := sym_next h ha hs (by decide)
        cases hR : par ts f (.fac (a + 1) (d + 1) ns) with
        | none => rw [hR] at hp; cases hp
        | some R1 =>
          rw [hR] at hp
          have hG := ih (.fac (a + 1) (d + 1) ns) _ h1 hR
          cases R1 with
          | bad o => injection hp with hp; subst hp; exact fun r a' ns' e => by cases e
          | ok r a' ns' =>
            have hg := hG _ _ _ rfl
            simp only [atM] at hg
            injection hp with hp
            subst hp
            intro r2 a2 ns2 e
            obtain ⟨rfl, _⟩ := emit_ok e
            simp only [atM]
            omega
      split at hp
      · rename_i hs
        have h1 := sym_next h ha hs (by decide)
        cases hR : par ts f (.bin true (a + 1) (d + 1) ns) with
        | none => rw [hR] at hp; cases hp
        | some R1 =>
          rw [hR] at hp
          have hG := ih (.bin true (a + 1) (d + 1) ns) _ h1 hR
          cases R1 with
          | bad o => injection hp with hp; subst hp; exact fun r a' ns' e => by cases e
          | ok r a' ns' =>
            have hg := hG _ _ _ rfl
            simp only [atM] at hg
            simp only at hp
            split at hp
            · rename_i hs2
              have h2 := sym_next h hg.1 hs2 (by decide)
              injection hp with hp
              subst hp
              intro r2 a2 ns2 e
              injection e with e1 e2 e3
              simp only [atM]
              omega
            · injection hp with hp; subst hp; exact fun r a' ns' e => by cases e
      split at hp
      · rename_i hk
        have h1 := kind_next h ha (by rw [hk]; decide)
        injection hp with hp
        subst hp
        intro r2 a2 ns2 e
        obtain ⟨rfl, _⟩ := emit_ok e
        simp only [atM]
        omega
      split at hp
      · rename_i hk
        have h1 := kind_next h ha (by rw [hk]; decide)
        split at hp
        · rename_i hs
          have h2 := sym_next h h1 hs (by decide)
          split at hp
          · rename_i hs2
            have h3 := sym_next h h2 hs2 (by decide)
            injection hp with hp
            subst hp
            intro r2 a2 ns2 e
            obtain ⟨rfl, _⟩ := emit_ok e
            simp only [atM]
            omega
          · intro r2 a2 ns2 e
            have hg := ih (.call (tkA ts a).2.1 [] (a + 2) (d + 1) ns) _ h2 hp _ _ _ e
            simp only [atM] at hg ⊢
            omega
        · injection hp with hp
          subst hp
          intro r2 a2 ns2 e
          obtain ⟨rfl, _⟩ := emit_ok e
          simp only [atM]
          omega
      · injection hp with hp; subst hp; exact fun r a' ns' e => by cases e
    | bin add a d ns =>
      simp only [atM] at ha
      simp only [par] at hp
      have hop : ∀ R1, par ts f (if add = true then .bin false a d ns else .fac a d ns) = some R1 → ∀ r a' ns', R1 = .ok r a' ns' → a' < ts.length ∧ a < a' := by
        intro R1 hR r a' ns' e
        cases add with
        | true => exact ih (.bin false a d ns) _ ha hR _ _ _ e
        | false => exact ih (.fac a d ns) _ ha hR _ _ _ e
      cases hR : par ts f (if add = true then .bin false a d ns else .fac a d ns) with
      | none => rw [hR] at hp; cases hp
      | some R1 =>
        rw [hR] at hp
        cases R1 with
        | bad o => injection hp with hp; subst hp; exact fun r a' ns' e => by cases e
        | ok r a' ns' =>
          have hg := hop _ hR _ _ _ rfl
          intro r2 a2 ns2 e
          have hg2 := ih (.chain add r a' d ns') _ hg.1 hp _ _ _ e
          simp only [atM] at hg2 ⊢
          omega
    | chain add l a d ns =>
      simp only [atM] at ha
      simp only [par] at hp
      split at hp
      · injection hp with hp
        subst hp
        intro r2 a2 ns2 e
        injection e with e1 e2 e3
        simp only
        omega
      · rename_i ho
        have h1 := op_next h ha ho
        have hop : ∀ R1, par ts f (if add = true then .bin false (a + 1) d ns else .fac (a + 1) d ns) = some R1 → ∀ r a' ns', R1 = .ok r a' ns' → a' < ts.length ∧ a + 1 < a' := by
          intro R1 hR r a' ns' e
          cases add with
          | true => exact ih (.bin false (a + 1) d ns) _ h1 hR _ _ _ e
          | false => exact ih (.fac (a + 1) d ns) _ h1 hR _ _ _ e
        cases hR : par ts f (if add = true then .bin false (a + 1) d ns else .fac (a + 1) d ns) with
        | none => rw [hR] at hp; cases hp
        | some R1 =>
          rw [hR] at hp
          cases R1 with
          | bad o => injection hp with hp; subst hp; exact fun r a' ns' e => by cases e
          | ok r a' ns' =>
            have hg := hop _ hR _ _ _ rfl
            simp only at hp
            cases hem : emitP ts a' ns' (opP add (symA ts a), ⟨#[]⟩, 0, [(l : Int), (r : Int)]) with
            | bad o =>
              rw [hem] at hp
              injection hp with hp
              subst hp
              exact fun r a' ns' e => by cases e
            | ok r2 a2 ns2 =>
              rw [hem] at hp
              obtain ⟨rfl, _⟩ := emit_ok hem
              intro r3 a3 ns3 e
              have hg2 := ih (.chain add r2 a2 d ns2) _ hg.1 hp _ _ _ e
              simp only at hg2 ⊢
              omega
    | call nm args a d ns =>
      simp only [atM] at ha
      simp only [par] at hp
      split at hp
      · injection hp with hp; subst hp; exact fun r a' ns' e => by cases e
      cases hR : par ts f (.bin true a d ns) with
      | none => rw [hR] at hp; cases hp
      | some R1 =>
        rw [hR] at hp
        have hG := ih (.bin true a d ns) _ ha hR
        cases R1 with
        | bad o => injection hp with hp; subst hp; exact fun r a' ns' e => by cases e
        | ok r a' ns' =>
          have hg := hG _ _ _ rfl
          simp only [atM] at hg
          simp only at hp
          split at hp
          · rename_i hs
            have h1 := sym_next h hg.1 hs (by decide)
            intro r2 a2 ns2 e
            have hg2 := ih (.call nm (args ++ [(r : Int)]) (a' + 1) d ns') _ h1 hp _ _ _ e
            simp only [atM] at hg2 ⊢
            omega
          split at hp
          · rename_i hs
            have h1 := sym_next h hg.1 hs (by decide)
            injection hp with hp
            subst hp
            intro r2 a2 ns2 e
            obtain ⟨rfl, _⟩ := emit_ok e
            simp only [atM]
            omega
          · injection hp with hp; subst hp; exact fun r a' ns' e => by cases e
end Go.Proofs.YtkbdnjhgcoihhaaGreatDoor
