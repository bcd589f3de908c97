/- Maps from tiles to integers: keys, words on such a map in memory; what timesOf makes, as a value. -/
import Derived.Test.YtaelhbbfddcabaaProg
import Derived.Test.YtaelhbbfddcabaaInts
import Derived.Test.YtaelhbbfddcabaaVbox
import Derived.Test.YtaelhbbfddcabaaHeld
import Derived.Test.YtaelhbbfddcabaaMem
import Derived.Test.YtaelhbbfddcabaaFlat
import Derived.Test.YtaelhbbfddcabaaRowC
import Derived.Test.YtaelhbbfddcabaaSS
import Derived.Test.YtaelhbbfddcabaaWa
import Derived.WalkKit
import Derived.WalkSpells
import Derived.WalkLawsBesides
import Derived.Lib.Hide
import Derived.Deep.RegionHeld3
import Derived.Deep.QuietTactic
import Derived.BigQuiet
import Derived.Handy
import Derived.Deep.DeepCutAuto
import Derived.OwnWalk
import Derived.Maps.RangeWalk
import Derived.Maps.Ext
import Derived.Maps.OwnOps
import Derived.Maps.OwnSet
import Derived.Maps.Views
import Derived.WideKeyEntry
import Derived.DeepKeys5
import Derived.ChangeKeysEq
import Derived.WalkArith
import Derived.OpenShut
namespace Go.Proofs.Ytaelhbbfddcabaa
open Go.RowKit Go.Maps Go.ChangeMaps

/-- an element of a map, read as the value that it is -/
def rawT (v : Value) : Option (DataW Value × List MemPlace) := some (.held v, [])
theorem rawT_inv {v : Value} {z : DataW Value × List MemPlace} (h : rawT v = some z) : z = (.held v, []) := by unfold rawT at h; injection h with h; exact h.symm
def wfZ (x : Int) : Prop := (Lit.int .i64 x).wf = true
/-- a tile whose integers fit -/
def wf3 (e : V3) : Prop := wfZ e.1 ∧ wfZ e.2.1 ∧ wfZ e.2.2
theorem wfZ_of {x : Int} (h0 : -9223372036854775808 ≤ x) (h1 : x ≤ 9223372036854775807) : wfZ x := WalkArith.wf_i64 ⟨by omega, by omega⟩
/-- a struct of three integers, as a key -/
theorem keyLits_three {P : Program} {k ti : TypeId} {f0 f1 f2 : Field} (hk : P.underlying k = some (.struct #[f0, f1, f2])) (t0 : f0.type = ti) (t1 : f1.type = ti) (t2 : f2.type = ti) (o0 : f0.offset = 0) (o1 : f1.offset = 1) (o2 : f2.offset = 2) (n0 : (f0.name != "_") = true) (n1 : (f1.name != "_") = true) (n2 : (f2.name != "_") = true)
    (hc : P.cellsOf k = 3) (hci : P.cellsOf ti = 1) (d : Nat) (a b c : Value) : P.keyLits (d + 1) k [a, b, c] = (P.keyLits d ti [a]).bind fun la => (P.keyLits d ti [b]).bind fun lb => (P.keyLits d ti [c]).map fun lc => la ++ (lb ++ lc) := by
  simp only [Program.keyLits, hk, hc, List.length_cons, List.length_nil]
  simp only [List.size_toArray, t0, t1, t2, o0, o1, o2, hci, List.mapM_cons, List.mapM_nil, List.drop_zero, List.drop_succ_cons, List.take_succ_cons, List.take_zero]
  simp [n0, n1, n2]
  cases P.keyLits d ti [a] <;> simp
  cases P.keyLits d ti [b] <;> simp
  cases P.keyLits d ti [c] <;> simp
theorem keyLits_oneT {P : Program} {ti : TypeId} (hi : P.underlying ti = some (.int .i64)) (d : Nat) (x : Int) (hx : wfZ x) : P.keyLits (d + 1) ti [.int .i64 x] = some [.int .i64 x] := by
  unfold wfZ at hx
  simp [Program.keyLits, hi, hx]
theorem keyOf_trio {P : Program} {k ti : TypeId} {f0 f1 f2 : Field} (hk : P.underlying k = some (.struct #[f0, f1, f2])) (hi : P.underlying ti = some (.int .i64)) (t0 : f0.type = ti) (t1 : f1.type = ti) (t2 : f2.type = ti) (o0 : f0.offset = 0) (o1 : f1.offset = 1) (o2 : f2.offset = 2) (n0 : (f0.name != "_") = true) (n1 : (f1.name != "_") = true) (n2 : (f2.name != "_") = true)
    (hc : P.cellsOf k = 3) (hci : P.cellsOf ti = 1) (hkt : P.keyType k = true) (hs : 0 < P.types.size) {x y z : Int} (hx : wfZ x) (hy : wfZ y) (hz : wfZ z) : keyOf P k (.agg #[.int .i64 x, .int .i64 y, .int .i64 z]) = some (.string (keyBytes [.int .i64 x, .int .i64 y, .int .i64 z])) := by
  obtain ⟨d, hd⟩ : ∃ d, P.types.size + 1 = d + 1 + 1 := ⟨P.types.size - 1, by omega⟩
  have hf : (Value.agg #[.int .i64 x, .int .i64 y, .int .i64 z]).formed P k = true := by simp only [Value.formed, hk, hc]; rfl
  unfold keyOf
  simp only [hk, hkt, hf, hd, Bool.and_self, if_true, Value.cells]
  rw [keyLits_three hk t0 t1 t2 o0 o1 o2 n0 n1 n2 hc hci, keyLits_oneT hi d x hx, keyLits_oneT hi d y hy, keyLits_oneT hi d z hz]
  rfl
theorem keyOf_trio_inv {P : Program} {k ti : TypeId} {f0 f1 f2 : Field} (hk : P.underlying k = some (.struct #[f0, f1, f2])) (hi : P.underlying ti = some (.int .i64)) (t0 : f0.type = ti) (t1 : f1.type = ti) (t2 : f2.type = ti) (o0 : f0.offset = 0) (o1 : f1.offset = 1) (o2 : f2.offset = 2) (n0 : (f0.name != "_") = true) (n1 : (f1.name != "_") = true) (n2 : (f2.name != "_") = true)
    (hc : P.cellsOf k = 3) (hci : P.cellsOf ti = 1) (hkt : P.keyType k = true) (hs : 0 < P.types.size) {key : Value} {kl : Lit} (h : keyOf P k key = some kl) : ∃ x y z, wfZ x ∧ wfZ y ∧ wfZ z ∧ key = .agg #[.int .i64 x, .int .i64 y, .int .i64 z] ∧ kl = .string (keyBytes [.int .i64 x, .int .i64 y, .int .i64 z]) := by
  obtain ⟨d, hd⟩ : ∃ d, P.types.size + 1 = d + 1 + 1 := ⟨P.types.size - 1, by omega⟩
  unfold keyOf at h
  simp only [hk, hkt, hd, Bool.true_and] at h
  split at h
  · rename_i hf
    have : ∃ a b c, key = .agg #[a, b, c] := by
      cases key <;> simp only [Value.formed, hk, hc] at hf <;> try (cases hf; done)
      rename_i cs
      obtain ⟨l⟩ := cs
      have hl : l.length = 3 := by simpa using hf
      match l, hl with
      | [a, b, c], _ => exact ⟨a, b, c, rfl⟩
    obtain ⟨a, b, c, rfl⟩ := this
    simp only [Value.cells] at h
    rw [keyLits_three hk t0 t1 t2 o0 o1 o2 n0 n1 n2 hc hci] at h
    simp only [Option.map_eq_some_iff, Option.bind_eq_some_iff] at h
    obtain ⟨ls, ⟨la, ha, lb, hb, lc, hcc, rfl⟩, rfl⟩ := h
    obtain ⟨x, hx, rfl⟩ := keyLits_int' hi ha
    obtain ⟨y, hy, rfl⟩ := keyLits_int' hi hb
    obtain ⟨z, hz, rfl⟩ := keyLits_int' hi hcc
    simp only [List.cons.injEq, and_true] at hx hy hz
    subst hx hy hz
    have wx : ∀ z, P.keyLits (d + 1) ti [.int .i64 z] = some [.int .i64 z] → wfZ z := fun z hz => by
      unfold wfZ
      by_cases w : (Lit.int .i64 z).wf = true
      · exact w
      · simp [Program.keyLits, hi, w] at hz
    exact ⟨x, y, z, wx x ha, wx y hb, wx z hcc, rfl, rfl⟩
  · cases h
/-- what the reading of a slice of flat elements gives, and that the integers fit -/
theorem rowsW_of_flat {α : Type} {P : Program} {t e : TypeId} {n : Nat} (dec : List Int → α) (g : α → List Value) (ok : α → Prop) (hd : ∀ zs : List Int, zs.length = n → g (dec zs) = zs.map (Value.int .i64)) (hok : ∀ zs : List Int, zs.length = n → (∀ z ∈ zs, (Lit.int .i64 z).wf = true) → ok (dec zs)) (ht : P.underlying t = some (.slice e)) (hn : P.cellsOf e = n) (hF : FlatI P e n) (hn0 : 0 < n)
    {H : Type} {enc : TypeId × Value → H} {w : World} {base : Nat} {spare : Nat → Bool} {held : Bool} {A : Option Addr} {len cap : Nat} {d : DataW H} {p : List MemPlace} (h : DataW.Trod enc P w base spare held t (.slice A len cap) d p) :
    ∃ xs : List α, len = xs.length ∧ RowC n g w w.heap.size A xs ∧ xs.length ≤ maxLen ∧ ∀ x ∈ xs, ok x := by
  obtain ⟨fuel, hf⟩ := h
  rcases Deep.open_slice ht hf with ⟨hcs, _⟩ | ⟨a, l, c, m, k, D, Pl, hcs, _, hl, hm, hmm, _, hi⟩
  · simp [Value.cells] at hcs
    obtain ⟨rfl, rfl, rfl⟩ := hcs
    exact ⟨[], rfl, RowC.nil, Nat.zero_le _, fun x hx => by cases hx⟩
  · simp [Value.cells] at hcs
    obtain ⟨rfl, rfl, rfl⟩ := hcs
    have hlm : len ≤ m := by rw [hmm]; split <;> omega
    obtain ⟨ys, hy, hp⟩ := list_of (P := fun i (zs : List Int) => zs.length = n ∧ (∀ j, j < n → w.cell? (a.add (i * n + j)) = (zs.map (Value.int .i64))[j]?) ∧ ∀ z ∈ zs, (Lit.int .i64 z).wf = true) len (fun i hlt => by
      obtain ⟨cs', hc, ht'⟩ := hi i (by omega)
      obtain ⟨zs, hzl, rfl, hw⟩ := hF _ _ _ _ _ _ _ _ _ ht'
      obtain ⟨_, _, hat⟩ := World.cells?_some hc
      refine ⟨zs, hzl, fun j hj => ?_, hw⟩
      have := hat j (by omega)
      rw [hn, Deep.add_add] at this
      exact this)
    refine ⟨ys.map dec, by simp [hy], fun h0 => ?_, by simp; omega, fun x hx => ?_⟩
    · have h0 : 0 < ys.length := by simpa using h0
      obtain ⟨hz0, hz1, _⟩ := hp 0 h0
      have hc0 := hz1 0 hn0
      obtain ⟨b, o, s⟩ := a
      have hs : s = none := by
        have : ((ys[0]).map (Value.int .i64))[0]? = some (.int .i64 ((ys[0])[0]'(by omega))) := by simp [hz0, hn0]
        rw [this] at hc0
        simpa [Addr.add] using World.cell?_spot hc0
      subst hs
      have ea : ∀ k, (⟨b, o, none⟩ : Addr).add k = ⟨b, o + k, none⟩ := fun k => by unfold Addr.add; split <;> simp_all
      refine ⟨b, o, rfl, ?_, fun k hk j v hv => ?_⟩
      · have : ((ys[0]).map (Value.int .i64))[0]? = some (.int .i64 ((ys[0])[0]'(by omega))) := by simp [hz0, hn0]
        rw [this, ea] at hc0
        exact World.block_lt_of_cell? w _ hc0
      · have hk' : k < ys.length := by simpa using hk
        obtain ⟨hzl, hzc, _⟩ := hp k hk'
        have hv' : ((ys[k]).map (Value.int .i64))[j]? = some v := by
          rw [← hd _ hzl]
          simpa using hv
        have hj : j < n := by
          have := (List.getElem?_eq_some_iff.1 hv').1
          simp only [List.length_map] at this
          omega
        have := hzc j hj
        rw [ea, hv', ← Nat.add_assoc] at this
        exact this
    · obtain ⟨zs, hz, rfl⟩ := List.mem_map.1 hx
      obtain ⟨i, hi', rfl⟩ := List.getElem_of_mem hz
      obtain ⟨h1, _, h2⟩ := hp i hi'
      exact hok _ h1 h2
theorem rowCW_of {α : Type} {P : Program} {t e : TypeId} {n : Nat} (dec : List Int → α) (g : α → List Value) (ok : α → Prop) (hd : ∀ zs : List Int, zs.length = n → g (dec zs) = zs.map (Value.int .i64)) (hok : ∀ zs : List Int, zs.length = n → (∀ z ∈ zs, (Lit.int .i64 z).wf = true) → ok (dec zs)) (ht : P.underlying t = some (.slice e)) (hn : P.cellsOf e = n) (hF : FlatI P e n) (hn0 : 0 < n)
    {H : Type} {enc : TypeId × Value → H} {w : World} {base : Nat} {spare : Nat → Bool} {held : Bool} {v : Value} {fuel : Nat} {x : DataW H × List MemPlace} (h : DataW.trod enc P w base spare held fuel t [v] = some x) :
    ∃ (A : Option Addr) (cap : Nat) (xs : List α), v = .slice A xs.length cap ∧ RowC n g w w.heap.size A xs ∧ xs.length ≤ maxLen ∧ ∀ x ∈ xs, ok x := by
  have hv : ∃ A len cap, v = .slice A len cap := by
    rcases Deep.open_slice ht h with ⟨hcs, _⟩ | ⟨a, l, c, m, k, D, Pl, hcs, _⟩
    · simp at hcs; exact ⟨_, _, _, hcs⟩
    · simp at hcs; exact ⟨_, _, _, hcs⟩
  obtain ⟨A, len, cap, rfl⟩ := hv
  obtain ⟨xs, rfl, hr, hl, hw⟩ := rowsW_of_flat (A := A) (len := len) (cap := cap) (d := x.1) (p := x.2) dec g ok hd hok ht hn hF hn0 ⟨fuel, h⟩
  exact ⟨A, cap, xs, rfl, hr, hl, hw⟩
theorem wf3_v3 (zs : List Int) (h : zs.length = 3) (hw : ∀ z ∈ zs, (Lit.int .i64 z).wf = true) : wf3 (v3 zs) := by
  match zs, h with
  | [x, y, z], _ => exact ⟨hw x (by simp), hw y (by simp), hw z (by simp)⟩

/-- what a tile reads as, as a key -/
def tk (e : V3) : Lit := .string (keyBytes [.int .i64 e.1, .int .i64 e.2.1, .int .i64 e.2.2])
theorem tk_key (e : V3) : WideAt.IsKeyLit (tk e) := trivial
abbrev tv (e : V3) : Value := tlv e.1 e.2.1 e.2.2
/-- what timesOf has made when k tiles are done: the place of the last one that is e -/
def tmF (ts : List V3) : Nat → V3 → Option Int
  | 0, _ => none
  | k + 1, e => if e = ts.getD k (0, 0, 0) then some (k : Int) else tmF ts k e
/-- how many keys there are then -/
def tmN (ts : List V3) : Nat → Nat
  | 0 => 0
  | k + 1 => if (tmF ts k (ts.getD k (0, 0, 0))).isSome then tmN ts k else tmN ts k + 1
theorem take_snoc {ts : List V3} {k : Nat} (hk : k < ts.length) : ts.take (k + 1) = ts.take k ++ [ts.getD k (0, 0, 0)] := by
  rw [List.take_succ_eq_append_getElem hk]
  simp [List.getD, hk]
theorem tmF_some (ts : List V3) (e : V3) : ∀ k, k ≤ ts.length → ((tmF ts k e).isSome = true ↔ e ∈ ts.take k)
  | 0, _ => by simp [tmF]
  | k + 1, h => by
    have ih := tmF_some ts e k (by omega)
    rw [take_snoc (by omega), List.mem_append, List.mem_singleton]
    unfold tmF
    split
    · next he => simp [he]
    · next he => rw [ih, or_iff_left he]
theorem tmN_le (ts : List V3) : ∀ k, tmN ts k ≤ k
  | 0 => Nat.le_refl _
  | k + 1 => by
    have := tmN_le ts k
    unfold tmN
    split <;> omega
theorem tmN_iff (ts : List V3) : ∀ k, k ≤ ts.length → (tmN ts k = k ↔ (ts.take k).Nodup)
  | 0, _ => by simp [tmN]
  | k + 1, h => by
    have ih := tmN_iff ts k (by omega)
    have hm := tmF_some ts (ts.getD k (0, 0, 0)) k (by omega)
    have hle := tmN_le ts k
    rw [take_snoc (by omega), List.nodup_append]
    unfold tmN
    split
    · next hs =>
      have hin := hm.1 hs
      constructor
      · intro e; omega
      · rintro ⟨_, _, h3⟩
        exact absurd rfl (h3 _ hin _ (by simp))
    · next hs =>
      have hno : ts.getD k (0, 0, 0) ∉ ts.take k := fun hc => hs (hm.2 hc)
      constructor
      · intro e
        refine ⟨ih.1 (by omega), by simp, fun a ha b hb c => ?_⟩
        rw [List.mem_singleton] at hb
        rw [c, hb] at ha
        exact hno ha
      · rintro ⟨h1, _, _⟩
        have := ih.2 h1
        omega
theorem tmN_ok (ts : List V3) : tmN ts ts.length = ts.length ↔ ts.Nodup := by
  have := tmN_iff ts ts.length (Nat.le_refl _)
  rwa [List.take_length] at this
theorem tmF_idx {ts : List V3} (hn : ts.Nodup) (e : V3) : ∀ k, k ≤ ts.length → ∀ i, tmF ts k e = some i → ∃ j : Nat, i = (j : Int) ∧ j < k ∧ ts[j]? = some e
  | 0, _, i, h => by simp [tmF] at h
  | k + 1, hk, i, h => by
    unfold tmF at h
    split at h
    · next he =>
      injection h with h
      refine ⟨k, h.symm, by omega, ?_⟩
      rw [he, List.getD, List.getElem?_eq_getElem (by omega)]
      rfl
    · obtain ⟨j, h1, h2, h3⟩ := tmF_idx hn e k (by omega) i h
      exact ⟨j, h1, by omega, h3⟩
theorem tmF_at {ts : List V3} (hn : ts.Nodup) {j : Nat} (hj : j < ts.length) : tmF ts ts.length ts[j] = some (j : Int) := by
  have hs := (tmF_some ts ts[j] ts.length (Nat.le_refl _)).2 (by rw [List.take_length]; exact List.getElem_mem hj)
  obtain ⟨i, hi⟩ := Option.isSome_iff_exists.1 hs
  obtain ⟨q, h1, h2, h3⟩ := tmF_idx hn ts[j] ts.length (Nat.le_refl _) i hi
  rw [List.getElem?_eq_getElem h2] at h3
  injection h3 with h3
  have : q = j := by
    have hp := List.pairwise_iff_getElem.1 hn
    rcases Nat.lt_trichotomy q j with h | h | h
    · exact absurd h3 (hp q j h2 hj h)
    · exact h
    · exact absurd h3.symm (hp j q hj h2 h)
  rw [hi, h1, this]
theorem tmF_no {ts : List V3} {e : V3} (h : e ∉ ts) : tmF ts ts.length e = none := by
  cases hc : tmF ts ts.length e
  · rfl
  · have := (tmF_some ts e ts.length (Nat.le_refl _)).1 (by rw [hc]; rfl)
    rw [List.take_length] at this
    exact absurd this h

theorem tLaid : laidOutB Try.prog = true := by kernel_rfl
theorem tRow : (50 : TypeId) < Try.prog.types.size := of_decide_eq_true (by kernel_rfl)
theorem tWide : (match Try.prog.underlying 50 with | some (.array _ _) | some (.struct _) => true | _ => false) = true := by rw [Try.underlying50]
set_option maxRecDepth 100000 in
theorem tLaw : WideMaps.KeyLaw Try.prog 50 := deep_law_laid tLaid (m := 2) (by omega) tRow (by kernel_rfl) tWide
theorem tKeyed : Keyed Try.prog 50 := Keyed.of_law tLaw
theorem tKeyType : Try.prog.keyType 50 = true := by kernel_rfl
theorem tCells : Try.prog.cellsOf 50 = 3 := by kernel_rfl
theorem tCells1 : Try.prog.cellsOf 3 = 1 := by kernel_rfl
theorem keyOf_tile (e : V3) (h : wf3 e) : keyOf Try.prog 50 (tv e) = some (tk e) :=
  keyOf_trio Try.underlying50 Try.underlying3 rfl rfl rfl rfl rfl rfl (by rfl) (by rfl) (by rfl) tCells tCells1 tKeyType (Nat.lt_of_le_of_lt (Nat.zero_le _) tRow) h.1 h.2.1 h.2.2
theorem keyOf_tile_inv {key : Value} {kl : Lit} (h : keyOf Try.prog 50 key = some kl) : ∃ e : V3, wf3 e ∧ key = tv e ∧ kl = tk e := by
  obtain ⟨x, y, z, hx, hy, hz, h1, h2⟩ := keyOf_trio_inv Try.underlying50 Try.underlying3 rfl rfl rfl rfl rfl rfl (by rfl) (by rfl) (by rfl) tCells tCells1 tKeyType (Nat.lt_of_le_of_lt (Nat.zero_le _) tRow) h
  exact ⟨(x, y, z), ⟨hx, hy, hz⟩, h1, h2⟩
theorem tk_inj {a b : V3} (ha : wf3 a) (hb : wf3 b) (h : tk a = tk b) : a = b := by
  have h1 := keyOf_tile a ha
  have h2 := keyOf_tile b hb
  rw [h] at h1
  have := tKeyed.inj h1 h2
  simp only [Value.agg.injEq, Array.mk.injEq, List.cons.injEq, Value.int.injEq, true_and, and_true] at this
  exact Prod.ext this.1 (Prod.ext this.2.1 this.2.2)
theorem sameKey_tk {a b : V3} (ha : wf3 a) (hb : wf3 b) : (tk a).sameKey (tk b) = decide (a = b) := by
  by_cases h : a = b
  · subst h
    rw [WideAt.sameKey_self (tk_key a)]
    simp
  · rw [sameKey_ne (fun e => h (tk_inj ha hb e))]
    simp [h]
/-- block b is a map from tiles to integers with m keys: f tells of each tile what it holds -/
def TmAt (w : World) (b n : Nat) (f : V3 → Option Int) (m : Nat) : Prop :=
  ∃ D : DataW Value, w.ownsMap Try.prog 50 rawT b n D ∧ IsMap D ∧ (∀ e, wf3 e → has D (tk e) = (f e).isSome) ∧ (∀ e, wf3 e → D.atKey (tk e) (.held (.int .i64 0)) = .held (.int .i64 ((f e).getD 0))) ∧ Maps.size D = m
theorem TmAt.made (w : World) : TmAt (w.alloc (.map #[] 0)) w.heap.size 0 (fun _ => none) 0 :=
  ⟨.map [], World.ownsMap_made _ _ _ _, isMap_empty, fun _ _ => by simp [has], fun _ _ => rfl, rfl⟩
theorem TmAt.kept {w w' : World} {row : Option Nat} {b n m : Nat} {f : V3 → Option Int} (h : TmAt w b n f m) (hg : w.grownBy w' row) (hne : some b ≠ row) : TmAt w' b n f m := by
  obtain ⟨D, h1, h2⟩ := h
  exact ⟨D, h1.kept hg hne, h2⟩
theorem TmAt.alloc {w : World} {b n m : Nat} {f : V3 → Option Int} (h : TmAt w b n f m) (o : Obj) : TmAt (w.alloc o) b n f m := h.kept (World.grownBy_alloc w o none) (by simp)
theorem TmAt.drew {w : World} {b n m : Nat} {f : V3 → Option Int} (h : TmAt w b n f m) : TmAt w.drew b n f m := h
theorem TmAt.later {w w' : World} {b n m : Nat} {f : V3 → Option Int} (h : TmAt w b n f m) (hb : Below w.heap.size w w') : TmAt w' b n f m := h.kept (gb_of_below hb (row := none)) (by simp)
theorem TmAt.lt {w : World} {b n m : Nat} {f : V3 → Option Int} (h : TmAt w b n f m) : b < w.heap.size := by
  obtain ⟨D, h1, _⟩ := h
  exact h1.lt
theorem TmAt.put {w : World} {b n m : Nat} {f : V3 → Option Int} (h : TmAt w b n f m) (hn : n < maxLen) (e : V3) (he : wf3 e) (x : Int) (g : V3 → Option Int) (hge : g e = some x) (hgo : ∀ e', e' ≠ e → g e' = f e') :
    ∃ w', (Instr.mapUpdate 82 (.map (some b)) (tv e) (.int .i64 x)).run Try.prog w = .ok () w' ∧ TmAt w' b (n + 1) g (if (f e).isSome then m else m + 1) ∧ w.grownBy w' (some b) ∧ w'.heap.size = w.heap.size := by
  obtain ⟨D, h1, h2, h3, h4, h5⟩ := h
  obtain ⟨w', hr, ho, hg⟩ := h1.store tKeyed Try.underlying82 hn (val := .int .i64 x) (keyOf_tile e he) (d := .held (.int .i64 x)) (ps := []) rfl
  refine ⟨w', hr, ⟨_, ho, h2.put _ _, fun e' he' => ?_, fun e' he' => ?_, ?_⟩, hg.grown, ?_⟩
  · by_cases c : e' = e
    · subst c
      rw [has_put_same h2 (tk_key _), hge]
      rfl
    · rw [has_put_other (fun h => c (tk_inj he' he h)), h3 e' he', hgo e' c]
  · by_cases c : e' = e
    · subst c
      rw [atKey_put_same h2 (tk_key _), hge]
      rfl
    · rw [atKey_put_other (fun h => c (tk_inj he' he h)), h4 e' he', hgo e' c]
  · rw [size_put (h1.tidy tKeyed), h3 e he, h5]
  · obtain ⟨_, _, _, _, _, hw⟩ := hg
    rw [hw]
    simp [setBlock]
theorem TmAt.look {w : World} {b n m : Nat} {f : V3 → Option Int} (h : TmAt w b n f m) (e : V3) (he : wf3 e) :
    (Instr.lookup 82 (.map (some b)) (tv e) false).run Try.prog w = .ok (.int .i64 ((f e).getD 0)) w := by
  obtain ⟨D, h1, _, _, h4, _⟩ := h
  obtain ⟨v, ps, hr, hv⟩ := h1.lookup tKeyed Try.underlying82 (z := .int .i64 0) (by kernel_rfl) (zd := .held (.int .i64 0)) rfl (keyOf_tile e he)
  rw [h4 e he] at hv
  have := rawT_inv hv
  simp only [Prod.mk.injEq, DataW.held.injEq] at this
  rw [hr, ← this.1]
theorem TmAt.lookOk {w : World} {b n m : Nat} {f : V3 → Option Int} (h : TmAt w b n f m) (e : V3) (he : wf3 e) :
    (Instr.lookup 82 (.map (some b)) (tv e) true).run Try.prog w = .ok (.tuple #[.int .i64 ((f e).getD 0), .bool (f e).isSome]) w := by
  obtain ⟨D, h1, _, h3, h4, _⟩ := h
  obtain ⟨v, ps, hr, hv⟩ := h1.look_ok tKeyed Try.underlying82 (z := .int .i64 0) (by kernel_rfl) (zd := .held (.int .i64 0)) rfl (keyOf_tile e he)
  rw [h4 e he] at hv
  rw [h3 e he] at hr
  have := rawT_inv hv
  simp only [Prod.mk.injEq, DataW.held.injEq] at this
  rw [hr, ← this.1]
theorem TmAt.del {w : World} {b n m : Nat} {f : V3 → Option Int} (h : TmAt w b n f m) (e : V3) (he : wf3 e) (g : V3 → Option Int) (hge : g e = none) (hgo : ∀ e', e' ≠ e → g e' = f e') (ty : TypeId) :
    ∃ w', (Builtin.delete_ #[82, 50] ty #[.map (some b), tv e]).run Try.prog w = .ok (.tuple #[]) w' ∧ TmAt w' b n g (m - if (f e).isSome then 1 else 0) ∧ w.grownBy w' (some b) ∧ w'.heap.size = w.heap.size := by
  obtain ⟨D, h1, h2, h3, h4, h5⟩ := h
  obtain ⟨w', hr, ho, hg⟩ := h1.drop tKeyed Try.underlying82 (keyOf_tile e he) ty
  refine ⟨w', hr, ⟨_, ho, h2.del _, fun e' he' => ?_, fun e' he' => ?_, ?_⟩, hg.grown, ?_⟩
  · by_cases c : e' = e
    · subst c
      rw [has_del_same, hge]
      rfl
    · rw [has_del_other (fun h => c (tk_inj he' he h)), h3 e' he', hgo e' c]
  · by_cases c : e' = e
    · subst c
      rw [atKey_del_same, hge]
      rfl
    · rw [atKey_del_other (fun h => c (tk_inj he' he h)), h4 e' he', hgo e' c]
  · have := size_del (k := tk e) (h1.tidy tKeyed)
    rw [h3 e he, h5] at this
    omega
  · obtain ⟨_, _, _, _, _, hw⟩ := hg
    rw [hw]
    simp [setBlock]
theorem TmAt.len {w : World} {b n m : Nat} {f : V3 → Option Int} (h : TmAt w b n f m) (ty : TypeId) : (Builtin.len_ #[82] ty #[.map (some b)]).run Try.prog w = .ok (.int .i64 (m : Nat)) w := by
  obtain ⟨D, h1, _, _, _, h5⟩ := h
  have := h1.len Try.underlying82 ty
  rw [h5] at this
  exact this
end Go.Proofs.Ytaelhbbfddcabaa
