/- Maps keyed by edges: keys, elements read as they stand, the entry that an append goes through. -/
import Derived.Test.YtdefhepagpgnaaaGreatProg
import Derived.Test.YtdefhepagpgnaaaGreatInts
import Derived.Test.YtdefhepagpgnaaaGreatVbox
import Derived.Test.YtdefhepagpgnaaaGreatVec
import Derived.Test.YtdefhepagpgnaaaGreatHeld
import Derived.Test.YtdefhepagpgnaaaGreatMem
import Derived.Test.YtdefhepagpgnaaaGreatRowC
import Derived.Test.YtdefhepagpgnaaaGreatIntS
import Derived.Test.YtdefhepagpgnaaaGreatVecS
import Derived.Test.YtdefhepagpgnaaaGreatSS
import Derived.Test.YtdefhepagpgnaaaGreatMkA
import Derived.Test.YtdefhepagpgnaaaGreatMkB
import Derived.Test.YtdefhepagpgnaaaGreatMF
import Derived.WalkKit
import Derived.WalkSpells
import Derived.WalkLawsBesides
import Derived.Lib.Hide
import Derived.Deep.RegionHeld3
import Derived.Deep.QuietTactic
import Derived.BigQuiet
import Derived.Handy
import Derived.Deep.DeepCutAuto
import Derived.OwnWalk
import Derived.Maps.RangeWalk
import Derived.Maps.Ext
import Derived.Maps.OwnOps
import Derived.Maps.Views
import Derived.WideKeyEntry
import Derived.DeepKeys5
import Derived.ChangeKeysEq
import Derived.WalkArith
import Derived.OpenShut
namespace Go.Proofs.YtdefhepagpgnaaaGreat
open Go.RowKit Go.Maps


/-- an element of a map, read as the value that it is -/
def rawR (v : Value) : Option (DataW Value × List MemPlace) := some (.held v, [])
theorem rawR_inv {v : Value} {z : DataW Value × List MemPlace} (h : rawR v = some z) : z = (.held v, []) := by unfold rawR at h; injection h with h; exact h.symm
def wfI (x : Int) : Prop := (Lit.int .i64 x).wf = true
def wfE (e : E2) : Prop := wfI e.1 ∧ wfI e.2
theorem wfI_of {x : Int} (h0 : -1000000000 ≤ x) (h1 : x ≤ 1000000000) : wfI x := WalkArith.wf_i64 ⟨by omega, by omega⟩

/-- a struct of two integers, as a key -/
theorem keyLits_two {P : Program} {k ti : TypeId} {f0 f1 : Field} (hk : P.underlying k = some (.struct #[f0, f1])) (t0 : f0.type = ti) (t1 : f1.type = ti) (o0 : f0.offset = 0) (o1 : f1.offset = 1) (n0 : (f0.name != "_") = true) (n1 : (f1.name != "_") = true)
    (hc : P.cellsOf k = 2) (hci : P.cellsOf ti = 1) (d : Nat) (a b : Value) : P.keyLits (d + 1) k [a, b] = (P.keyLits d ti [a]).bind fun la => (P.keyLits d ti [b]).map fun lb => la ++ lb := by
  simp only [Program.keyLits, hk, hc, List.length_cons, List.length_nil]
  simp only [List.size_toArray, t0, t1, o0, o1, hci, List.mapM_cons, List.mapM_nil, List.drop_zero, List.drop_succ_cons, List.take_succ_cons, List.take_zero]
  simp [n0, n1]
  cases P.keyLits d ti [a] <;> simp
  cases P.keyLits d ti [b] <;> simp
theorem keyLits_one {P : Program} {ti : TypeId} (hi : P.underlying ti = some (.int .i64)) (d : Nat) (x : Int) (hx : wfI x) : P.keyLits (d + 1) ti [.int .i64 x] = some [.int .i64 x] := by
  unfold wfI at hx
  simp [Program.keyLits, hi, hx]
theorem keyOf_pair {P : Program} {k ti : TypeId} {f0 f1 : Field} (hk : P.underlying k = some (.struct #[f0, f1])) (hi : P.underlying ti = some (.int .i64)) (t0 : f0.type = ti) (t1 : f1.type = ti) (o0 : f0.offset = 0) (o1 : f1.offset = 1) (n0 : (f0.name != "_") = true) (n1 : (f1.name != "_") = true)
    (hc : P.cellsOf k = 2) (hci : P.cellsOf ti = 1) (hkt : P.keyType k = true) (hs : 0 < P.types.size) {x y : Int} (hx : wfI x) (hy : wfI y) : keyOf P k (.agg #[.int .i64 x, .int .i64 y]) = some (.string (keyBytes [.int .i64 x, .int .i64 y])) := by
  obtain ⟨d, hd⟩ : ∃ d, P.types.size + 1 = d + 1 + 1 := ⟨P.types.size - 1, by omega⟩
  have hf : (Value.agg #[.int .i64 x, .int .i64 y]).formed P k = true := by simp only [Value.formed, hk, hc]; rfl
  unfold keyOf
  simp only [hk, hkt, hf, hd, Bool.and_self, if_true, Value.cells]
  rw [keyLits_two hk t0 t1 o0 o1 n0 n1 hc hci, keyLits_one hi d x hx, keyLits_one hi d y hy]
  rfl
theorem keyOf_pair_inv {P : Program} {k ti : TypeId} {f0 f1 : Field} (hk : P.underlying k = some (.struct #[f0, f1])) (hi : P.underlying ti = some (.int .i64)) (t0 : f0.type = ti) (t1 : f1.type = ti) (o0 : f0.offset = 0) (o1 : f1.offset = 1) (n0 : (f0.name != "_") = true) (n1 : (f1.name != "_") = true)
    (hc : P.cellsOf k = 2) (hci : P.cellsOf ti = 1) (hkt : P.keyType k = true) (hs : 0 < P.types.size) {key : Value} {kl : Lit} (h : keyOf P k key = some kl) : ∃ x y, wfI x ∧ wfI y ∧ key = .agg #[.int .i64 x, .int .i64 y] ∧ kl = .string (keyBytes [.int .i64 x, .int .i64 y]) := by
  obtain ⟨d, hd⟩ : ∃ d, P.types.size + 1 = d + 1 + 1 := ⟨P.types.size - 1, by omega⟩
  unfold keyOf at h
  simp only [hk, hkt, hd, Bool.true_and] at h
  split at h
  · rename_i hf
    have : ∃ a b, key = .agg #[a, b] := by
      cases key <;> simp only [Value.formed, hk, hc] at hf <;> try (cases hf; done)
      rename_i cs
      obtain ⟨l⟩ := cs
      have hl : l.length = 2 := by simpa using hf
      match l, hl with
      | [a, b], _ => exact ⟨a, b, rfl⟩
    obtain ⟨a, b, rfl⟩ := this
    simp only [Value.cells] at h
    rw [keyLits_two hk t0 t1 o0 o1 n0 n1 hc hci] at h
    simp only [Option.map_eq_some_iff, Option.bind_eq_some_iff] at h
    obtain ⟨ls, ⟨la, ha, lb, hb, rfl⟩, rfl⟩ := h
    obtain ⟨x, hx, rfl⟩ := keyLits_int' hi ha
    obtain ⟨y, hy, rfl⟩ := keyLits_int' hi hb
    simp only [List.cons.injEq, and_true] at hx hy
    subst hx hy
    have wx : ∀ z, P.keyLits (d + 1) ti [.int .i64 z] = some [.int .i64 z] → wfI z := fun z hz => by
      unfold wfI
      by_cases w : (Lit.int .i64 z).wf = true
      · exact w
      · simp [Program.keyLits, hi, w] at hz
    exact ⟨x, y, wx x ha, wx y hb, rfl, rfl⟩
  · cases h
theorem mLaid : laidOutB Tryz.prog = true := by kernel_rfl
theorem mRow : (81 : TypeId) < Tryz.prog.types.size := of_decide_eq_true (by kernel_rfl)
theorem mWide : (match Tryz.prog.underlying 81 with | some (.array _ _) | some (.struct _) => true | _ => false) = true := by rw [Tryz.underlying81]
set_option maxRecDepth 100000 in
theorem mLaw : WideMaps.KeyLaw Tryz.prog 81 := deep_law_laid mLaid (m := 2) (by omega) mRow (by kernel_rfl) mWide
theorem mKeyed : Keyed Tryz.prog 81 := Keyed.of_law mLaw
theorem mKeyType : Tryz.prog.keyType 81 = true := by kernel_rfl
theorem mCells : Tryz.prog.cellsOf 81 = 2 := by kernel_rfl
theorem mCells1 : Tryz.prog.cellsOf 3 = 1 := by kernel_rfl
/-- what an edge reads as, as a key -/
def ek (e : E2) : Lit := .string (keyBytes [.int .i64 e.1, .int .i64 e.2])
theorem keyOf_edge (x y : Int) (hx : wfI x) (hy : wfI y) : keyOf Tryz.prog 81 (.agg #[.int .i64 x, .int .i64 y]) = some (ek (x, y)) :=
  keyOf_pair Tryz.underlying81 Tryz.underlying3 rfl rfl rfl rfl (by rfl) (by rfl) mCells mCells1 mKeyType (Nat.lt_of_le_of_lt (Nat.zero_le _) mRow) hx hy
theorem keyOf_edge_inv {key : Value} {kl : Lit} (h : keyOf Tryz.prog 81 key = some kl) : ∃ e : E2, wfE e ∧ key = .agg #[.int .i64 e.1, .int .i64 e.2] ∧ kl = ek e := by
  obtain ⟨x, y, hx, hy, h1, h2⟩ := keyOf_pair_inv Tryz.underlying81 Tryz.underlying3 rfl rfl rfl rfl (by rfl) (by rfl) mCells mCells1 mKeyType (Nat.lt_of_le_of_lt (Nat.zero_le _) mRow) h
  exact ⟨(x, y), ⟨hx, hy⟩, h1, h2⟩
theorem ek_inj {a b : E2} (ha : wfE a) (hb : wfE b) (h : ek a = ek b) : a = b := by
  have h1 := keyOf_edge a.1 a.2 ha.1 ha.2
  have h2 := keyOf_edge b.1 b.2 hb.1 hb.2
  rw [show (a.1, a.2) = a from rfl, h] at h1
  rw [show (b.1, b.2) = b from rfl] at h2
  have := mKeyed.inj h1 h2
  simp only [Value.agg.injEq, Array.mk.injEq, List.cons.injEq, Value.int.injEq, true_and, and_true] at this
  exact Prod.ext this.1 this.2

theorem ek_key (e : E2) : WideAt.IsKeyLit (ek e) := trivial
/-- a set of edges: block b tells of each edge whether it is on the list -/
def SeenAt (w : World) (b n : Nat) (S : List E2) : Prop :=
  ∃ D : DataW Value, w.ownsMap Tryz.prog 81 rawR b n D ∧ IsMap D ∧ ∀ e, wfE e → D.atKey (ek e) (.held (.bool false)) = .held (.bool (S.contains e))
theorem SeenAt.made (w : World) : SeenAt (w.alloc (.map #[] 0)) w.heap.size 0 [] :=
  ⟨.map [], World.ownsMap_made _ _ _ _, isMap_empty, fun _ _ => rfl⟩
theorem SeenAt.kept {w w' : World} {row : Option Nat} {b n : Nat} {S : List E2} (h : SeenAt w b n S) (hg : w.grownBy w' row) (hne : some b ≠ row) : SeenAt w' b n S := by
  obtain ⟨D, h1, h2⟩ := h
  exact ⟨D, h1.kept hg hne, h2⟩
theorem SeenAt.later {w w' : World} {b n : Nat} {S : List E2} (h : SeenAt w b n S) (hb : Below w.heap.size w w') : SeenAt w' b n S := h.kept (gb_of_below hb (row := none)) (by simp)
theorem SeenAt.lt {w : World} {b n : Nat} {S : List E2} (h : SeenAt w b n S) : b < w.heap.size := by
  obtain ⟨D, h1, _⟩ := h
  exact h1.lt
theorem SeenAt.look {w : World} {b n : Nat} {S : List E2} (h : SeenAt w b n S) (e : E2) (he : wfE e) :
    (Instr.lookup 90 (.map (some b)) (.agg #[.int .i64 e.1, .int .i64 e.2]) false).run Tryz.prog w = .ok (.bool (S.contains e)) w := by
  obtain ⟨D, h1, _, h3⟩ := h
  obtain ⟨v, ps, hr, hv⟩ := h1.lookup mKeyed Tryz.underlying90 (z := .bool false) (by kernel_rfl) (zd := .held (.bool false)) rfl (keyOf_edge e.1 e.2 he.1 he.2)
  rw [h3 e he] at hv
  have := rawR_inv hv
  simp only [Prod.mk.injEq, DataW.held.injEq] at this
  rw [hr, ← this.1]
theorem SeenAt.put {w : World} {b n : Nat} {S : List E2} (h : SeenAt w b n S) (hn : n < maxLen) (e : E2) (he : wfE e) :
    ∃ w', (Instr.mapUpdate 90 (.map (some b)) (.agg #[.int .i64 e.1, .int .i64 e.2]) (.bool true)).run Tryz.prog w = .ok () w' ∧ SeenAt w' b (n + 1) (S ++ [e]) ∧ w.grownBy w' (some b) := by
  obtain ⟨D, h1, h2, h3⟩ := h
  obtain ⟨w', hr, ho, hg⟩ := h1.update mKeyed Tryz.underlying90 hn (val := .bool true) (keyOf_edge e.1 e.2 he.1 he.2) (d := .held (.bool true)) (ps := []) rfl
  refine ⟨w', hr, ⟨_, ho, h2.put _ _, fun e' he' => ?_⟩, hg⟩
  by_cases c : e' = e
  · subst c
    rw [atKey_put_same h2 (ek_key _)]
    simp
  · rw [atKey_put_other (fun h => c (ek_inj he' he h)), h3 e' he']
    simp [c]

end Go.Proofs.YtdefhepagpgnaaaGreat
