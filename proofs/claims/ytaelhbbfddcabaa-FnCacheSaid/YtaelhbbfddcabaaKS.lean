/- Words of our own for structs of integers, bools and strings (one cell each), and for slices of them that are read: nothing of the program. -/
import Derived.WalkKit
import Derived.OpenShut
import Derived.Lib.SmallJoins
import Derived.Deep.Slices
import Derived.Test.YtaelhbbfddcabaaRowC
namespace Go.Proofs.Ytaelhbbfddcabaa
open Go.RowKit Go.ChangeShapes Go.WideShapes

/-- the kinds of a cell: an integer, a bool, a string -/
inductive Kd where
  | int | bool | str
def Kd.ok : Kd → Value → Prop
  | .int, v => ∃ z : Int, v = .int .i64 z ∧ (Lit.int .i64 z).wf = true
  | .bool, v => ∃ b : Bool, v = .bool b
  | .str, v => ∃ s : ByteArray, v = .string s ∧ s.size ≤ maxLen
/-- cells of these kinds -/
def KS : List Kd → List Value → Prop
  | [], vs => vs = []
  | k :: ks, vs => ∃ (v : Value) (r : List Value), vs = v :: r ∧ k.ok v ∧ KS ks r
theorem KS.len : ∀ {ks : List Kd} {vs : List Value}, KS ks vs → vs.length = ks.length
  | [], _, h => by
    have h : _ = [] := h
    subst h
    rfl
  | _ :: _, _, h => by
    obtain ⟨v, r, rfl, _, hr⟩ := h
    simp [hr.len]
theorem KS.app : ∀ {ks ls : List Kd} {vs us : List Value}, KS ks vs → KS ls us → KS (ks ++ ls) (vs ++ us)
  | [], _, _, _, h, h' => by
    have h : _ = [] := h
    subst h
    exact h'
  | _ :: _, _, _, _, h, h' => by
    obtain ⟨v, r, rfl, hv, hr⟩ := h
    exact ⟨v, _, rfl, hv, hr.app h'⟩
/-- whatever reads at type t is cells of these kinds -/
def FlatS (P : Program) (t : TypeId) (ks : List Kd) : Prop :=
  ∀ (H : Type) (enc : TypeId × Value → H) (w : World) (base : Nat) (spare : Nat → Bool) (held : Bool) (fuel : Nat) (cs : List Value) (x : DataW H × List MemPlace),
    DataW.trod enc P w base spare held fuel t cs = some x → KS ks cs
theorem flatS_int {P : Program} {t : TypeId} (ht : P.underlying t = some (.int .i64)) : FlatS P t [.int] := by
  intro H enc w base spare held fuel cs x h
  obtain ⟨n, rfl, _, hw⟩ := DataW.trod_int ht h
  exact ⟨_, [], rfl, ⟨n, rfl, hw⟩, rfl⟩
theorem flatS_bool {P : Program} {t : TypeId} (ht : P.underlying t = some .bool) : FlatS P t [.bool] := by
  intro H enc w base spare held fuel cs x h
  obtain ⟨b, rfl, _⟩ := DataW.trod_bool ht h
  exact ⟨_, [], rfl, ⟨b, rfl⟩, rfl⟩
theorem flatS_str {P : Program} {t : TypeId} (ht : P.underlying t = some .string) : FlatS P t [.str] := by
  intro H enc w base spare held fuel cs x h
  obtain ⟨s, rfl, _, hs⟩ := DataW.trod_string ht h
  exact ⟨_, [], rfl, ⟨s, rfl, hs⟩, rfl⟩
/-- the fields of a struct, from a place on: each of its kinds, one behind the other -/
def FlatSs (P : Program) : List Field → Nat → List (List Kd) → Nat → Prop
  | [], o, ks, n => ks = [] ∧ o = n
  | f :: fs, o, ks, n => ∃ a r, ks = a :: r ∧ f.offset = o ∧ P.cellsOf f.type = a.length ∧ FlatS P f.type a ∧ FlatSs P fs (o + a.length) r n
theorem flatS_fields {P : Program} {H : Type} {enc : TypeId × Value → H} {w : World} {base : Nat} {spare : Nat → Bool} {held : Bool} {m : Nat} {cs : List Value} {n : Nat} (hn : cs.length = n) :
    ∀ (fs : List Field) (o : Nat) (ks : List (List Kd)), FlatSs P fs o ks n → (∀ f ∈ fs, ∃ y, DataW.trod enc P w base spare held m f.type ((cs.drop f.offset).take (P.cellsOf f.type)) = some y) →
      KS ks.flatten (cs.drop o) := by
  intro fs
  induction fs with
  | nil =>
    intro o ks h _
    obtain ⟨rfl, rfl⟩ := h
    show cs.drop o = []
    simp; omega
  | cons f fs ih =>
    intro o ks h hy
    obtain ⟨a, r, rfl, ho, hc, hf, hr⟩ := h
    obtain ⟨y, hy0⟩ := hy f (by simp)
    have k0 := hf _ _ _ _ _ _ _ _ _ hy0
    have k1 := ih _ _ hr (fun g hg => hy g (by simp [hg]))
    rw [hc, ho] at k0
    have := k0.app k1
    rwa [← List.drop_drop, List.take_append_drop] at this
theorem flatSS {P : Program} {t : TypeId} {fs : Array Field} {n : Nat} {ks : List (List Kd)} (ht : P.underlying t = some (.struct fs)) (hn : P.cellsOf t = n) (hf : FlatSs P fs.toList 0 ks n) : FlatS P t ks.flatten := by
  intro H enc w base spare held fuel cs x h
  obtain ⟨xs, m, _, _, hl, hlen, hg⟩ := DataW.trod_struct ht h
  have := flatS_fields (hl.trans hn) fs.toList 0 ks hf (fun f hfm => by
    obtain ⟨i, hi, rfl⟩ := List.getElem_of_mem hfm
    have hi' : i < fs.size := by simpa using hi
    have := hg i _ (by simp [hi'] : fs[i]? = some fs.toList[i])
    exact ⟨xs[i]'(by omega), by rw [this]; simp [show i < xs.length by omega]⟩)
  simpa only [List.drop_zero] using this
/-- a struct argument, opened -/
theorem open_flatS {P : Program} {t : TypeId} {fs : Array Field} {ks : List Kd} (ht : P.underlying t = some (.struct fs)) (hF : FlatS P t ks) {H : Type} {enc : TypeId × Value → H} {w : World} {base : Nat} {spare : Nat → Bool} {held : Bool} {r : Reach} {b0 : Nat} {v : Value}
    {d : DataW H} {p : List MemPlace} (hv : Value.okWide P w r b0 t v) (h : DataW.Trod enc P w base spare held t v d p) : ∃ vs : List Value, v = .agg ⟨vs⟩ ∧ KS ks vs := by
  obtain ⟨cs, rfl, hsz⟩ := okWide_struct ht hv
  obtain ⟨fuel, hf⟩ := h
  exact ⟨cs.toList, rfl, by simpa [Value.cells] using hF _ _ _ _ _ _ _ _ _ hf⟩
/-- a slice argument of such structs, opened -/
theorem rows_of_kinds {α : Type} {P : Program} {t e : TypeId} {ks : List Kd} (dec : List Value → α) (g : α → List Value) (hd : ∀ vs, KS ks vs → g (dec vs) = vs) (ht : P.underlying t = some (.slice e)) (hn : P.cellsOf e = ks.length) (hF : FlatS P e ks) (hn0 : 0 < ks.length)
    {H : Type} {enc : TypeId × Value → H} {w : World} {base : Nat} {spare : Nat → Bool} {held : Bool} {A : Option Addr} {len cap : Nat} {d : DataW H} {p : List MemPlace} (h : DataW.Trod enc P w base spare held t (.slice A len cap) d p) :
    ∃ xs : List α, len = xs.length ∧ RowC ks.length g w w.heap.size A xs ∧ xs.length ≤ maxLen ∧ ∀ x ∈ xs, KS ks (g x) := by
  obtain ⟨fuel, hf⟩ := h
  rcases Deep.open_slice ht hf with ⟨hcs, _⟩ | ⟨a, l, c, m, k, D, Pl, hcs, _, hl, hm, hmm, _, hi⟩
  · simp [Value.cells] at hcs
    obtain ⟨rfl, rfl, rfl⟩ := hcs
    exact ⟨[], rfl, RowC.nil, Nat.zero_le _, fun x hx => by cases hx⟩
  · simp [Value.cells] at hcs
    obtain ⟨rfl, rfl, rfl⟩ := hcs
    have hlm : len ≤ m := by rw [hmm]; split <;> omega
    obtain ⟨ys, hy, hp⟩ := list_of (P := fun i (zs : List Value) => KS ks zs ∧ ∀ j, j < ks.length → w.cell? (a.add (i * ks.length + j)) = zs[j]?) len (fun i hlt => by
      obtain ⟨cs', hc, ht'⟩ := hi i (by omega)
      have hk := hF _ _ _ _ _ _ _ _ _ ht'
      obtain ⟨_, _, hat⟩ := World.cells?_some hc
      refine ⟨cs', hk, fun j hj => ?_⟩
      have := hat j (by omega)
      rw [hn, Deep.add_add] at this
      exact this)
    refine ⟨ys.map dec, by simp [hy], fun h0 => ?_, by simp; omega, fun x hx => ?_⟩
    · have h0 : 0 < ys.length := by simpa using h0
      obtain ⟨hz0, hz1⟩ := hp 0 h0
      have hc0 := hz1 0 hn0
      obtain ⟨b, o, s⟩ := a
      have h00 : 0 < (ys[0]).length := by rw [hz0.len]; exact hn0
      have hs : s = none := by
        rw [List.getElem?_eq_getElem h00] at hc0
        simpa [Addr.add] using World.cell?_spot hc0
      subst hs
      have ea : ∀ k, (⟨b, o, none⟩ : Addr).add k = ⟨b, o + k, none⟩ := fun k => by unfold Addr.add; split <;> simp_all
      refine ⟨b, o, rfl, ?_, fun k hk j v hv => ?_⟩
      · rw [List.getElem?_eq_getElem h00, ea] at hc0
        exact World.block_lt_of_cell? w _ hc0
      · have hk' : k < ys.length := by simpa using hk
        obtain ⟨hzl, hzc⟩ := hp k hk'
        have hv' : (ys[k])[j]? = some v := by
          rw [← hd _ hzl]
          simpa using hv
        have hj : j < ks.length := by
          have := (List.getElem?_eq_some_iff.1 hv').1
          rwa [hzl.len] at this
        have := hzc j hj
        rw [ea, hv', ← Nat.add_assoc] at this
        exact this
    · obtain ⟨y, hy', rfl⟩ := List.mem_map.1 hx
      obtain ⟨i, hi', rfl⟩ := List.getElem_of_mem hy'
      have := (hp i hi').1
      rwa [hd _ this]
/-- a token, as a list's element -/
abbrev Tk := Int × ByteArray × Int × Int
def tkg (v : Tk) : List Value := [.int .i64 v.1, .string v.2.1, .int .i64 v.2.2.1, .int .i64 v.2.2.2]
theorem tkg_len (v : Tk) : (tkg v).length = 4 := rfl
def tk4 : List Value → Tk
  | [.int .i64 a, .string s, .int .i64 b, .int .i64 c] => (a, s, b, c)
  | _ => (0, ByteArray.empty, 0, 0)
theorem tkg_tk4 (vs : List Value) (h : KS [.int, .str, .int, .int] vs) : tkg (tk4 vs) = vs := by
  obtain ⟨_, _, rfl, ⟨a, rfl, _⟩, _, _, rfl, ⟨s, rfl, _⟩, _, _, rfl, ⟨b, rfl, _⟩, _, _, rfl, ⟨c, rfl, _⟩, rfl⟩ := h
  rfl
/-- what a token's cells may be -/
def TkOk (v : Tk) : Prop := (Lit.int .i64 v.1).wf = true ∧ v.2.1.size ≤ maxLen ∧ (Lit.int .i64 v.2.2.1).wf = true ∧ (Lit.int .i64 v.2.2.2).wf = true
theorem tkOk_of {v : Tk} (h : KS [.int, .str, .int, .int] (tkg v)) : TkOk v := by
  obtain ⟨_, _, h0, ⟨a, rfl, ha⟩, _, _, h1, ⟨s, rfl, hs⟩, _, _, h2, ⟨b, rfl, hb⟩, _, _, h3, ⟨c, rfl, hc⟩, h4⟩ := h
  subst h1 h2 h3 h4
  unfold tkg at h0
  injection h0 with e0 h0
  injection h0 with e1 h0
  injection h0 with e2 h0
  injection h0 with e3 h0
  injection e0 with _ e0
  injection e1 with e1
  injection e2 with _ e2
  injection e3 with _ e3
  exact ⟨by rw [e0]; exact ha, by rw [e1]; exact hs, by rw [e2]; exact hb, by rw [e3]; exact hc⟩
end Go.Proofs.Ytaelhbbfddcabaa
