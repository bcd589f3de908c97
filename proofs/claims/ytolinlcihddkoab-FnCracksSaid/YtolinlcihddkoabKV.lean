/- Words of our own for structs of integers and bools (one cell each): nothing of the program. -/
import Derived.WalkKit
import Derived.OpenShut
import Derived.Lib.SmallJoins
namespace Go.Proofs.Ytolinlcihddkoab
open Go.RowKit Go.ChangeShapes Go.WideShapes

/-- cells of these kinds: a bool (true) or an integer (false) -/
def KV : List Bool → List Value → Prop
  | [], vs => vs = []
  | true :: ks, vs => ∃ (b : Bool) (r : List Value), vs = .bool b :: r ∧ KV ks r
  | false :: ks, vs => ∃ (z : Int) (r : List Value), vs = .int .i64 z :: r ∧ (Lit.int .i64 z).wf = true ∧ KV ks r
theorem KV.app : ∀ {ks : List Bool} {ls : List Bool} {vs us : List Value}, KV ks vs → KV ls us → KV (ks ++ ls) (vs ++ us)
  | [], _, _, _, h, h' => by
    have h : _ = [] := h
    subst h
    exact h'
  | true :: _, _, _, _, h, h' => by
    obtain ⟨b, r, rfl, hr⟩ := h
    exact ⟨b, _, rfl, hr.app h'⟩
  | false :: _, _, _, _, h, h' => by
    obtain ⟨z, r, rfl, hw, hr⟩ := h
    exact ⟨z, _, rfl, hw, hr.app h'⟩
/-- whatever reads at type t is cells of these kinds -/
def FlatK (P : Program) (t : TypeId) (ks : List Bool) : Prop :=
  ∀ (H : Type) (enc : TypeId × Value → H) (w : World) (base : Nat) (spare : Nat → Bool) (held : Bool) (fuel : Nat) (cs : List Value) (x : DataW H × List MemPlace),
    DataW.trod enc P w base spare held fuel t cs = some x → KV ks cs
theorem flatK_int {P : Program} {t : TypeId} (ht : P.underlying t = some (.int .i64)) : FlatK P t [false] := by
  intro H enc w base spare held fuel cs x h
  obtain ⟨n, rfl, _, hw⟩ := DataW.trod_int ht h
  exact ⟨n, [], rfl, hw, rfl⟩
theorem flatK_bool {P : Program} {t : TypeId} (ht : P.underlying t = some .bool) : FlatK P t [true] := by
  intro H enc w base spare held fuel cs x h
  obtain ⟨b, rfl, _⟩ := DataW.trod_bool ht h
  exact ⟨b, [], rfl, rfl⟩
/-- the fields of a struct, from a place on: each of its kinds, one behind the other -/
def FlatKs (P : Program) : List Field → Nat → List (List Bool) → Nat → Prop
  | [], o, ks, n => ks = [] ∧ o = n
  | f :: fs, o, ks, n => ∃ a r, ks = a :: r ∧ f.offset = o ∧ P.cellsOf f.type = a.length ∧ FlatK P f.type a ∧ FlatKs P fs (o + a.length) r n
theorem flatK_fields {P : Program} {H : Type} {enc : TypeId × Value → H} {w : World} {base : Nat} {spare : Nat → Bool} {held : Bool} {m : Nat} {cs : List Value} {n : Nat} (hn : cs.length = n) :
    ∀ (fs : List Field) (o : Nat) (ks : List (List Bool)), FlatKs P fs o ks n → (∀ f ∈ fs, ∃ y, DataW.trod enc P w base spare held m f.type ((cs.drop f.offset).take (P.cellsOf f.type)) = some y) →
      KV ks.flatten (cs.drop o) := by
  intro fs
  induction fs with
  | nil =>
    intro o ks h _
    obtain ⟨rfl, rfl⟩ := h
    show cs.drop o = []
    simp; omega
  | cons f fs ih =>
    intro o ks h hy
    obtain ⟨a, r, rfl, ho, hc, hf, hr⟩ := h
    obtain ⟨y, hy0⟩ := hy f (by simp)
    have k0 := hf _ _ _ _ _ _ _ _ _ hy0
    have k1 := ih _ _ hr (fun g hg => hy g (by simp [hg]))
    rw [hc, ho] at k0
    have := k0.app k1
    rwa [← List.drop_drop, List.take_append_drop] at this
theorem flatKS {P : Program} {t : TypeId} {fs : Array Field} {n : Nat} {ks : List (List Bool)} (ht : P.underlying t = some (.struct fs)) (hn : P.cellsOf t = n) (hf : FlatKs P fs.toList 0 ks n) : FlatK P t ks.flatten := by
  intro H enc w base spare held fuel cs x h
  obtain ⟨xs, m, _, _, hl, hlen, hg⟩ := DataW.trod_struct ht h
  have := flatK_fields (hl.trans hn) fs.toList 0 ks hf (fun f hfm => by
    obtain ⟨i, hi, rfl⟩ := List.getElem_of_mem hfm
    have hi' : i < fs.size := by simpa using hi
    have := hg i _ (by simp [hi'] : fs[i]? = some fs.toList[i])
    exact ⟨xs[i]'(by omega), by rw [this]; simp [show i < xs.length by omega]⟩)
  simpa only [List.drop_zero] using this
/-- a struct argument, opened -/
theorem open_flatK {P : Program} {t : TypeId} {fs : Array Field} {ks : List Bool} (ht : P.underlying t = some (.struct fs)) (hF : FlatK P t ks) {H : Type} {enc : TypeId × Value → H} {w : World} {base : Nat} {spare : Nat → Bool} {held : Bool} {r : Reach} {b0 : Nat} {v : Value}
    {d : DataW H} {p : List MemPlace} (hv : Value.okWide P w r b0 t v) (h : DataW.Trod enc P w base spare held t v d p) : ∃ vs : List Value, v = .agg ⟨vs⟩ ∧ KV ks vs := by
  obtain ⟨cs, rfl, hsz⟩ := okWide_struct ht hv
  obtain ⟨fuel, hf⟩ := h
  exact ⟨cs.toList, rfl, by simpa [Value.cells] using hF _ _ _ _ _ _ _ _ _ hf⟩
end Go.Proofs.Ytolinlcihddkoab
