/- Words of our own for values that are made of integers alone (structs and arrays of int): nothing of the program. -/
import Derived.WalkKit
import Derived.OpenShut
import Derived.Lib.SmallJoins
namespace Go.Proofs.Ytaelhbbfddcabaa
open Go.RowKit Go.ChangeShapes Go.WideShapes

/-- whatever reads at type t is n integers, one cell each -/
def FlatI (P : Program) (t : TypeId) (n : Nat) : Prop :=
  ∀ (H : Type) (enc : TypeId × Value → H) (w : World) (base : Nat) (spare : Nat → Bool) (held : Bool) (fuel : Nat) (cs : List Value) (x : DataW H × List MemPlace),
    DataW.trod enc P w base spare held fuel t cs = some x → ∃ zs : List Int, zs.length = n ∧ cs = zs.map (Value.int .i64) ∧ ∀ z ∈ zs, (Lit.int .i64 z).wf = true
theorem flat1 {P : Program} {t : TypeId} (ht : P.underlying t = some (.int .i64)) : FlatI P t 1 := by
  intro H enc w base spare held fuel cs x h
  obtain ⟨n, rfl, _, hw⟩ := DataW.trod_int ht h
  exact ⟨[n], rfl, rfl, fun z hz => by rcases List.mem_singleton.1 hz with rfl; exact hw⟩
/-- the fields of a struct, from a place on: each flat, one behind the other -/
def FlatFs (P : Program) : List Field → Nat → Nat → Prop
  | [], o, n => o = n
  | f :: fs, o, n => f.offset = o ∧ FlatI P f.type (P.cellsOf f.type) ∧ FlatFs P fs (o + P.cellsOf f.type) n
theorem flat_fields {P : Program} {H : Type} {enc : TypeId × Value → H} {w : World} {base : Nat} {spare : Nat → Bool} {held : Bool} {m : Nat} {cs : List Value} {n : Nat} (hn : cs.length = n) :
    ∀ (fs : List Field) (o : Nat), FlatFs P fs o n → (∀ f ∈ fs, ∃ y, DataW.trod enc P w base spare held m f.type ((cs.drop f.offset).take (P.cellsOf f.type)) = some y) →
      ∃ zs : List Int, cs.drop o = zs.map (Value.int .i64) ∧ ∀ z ∈ zs, (Lit.int .i64 z).wf = true := by
  intro fs
  induction fs with
  | nil =>
    intro o h _
    have h : o = n := h
    exact ⟨[], by simp; omega, by simp⟩
  | cons f fs ih =>
    intro o h hy
    obtain ⟨ho, hf, hr⟩ := h
    obtain ⟨y, hy0⟩ := hy f (by simp)
    obtain ⟨z0, hl0, e0, w0⟩ := hf _ _ _ _ _ _ _ _ _ hy0
    obtain ⟨z1, e1, w1⟩ := ih _ hr (fun g hg => hy g (by simp [hg]))
    refine ⟨z0 ++ z1, ?_, fun z hz => ?_⟩
    · rw [List.map_append, ← e0, ← e1, ← ho, ← List.drop_drop, List.take_append_drop]
    · rcases List.mem_append.1 hz with hz | hz
      · exact w0 z hz
      · exact w1 z hz
theorem flatS {P : Program} {t : TypeId} {fs : Array Field} {n : Nat} (ht : P.underlying t = some (.struct fs)) (hn : P.cellsOf t = n) (hf : FlatFs P fs.toList 0 n) : FlatI P t n := by
  intro H enc w base spare held fuel cs x h
  obtain ⟨xs, m, _, _, hl, hlen, hg⟩ := DataW.trod_struct ht h
  obtain ⟨zs, e, hw⟩ := flat_fields (hl.trans hn) fs.toList 0 hf (fun f hfm => by
    obtain ⟨i, hi, rfl⟩ := List.getElem_of_mem hfm
    have hi' : i < fs.size := by simpa using hi
    have := hg i _ (by simp [hi'] : fs[i]? = some fs.toList[i])
    exact ⟨xs[i]'(by omega), by rw [this]; simp [show i < xs.length by omega]⟩)
  simp only [List.drop_zero] at e
  exact ⟨zs, by have := congrArg List.length e; simp at this; omega, e, hw⟩
theorem flat_chunks {e : Nat} {cs : List Value} : ∀ (n : Nat), cs.length = n * e → (∀ i, i < n → ∃ zs : List Int, (cs.drop (i * e)).take e = zs.map (Value.int .i64) ∧ ∀ z ∈ zs, (Lit.int .i64 z).wf = true) →
      ∃ zs : List Int, cs = zs.map (Value.int .i64) ∧ ∀ z ∈ zs, (Lit.int .i64 z).wf = true := by
  intro n
  induction n generalizing cs with
  | zero =>
    intro hl _
    have : cs = [] := List.length_eq_zero_iff.1 (by omega)
    exact ⟨[], by simpa using this, by simp⟩
  | succ n ih =>
    intro hl h
    obtain ⟨z0, e0, w0⟩ := h 0 (by omega)
    obtain ⟨z1, e1, w1⟩ := ih (cs := cs.drop e) (by rw [List.length_drop, hl, Nat.succ_mul]; omega) (fun i hi => by
      obtain ⟨zs, ez, wz⟩ := h (i + 1) (by omega)
      exact ⟨zs, by rw [← ez, List.drop_drop, Nat.succ_mul, Nat.add_comm e]; , wz⟩)
    simp only [Nat.zero_mul, List.drop_zero] at e0
    refine ⟨z0 ++ z1, ?_, fun z hz => ?_⟩
    · rw [List.map_append, ← e0, ← e1, List.take_append_drop]
    · rcases List.mem_append.1 hz with hz | hz
      · exact w0 z hz
      · exact w1 z hz
theorem flatA {P : Program} {t e : TypeId} {n m : Nat} (ht : P.underlying t = some (.array n e)) (hn : P.cellsOf t = n * m) (hm : P.cellsOf e = m) (hf : FlatI P e m) : FlatI P t (n * m) := by
  intro H enc w base spare held fuel cs x h
  obtain ⟨xs, k, _, _, hl, hlen, hg⟩ := DataW.trod_array ht h
  rw [hn] at hl
  obtain ⟨zs, e, hw⟩ := flat_chunks n hl (fun i hi => by
    have := hg i hi
    rw [hm, show xs[i]? = some (xs[i]'(by omega)) by simp [show i < xs.length by omega]] at this
    obtain ⟨zs, _, ez, wz⟩ := hf _ _ _ _ _ _ _ _ _ this
    exact ⟨zs, ez, wz⟩)
  exact ⟨zs, by have := congrArg List.length e; simp at this; omega, e, hw⟩
/-- a struct argument, opened -/
theorem open_flat {P : Program} {t : TypeId} {fs : Array Field} {n : Nat} (ht : P.underlying t = some (.struct fs)) (hF : FlatI P t n) {H : Type} {enc : TypeId × Value → H} {w : World} {base : Nat} {spare : Nat → Bool} {held : Bool} {r : Reach} {b0 : Nat} {v : Value}
    {d : DataW H} {p : List MemPlace} (hv : Value.okWide P w r b0 t v) (h : DataW.Trod enc P w base spare held t v d p) : ∃ zs : List Int, zs.length = n ∧ v = .agg ⟨zs.map (Value.int .i64)⟩ ∧ ∀ z ∈ zs, (Lit.int .i64 z).wf = true := by
  obtain ⟨cs, rfl, hsz⟩ := okWide_struct ht hv
  obtain ⟨fuel, hf⟩ := h
  obtain ⟨zs, hl, hc, hw⟩ := hF _ _ _ _ _ _ _ _ _ hf
  refine ⟨zs, hl, ?_, hw⟩
  have e : cs.toList = zs.map (Value.int .i64) := by simpa [Value.cells] using hc
  rw [← e]
theorem list1 {zs : List Int} (h : zs.length = 1) : ∃ z0, zs = [z0] := by
  match zs, h with
  | [z0], _ => exact ⟨z0, rfl⟩
theorem list2 {zs : List Int} (h : zs.length = 2) : ∃ z0 z1, zs = [z0, z1] := by
  match zs, h with
  | [z0, z1], _ => exact ⟨z0, z1, rfl⟩
theorem list3 {zs : List Int} (h : zs.length = 3) : ∃ z0 z1 z2, zs = [z0, z1, z2] := by
  match zs, h with
  | [z0, z1, z2], _ => exact ⟨z0, z1, z2, rfl⟩
theorem list4 {zs : List Int} (h : zs.length = 4) : ∃ z0 z1 z2 z3, zs = [z0, z1, z2, z3] := by
  match zs, h with
  | [z0, z1, z2, z3], _ => exact ⟨z0, z1, z2, z3, rfl⟩
theorem list5 {zs : List Int} (h : zs.length = 5) : ∃ z0 z1 z2 z3 z4, zs = [z0, z1, z2, z3, z4] := by
  match zs, h with
  | [z0, z1, z2, z3, z4], _ => exact ⟨z0, z1, z2, z3, z4, rfl⟩
theorem list6 {zs : List Int} (h : zs.length = 6) : ∃ z0 z1 z2 z3 z4 z5, zs = [z0, z1, z2, z3, z4, z5] := by
  match zs, h with
  | [z0, z1, z2, z3, z4, z5], _ => exact ⟨z0, z1, z2, z3, z4, z5, rfl⟩
theorem list7 {zs : List Int} (h : zs.length = 7) : ∃ z0 z1 z2 z3 z4 z5 z6, zs = [z0, z1, z2, z3, z4, z5, z6] := by
  match zs, h with
  | [z0, z1, z2, z3, z4, z5, z6], _ => exact ⟨z0, z1, z2, z3, z4, z5, z6, rfl⟩
theorem list8 {zs : List Int} (h : zs.length = 8) : ∃ z0 z1 z2 z3 z4 z5 z6 z7, zs = [z0, z1, z2, z3, z4, z5, z6, z7] := by
  match zs, h with
  | [z0, z1, z2, z3, z4, z5, z6, z7], _ => exact ⟨z0, z1, z2, z3, z4, z5, z6, z7, rfl⟩
theorem list9 {zs : List Int} (h : zs.length = 9) : ∃ z0 z1 z2 z3 z4 z5 z6 z7 z8, zs = [z0, z1, z2, z3, z4, z5, z6, z7, z8] := by
  match zs, h with
  | [z0, z1, z2, z3, z4, z5, z6, z7, z8], _ => exact ⟨z0, z1, z2, z3, z4, z5, z6, z7, z8, rfl⟩
theorem list10 {zs : List Int} (h : zs.length = 10) : ∃ z0 z1 z2 z3 z4 z5 z6 z7 z8 z9, zs = [z0, z1, z2, z3, z4, z5, z6, z7, z8, z9] := by
  match zs, h with
  | [z0, z1, z2, z3, z4, z5, z6, z7, z8, z9], _ => exact ⟨z0, z1, z2, z3, z4, z5, z6, z7, z8, z9, rfl⟩
theorem list11 {zs : List Int} (h : zs.length = 11) : ∃ z0 z1 z2 z3 z4 z5 z6 z7 z8 z9 z10, zs = [z0, z1, z2, z3, z4, z5, z6, z7, z8, z9, z10] := by
  match zs, h with
  | [z0, z1, z2, z3, z4, z5, z6, z7, z8, z9, z10], _ => exact ⟨z0, z1, z2, z3, z4, z5, z6, z7, z8, z9, z10, rfl⟩
theorem list12 {zs : List Int} (h : zs.length = 12) : ∃ z0 z1 z2 z3 z4 z5 z6 z7 z8 z9 z10 z11, zs = [z0, z1, z2, z3, z4, z5, z6, z7, z8, z9, z10, z11] := by
  match zs, h with
  | [z0, z1, z2, z3, z4, z5, z6, z7, z8, z9, z10, z11], _ => exact ⟨z0, z1, z2, z3, z4, z5, z6, z7, z8, z9, z10, z11, rfl⟩
end Go.Proofs.Ytaelhbbfddcabaa
