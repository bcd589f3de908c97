/- Words of our own for programs of the shading language in memory: slices of structs that hold a slice of integers; nothing of the program. -/
import Derived.WalkKit
import Derived.WalkSpells
import Derived.Laws.OwnMore
import Derived.Deep.Slices
import Derived.Deep.OwnRows
import Derived.OwnWalk
import Derived.ChangeSlices
import Derived.Test.YtaelhbbfddcabaaMem
import Derived.Test.YtaelhbbfddcabaaRowC
import Derived.Test.YtaelhbbfddcabaaHeld
import Derived.Test.YtaelhbbfddcabaaKS
namespace Go.Proofs.Ytaelhbbfddcabaa
open Go.RowKit Go.ChangeShapes Go.WideShapes

/-- a node: Op, Name, Number, Args -/
abbrev Nd := Int × ByteArray × Int × List Int
/-- an assignment: Name, Root -/
abbrev As := ByteArray × Int
def asg (v : As) : List Value := [.string v.1, .int .i64 v.2]
theorem asg_len (v : As) : (asg v).length = 2 := rfl
def as2 : List Value → As
  | [.string s, .int .i64 a] => (s, a)
  | _ => (ByteArray.empty, 0)
theorem asg_as2 (vs : List Value) (h : KS [.str, .int] vs) : asg (as2 vs) = vs := by
  obtain ⟨_, _, rfl, ⟨s, rfl, _⟩, _, _, rfl, ⟨a, rfl, _⟩, rfl⟩ := h
  rfl
theorem asg_at {w : World} {b o : Nat} {v : As} (h : ∀ j u, (asg v)[j]? = some u → w.cell? ⟨b, o + j, none⟩ = some u) :
    w.cell? ⟨b, o, none⟩ = some (.string v.1) ∧ w.cell? ⟨b, o + 1, none⟩ = some (.int .i64 v.2) := ⟨h 0 _ rfl, h 1 _ rfl⟩
def AsOk (v : As) : Prop := v.1.size ≤ maxLen ∧ (Lit.int .i64 v.2).wf = true
theorem asOk_of {v : As} (h : KS [.str, .int] (asg v)) : AsOk v := by
  obtain ⟨_, _, h0, ⟨s, rfl, hs⟩, _, _, h1, ⟨a, rfl, ha⟩, h2⟩ := h
  subst h1 h2
  unfold asg at h0
  injection h0 with e0 h0
  injection h0 with e1 h0
  injection e0 with e0
  injection e1 with _ e1
  exact ⟨by rw [e0]; exact hs, by rw [e1]; exact ha⟩
def NdOk (v : Nd) : Prop := (Lit.int .i64 v.1).wf = true ∧ v.2.1.size ≤ maxLen ∧ (Lit.int .i64 v.2.2.1).wf = true ∧ v.2.2.2.length ≤ maxLen ∧ ∀ z ∈ v.2.2.2, (Lit.int .i64 z).wf = true
/-- a node's four cells at a place; its arguments lie below block B -/
def NdAt (w : World) (B b o : Nat) (v : Nd) : Prop := ∃ a c, w.cell? ⟨b, o, none⟩ = some (.int .i64 v.1) ∧ w.cell? ⟨b, o + 1, none⟩ = some (.string v.2.1) ∧ w.cell? ⟨b, o + 2, none⟩ = some (.int .i64 v.2.2.1) ∧
  w.cell? ⟨b, o + 3, none⟩ = some (.slice a v.2.2.2.length c) ∧ v.2.2.2.length ≤ c ∧ c ≤ maxLen ∧ Row (Value.int .i64) w B a v.2.2.2
/-- a slice of nodes at address A, below block B -/
def NdRow (w : World) (B : Nat) (A : Option Addr) (xs : List Nd) : Prop :=
  0 < xs.length → ∃ b o, A = some ⟨b, o, none⟩ ∧ b < B ∧ ∀ k (h : k < xs.length), NdAt w B b (o + k * 4) xs[k]
section
variable {w w' : World} {B B' : Nat} {A : Option Addr} {xs : List Nd}
theorem NdRow.nil : NdRow w B A [] := fun h => by simp at h
theorem NdRow.at (h : NdRow w B A xs) {k : Nat} (hk : k < xs.length) : ∃ b o, A = some ⟨b, o, none⟩ ∧ b < B ∧ NdAt w B b (o + k * 4) xs[k] := by
  obtain ⟨b, o, e, hb, hc⟩ := h (by omega)
  exact ⟨b, o, e, hb, hc k hk⟩
theorem NdAt.keep {b o : Nat} {v : Nd} (h : NdAt w B b o v) (hb : b < B) (hk : ∀ p : Addr, p.block < B → w'.cell? p = w.cell? p) : NdAt w' B b o v := by
  obtain ⟨a, c, h0, h1, h2, h3, h4, h5, h6⟩ := h
  exact ⟨a, c, (hk _ hb).trans h0, (hk _ hb).trans h1, (hk _ hb).trans h2, (hk _ hb).trans h3, h4, h5, h6.keep hk⟩
theorem NdRow.keep (h : NdRow w B A xs) (hk : ∀ p : Addr, p.block < B → w'.cell? p = w.cell? p) : NdRow w' B A xs := fun hn => by
  obtain ⟨b, o, e, hb, hc⟩ := h hn
  exact ⟨b, o, e, hb, fun k hk' => (hc k hk').keep hb hk⟩
theorem NdRow.more (h : NdRow w B A xs) (hB : B ≤ B') : NdRow w B' A xs := fun hn => by
  obtain ⟨b, o, e, hb, hc⟩ := h hn
  refine ⟨b, o, e, by omega, fun k hk' => ?_⟩
  obtain ⟨a, c, h0, h1, h2, h3, h4, h5, h6⟩ := hc k hk'
  exact ⟨a, c, h0, h1, h2, h3, h4, h5, h6.more hB⟩
theorem NdRow.below (h : NdRow w B A xs) (hb : Below B w w') : NdRow w' B A xs := h.keep fun _ hp => hb.cell hp
theorem NdRow.later (h : NdRow w w.heap.size A xs) (hb : Below w.heap.size w w') : NdRow w' w'.heap.size A xs := (h.below hb).more hb.size
theorem NdRow.alloc (h : NdRow w B A xs) (hB : B ≤ w.heap.size) (o : Obj) : NdRow (w.alloc o) B A xs := h.keep fun p hp => World.cell?_alloc_lt w o p (by omega)
end
/-- what the reading of a struct of an integer, a string, an integer and a slice of integers gives -/
theorem node_of {P : Program} {t i : TypeId} {f0 f1 f2 f3 : Field} (ht : P.underlying t = some (.struct #[f0, f1, f2, f3])) (hn : P.cellsOf t = 4) (o0 : f0.offset = 0) (o1 : f1.offset = 1) (o2 : f2.offset = 2) (o3 : f3.offset = 3)
    (n0 : P.cellsOf f0.type = 1) (n1 : P.cellsOf f1.type = 1) (n2 : P.cellsOf f2.type = 1) (n3 : P.cellsOf f3.type = 1) (k0 : P.underlying f0.type = some (.int .i64)) (k1 : P.underlying f1.type = some .string) (k2 : P.underlying f2.type = some (.int .i64))
    (k3 : P.underlying f3.type = some (.slice i)) (ki : P.underlying i = some (.int .i64)) (hci : P.cellsOf i = 1)
    {H : Type} {enc : TypeId × Value → H} {w : World} {base : Nat} {spare : Nat → Bool} {held : Bool} {fuel : Nat} {cs : List Value} {x : DataW H × List MemPlace} (h : DataW.trod enc P w base spare held fuel t cs = some x) :
    ∃ (v : Nd) (a : Option Addr) (c : Nat), cs = [.int .i64 v.1, .string v.2.1, .int .i64 v.2.2.1, .slice a v.2.2.2.length c] ∧ v.2.2.2.length ≤ c ∧ c ≤ maxLen ∧ Row (Value.int .i64) w w.heap.size a v.2.2.2 ∧ NdOk v := by
  obtain ⟨xs, m, _, _, hl, hlen, hg⟩ := DataW.trod_struct ht h
  rw [hn] at hl
  match cs, hl with
  | [v0, v1, v2, v3], _ =>
    have h0 := hg 0 f0 rfl
    have h1 := hg 1 f1 rfl
    have h2 := hg 2 f2 rfl
    have h3 := hg 3 f3 rfl
    rw [o0, n0] at h0
    rw [o1, n1] at h1
    rw [o2, n2] at h2
    rw [o3, n3] at h3
    have hlen : xs.length = 4 := hlen
    have h0 : DataW.trod enc P w base spare held m f0.type [v0] = some xs[0] := by simpa [hlen] using h0
    have h1 : DataW.trod enc P w base spare held m f1.type [v1] = some xs[1] := by simpa [hlen] using h1
    have h2 : DataW.trod enc P w base spare held m f2.type [v2] = some xs[2] := by simpa [hlen] using h2
    have h3 : DataW.trod enc P w base spare held m f3.type [v3] = some xs[3] := by simpa [hlen] using h3
    obtain ⟨z0, e0, _, w0⟩ := DataW.trod_int k0 h0
    obtain ⟨z1, e1, _, w1⟩ := DataW.trod_string k1 h1
    obtain ⟨z2, e2, _, w2⟩ := DataW.trod_int k2 h2
    simp at e0 e1 e2
    rcases open_ints k3 ki hci h3 with ⟨hcs, _⟩ | ⟨a, l', c, zs, hcs, _, hl', hm', hz, _, hcell, hw⟩
    · simp at hcs
      exact ⟨(z0, z1, z2, []), none, 0, by rw [e0, e1, e2, hcs]; rfl, Nat.le_refl _, Nat.zero_le _, Row.nil, w0, w1, w2, Nat.zero_le _, fun z hz => by cases hz⟩
    · simp at hcs
      have hlz : l' ≤ zs.length := by rw [hz]; split <;> omega
      have hzm : zs.length ≤ maxLen := by rw [hz]; split <;> omega
      obtain ⟨ys, hyl, hr, hym, hyw⟩ := row_of_cells (f := Value.int .i64) (zs := zs) (d := (0 : Int)) (p := fun z => (Lit.int .i64 z).wf = true) hlz hzm rfl hcell hw
      exact ⟨(z0, z1, z2, ys), some a, c, by rw [e0, e1, e2, hcs, hyl], by show ys.length ≤ c; omega, hm', hr, w0, w1, w2, hym, hyw⟩
/-- what the reading of a slice of nodes gives -/
theorem nodes_of {P : Program} {t e : TypeId} (ht : P.underlying t = some (.slice e)) (hce : P.cellsOf e = 4)
    (hnd : ∀ (H : Type) (enc : TypeId × Value → H) (w : World) (base : Nat) (spare : Nat → Bool) (held : Bool) (fuel : Nat) (cs : List Value) (x : DataW H × List MemPlace), DataW.trod enc P w base spare held fuel e cs = some x →
      ∃ (v : Nd) (a : Option Addr) (c : Nat), cs = [.int .i64 v.1, .string v.2.1, .int .i64 v.2.2.1, .slice a v.2.2.2.length c] ∧ v.2.2.2.length ≤ c ∧ c ≤ maxLen ∧ Row (Value.int .i64) w w.heap.size a v.2.2.2 ∧ NdOk v)
    {H : Type} {enc : TypeId × Value → H} {w : World} {base : Nat} {spare : Nat → Bool} {held : Bool} {v : Value} {fuel : Nat} {x : DataW H × List MemPlace} (h : DataW.trod enc P w base spare held fuel t [v] = some x) :
    ∃ (A : Option Addr) (cap : Nat) (xs : List Nd), v = .slice A xs.length cap ∧ NdRow w w.heap.size A xs ∧ xs.length ≤ maxLen ∧ ∀ y ∈ xs, NdOk y := by
  rcases Deep.open_slice ht h with ⟨hcs, _⟩ | ⟨a, l, c, m, k, D, Pl, hcs, _, hl, hm, hmm, _, hi⟩
  · simp at hcs
    exact ⟨none, 0, [], hcs, NdRow.nil, Nat.zero_le _, fun y hy => by cases hy⟩
  · simp at hcs
    have hlm : l ≤ m := by rw [hmm]; split <;> omega
    obtain ⟨ys, hy, hp⟩ := list_of (P := fun i (y : Nd) => ∃ (a' : Option Addr) (c' : Nat), (∀ j, j < 4 → w.cell? (a.add (i * 4 + j)) = ([.int .i64 y.1, .string y.2.1, .int .i64 y.2.2.1, .slice a' y.2.2.2.length c'] : List Value)[j]?) ∧ y.2.2.2.length ≤ c' ∧ c' ≤ maxLen ∧ Row (Value.int .i64) w w.heap.size a' y.2.2.2 ∧ NdOk y) l (fun i hlt => by
      obtain ⟨cs', hc, ht'⟩ := hi i (by omega)
      obtain ⟨v, a', c', rfl, h1, h2, h3, h4⟩ := hnd _ _ _ _ _ _ _ _ _ ht'
      obtain ⟨_, _, hat⟩ := World.cells?_some hc
      refine ⟨v, a', c', fun j hj => ?_, h1, h2, h3, h4⟩
      have := hat j (by omega)
      rw [hce, Deep.add_add] at this
      exact this)
    subst hcs
    refine ⟨some a, c, ys, by rw [hy], fun h0 => ?_, by omega, fun y hy' => ?_⟩
    · obtain ⟨a0, c0, h1, _⟩ := hp 0 h0
      have h10 := h1 0 (by omega)
      obtain ⟨b, o, s⟩ := a
      have hs : s = none := by simpa [Addr.add] using World.cell?_spot h10
      subst hs
      have ea : ∀ k, (⟨b, o, none⟩ : Addr).add k = ⟨b, o + k, none⟩ := fun k => by unfold Addr.add; split <;> simp_all
      refine ⟨b, o, rfl, ?_, fun k hk => ?_⟩
      · rw [ea] at h10
        exact World.block_lt_of_cell? w _ h10
      · obtain ⟨a1, c1, h1, h2, h3, h4, _⟩ := hp k hk
        have q0 := h1 0 (by omega)
        have q1 := h1 1 (by omega)
        have q2 := h1 2 (by omega)
        have q3 := h1 3 (by omega)
        rw [ea] at q0 q1 q2 q3
        exact ⟨a1, c1, q0, q1, q2, q3, h2, h3, h4⟩
    · obtain ⟨k, hk, rfl⟩ := List.getElem_of_mem hy'
      obtain ⟨_, _, _, _, _, _, h5⟩ := hp k hk
      exact h5
/-- a slice of structs of kinds, of one cell that holds the slice -/
theorem kinds_of {α : Type} {P : Program} {t e : TypeId} {ks : List Kd} (dec : List Value → α) (g : α → List Value) (hd : ∀ vs, KS ks vs → g (dec vs) = vs) (ht : P.underlying t = some (.slice e)) (hn : P.cellsOf e = ks.length) (hF : FlatS P e ks) (hn0 : 0 < ks.length)
    {H : Type} {enc : TypeId × Value → H} {w : World} {base : Nat} {spare : Nat → Bool} {held : Bool} {v : Value} {fuel : Nat} {x : DataW H × List MemPlace} (h : DataW.trod enc P w base spare held fuel t [v] = some x) :
    ∃ (A : Option Addr) (cap : Nat) (xs : List α), v = .slice A xs.length cap ∧ RowC ks.length g w w.heap.size A xs ∧ xs.length ≤ maxLen ∧ ∀ x ∈ xs, KS ks (g x) := by
  have hv : ∃ A len cap, v = .slice A len cap := by
    rcases Deep.open_slice ht h with ⟨hcs, _⟩ | ⟨a, l, c, m, k, D, Pl, hcs, _⟩
    · simp at hcs; exact ⟨_, _, _, hcs⟩
    · simp at hcs; exact ⟨_, _, _, hcs⟩
  obtain ⟨A, len, cap, rfl⟩ := hv
  obtain ⟨xs, rfl, hr, hl, hk⟩ := rows_of_kinds (A := A) (len := len) (cap := cap) (d := x.1) (p := x.2) dec g hd ht hn hF hn0 ⟨fuel, h⟩
  exact ⟨A, cap, xs, rfl, hr, hl, hk⟩
/-- a program that is read -/
def ProgIn (w : World) (B : Nat) (A A' : Option Addr) (xs : List Nd) (ys : List As) : Prop := NdRow w B A xs ∧ RowC 2 asg w B A' ys
section
variable {w w' : World} {B B' : Nat} {A A' : Option Addr} {xs : List Nd} {ys : List As}
theorem ProgIn.below (h : ProgIn w B A A' xs ys) (hb : Below B w w') : ProgIn w' B A A' xs ys := ⟨h.1.below hb, h.2.below hb⟩
theorem ProgIn.more (h : ProgIn w B A A' xs ys) (hB : B ≤ B') : ProgIn w B' A A' xs ys := ⟨h.1.more hB, h.2.more hB⟩
theorem ProgIn.later (h : ProgIn w w.heap.size A A' xs ys) (hb : Below w.heap.size w w') : ProgIn w' w'.heap.size A A' xs ys := ⟨h.1.later hb, h.2.later hb⟩
theorem ProgIn.alloc (h : ProgIn w B A A' xs ys) (hB : B ≤ w.heap.size) (o : Obj) : ProgIn (w.alloc o) B A A' xs ys := ⟨h.1.alloc hB o, h.2.alloc hB o⟩
end
/-- a struct of two slices, opened -/
theorem open_pairP {P : Program} {t : TypeId} {f0 f1 : Field} (ht : P.underlying t = some (.struct #[f0, f1])) (hn : P.cellsOf t = 2) (o0 : f0.offset = 0) (o1 : f1.offset = 1) (n0 : P.cellsOf f0.type = 1) (n1 : P.cellsOf f1.type = 1)
    {H : Type} {enc : TypeId × Value → H} {w : World} {base : Nat} {spare : Nat → Bool} {held : Bool} {r : Reach} {b0 : Nat} {v : Value} {d : DataW H} {p : List MemPlace} (hv : Value.okWide P w r b0 t v) (h : DataW.Trod enc P w base spare held t v d p) :
    ∃ v0 v1 m x0 x1, v = .agg #[v0, v1] ∧ DataW.trod enc P w base spare held m f0.type [v0] = some x0 ∧ DataW.trod enc P w base spare held m f1.type [v1] = some x1 := by
  obtain ⟨cs, rfl, hsz⟩ := okWide_struct ht hv
  obtain ⟨fuel, hf⟩ := h
  obtain ⟨xs, m, _, _, hl, hlen, hg⟩ := DataW.trod_struct ht hf
  simp only [Value.cells] at hg
  obtain ⟨l⟩ := cs
  rw [hn] at hsz
  match l, hsz with
  | [v0, v1], _ =>
    have h0 := hg 0 f0 rfl
    have h1 := hg 1 f1 rfl
    rw [o0, n0] at h0
    rw [o1, n1] at h1
    have hlen : xs.length = 2 := hlen
    exact ⟨v0, v1, m, xs[0], xs[1], rfl, by simpa [hlen] using h0, by simpa [hlen] using h1⟩
abbrev pgv (A A' : Option Addr) (n c m d : Nat) : Value := .agg #[.slice A n c, .slice A' m d]
end Go.Proofs.Ytaelhbbfddcabaa
