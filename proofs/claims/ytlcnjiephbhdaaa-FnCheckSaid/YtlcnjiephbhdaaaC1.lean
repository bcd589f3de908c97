/- Merged texts: Pg Ph Pi Pj Pk Pl Pm. -/
import Derived.Test.YtlcnjiephbhdaaaC0
import Derived.Test.YtlcnjiephbhdaaaProg
import Derived.WalkKit
import Derived.WalkSpells
import Derived.Laws.OwnMore
import Derived.Deep.Slices
import Derived.Deep.OwnRows
import Derived.OwnWalk
import Derived.ChangeSlices
import Derived.WalkLawsBesides
import Derived.Lib.Hide
import Derived.Deep.RegionHeld3
import Derived.Deep.QuietTactic
import Derived.BigQuiet
import Derived.Handy
import Derived.Deep.DeepCutAuto
namespace Go.Proofs.Ytlcnjiephbhdaaa
section
open Go.RowKit Go.ChangeShapes Go.WideShapes

/-- a node: Op, Name, Number, Args -/
abbrev Nd := Int × ByteArray × Int × List Int
/-- an assignment: Name, Root -/
abbrev As := ByteArray × Int
def asg (v : As) : List Value := [.string v.1, .int .i64 v.2]
theorem asg_len (v : As) : (asg v).length = 2 := rfl
def as2 : List Value → As
  | [.string s, .int .i64 a] => (s, a)
  | _ => (ByteArray.empty, 0)
theorem asg_as2 (vs : List Value) (h : KS [.str, .int] vs) : asg (as2 vs) = vs := by
  obtain ⟨_, _, rfl, ⟨s, rfl, _⟩, _, _, rfl, ⟨a, rfl, _⟩, rfl⟩ := h
  rfl
theorem asg_at {w : World} {b o : Nat} {v : As} (h : ∀ j u, (asg v)[j]? = some u → w.cell? ⟨b, o + j, none⟩ = some u) :
    w.cell? ⟨b, o, none⟩ = some (.string v.1) ∧ w.cell? ⟨b, o + 1, none⟩ = some (.int .i64 v.2) := ⟨h 0 _ rfl, h 1 _ rfl⟩
def AsOk (v : As) : Prop := v.1.size ≤ maxLen ∧ (Lit.int .i64 v.2).wf = true
theorem asOk_of {v : As} (h : KS [.str, .int] (asg v)) : AsOk v := by
  obtain ⟨_, _, h0, ⟨s, rfl, hs⟩, _, _, h1, ⟨a, rfl, ha⟩, h2⟩ := h
  subst h1 h2
  unfold asg at h0
  injection h0 with e0 h0
  injection h0 with e1 h0
  injection e0 with e0
  injection e1 with _ e1
  exact ⟨by rw [e0]; exact hs, by rw [e1]; exact ha⟩
def NdOk (v : Nd) : Prop := (Lit.int .i64 v.1).wf = true ∧ v.2.1.size ≤ maxLen ∧ (Lit.int .i64 v.2.2.1).wf = true ∧ v.2.2.2.length ≤ maxLen ∧ ∀ z ∈ v.2.2.2, (Lit.int .i64 z).wf = true
/-- a node's four cells at a place; its arguments lie below block B -/
def NdAt (w : World) (B b o : Nat) (v : Nd) : Prop := ∃ a c, w.cell? ⟨b, o, none⟩ = some (.int .i64 v.1) ∧ w.cell? ⟨b, o + 1, none⟩ = some (.string v.2.1) ∧ w.cell? ⟨b, o + 2, none⟩ = some (.int .i64 v.2.2.1) ∧
  w.cell? ⟨b, o + 3, none⟩ = some (.slice a v.2.2.2.length c) ∧ v.2.2.2.length ≤ c ∧ c ≤ maxLen ∧ Row (Value.int .i64) w B a v.2.2.2
/-- a slice of nodes at address A, below block B -/
def NdRow (w : World) (B : Nat) (A : Option Addr) (xs : List Nd) : Prop :=
  0 < xs.length → ∃ b o, A = some ⟨b, o, none⟩ ∧ b < B ∧ ∀ k (h : k < xs.length), NdAt w B b (o + k * 4) xs[k]
section
variable {w w' : World} {B B' : Nat} {A : Option Addr} {xs : List Nd}
theorem NdRow.nil : NdRow w B A [] := fun h => by simp at h
theorem NdRow.at (h : NdRow w B A xs) {k : Nat} (hk : k < xs.length) : ∃ b o, A = some ⟨b, o, none⟩ ∧ b < B ∧ NdAt w B b (o + k * 4) xs[k] := by
  obtain ⟨b, o, e, hb, hc⟩ := h (by omega)
  exact ⟨b, o, e, hb, hc k hk⟩
theorem NdAt.keep {b o : Nat} {v : Nd} (h : NdAt w B b o v) (hb : b < B) (hk : ∀ p : Addr, p.block < B → w'.cell? p = w.cell? p) : NdAt w' B b o v := by
  obtain ⟨a, c, h0, h1, h2, h3, h4, h5, h6⟩ := h
  exact ⟨a, c, (hk _ hb).trans h0, (hk _ hb).trans h1, (hk _ hb).trans h2, (hk _ hb).trans h3, h4, h5, h6.keep hk⟩
theorem NdRow.keep (h : NdRow w B A xs) (hk : ∀ p : Addr, p.block < B → w'.cell? p = w.cell? p) : NdRow w' B A xs := fun hn => by
  obtain ⟨b, o, e, hb, hc⟩ := h hn
  exact ⟨b, o, e, hb, fun k hk' => (hc k hk').keep hb hk⟩
theorem NdRow.more (h : NdRow w B A xs) (hB : B ≤ B') : NdRow w B' A xs := fun hn => by
  obtain ⟨b, o, e, hb, hc⟩ := h hn
  refine ⟨b, o, e, by omega, fun k hk' => ?_⟩
  obtain ⟨a, c, h0, h1, h2, h3, h4, h5, h6⟩ := hc k hk'
  exact ⟨a, c, h0, h1, h2, h3, h4, h5, h6.more hB⟩
theorem NdRow.below (h : NdRow w B A xs) (hb : Below B w w') : NdRow w' B A xs := h.keep fun _ hp => hb.cell hp
theorem NdRow.later (h : NdRow w w.heap.size A xs) (hb : Below w.heap.size w w') : NdRow w' w'.heap.size A xs := (h.below hb).more hb.size
theorem NdRow.alloc (h : NdRow w B A xs) (hB : B ≤ w.heap.size) (o : Obj) : NdRow (w.alloc o) B A xs := h.keep fun p hp => World.cell?_alloc_lt w o p (by omega)
end
/-- what the reading of a struct of an integer, a string, an integer and a slice of integers gives -/
theorem node_of {P : Program} {t i : TypeId} {f0 f1 f2 f3 : Field} (ht : P.underlying t = some (.struct #[f0, f1, f2, f3])) (hn : P.cellsOf t = 4) (o0 : f0.offset = 0) (o1 : f1.offset = 1) (o2 : f2.offset = 2) (o3 : f3.offset = 3)
    (n0 : P.cellsOf f0.type = 1) (n1 : P.cellsOf f1.type = 1) (n2 : P.cellsOf f2.type = 1) (n3 : P.cellsOf f3.type = 1) (k0 : P.underlying f0.type = some (.int .i64)) (k1 : P.underlying f1.type = some .string) (k2 : P.underlying f2.type = some (.int .i64))
    (k3 : P.underlying f3.type = some (.slice i)) (ki : P.underlying i = some (.int .i64)) (hci : P.cellsOf i = 1)
    {H : Type} {enc : TypeId × Value → H} {w : World} {base : Nat} {spare : Nat → Bool} {held : Bool} {fuel : Nat} {cs : List Value} {x : DataW H × List MemPlace} (h : DataW.trod enc P w base spare held fuel t cs = some x) :
    ∃ (v : Nd) (a : Option Addr) (c : Nat), cs = [.int .i64 v.1, .string v.2.1, .int .i64 v.2.2.1, .slice a v.2.2.2.length c] ∧ v.2.2.2.length ≤ c ∧ c ≤ maxLen ∧ Row (Value.int .i64) w w.heap.size a v.2.2.2 ∧ NdOk v := by
  obtain ⟨xs, m, _, _, hl, hlen, hg⟩ := DataW.trod_struct ht h
  rw [hn] at hl
  match cs, hl with
  | [v0, v1, v2, v3], _ =>
    have h0 := hg 0 f0 rfl
    have h1 := hg 1 f1 rfl
    have h2 := hg 2 f2 rfl
    have h3 := hg 3 f3 rfl
    rw [o0, n0] at h0
    rw [o1, n1] at h1
    rw [o2, n2] at h2
    rw [o3, n3] at h3
    have hlen : xs.length = 4 := hlen
    have h0 : DataW.trod enc P w base spare held m f0.type [v0] = some xs[0] := by simpa [hlen] using h0
    have h1 : DataW.trod enc P w base spare held m f1.type [v1] = some xs[1] := by simpa [hlen] using h1
    have h2 : DataW.trod enc P w base spare held m f2.type [v2] = some xs[2] := by simpa [hlen] using h2
    have h3 : DataW.trod enc P w base spare held m f3.type [v3] = some xs[3] := by simpa [hlen] using h3
    obtain ⟨z0, e0, _, w0⟩ := DataW.trod_int k0 h0
    obtain ⟨z1, e1, _, w1⟩ := DataW.trod_string k1 h1
    obtain ⟨z2, e2, _, w2⟩ := DataW.trod_int k2 h2
    simp at e0 e1 e2
    rcases open_ints k3 ki hci h3 with ⟨hcs, _⟩ | ⟨a, l', c, zs, hcs, _, hl', hm', hz, _, hcell, hw⟩
    · simp at hcs
      exact ⟨(z0, z1, z2, []), none, 0, by rw [e0, e1, e2, hcs]; rfl, Nat.le_refl _, Nat.zero_le _, Row.nil, w0, w1, w2, Nat.zero_le _, fun z hz => by cases hz⟩
    · simp at hcs
      have hlz : l' ≤ zs.length := by rw [hz]; split <;> omega
      have hzm : zs.length ≤ maxLen := by rw [hz]; split <;> omega
      obtain ⟨ys, hyl, hr, hym, hyw⟩ := row_of_cells (f := Value.int .i64) (zs := zs) (d := (0 : Int)) (p := fun z => (Lit.int .i64 z).wf = true) hlz hzm rfl hcell hw
      exact ⟨(z0, z1, z2, ys), some a, c, by rw [e0, e1, e2, hcs, hyl], by show ys.length ≤ c; omega, hm', hr, w0, w1, w2, hym, hyw⟩
/-- what the reading of a slice of nodes gives -/
theorem nodes_of {P : Program} {t e : TypeId} (ht : P.underlying t = some (.slice e)) (hce : P.cellsOf e = 4)
    (hnd : ∀ (H : Type) (enc : TypeId × Value → H) (w : World) (base : Nat) (spare : Nat → Bool) (held : Bool) (fuel : Nat) (cs : List Value) (x : DataW H × List MemPlace), DataW.trod enc P w base spare held fuel e cs = some x →
      ∃ (v : Nd) (a : Option Addr) (c : Nat), cs = [.int .i64 v.1, .string v.2.1, .int .i64 v.2.2.1, .slice a v.2.2.2.length c] ∧ v.2.2.2.length ≤ c ∧ c ≤ maxLen ∧ Row (Value.int .i64) w w.heap.size a v.2.2.2 ∧ NdOk v)
    {H : Type} {enc : TypeId × Value → H} {w : World} {base : Nat} {spare : Nat → Bool} {held : Bool} {v : Value} {fuel : Nat} {x : DataW H × List MemPlace} (h : DataW.trod enc P w base spare held fuel t [v] = some x) :
    ∃ (A : Option Addr) (cap : Nat) (xs : List Nd), v = .slice A xs.length cap ∧ NdRow w w.heap.size A xs ∧ xs.length ≤ maxLen ∧ ∀ y ∈ xs, NdOk y := by
  rcases Deep.open_slice ht h with ⟨hcs, _⟩ | ⟨a, l, c, m, k, D, Pl, hcs, _, hl, hm, hmm, _, hi⟩
  · simp at hcs
    exact ⟨none, 0, [], hcs, NdRow.nil, Nat.zero_le _, fun y hy => by cases hy⟩
  · simp at hcs
    have hlm : l ≤ m := by rw [hmm]; split <;> omega
    obtain ⟨ys, hy, hp⟩ := list_of (P := fun i (y : Nd) => ∃ (a' : Option Addr) (c' : Nat), (∀ j, j < 4 → w.cell? (a.add (i * 4 + j)) = ([.int .i64 y.1, .string y.2.1, .int .i64 y.2.2.1, .slice a' y.2.2.2.length c'] : List Value)[j]?) ∧ y.2.2.2.length ≤ c' ∧ c' ≤ maxLen ∧ Row (Value.int .i64) w w.heap.size a' y.2.2.2 ∧ NdOk y) l (fun i hlt => by
      obtain ⟨cs', hc, ht'⟩ := hi i (by omega)
      obtain ⟨v, a', c', rfl, h1, h2, h3, h4⟩ := hnd _ _ _ _ _ _ _ _ _ ht'
      obtain ⟨_, _, hat⟩ := World.cells?_some hc
      refine ⟨v, a', c', fun j hj => ?_, h1, h2, h3, h4⟩
      have := hat j (by omega)
      rw [hce, Deep.add_add] at this
      exact this)
    subst hcs
    refine ⟨some a, c, ys, by rw [hy], fun h0 => ?_, by omega, fun y hy' => ?_⟩
    · obtain ⟨a0, c0, h1, _⟩ := hp 0 h0
      have h10 := h1 0 (by omega)
      obtain ⟨b, o, s⟩ := a
      have hs : s = none := by simpa [Addr.add] using World.cell?_spot h10
      subst hs
      have ea : ∀ k, (⟨b, o, none⟩ : Addr).add k = ⟨b, o + k, none⟩ := fun k => by unfold Addr.add; split <;> simp_all
      refine ⟨b, o, rfl, ?_, fun k hk => ?_⟩
      · rw [ea] at h10
        exact World.block_lt_of_cell? w _ h10
      · obtain ⟨a1, c1, h1, h2, h3, h4, _⟩ := hp k hk
        have q0 := h1 0 (by omega)
        have q1 := h1 1 (by omega)
        have q2 := h1 2 (by omega)
        have q3 := h1 3 (by omega)
        rw [ea] at q0 q1 q2 q3
        exact ⟨a1, c1, q0, q1, q2, q3, h2, h3, h4⟩
    · obtain ⟨k, hk, rfl⟩ := List.getElem_of_mem hy'
      obtain ⟨_, _, _, _, _, _, h5⟩ := hp k hk
      exact h5
/-- a slice of structs of kinds, of one cell that holds the slice -/
theorem kinds_of {α : Type} {P : Program} {t e : TypeId} {ks : List Kd} (dec : List Value → α) (g : α → List Value) (hd : ∀ vs, KS ks vs → g (dec vs) = vs) (ht : P.underlying t = some (.slice e)) (hn : P.cellsOf e = ks.length) (hF : FlatS P e ks) (hn0 : 0 < ks.length)
    {H : Type} {enc : TypeId × Value → H} {w : World} {base : Nat} {spare : Nat → Bool} {held : Bool} {v : Value} {fuel : Nat} {x : DataW H × List MemPlace} (h : DataW.trod enc P w base spare held fuel t [v] = some x) :
    ∃ (A : Option Addr) (cap : Nat) (xs : List α), v = .slice A xs.length cap ∧ RowC ks.length g w w.heap.size A xs ∧ xs.length ≤ maxLen ∧ ∀ x ∈ xs, KS ks (g x) := by
  have hv : ∃ A len cap, v = .slice A len cap := by
    rcases Deep.open_slice ht h with ⟨hcs, _⟩ | ⟨a, l, c, m, k, D, Pl, hcs, _⟩
    · simp at hcs; exact ⟨_, _, _, hcs⟩
    · simp at hcs; exact ⟨_, _, _, hcs⟩
  obtain ⟨A, len, cap, rfl⟩ := hv
  obtain ⟨xs, rfl, hr, hl, hk⟩ := rows_of_kinds (A := A) (len := len) (cap := cap) (d := x.1) (p := x.2) dec g hd ht hn hF hn0 ⟨fuel, h⟩
  exact ⟨A, cap, xs, rfl, hr, hl, hk⟩
/-- a program that is read -/
def ProgIn (w : World) (B : Nat) (A A' : Option Addr) (xs : List Nd) (ys : List As) : Prop := NdRow w B A xs ∧ RowC 2 asg w B A' ys
section
variable {w w' : World} {B B' : Nat} {A A' : Option Addr} {xs : List Nd} {ys : List As}
theorem ProgIn.below (h : ProgIn w B A A' xs ys) (hb : Below B w w') : ProgIn w' B A A' xs ys := ⟨h.1.below hb, h.2.below hb⟩
theorem ProgIn.more (h : ProgIn w B A A' xs ys) (hB : B ≤ B') : ProgIn w B' A A' xs ys := ⟨h.1.more hB, h.2.more hB⟩
theorem ProgIn.later (h : ProgIn w w.heap.size A A' xs ys) (hb : Below w.heap.size w w') : ProgIn w' w'.heap.size A A' xs ys := ⟨h.1.later hb, h.2.later hb⟩
theorem ProgIn.alloc (h : ProgIn w B A A' xs ys) (hB : B ≤ w.heap.size) (o : Obj) : ProgIn (w.alloc o) B A A' xs ys := ⟨h.1.alloc hB o, h.2.alloc hB o⟩
end
/-- a struct of two slices, opened -/
theorem open_pairP {P : Program} {t : TypeId} {f0 f1 : Field} (ht : P.underlying t = some (.struct #[f0, f1])) (hn : P.cellsOf t = 2) (o0 : f0.offset = 0) (o1 : f1.offset = 1) (n0 : P.cellsOf f0.type = 1) (n1 : P.cellsOf f1.type = 1)
    {H : Type} {enc : TypeId × Value → H} {w : World} {base : Nat} {spare : Nat → Bool} {held : Bool} {r : Reach} {b0 : Nat} {v : Value} {d : DataW H} {p : List MemPlace} (hv : Value.okWide P w r b0 t v) (h : DataW.Trod enc P w base spare held t v d p) :
    ∃ v0 v1 m x0 x1, v = .agg #[v0, v1] ∧ DataW.trod enc P w base spare held m f0.type [v0] = some x0 ∧ DataW.trod enc P w base spare held m f1.type [v1] = some x1 := by
  obtain ⟨cs, rfl, hsz⟩ := okWide_struct ht hv
  obtain ⟨fuel, hf⟩ := h
  obtain ⟨xs, m, _, _, hl, hlen, hg⟩ := DataW.trod_struct ht hf
  simp only [Value.cells] at hg
  obtain ⟨l⟩ := cs
  rw [hn] at hsz
  match l, hsz with
  | [v0, v1], _ =>
    have h0 := hg 0 f0 rfl
    have h1 := hg 1 f1 rfl
    rw [o0, n0] at h0
    rw [o1, n1] at h1
    have hlen : xs.length = 2 := hlen
    exact ⟨v0, v1, m, xs[0], xs[1], rfl, by simpa [hlen] using h0, by simpa [hlen] using h1⟩
abbrev pgv (A A' : Option Addr) (n c m d : Nat) : Value := .agg #[.slice A n c, .slice A' m d]
end

section
open Go.RowKit

/-- a node whose arguments lie in a block of their own: its cells -/
def nh (p : Nat × Nd) : List Value := [.int .i64 p.2.1, .string p.2.2.1, .int .i64 p.2.2.2.1, .slice (some ⟨p.1, 0, none⟩) p.2.2.2.2.length p.2.2.2.2.length]
theorem nh_len (p : Nat × Nd) : (nh p).length = 4 := rfl
def argL (p : Nat × Nd) : Nat × List Int := (p.1, p.2.2.2.2)
/-- nodes that a call made: their row in block g, the arguments in blocks of their own behind it -/
def NdGrid (w : World) (lo g : Nat) (ps : List (Nat × Nd)) : Prop :=
  lo ≤ g ∧ w.ownsRow lo 44 4 (.slice (some ⟨g, 0, none⟩) ps.length ps.length) ps.length (ps.flatMap nh) ∧ Lots w (ps.map argL) ∧ ∀ p ∈ ps, g < p.1
theorem NdGrid.row {w : World} {lo g : Nat} {ps : List (Nat × Nd)} (h : NdGrid w lo g ps) (hm : ∀ p ∈ ps, p.2.2.2.2.length ≤ maxLen) : NdRow w w.heap.size (some ⟨g, 0, none⟩) (ps.map Prod.snd) := fun h0 => by
  have hR := RowC.of_own nh_len h.2.1 rfl
  obtain ⟨b, o, e, hb, hc⟩ := hR (by simpa using h0)
  refine ⟨b, o, e, hb, fun k hk => ?_⟩
  have hk' : k < ps.length := by simpa using hk
  have c := hc k hk'
  have e2 : (ps.map Prod.snd)[k] = (ps[k]).2 := by simp
  rw [e2]
  refine ⟨some ⟨(ps[k]).1, 0, none⟩, (ps[k]).2.2.2.2.length, c 0 _ rfl, c 1 _ rfl, c 2 _ rfl, c 3 _ rfl, Nat.le_refl _, hm _ (List.getElem_mem hk'), ?_⟩
  exact h.2.2.1.row (p := argL ps[k]) (List.mem_map.2 ⟨_, List.getElem_mem hk', rfl⟩)
theorem infoNode : (Try.prog.info? 44).map (fun i => (i.zero, i.size, i.bytes)) = some (some (.agg #[.int .i64 0, .string ⟨#[]⟩, .int .i64 0, .slice none 0 0]), 4, 56) := by kernel_rfl
theorem infoAsg : (Try.prog.info? 33).map (fun i => (i.zero, i.size, i.bytes)) = some (some (.agg #[.string ⟨#[]⟩, .int .i64 0]), 2, 24) := by kernel_rfl
/-- the letters of names, and arguments -/
def szN : List Nd → Nat
  | [] => 0
  | x :: xs => x.2.1.size + x.2.2.2.length + szN xs
theorem szN_take (xs : List Nd) : ∀ (k : Nat) (h : k < xs.length), szN (xs.take (k + 1)) = szN (xs.take k) + ((xs[k]).2.1.size + (xs[k]).2.2.2.length) := by
  induction xs with
  | nil => intro k h; simp at h
  | cons x xs ih =>
    intro k h
    match k, h with
    | 0, _ => simp [szN]
    | k + 1, h =>
      have := ih k (by simpa using h)
      simp only [List.take_succ_cons, szN, List.getElem_cons_succ, this]
      omega
theorem szN_le (xs : List Nd) (k : Nat) : szN (xs.take k) ≤ szN xs := by
  induction xs generalizing k with
  | nil => simp [szN]
  | cons x xs ih =>
    match k with
    | 0 => simp [szN]
    | k + 1 =>
      have := ih k
      simp only [List.take_succ_cons, szN]
      omega
theorem szN_mem {xs : List Nd} {x : Nd} (h : x ∈ xs) : x.2.1.size + x.2.2.2.length ≤ szN xs := by
  induction xs with
  | nil => cases h
  | cons y ys ih =>
    rcases List.mem_cons.1 h with rfl | h
    · exact Nat.le_add_right _ _
    · exact Nat.le_trans (ih h) (Nat.le_add_left _ _)
def szA : List As → Nat
  | [] => 0
  | x :: xs => x.1.size + szA xs
theorem szA_take (xs : List As) : ∀ (k : Nat) (h : k < xs.length), szA (xs.take (k + 1)) = szA (xs.take k) + (xs[k]).1.size := by
  induction xs with
  | nil => intro k h; simp at h
  | cons x xs ih =>
    intro k h
    match k, h with
    | 0, _ => simp [szA]
    | k + 1, h =>
      have := ih k (by simpa using h)
      simp only [List.take_succ_cons, szA, List.getElem_cons_succ, this]
      omega
theorem szA_le (xs : List As) (k : Nat) : szA (xs.take k) ≤ szA xs := by
  induction xs generalizing k with
  | nil => simp [szA]
  | cons x xs ih =>
    match k with
    | 0 => simp [szA]
    | k + 1 =>
      have := ih k
      simp only [List.take_succ_cons, szA]
      omega
theorem szA_mem {xs : List As} {x : As} (h : x ∈ xs) : x.1.size ≤ szA xs := by
  induction xs with
  | nil => cases h
  | cons y ys ih =>
    rcases List.mem_cons.1 h with rfl | h
    · exact Nat.le_add_right _ _
    · exact Nat.le_trans (ih h) (Nat.le_add_left _ _)
/-- what a size's count answers: what is left, or -1; not more than was there -/
def SzOutP (L n : Nat) (w : World) (e : Ending) (w' : World) : Prop := Below w.heap.size w w' ∧ ((n ≤ L ∧ e = .returned (.int .i64 (L - n : Nat))) ∨ (L < n ∧ e = .returned (.int .i64 (-1))))







theorem row_up {α : Type} {f : α → Value} {w W : World} {A : Option Addr} {xs : List α} (h : Row f w w.heap.size A xs) (hb : Below w.heap.size w W) : Row f W W.heap.size A xs := (h.below hb).more hb.size





end

section
open Go.RowKit
theorem Mbox.of_ownP {α : Type} {f : α → Value} {w : World} {base g c n : Nat} {e : TypeId} {xs : List α} (h : w.ownsRow base e 1 (.slice (some ⟨g, 0, none⟩) n c) n (xs.map f)) : Mbox w g (xs.map f) := fun i v hv => by
  have hl := h.1
  have hi : i < n * 1 := by
    have := (List.getElem?_eq_some_iff.1 hv).1
    omega
  have := h.cellAt i hi
  rw [hv] at this
  exact ⟨this, h.frozenAt i⟩



abbrev V4c := Value × Value × Value × Value
def g4 (v : V4c) : List Value := [v.1, v.2.1, v.2.2.1, v.2.2.2]
theorem g4_len (v : V4c) : (g4 v).length = 4 := rfl
theorem g4_set (xs : List V4c) : ∀ (k : Nat) (v : V4c), ((((xs.flatMap g4).set (k * 4) v.1).set (k * 4 + 1) v.2.1).set (k * 4 + 2) v.2.2.1).set (k * 4 + 3) v.2.2.2 = (xs.set k v).flatMap g4 := by
  induction xs with
  | nil => intro k v; simp
  | cons x xs ih =>
    intro k v
    match k with
    | 0 => simp [g4]
    | k + 1 =>
      have := ih k v
      simp only [List.flatMap_cons, List.set_cons_succ]
      rw [← this]
      have e0 : (k + 1) * 4 = k * 4 + 1 + 1 + 1 + 1 := by omega
      rw [e0]
      simp [g4]
theorem madeP4 (a b c d : Value) (n : Nat) : ∀ (k j : Nat), k < n → j < 4 → ((madeCells #[a, b, c, d] (n * 4)).toList)[k * 4 + j]? = ([a, b, c, d] : List Value)[j]? := by
  intro k j hk hj
  have hlt : k * 4 + j < n * 4 := by omega
  have e : (k * 4 + j) % 4 = j := by omega
  have : j = 0 ∨ j = 1 ∨ j = 2 ∨ j = 3 := by omega
  rcases this with rfl | rfl | rfl | rfl <;>
    (simp only [madeCells, Array.toList_map, Array.toList_range, List.getElem?_map]
     rw [List.getElem?_range (by omega)]
     simp only [Option.map_some]
     simp [e])
theorem made_g4 (v : V4c) (n : Nat) : (madeCells #[v.1, v.2.1, v.2.2.1, v.2.2.2] (n * 4)).toList = (List.replicate n v).flatMap g4 := by
  apply List.ext_getElem?
  intro i
  by_cases h : i < n * 4
  · obtain ⟨k, j, rfl, hj⟩ : ∃ k j, i = k * 4 + j ∧ j < 4 := ⟨i / 4, i % 4, by omega, by omega⟩
    have hk : k < n := by omega
    rw [madeP4 _ _ _ _ n k j hk hj, flat_get g4_len _ k j (by simpa using hk) hj, List.getElem_replicate]
    rfl
  · rw [List.getElem?_eq_none (by simp [madeCells]; omega), List.getElem?_eq_none (by rw [flat_len g4_len]; simp; omega)]
def nq (p : Nat × Nd) : V4c := (.int .i64 p.2.1, .string p.2.2.1, .int .i64 p.2.2.2.1, .slice (some ⟨p.1, 0, none⟩) p.2.2.2.2.length p.2.2.2.2.length)
def zq : V4c := (.int .i64 0, .string ⟨#[]⟩, .int .i64 0, .slice none 0 0)
theorem nq_flat (ps : List (Nat × Nd)) : (ps.map nq).flatMap g4 = ps.flatMap nh := by rw [List.flatMap_map]; rfl
def halfN (n : Nat) (ps : List (Nat × Nd)) : List V4c := ps.map nq ++ List.replicate (n - ps.length) zq
theorem halfN_zero (n : Nat) : halfN n [] = List.replicate n zq := by simp [halfN]
theorem halfN_len (n : Nat) (ps : List (Nat × Nd)) (h : ps.length ≤ n) : (halfN n ps).length = n := by simp [halfN]; omega
theorem halfN_all (n : Nat) (ps : List (Nat × Nd)) (h : ps.length = n) : halfN n ps = ps.map nq := by simp [halfN, h]
theorem halfN_step (n : Nat) (ps : List (Nat × Nd)) (p : Nat × Nd) (h : ps.length < n) : (halfN n ps).set ps.length (nq p) = halfN n (ps ++ [p]) := by
  unfold halfN
  rw [List.set_append_right _ _ (by simp)]
  have e : n - ps.length = (n - (ps ++ [p]).length) + 1 := by simp; omega
  rw [e, List.replicate_succ]
  simp


theorem asg_set (xs : List As) : ∀ (k : Nat) (v : As), ((xs.flatMap asg).set (k * 2) (.string v.1)).set (k * 2 + 1) (.int .i64 v.2) = (xs.set k v).flatMap asg := by
  induction xs with
  | nil => intro k v; simp
  | cons x xs ih =>
    intro k v
    match k with
    | 0 => simp [asg]
    | k + 1 =>
      have := ih k v
      simp only [List.flatMap_cons, List.set_cons_succ]
      rw [← this]
      have e0 : (k + 1) * 2 = k * 2 + 1 + 1 := by omega
      rw [e0]
      simp [asg]
def zA : As := (⟨#[]⟩, 0)
theorem madeP2 (a b : Value) (n : Nat) : ∀ (k j : Nat), k < n → j < 2 → ((madeCells #[a, b] (n * 2)).toList)[k * 2 + j]? = ([a, b] : List Value)[j]? := by
  intro k j hk hj
  have hlt : k * 2 + j < n * 2 := by omega
  have e : (k * 2 + j) % 2 = j := by omega
  have : j = 0 ∨ j = 1 := by omega
  rcases this with rfl | rfl <;>
    (simp only [madeCells, Array.toList_map, Array.toList_range, List.getElem?_map]
     rw [List.getElem?_range (by omega)]
     simp only [Option.map_some]
     simp [e])
theorem made_asg (n : Nat) : (madeCells #[.string ⟨#[]⟩, .int .i64 0] (n * 2)).toList = (List.replicate n zA).flatMap asg := by
  apply List.ext_getElem?
  intro i
  by_cases h : i < n * 2
  · obtain ⟨k, j, rfl, hj⟩ : ∃ k j, i = k * 2 + j ∧ j < 2 := ⟨i / 2, i % 2, by omega, by omega⟩
    have hk : k < n := by omega
    rw [madeP2 _ _ n k j hk hj, flat_get asg_len _ k j (by simpa using hk) hj, List.getElem_replicate]
    rfl
  · rw [List.getElem?_eq_none (by simp [madeCells]; omega), List.getElem?_eq_none (by rw [flat_len asg_len]; simp; omega)]
def halfAs (xs : List As) (k : Nat) : List As := xs.take k ++ List.replicate (xs.length - k) zA
theorem halfAs_zero (xs : List As) : halfAs xs 0 = List.replicate xs.length zA := by simp [halfAs]
theorem halfAs_all (xs : List As) : halfAs xs xs.length = xs := by simp [halfAs]
theorem halfAs_len (xs : List As) (k : Nat) (h : k ≤ xs.length) : (halfAs xs k).length = xs.length := by simp [halfAs]; omega
theorem halfAs_step (xs : List As) (k : Nat) (h : k < xs.length) : (halfAs xs k).set k xs[k] = halfAs xs (k + 1) := by
  unfold halfAs
  rw [List.take_succ_eq_append_getElem h, List.set_append_right _ _ (by simp; omega)]
  have e : xs.length - k = (xs.length - (k + 1)) + 1 := by omega
  rw [e, List.replicate_succ]
  simp only [List.length_take, Nat.min_eq_left (Nat.le_of_lt h), Nat.sub_self, List.set_cons_zero, List.append_assoc, List.cons_append, List.nil_append]
theorem own_asg {w : World} {base : Nat} {e : TypeId} {g n cap : Nat} {xs : List As} (h : w.ownsRow base e 2 (.slice (some ⟨g, 0, none⟩) n cap) n (xs.flatMap asg)) (hn : xs.length = n) {k : Nat} (hk : k < n) :
    ∃ (x : ByteArray) (y : Int), w.cell? ⟨g, k * 2, none⟩ = some (.string x) ∧ w.cell? ⟨g, k * 2 + 1, none⟩ = some (.int .i64 y) := by
  have hk' : k < xs.length := by omega
  have h0 := h.cellAt (k * 2) (by omega)
  have h1 := h.cellAt (k * 2 + 1) (by omega)
  rw [← Nat.add_zero (k * 2), flat_get asg_len xs k 0 hk' (by omega)] at h0
  rw [flat_get asg_len xs k 1 hk' (by omega)] at h1
  exact ⟨_, _, h0, h1⟩
/-- a program that a call made: the nodes in block g, the assignments in block g', all of it the call's own -/
def ProgOwn (w : World) (lo g g' : Nat) (ps : List (Nat × Nd)) (ys : List As) : Prop :=
  NdGrid w lo g ps ∧ w.ownsRow lo 33 2 (.slice (some ⟨g', 0, none⟩) ys.length ys.length) ys.length (ys.flatMap asg) ∧ g < g' ∧ ∀ p ∈ ps, p.1 < g'
theorem ProgOwn.read {w : World} {lo g g' : Nat} {ps : List (Nat × Nd)} {ys : List As} (h : ProgOwn w lo g g' ps ys) (hm : ∀ p ∈ ps, p.2.2.2.2.length ≤ maxLen) : ProgIn w w.heap.size (some ⟨g, 0, none⟩) (some ⟨g', 0, none⟩) (ps.map Prod.snd) ys :=
  ⟨h.1.row hm, RowC.of_own asg_len h.2.1 rfl⟩
theorem NdGrid.later {w w' : World} {lo g : Nat} {ps : List (Nat × Nd)} (h : NdGrid w lo g ps) (hb : Below w.heap.size w w') : NdGrid w' lo g ps :=
  ⟨h.1, own_keep' h.2.1 hb, h.2.2.1.later hb, h.2.2.2⟩
theorem own_far1 {w : World} {base : Nat} {e : TypeId} {size n : Nat} {v : Value} {xs : List Value} (h : w.ownsRow base e size v n xs) {b i : Nat} (hb : v.ownBlock ≠ some b) (u : Value) : (w.setCell ⟨b, i, none⟩ u).ownsRow base e size v n xs :=
  h.kept (gb_set (gb_refl w (some b)) u) (.inr hb)
theorem NdGrid.far {w : World} {lo g b i : Nat} {ps : List (Nat × Nd)} (h : NdGrid w lo g ps) (hb : b < g) (v : Value) : NdGrid (w.setCell ⟨b, i, none⟩ v) lo g ps :=
  ⟨h.1, own_far1 h.2.1 (by simp [Value.ownBlock]; omega) v, h.2.2.1.far (fun p hp => by
    obtain ⟨q, hq, rfl⟩ := List.mem_map.1 hp
    have := h.2.2.2 q hq
    show q.1 ≠ b
    omega) v, h.2.2.2⟩
theorem NdGrid.base {w : World} {lo lo' g : Nat} {ps : List (Nat × Nd)} (h : NdGrid w lo g ps) (hl : lo' ≤ lo) : NdGrid w lo' g ps := ⟨Nat.le_trans hl h.1, own_base h.2.1 hl, h.2.2⟩
theorem ProgOwn.far {w : World} {lo g g' b i : Nat} {ps : List (Nat × Nd)} {ys : List As} (h : ProgOwn w lo g g' ps ys) (hb : b < g) (v : Value) : ProgOwn (w.setCell ⟨b, i, none⟩ v) lo g g' ps ys :=
  ⟨h.1.far hb v, own_far1 h.2.1 (by have := h.2.2.1; simp [Value.ownBlock]; omega) v, h.2.2⟩
theorem ProgOwn.later {w w' : World} {lo g g' : Nat} {ps : List (Nat × Nd)} {ys : List As} (h : ProgOwn w lo g g' ps ys) (hb : Below w.heap.size w w') : ProgOwn w' lo g g' ps ys :=
  ⟨h.1.later hb, own_keep' h.2.1 hb, h.2.2⟩



end

section
open Go.RowKit

theorem ProgIn.drew {w : World} {A A' : Option Addr} {xs : List Nd} {ys : List As} (h : ProgIn w w.heap.size A A' xs ys) : ProgIn w.drew w.drew.heap.size A A' xs ys := h


/-- how many nodes have this Op -/
def cntP (op : Int) (xs : List Nd) : Nat := xs.countP (fun v => v.1 == op)
theorem cntP_yes (op : Int) (xs : List Nd) (k : Nat) (h : k < xs.length) (h0 : ((xs[k]).1 == op) = true) : cntP op (xs.take (k + 1)) = cntP op (xs.take k) + 1 := by
  unfold cntP
  rw [List.take_succ_eq_append_getElem h, List.countP_append]
  simp [h0]
theorem cntP_no (op : Int) (xs : List Nd) (k : Nat) (h : k < xs.length) (h0 : ((xs[k]).1 == op) = false) : cntP op (xs.take (k + 1)) = cntP op (xs.take k) := by
  unfold cntP
  rw [List.take_succ_eq_append_getElem h, List.countP_append]
  simp [h0]
theorem cntP_le (op : Int) (xs : List Nd) (k : Nat) (h : k ≤ xs.length) : cntP op (xs.take k) ≤ k := by
  have := List.countP_le_length (p := fun v : Nd => v.1 == op) (l := xs.take k)
  unfold cntP
  simp at this
  omega


end

section
open Go.RowKit
theorem retIP {a b : Int} (h : a = b) : Ending.returned (.int .i64 a) = Ending.returned (.int .i64 b) := by rw [h]
def cntQ (k n : Nat) : List Int := (List.range n).map fun i => ((k + i : Nat) : Int)
theorem cnt_lenP (k n : Nat) : (cntQ k n).length = n := by simp [cntQ]
theorem cnt_atP (k n i : Nat) (h : i < (cntQ k n).length) : (cntQ k n)[i] = ((k + i : Nat) : Int) := by simp [cntQ]
def cntInP (k i : Nat) (xs : List Int) : List Int := cntQ k i ++ xs.drop i
theorem cntIn_zeroP (k : Nat) (xs : List Int) : cntInP k 0 xs = xs := by simp [cntInP, cntQ]
theorem cntIn_allP (k : Nat) (xs : List Int) : cntInP k xs.length xs = cntQ k xs.length := by simp [cntInP]
theorem cntIn_lenP (k i : Nat) (xs : List Int) (h : i ≤ xs.length) : (cntInP k i xs).length = xs.length := by simp [cntInP, cnt_lenP]; omega
theorem cntIn_stepP (k i : Nat) (xs : List Int) (h : i < xs.length) : (cntInP k i xs).set i ((k + i : Nat) : Int) = cntInP k (i + 1) xs := by
  unfold cntInP
  rw [List.set_append_right _ _ (by rw [cnt_lenP]; omega), cnt_lenP, Nat.sub_self, List.drop_eq_getElem_cons h, List.set_cons_zero]
  have e : cntQ k (i + 1) = cntQ k i ++ [((k + i : Nat) : Int)] := by simp [cntQ, List.range_succ]
  rw [e, List.append_assoc, List.singleton_append]
/-- how many integers the rows hold -/
def sumL (xss : List (List Int)) : Nat := (xss.map List.length).sum
theorem sumL_step (xss : List (List Int)) (k : Nat) (h : k < xss.length) : sumL (xss.take (k + 1)) = sumL (xss.take k) + xss[k].length := by
  unfold sumL
  rw [List.take_succ_eq_append_getElem h, List.map_append, List.sum_append]
  simp only [List.map_cons, List.map_nil, List.sum_cons, List.sum_nil, Nat.add_zero]
theorem sumL_le (xss : List (List Int)) (k : Nat) : sumL (xss.take k) ≤ sumL xss := by
  unfold sumL
  have h : (xss.map List.length).sum = ((xss.take k).map List.length).sum + ((xss.drop k).map List.length).sum := by
    rw [← List.sum_append, ← List.map_append, List.take_append_drop]
  omega
theorem len_le_sum (xss : List (List Int)) : ∀ xs ∈ xss, xs.length ≤ sumL xss := by
  intro xs hx
  obtain ⟨k, hk, rfl⟩ := List.getElem_of_mem hx
  have h1 := sumL_step xss k hk
  have h2 := sumL_le xss (k + 1)
  omega




def blk (A : Option Addr) : Option Nat := A.map (·.block)
def Apart (A B : Option Addr) : Prop := ∀ k, blk A = some k → blk B ≠ some k
theorem Apart.symm {A B : Option Addr} (h : Apart A B) : Apart B A := fun k hb ha => h k ha hb
/-- a node with the place of its arguments -/
abbrev PN := (Option Addr × Nat) × Nd
def ng (p : PN) : List Value := [.int .i64 p.2.1, .string p.2.2.1, .int .i64 p.2.2.2.1, .slice p.1.1 p.2.2.2.2.length p.1.2]
theorem ng_len (p : PN) : (ng p).length = 4 := rfl
theorem ng_set (xs : List PN) : ∀ (k : Nat) (h : k < xs.length) (v : PN), v.1 = (xs[k]).1 → v.2.2.2.2.length = (xs[k]).2.2.2.2.length → ((((xs.flatMap ng).set (k * 4) (.int .i64 v.2.1)).set (k * 4 + 1) (.string v.2.2.1)).set (k * 4 + 2) (.int .i64 v.2.2.2.1)) = (xs.set k v).flatMap ng := by
  induction xs with
  | nil => intro k h; simp at h
  | cons x xs ih =>
    intro k h v h1 h2
    match k, h with
    | 0, _ =>
      simp at h1 h2
      simp [ng, h1, h2]
    | k + 1, h =>
      have := ih k (by simpa using h) v (by simpa using h1) (by simpa using h2)
      rw [List.flatMap_cons, List.set_cons_succ, List.flatMap_cons, ← this]
      rw [List.set_append_right _ _ (by simp [ng]; omega), List.set_append_right _ _ (by simp [ng]; omega), List.set_append_right _ _ (by simp [ng]; omega)]
      have e : ∀ q, (k + 1) * 4 + q - (ng x).length = k * 4 + q := fun q => by rw [ng_len]; omega
      have e0 : (k + 1) * 4 - (ng x).length = k * 4 := e 0
      rw [e0, e 1, e 2]
/-- how many marks the first j nodes take -/
def offN (ps : List PN) (j : Nat) : Nat := ((ps.take j).map (fun p => 3 + p.2.2.2.2.length)).sum
theorem offN_succ (ps : List PN) (j : Nat) (h : j < ps.length) : offN ps (j + 1) = offN ps j + (3 + (ps[j]).2.2.2.2.length) := by
  unfold offN
  rw [List.take_succ_eq_append_getElem h, List.map_append, List.sum_append]
  simp only [List.map_cons, List.map_nil, List.sum_cons, List.sum_nil, Nat.add_zero]
theorem offN_zero (ps : List PN) : offN ps 0 = 0 := by simp [offN]
theorem offN_le (ps : List PN) (j : Nat) : offN ps j ≤ offN ps ps.length := by
  have h : (ps.map (fun p => 3 + p.2.2.2.2.length)).sum = ((ps.take j).map (fun p => 3 + p.2.2.2.2.length)).sum + ((ps.drop j).map (fun p => 3 + p.2.2.2.2.length)).sum := by
    rw [← List.sum_append, ← List.map_append, List.take_append_drop]
  unfold offN
  rw [List.take_length, h]
  omega
def mk1N (k : Nat) (p : PN) : PN := (p.1, ((k : Nat) : Int), markP (k + 1), ((k + 2 : Nat) : Int), cntQ (k + 3) p.2.2.2.2.length)
def mkI (k j : Nat) (ps : List PN) : List PN := ps.mapIdx (fun i p => if i < j then mk1N (k + offN ps i) p else p)
theorem mkI_len (k j : Nat) (ps : List PN) : (mkI k j ps).length = ps.length := by simp [mkI]
theorem mkI_at (k j : Nat) (ps : List PN) (i : Nat) (h : i < (mkI k j ps).length) (h' : i < ps.length) : (mkI k j ps)[i] = if i < j then mk1N (k + offN ps i) ps[i] else ps[i] := by simp [mkI]
theorem mkI_zero (k : Nat) (ps : List PN) : mkI k 0 ps = ps := by
  apply List.ext_getElem
  · simp [mkI]
  · intro i h1 h2
    simp [mkI]
theorem mkI_addr (k j : Nat) (ps : List PN) (i : Nat) (h : i < (mkI k j ps).length) (h' : i < ps.length) : ((mkI k j ps)[i]).1 = (ps[i]).1 := by
  rw [mkI_at k j ps i h h']
  split <;> rfl
theorem mkI_alen (k j : Nat) (ps : List PN) (i : Nat) (h : i < (mkI k j ps).length) (h' : i < ps.length) : ((mkI k j ps)[i]).2.2.2.2.length = (ps[i]).2.2.2.2.length := by
  rw [mkI_at k j ps i h h']
  split
  · simp [mk1N, cnt_lenP]
  · rfl
theorem mkI_step (k j : Nat) (ps : List PN) (h : j < ps.length) : (mkI k j ps).set j (mk1N (k + offN ps j) ps[j]) = mkI k (j + 1) ps := by
  apply List.ext_getElem
  · simp [mkI]
  · intro i h1 h2
    have hi : i < ps.length := by simpa [mkI] using h2
    rw [List.getElem_set, mkI_at k (j + 1) ps i h2 hi]
    by_cases e : j = i
    · subst e
      simp
    · rw [if_neg e, mkI_at k j ps i (by simpa [mkI] using hi) hi]
      by_cases e2 : i < j
      · rw [if_pos e2, if_pos (by omega)]
      · rw [if_neg e2, if_neg (by omega)]
/-- nodes that a call made, their arguments wherever Q says -/
def NdG (Q : World → Option Addr × Nat → List Int → Prop) (w : World) (base : Nat) (A : Option Addr) (c : Nat) (ps : List PN) : Prop :=
  w.ownsRow base 44 4 (.slice A ps.length c) ps.length (ps.flatMap ng) ∧ (∀ i (h : i < ps.length), Q w (ps[i]).1 (ps[i]).2.2.2.2 ∧ Apart (ps[i]).1.1 A) ∧ ∀ i j (hi : i < ps.length) (hj : j < ps.length), i ≠ j → Apart (ps[i]).1.1 (ps[j]).1.1
def SN (A : Option Addr) (ps : List PN) (b : Nat) : Prop := blk A = some b ∨ ∃ p ∈ ps, blk p.1.1 = some b
theorem gb_of_turn {a : Option Addr} {w w' : World} (h : Turn (fun b => blk a = some b) w w') : w.grownBy w' (blk a) := ⟨h.1, h.2.1, h.2.2.1, h.2.2.2.1, fun k hk hn => h.block hk (fun e => hn (by rw [e]))⟩
theorem own_turnN {a : Option Addr} {w w' : World} {base m n : Nat} {e : TypeId} {A : Option Addr} {l c : Nat} {xs : List Value} (h : w.ownsRow base e m (.slice A l c) n xs) (ht : Turn (fun b => blk a = some b) w w') (hn : Apart a A) : w'.ownsRow base e m (.slice A l c) n xs :=
  h.kept (gb_of_turn ht) (by
    rcases hA : A with _ | x
    · exact .inl rfl
    · refine .inr ?_
      intro e
      have e : some x.block = blk a := e
      exact hn x.block e.symm (by rw [hA]; rfl))


end

section
open Go.RowKit

theorem own_keepN {w w' : World} {base m n : Nat} {e : TypeId} {v : Value} {xs : List Value} (h : w.ownsRow base e m v n xs) (hk : ∀ b, v.ownBlock = some b → w'.heap[b]? = w.heap[b]?) : w'.ownsRow base e m v n xs := by
  refine ⟨h.1, ?_⟩
  rcases h.2 with h1 | ⟨g, cap, cur, e, hb, hg, r⟩
  · exact .inl h1
  · exact .inr ⟨g, cap, cur, e, hb, (hk g (by rw [e]; rfl)).trans hg, r⟩
theorem blk_of {A : Option Addr} {n c b : Nat} (h : (Value.slice A n c).ownBlock = some b) : blk A = some b := by
  rcases A with _ | x
  · cases h
  · exact h
theorem of_blk {A : Option Addr} {n c b : Nat} (h : blk A = some b) : (Value.slice A n c).ownBlock = some b := by
  rcases A with _ | x
  · cases h
  · exact h
def mk1A (k : Nat) : As := (markP k, ((k + 1 : Nat) : Int))
def asI (k j : Nat) (ys : List As) : List As := ys.mapIdx (fun i v => if i < j then mk1A (k + 2 * i) else v)
theorem asI_len (k j : Nat) (ys : List As) : (asI k j ys).length = ys.length := by simp [asI]
theorem asI_at (k j : Nat) (ys : List As) (i : Nat) (h : i < (asI k j ys).length) (h' : i < ys.length) : (asI k j ys)[i] = if i < j then mk1A (k + 2 * i) else ys[i] := by simp [asI]
theorem asI_zero (k : Nat) (ys : List As) : asI k 0 ys = ys := by
  apply List.ext_getElem
  · simp [asI]
  · intro i h1 h2
    simp [asI]
theorem asI_step (k j : Nat) (ys : List As) : (asI k j ys).set j (mk1A (k + 2 * j)) = asI k (j + 1) ys := by
  apply List.ext_getElem
  · simp [asI]
  · intro i h1 h2
    have hi : i < ys.length := by simpa [asI] using h2
    rw [List.getElem_set, asI_at k (j + 1) ys i h2 hi]
    by_cases e : j = i
    · subst e
      simp
    · rw [if_neg e, asI_at k j ys i (by simpa [asI] using hi) hi]
      by_cases e2 : i < j
      · rw [if_pos e2, if_pos (by omega)]
      · rw [if_neg e2, if_neg (by omega)]


/-- a program that a call made, its parts wherever they lie -/
def ProgG (Q : World → Option Addr × Nat → List Int → Prop) (w : World) (base : Nat) (A : Option Addr) (c : Nat) (A' : Option Addr) (c' : Nat) (ps : List PN) (ys : List As) : Prop :=
  NdG Q w base A c ps ∧ w.ownsRow base 33 2 (.slice A' ys.length c') ys.length (ys.flatMap asg) ∧ Apart A A' ∧ ∀ i (h : i < ps.length), Apart (ps[i]).1.1 A'
def SP (A A' : Option Addr) (ps : List PN) (b : Nat) : Prop := SN A ps b ∨ blk A' = some b


end

section
open Go.RowKit

theorem own_turn' {S : Nat → Prop} {w w' : World} {base m n : Nat} {e : TypeId} {v : Value} {xs : List Value} (h : w.ownsRow base e m v n xs) (ht : Turn S w w') (hS : ∀ k, S k → k < base) : w'.ownsRow base e m v n xs :=
  own_keepN h (fun b hb => ht.block (h.lt b hb).2 (fun c => by have := hS b c; have := (h.lt b hb).1; omega))
theorem Held.under' {w W W' : World} {bs : List (Nat × List Value)} {B : Nat} (h : Held w W bs) (hb : Below B W W') (hB : w.heap.size ≤ B) (hn : ∀ p ∈ bs, p.1 < B) : Held w W' bs :=
  ⟨h.1.trans (hb.mono hB), fun i k vs e => (h.2 i k vs e).keep fun _ => hb.block k (hn (k, vs) (List.mem_of_getElem? e))⟩
theorem Held.turn' {S : Nat → Prop} {w W W' : World} {bs : List (Nat × List Value)} (h : Held w W bs) (ht : Turn S W W') (hS : ∀ k, S k → w.heap.size ≤ k) (hn : ∀ p ∈ bs, ¬ S p.1) : Held w W' bs :=
  ⟨h.1.trans (ht.below h.1.size hS), fun i k vs e => (h.2 i k vs e).turn ht (hn (k, vs) (List.mem_of_getElem? e))⟩
def QM (w : World) (a : Option Addr × Nat) (xs : List Int) : Prop := ∃ g, a.1 = some ⟨g, 0, none⟩ ∧ Mbox w g (xs.map I64) ∧ g < w.heap.size
def pn (p : Nat × Nd) : PN := ((some ⟨p.1, 0, none⟩, p.2.2.2.2.length), p.2)
theorem pn_cells (ps : List (Nat × Nd)) : (ps.map pn).flatMap ng = ps.flatMap nh := by
  rw [List.flatMap_map]
  rfl
theorem ProgOwn.gen {w : World} {lo g g' : Nat} {ps : List (Nat × Nd)} {ys : List As} (h : ProgOwn w lo g g' ps ys) : ProgG QM w lo (some ⟨g, 0, none⟩) ps.length (some ⟨g', 0, none⟩) ys.length (ps.map pn) ys := by
  obtain ⟨⟨h1, h2, h3, h4⟩, h5, h6, h7⟩ := h
  refine ⟨⟨by rw [pn_cells, List.length_map]; exact h2, fun i hi => ?_, fun i j hi hj hne => ?_⟩, h5, ?_, fun i hi => ?_⟩
  · have hi' : i < ps.length := by simpa using hi
    rw [List.getElem_map]
    have hm := List.getElem_mem hi'
    have := h3.2 (argL ps[i]) (List.mem_map.2 ⟨_, hm, rfl⟩)
    refine ⟨⟨(ps[i]).1, rfl, this.1, this.2⟩, ?_⟩
    intro k hk he
    have e1 : (ps[i]).1 = k := by injection hk
    have e2 : g = k := by injection he
    have := h4 _ hm
    omega
  · have hi' : i < ps.length := by simpa using hi
    have hj' : j < ps.length := by simpa using hj
    rw [List.getElem_map, List.getElem_map]
    intro k hk he
    have e1 : (ps[i]).1 = k := by injection hk
    have e2 : (ps[j]).1 = k := by injection he
    have hn := h3.1
    rw [List.map_map] at hn
    have hne2 : ∀ a b (ha : a < ps.length) (hb : b < ps.length), a < b → (ps[a]).1 ≠ (ps[b]).1 := fun a b ha hb hab => by
      have := List.pairwise_iff_getElem.1 hn a b (by simpa using ha) (by simpa using hb) hab
      simpa [argL] using this
    rcases Nat.lt_or_gt_of_ne hne with h | h
    · exact hne2 i j hi' hj' h (by rw [e1, e2])
    · exact hne2 j i hj' hi' h (by rw [e1, e2])
  · intro k hk he
    have e1 : g = k := by injection hk
    have e2 : g' = k := by injection he
    omega
  · have hi' : i < ps.length := by simpa using hi
    rw [List.getElem_map]
    intro k hk he
    have e1 : (ps[i]).1 = k := by injection hk
    have e2 : g' = k := by injection he
    have := h7 _ (List.getElem_mem hi')
    omega
theorem offN_sz (ps : List (Nat × Nd)) : offN (ps.map pn) (ps.map pn).length ≤ 3 * ps.length + szN (ps.map Prod.snd) := by
  unfold offN
  rw [List.take_length]
  induction ps with
  | nil => simp [szN]
  | cons p ps ih =>
    simp only [List.map_cons, List.sum_cons, List.length_cons, szN]
    have e : (pn p).2.2.2.2.length = p.2.2.2.2.length := rfl
    rw [e]
    omega
def rtsL (ys : List As) : List Int := ys.map (·.2)
theorem rts_step (ys : List As) (k : Nat) (h : k < ys.length) : rtsL (ys.take (k + 1)) = rtsL (ys.take k) ++ [(ys[k]).2] := by
  unfold rtsL
  rw [List.take_succ_eq_append_getElem h, List.map_append]
  rfl
theorem rts_len (ys : List As) : (rtsL ys).length = ys.length := by simp [rtsL]
def IntsOutP (xs : List Int) (w : World) (e : Ending) (w' : World) : Prop :=
  ∃ (A : Option Addr) (c : Nat), e = .returned (.slice A xs.length c) ∧ w'.ownsRow w.heap.size 3 1 (.slice A xs.length c) xs.length (xs.map I64) ∧ Below w.heap.size w w'




set_option maxHeartbeats 4000000 in
theorem roots_any (A A' : Option Addr) (c c' : Nat) (xs : List Nd) (ys : List As) (w : World) (hR : ProgIn w w.heap.size A A' xs ys) (hl : ys.length ≤ 1099511627776) :
    Calls Try.prog 34 #[pgv A A' xs.length c ys.length c'] w (IntsOutP (rtsL ys) w) := by
  have hN := hR.2
  clear hR
  go_enter Try.func34, Try.ntmps34
  go_wp2
  go_loopw [3, 9] (fun v i wr => ∃ k : Nat, k ≤ ys.length ∧ i = .int .i64 k ∧ wr.ownsRow w.heap.size 3 1 v (rtsL (ys.take k)).length ((rtsL (ys.take k)).map I64) ∧ Below w.heap.size w wr) (fun _ i _ => ys.length - (intOf i).toNat)
  case atStart => exact ⟨0, Nat.zero_le _, rfl, World.ownsRow_nil _ _ _ _, (Below.refl _ _).alloc (Nat.le_refl _) _⟩
  case round =>
    obtain ⟨k, hk, rfl, hown, hb⟩ := hrel
    by_cases hlt : k < ys.length
    · obtain ⟨b, o, rfl, hbl, hc⟩ := hN.at hlt
      obtain ⟨c0, c1⟩ := asg_at hc
      have c0 := (hb.cell (p := ⟨b, o + k * 2, none⟩) hbl).trans c0
      have c1 := (hb.cell (p := ⟨b, o + k * 2 + 1, none⟩) hbl).trans c1
      have hst := rts_step ys k hlt
      have hle : (rtsL (ys.take k)).length ≤ k := by rw [rts_len]; simp; omega
      obtain ⟨v, hv⟩ : ∃ v, v = ys[k] := ⟨_, rfl⟩
      rw [← hv] at c0 c1 hst
      obtain ⟨ps, hps⟩ : ∃ ps, ps = rtsL (ys.take k) := ⟨_, rfl⟩
      rw [← hps] at hown hst hle
      obtain ⟨v0, v1⟩ := v
      have HO := Lib.hid hown
      have HB := Lib.hid hb
      have HST := Lib.hid hst
      have hlt' : (k : Int) < (ys.length : Int) := by omega
      have hge' : (0 : Int) ≤ (k : Int) := by omega
      clear hown hb hst hps hN hc hv
      go_upto_region 5 with fail
      obtain ⟨W1, hW1⟩ : ∃ W, W = wr.alloc (.cells #[.string v0, .int .i64 v1] 33) := ⟨_, rfl⟩
      have M := Mbox.new wr #[.string v0, .int .i64 v1] 33
      have HO1 := Lib.hid (HO.out.alloc (.cells #[.string v0, .int .i64 v1] 33))
      have HB1 := Lib.hid (HB.out.alloc HB.out.size (.cells #[.string v0, .int .i64 v1] 33))
      rw [← hW1] at M HO1 HB1 ⊢
      have m1 := M.c 1
      clear hW1 M c0 c1
      have hs1 : w.heap.size ≤ W1.heap.size := HB1.out.size
      go_wp2_with (at_builtin; refine wpList_app1 W1 rfl _ _ 42 rfl w.heap.size 3 (.int .i64 0) 8 Try.underlying42 infoInt rfl _ _ _ (by rfl) HO1.out _ (by rfl) (by rfl) (by unfold maxLen; omega) (by omega) hs1 ?_)
      intro v' w4 ho4 hg4
      have HO4 := Lib.hid ho4
      have HB4 := Lib.hid (HB1.out.grown hg4 hs1 (own_block HO1.out))
      clear ho4 hg4
      go_wp2_with fail
      go_roundw
      case rel => exact ⟨k + 1, by omega, by go_num, by rw [HST.out]; simpa using HO4.out, HB4.out⟩
      case measure => simp [intOf]; omega
    · obtain rfl : k = ys.length := by omega
      rw [List.take_length] at hown
      obtain ⟨A4, c4, rfl⟩ := own_shape hown
      have HO := Lib.hid hown
      have HB := Lib.hid hb
      clear hown hb hN
      go_wp2
      go_ret
      exact ⟨A4, c4, rfl, HO.out, HB.out⟩
end
end Go.Proofs.Ytlcnjiephbhdaaa
