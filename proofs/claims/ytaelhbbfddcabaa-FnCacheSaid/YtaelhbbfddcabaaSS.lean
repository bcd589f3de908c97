/- Words of our own for slices of slices of integers in memory (nothing of the program). -/
import Derived.WalkKit
import Derived.WalkSpells
import Derived.Laws.OwnMore
import Derived.Deep.Slices
import Derived.Deep.OwnRows
import Derived.OwnWalk
import Derived.ChangeSlices
import Derived.Test.YtaelhbbfddcabaaMem
import Derived.Test.YtaelhbbfddcabaaRowC
import Derived.Test.YtaelhbbfddcabaaHeld
namespace Go.Proofs.Ytaelhbbfddcabaa
open Go.RowKit Go.ChangeShapes Go.WideShapes

/-- a slice at address A, below block B, whose elements are slices of integers that read as 'xss' -/
def RowSS (w : World) (B : Nat) (A : Option Addr) (xss : List (List Int)) : Prop :=
  0 < xss.length → ∃ b o, A = some ⟨b, o, none⟩ ∧ b < B ∧ ∀ k (h : k < xss.length), ∃ a c, w.cell? ⟨b, o + k, none⟩ = some (.slice a xss[k].length c) ∧ xss[k].length ≤ c ∧ c ≤ maxLen ∧ Row (Value.int .i64) w B a xss[k]
section
variable {w w' : World} {B B' : Nat} {A : Option Addr} {xss : List (List Int)}
theorem RowSS.nil : RowSS w B A [] := fun h => by simp at h
theorem RowSS.at (h : RowSS w B A xss) {k : Nat} (hk : k < xss.length) : ∃ b o a c, A = some ⟨b, o, none⟩ ∧ b < B ∧ w.cell? ⟨b, o + k, none⟩ = some (.slice a xss[k].length c) ∧ xss[k].length ≤ c ∧ c ≤ maxLen ∧ Row (Value.int .i64) w B a xss[k] := by
  obtain ⟨b, o, e, hb, hc⟩ := h (by omega)
  obtain ⟨a, c, h1, h2, h3, h4⟩ := hc k hk
  exact ⟨b, o, a, c, e, hb, h1, h2, h3, h4⟩
theorem RowSS.keep (h : RowSS w B A xss) (hk : ∀ p : Addr, p.block < B → w'.cell? p = w.cell? p) : RowSS w' B A xss := fun hn => by
  obtain ⟨b, o, e, hb, hc⟩ := h hn
  refine ⟨b, o, e, hb, fun k hk' => ?_⟩
  obtain ⟨a, c, h1, h2, h3, h4⟩ := hc k hk'
  exact ⟨a, c, (hk _ hb).trans h1, h2, h3, h4.keep hk⟩
theorem RowSS.more (h : RowSS w B A xss) (hB : B ≤ B') : RowSS w B' A xss := fun hn => by
  obtain ⟨b, o, e, hb, hc⟩ := h hn
  refine ⟨b, o, e, by omega, fun k hk' => ?_⟩
  obtain ⟨a, c, h1, h2, h3, h4⟩ := hc k hk'
  exact ⟨a, c, h1, h2, h3, h4.more hB⟩
theorem RowSS.below (h : RowSS w B A xss) (hb : Below B w w') : RowSS w' B A xss := h.keep fun _ hp => hb.cell hp
theorem RowSS.later (h : RowSS w w.heap.size A xss) (hb : Below w.heap.size w w') : RowSS w' w'.heap.size A xss := (h.below hb).more hb.size
theorem RowSS.alloc (h : RowSS w B A xss) (hB : B ≤ w.heap.size) (o : Obj) : RowSS (w.alloc o) B A xss := h.keep fun p hp => World.cell?_alloc_lt w o p (by omega)
end
/-- what the reading of a slice of slices of integers gives -/
theorem rowSS_of {P : Program} {t e i : TypeId} (ht : P.underlying t = some (.slice e)) (he : P.underlying e = some (.slice i)) (hi : P.underlying i = some (.int .i64)) (hce : P.cellsOf e = 1) (hci : P.cellsOf i = 1)
    {H : Type} {enc : TypeId × Value → H} {w : World} {base : Nat} {spare : Nat → Bool} {held : Bool} {v : Value} {fuel : Nat} {x : DataW H × List MemPlace} (h : DataW.trod enc P w base spare held fuel t [v] = some x) :
    ∃ (A : Option Addr) (cap : Nat) (xss : List (List Int)), v = .slice A xss.length cap ∧ RowSS w w.heap.size A xss ∧ xss.length ≤ maxLen ∧ ∀ xs ∈ xss, xs.length ≤ maxLen := by
  rcases Deep.open_slice1 ht hce h with ⟨hcs, _⟩ | ⟨a, l, c, m, n, V, D, Pl, hcs, _, hl, hm, hmm, _, hel⟩
  · simp at hcs
    exact ⟨none, 0, [], hcs, RowSS.nil, Nat.zero_le _, fun xs hx => by cases hx⟩
  · simp at hcs
    have hlm : l ≤ m := by rw [hmm]; split <;> omega
    obtain ⟨ys, hy, hp⟩ := list_of (P := fun i (xs : List Int) => ∃ a' c', w.cell? (a.add i) = some (.slice a' xs.length c') ∧ xs.length ≤ c' ∧ c' ≤ maxLen ∧ Row (Value.int .i64) w w.heap.size a' xs) l (fun i0 hlt => by
      obtain ⟨h1, h2⟩ := hel i0 (by omega)
      rcases open_ints he hi hci h2 with ⟨hcs, _⟩ | ⟨a', l', c', zs, hcs, _, hl', hm', hz, _, hcell, _⟩
      · simp at hcs
        exact ⟨[], none, 0, by rw [h1, hcs]; rfl, Nat.le_refl _, Nat.zero_le _, Row.nil⟩
      · simp at hcs
        have hlz : l' ≤ zs.length := by rw [hz]; split <;> omega
        have hzm : zs.length ≤ maxLen := by rw [hz]; split <;> omega
        obtain ⟨xs, hxl, hr, _, _⟩ := row_of_cells (f := Value.int .i64) (zs := zs) (d := (0 : Int)) (p := fun _ => True) hlz hzm rfl hcell (fun _ _ => trivial)
        exact ⟨xs, some a', c', by rw [h1, hcs, hxl], by omega, hm', hr⟩)
    subst hcs
    refine ⟨some a, c, ys, by rw [hy], fun h0 => ?_, by omega, fun xs hx => ?_⟩
    · obtain ⟨a0, c0, h1, _⟩ := hp 0 h0
      obtain ⟨b, o, s⟩ := a
      have hs : s = none := by simpa [Addr.add] using World.cell?_spot h1
      subst hs
      have ea : ∀ k, (⟨b, o, none⟩ : Addr).add k = ⟨b, o + k, none⟩ := fun k => by unfold Addr.add; split <;> simp_all
      refine ⟨b, o, rfl, ?_, fun k hk => ?_⟩
      · rw [ea] at h1
        exact World.block_lt_of_cell? w _ h1
      · obtain ⟨a1, c1, h1, h2, h3, h4⟩ := hp k hk
        rw [ea] at h1
        exact ⟨a1, c1, h1, h2, h3, h4⟩
    · obtain ⟨k, hk, rfl⟩ := List.getElem_of_mem hx
      obtain ⟨a1, c1, _, h2, h3, _⟩ := hp k hk
      omega
/-- what the reading of a slice of flat elements gives, of one cell that holds the slice -/
theorem rowC_of {α : Type} {P : Program} {t e : TypeId} {n : Nat} (dec : List Int → α) (g : α → List Value) (hd : ∀ zs : List Int, zs.length = n → g (dec zs) = zs.map (Value.int .i64)) (ht : P.underlying t = some (.slice e)) (hn : P.cellsOf e = n) (hF : FlatI P e n) (hn0 : 0 < n)
    {H : Type} {enc : TypeId × Value → H} {w : World} {base : Nat} {spare : Nat → Bool} {held : Bool} {v : Value} {fuel : Nat} {x : DataW H × List MemPlace} (h : DataW.trod enc P w base spare held fuel t [v] = some x) :
    ∃ (A : Option Addr) (cap : Nat) (xs : List α), v = .slice A xs.length cap ∧ RowC n g w w.heap.size A xs ∧ xs.length ≤ maxLen := by
  have hv : ∃ A len cap, v = .slice A len cap := by
    rcases Deep.open_slice ht h with ⟨hcs, _⟩ | ⟨a, l, c, m, k, D, Pl, hcs, _⟩
    · simp at hcs; exact ⟨_, _, _, hcs⟩
    · simp at hcs; exact ⟨_, _, _, hcs⟩
  obtain ⟨A, len, cap, rfl⟩ := hv
  obtain ⟨xs, rfl, hr, hl⟩ := rows_of_flat (A := A) (len := len) (cap := cap) (d := x.1) (p := x.2) dec g hd ht hn hF hn0 ⟨fuel, h⟩
  exact ⟨A, cap, xs, rfl, hr, hl⟩
/-- a struct of two fields of one cell each, opened -/
theorem open_pair {P : Program} {t : TypeId} {f0 f1 : Field} (ht : P.underlying t = some (.struct #[f0, f1])) (hn : P.cellsOf t = 2) (o0 : f0.offset = 0) (o1 : f1.offset = 1) (n0 : P.cellsOf f0.type = 1) (n1 : P.cellsOf f1.type = 1)
    {H : Type} {enc : TypeId × Value → H} {w : World} {base : Nat} {spare : Nat → Bool} {held : Bool} {r : Reach} {b0 : Nat} {v : Value} {d : DataW H} {p : List MemPlace} (hv : Value.okWide P w r b0 t v) (h : DataW.Trod enc P w base spare held t v d p) :
    ∃ v0 v1 m x0 x1, v = .agg #[v0, v1] ∧ DataW.trod enc P w base spare held m f0.type [v0] = some x0 ∧ DataW.trod enc P w base spare held m f1.type [v1] = some x1 := by
  obtain ⟨cs, rfl, hsz⟩ := okWide_struct ht hv
  obtain ⟨fuel, hf⟩ := h
  obtain ⟨xs, m, _, _, hl, hlen, hg⟩ := DataW.trod_struct ht hf
  simp only [Value.cells] at hg
  obtain ⟨l⟩ := cs
  rw [hn] at hsz
  match l, hsz with
  | [v0, v1], _ =>
    have h0 := hg 0 f0 rfl
    have h1 := hg 1 f1 rfl
    rw [o0, n0] at h0
    rw [o1, n1] at h1
    have hlen : xs.length = 2 := hlen
    exact ⟨v0, v1, m, xs[0], xs[1], rfl, by simpa [hlen] using h0, by simpa [hlen] using h1⟩

/-- a block of one slice of integers, kept by its cells; what a call made -/
abbrev Lot := List (Nat × List Int)
def hdr (p : Nat × List Int) : Value := .slice (some ⟨p.1, 0, none⟩) p.2.length p.2.length
/-- the blocks hold their integers, all may be written, and no two are one -/
def Lots (w : World) (ps : Lot) : Prop := (ps.map Prod.fst).Nodup ∧ ∀ p ∈ ps, Mbox w p.1 (p.2.map (Value.int .i64)) ∧ p.1 < w.heap.size
section
variable {w w' : World} {ps : Lot} {lo : Nat}
theorem Lots.nil (w : World) : Lots w [] := ⟨List.nodup_nil, fun p h => by cases h⟩
theorem Lots.keep (h : Lots w ps) (hs : w.heap.size ≤ w'.heap.size) (hb : ∀ p ∈ ps, w'.heap[p.1]? = w.heap[p.1]?) : Lots w' ps :=
  ⟨h.1, fun p hp => ⟨(h.2 p hp).1.keep fun _ => hb p hp, Nat.lt_of_lt_of_le (h.2 p hp).2 hs⟩⟩
theorem Lots.later (h : Lots w ps) (hb : Below w.heap.size w w') : Lots w' ps := h.keep hb.size fun p hp => hb.block _ (h.2 p hp).2
theorem Lots.alloc (h : Lots w ps) (o : Obj) : Lots (w.alloc o) ps := h.keep (by simp) fun p hp => Below.heap_alloc w o _ (h.2 p hp).2
theorem Lots.drew (h : Lots w ps) : Lots w.drew ps := h
theorem Lots.grown {row : Option Nat} (h : Lots w ps) (hg : w.grownBy w' row) (hr : ∀ p ∈ ps, some p.1 ≠ row) : Lots w' ps := h.keep hg.size fun p hp => hg.block _ (h.2 p hp).2 (hr p hp)
theorem Lots.far (h : Lots w ps) {g i : Nat} (hg : ∀ p ∈ ps, p.1 ≠ g) (v : Value) : Lots (w.setCell ⟨g, i, none⟩ v) ps := h.keep (by simp) fun p hp => Below.heap_setCell w _ v _ (hg p hp)
theorem Lots.new (h : Lots w ps) (xs : List Int) (cs : Array Value) (hc : cs.toList = xs.map (Value.int .i64)) (t : TypeId) : Lots (w.alloc (.cells cs t)) (ps ++ [(w.heap.size, xs)]) := by
  refine ⟨?_, fun p hp => ?_⟩
  · rw [List.map_append, List.nodup_append]
    refine ⟨h.1, by simp, fun a ha b hb => ?_⟩
    simp at hb
    obtain ⟨p, hp, rfl⟩ := List.mem_map.1 ha
    have := (h.2 p hp).2
    omega
  · rcases List.mem_append.1 hp with hp | hp
    · exact (h.alloc _).2 p hp
    · rw [List.mem_singleton] at hp
      subst hp
      have := Mbox.new w cs t
      rw [hc] at this
      exact ⟨this, by simp⟩
theorem Lots.perm {qs : Lot} (h : Lots w ps) (hp : qs.Perm ps) : Lots w qs := ⟨(hp.map _).nodup_iff.2 h.1, fun p hq => h.2 p (hp.mem_iff.1 hq)⟩
theorem Lots.row (h : Lots w ps) {p : Nat × List Int} (hp : p ∈ ps) : Row (Value.int .i64) w w.heap.size (some ⟨p.1, 0, none⟩) p.2 := fun _ => by
  refine ⟨p.1, 0, rfl, (h.2 p hp).2, fun k hk => ?_⟩
  have := (h.2 p hp).1.c k (v := .int .i64 p.2[k]) (by simp [hk])
  rw [Nat.zero_add]
  exact this
/-- a slice whose elements are such -/
theorem Lots.rowSS {A : Option Addr} (h : Lots w ps) (hA : Row hdr w w.heap.size A ps) (hm : ∀ p ∈ ps, p.2.length ≤ maxLen) : RowSS w w.heap.size A (ps.map Prod.snd) := fun h0 => by
  obtain ⟨b, o, e, hb, hc⟩ := hA (by simpa using h0)
  refine ⟨b, o, e, hb, fun k hk => ?_⟩
  have hk' : k < ps.length := by simpa using hk
  refine ⟨some ⟨ps[k].1, 0, none⟩, ps[k].2.length, ?_, by simp, by simpa using hm _ (List.getElem_mem hk'), ?_⟩
  · rw [hc k hk']; simp [hdr]
  · have := h.row (List.getElem_mem hk')
    simpa using this
end

/-- only the blocks in S may have turned -/
def Turn (S : Nat → Prop) (w w' : World) : Prop := w'.os = w.os ∧ w'.tape = w.tape ∧ w'.output = w.output ∧ w.heap.size ≤ w'.heap.size ∧ ∀ k, k < w.heap.size → ¬ S k → w'.heap[k]? = w.heap[k]?
section
variable {S S' : Nat → Prop} {w w' w'' : World}
theorem Turn.refl (S : Nat → Prop) (w : World) : Turn S w w := ⟨rfl, rfl, rfl, Nat.le_refl _, fun _ _ _ => rfl⟩
theorem Turn.trans (h : Turn S w w') (k : Turn S w' w'') : Turn S w w'' :=
  ⟨k.1.trans h.1, k.2.1.trans h.2.1, k.2.2.1.trans h.2.2.1, Nat.le_trans h.2.2.2.1 k.2.2.2.1, fun i hi hn => (k.2.2.2.2 i (Nat.lt_of_lt_of_le hi h.2.2.2.1) hn).trans (h.2.2.2.2 i hi hn)⟩
theorem Turn.mono (h : Turn S w w') (hS : ∀ k, S k → S' k) : Turn S' w w' := ⟨h.1, h.2.1, h.2.2.1, h.2.2.2.1, fun i hi hn => h.2.2.2.2 i hi (fun c => hn (hS i c))⟩
theorem Turn.size (h : Turn S w w') : w.heap.size ≤ w'.heap.size := h.2.2.2.1
theorem Turn.block (h : Turn S w w') {k : Nat} (hk : k < w.heap.size) (hn : ¬ S k) : w'.heap[k]? = w.heap[k]? := h.2.2.2.2 k hk hn
theorem Turn.below {B : Nat} (h : Turn S w w') (hB : B ≤ w.heap.size) (hS : ∀ k, S k → B ≤ k) : Below B w w' :=
  ⟨h.1, h.2.1, h.2.2.1, h.2.2.2.1, fun k hk => h.block (by omega) (fun c => by have := hS k c; omega)⟩
theorem Turn.of_grown {g : Nat} (h : w.grownBy w' (some g)) : Turn (fun k => k = g) w w' := ⟨h.os, h.tape, h.output, h.size, fun k hk hn => h.block k hk (fun e => by injection e with e; exact hn e)⟩
theorem Turn.of_below {B : Nat} (h : Below B w w') : Turn (fun k => B ≤ k) w w' := ⟨h.os, h.tape, h.output, h.size, fun k _ hn => h.block k (by omega)⟩
theorem Turn.of_later (h : Below w.heap.size w w') : Turn S w w' := ⟨h.os, h.tape, h.output, h.size, fun k hk _ => h.block k hk⟩
theorem Turn.grown {g : Nat} (h : Turn (fun k => k = g) w w') : w.grownBy w' (some g) := ⟨h.1, h.2.1, h.2.2.1, h.2.2.2.1, fun k hk hn => h.block hk (fun e => hn (by rw [e]))⟩
theorem Turn.setCell (h : Turn S w w') {g i : Nat} (hg : S g) (v : Value) : Turn S w (w'.setCell ⟨g, i, none⟩ v) :=
  ⟨h.1, h.2.1, h.2.2.1, by simpa using h.2.2.2.1, fun k hk hn => (Below.heap_setCell w' _ v k (fun e => hn (by have e : k = g := e; rw [e]; exact hg))).trans (h.block hk hn)⟩
theorem Lots.turn {ps : Lot} (h : Lots w ps) (ht : Turn S w w') (hn : ∀ p ∈ ps, ¬ S p.1) : Lots w' ps := h.keep ht.size fun p hp => ht.block (h.2 p hp).2 (hn p hp)
theorem Mbox.turn {k : Nat} {vs : List Value} (h : Mbox w k vs) (ht : Turn S w w') (hn : ¬ S k) : Mbox w' k vs := h.keep fun hl => ht.block hl hn
end
/-- a row whose block is named -/
theorem Row.keepAt {α : Type} {f : α → Value} {w w' : World} {B b o : Nat} {xs : List α} (h : Row f w B (some ⟨b, o, none⟩) xs) (hb : w'.heap[b]? = w.heap[b]?) : Row f w' B (some ⟨b, o, none⟩) xs := fun hn => by
  obtain ⟨b1, o1, e, hb1, hc⟩ := h hn
  simp only [Option.some.injEq, Addr.mk.injEq, and_true] at e
  obtain ⟨rfl, rfl⟩ := e
  exact ⟨b, o, rfl, hb1, fun k hk => (World.cell?_of_block (a := ⟨b, o + k, none⟩) hb).trans (hc k hk)⟩
theorem Mbox.of_own {w : World} {base : Nat} {e : TypeId} {m : Nat} {g n c : Nat} {xs : List Value} (h : w.ownsRow base e m (.slice (some ⟨g, 0, none⟩) n c) n xs) : Mbox w g xs := fun i v hv => by
  have hl : i < n * m := by
    have h1 := (List.getElem?_eq_some_iff.1 hv).1
    have h2 := h.1
    omega
  exact ⟨(h.cellAt i hl).trans hv, h.frozenAt i⟩
theorem Mbox.row {w : World} {g : Nat} {xs : List Int} (h : Mbox w g (xs.map (Value.int .i64))) (hg : g < w.heap.size) : Row (Value.int .i64) w w.heap.size (some ⟨g, 0, none⟩) xs := fun _ => by
  refine ⟨g, 0, rfl, hg, fun k hk => ?_⟩
  rw [Nat.zero_add]
  exact h.c k (by simp [hk])
theorem Mbox.rowC {α : Type} {n : Nat} {f : α → List Value} (hf : ∀ x, (f x).length = n) {w : World} {g : Nat} {xs : List α} (h : Mbox w g (xs.flatMap f)) (hg : g < w.heap.size) : RowC n f w w.heap.size (some ⟨g, 0, none⟩) xs := fun _ => by
  refine ⟨g, 0, rfl, hg, fun k hk j v hv => ?_⟩
  rw [Nat.zero_add]
  refine h.c (k * n + j) ?_
  rw [flat_get hf xs k j hk (by have := (List.getElem?_eq_some_iff.1 hv).1; rwa [hf] at this)]
  exact hv
end Go.Proofs.Ytaelhbbfddcabaa
