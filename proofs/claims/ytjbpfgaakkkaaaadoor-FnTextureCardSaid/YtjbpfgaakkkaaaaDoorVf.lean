/- Textures of the model: MipLevel. -/
import Derived.Test.YtjbpfgaakkkaaaaDoorProg
import Derived.Test.YtjbpfgaakkkaaaaDoorInts
import Derived.Test.YtjbpfgaakkkaaaaDoorVbox
import Derived.Test.YtjbpfgaakkkaaaaDoorHeld
import Derived.Test.YtjbpfgaakkkaaaaDoorMem
import Derived.Test.YtjbpfgaakkkaaaaDoorFlat
import Derived.Test.YtjbpfgaakkkaaaaDoorRowC
import Derived.Test.YtjbpfgaakkkaaaaDoorKS
import Derived.Test.YtjbpfgaakkkaaaaDoorStrS
import Derived.Test.YtjbpfgaakkkaaaaDoorIntS
import Derived.Test.YtjbpfgaakkkaaaaDoorSS
import Derived.Test.YtjbpfgaakkkaaaaDoorVi
import Derived.Test.YtjbpfgaakkkaaaaDoorVa
import Derived.Test.YtjbpfgaakkkaaaaDoorVb
import Derived.Test.YtjbpfgaakkkaaaaDoorVc
import Derived.Test.YtjbpfgaakkkaaaaDoorVd
import Derived.Test.YtjbpfgaakkkaaaaDoorVe
import Derived.WalkKit
import Derived.WalkSpells
import Derived.WalkLawsBesides
import Derived.Lib.Hide
import Derived.Deep.RegionHeld3
import Derived.Deep.QuietTactic
import Derived.BigQuiet
import Derived.Handy
import Derived.Deep.DeepCutAuto
import Derived.OwnWalk
import Derived.Lib.OwnBridge
import Derived.Maps.AppendAt
namespace Go.Proofs.YtjbpfgaakkkaaaaDoor
open Go.RowKit

/-- append of a slice of integers that is read, not empty, in a region that draws its order; and where the answer lies -/
theorem step_append_at {P : Program} {w : World} {ops : Array Oper} {o : Oper} {a : Act} {K : Act → World → Prop} {Q : Exit → Act → World → Prop} {E : Prop} (hgd : o.guard = none) (s x : Operand) (t : TypeId)
    (ho : o.op = .call { callee := .builtin .append, args := #[s, x], argTypes := #[t, t] })
    (base : Nat) (e : TypeId) (z : Value) (bytes : Nat) (ht : P.underlying t = some (.slice e)) (hinfo : (P.info? e).map (fun i => (i.zero, i.size, i.bytes)) = some (some z, 1, bytes)) (hzs : z.cells.size = 1)
    (v : Value) (n : Nat) (xs : List Value) (hs : a.eval s = v) (hown : w.ownsRow base e 1 v n xs)
    (B : Nat) (A : Option Addr) (c : Nat) (us : List Int) (hx : a.eval x = .slice A us.length c) (hr : Row I64 w B A us) (hpos : 0 < us.length)
    (h63 : n + us.length ≤ maxLen) (hbytes : (n + us.length) * bytes ≤ 140737488355328) (hbase : base ≤ w.heap.size)
    (h : ∀ v' w', w'.ownsRow base e 1 v' (n + us.length) (xs ++ us.map I64) → w.grownBy w' v.ownBlock → (v'.ownBlock = v.ownBlock ∨ v'.ownBlock = some w.heap.size) → K (a.put o.dst v') w') :
    if Region.wanted o (yielded ops a.tmps) = true then Oper.wp P o a w K Q else E := by
  rw [if_pos (by simp [Region.wanted, hgd])]
  obtain ⟨i0, hi, hz0, hz1, hz2⟩ := info_parts hinfo
  obtain ⟨b, q, rfl, _, _⟩ := hr.at (k := 0) hpos
  obtain ⟨v', w', hrun, h2, h3, _, h5⟩ := run_append_own_at (P := P) (w := w) base t o.type e i0 z 1 bytes ht hi hz0 hz1 hz2 hzs (by omega) v n xs hown ⟨b, q, none⟩ us.length c (us.map I64) (by simp) (fun j u hj => by
    rw [List.getElem?_map] at hj
    obtain ⟨y, hy, rfl⟩ := Option.map_eq_some_iff.1 hj
    obtain ⟨hj1, rfl⟩ := List.getElem?_eq_some_iff.1 hy
    obtain ⟨b', q', e, _, hc⟩ := hr.at hj1
    injection e with e
    injection e with e1 e2
    subst e1 e2
    have ea : (⟨b, q, none⟩ : Addr).add j = ⟨b, q + j, none⟩ := by unfold Addr.add; split <;> simp_all
    rw [ea]
    exact hc) (fun u hu => by obtain ⟨y, _, rfl⟩ := List.mem_map.1 hu; rfl) h63 hbytes hbase
  unfold Oper.wp execOp
  simp only [ho, resolve, invoke, builtin, Sem.run_bind, Sem.run_pure, Result.andThen_ok, List.map_toArray, List.map_cons, List.map_nil, hs, hx, hrun]
  exact h v' w' h2 h3 h5
theorem own_set2 {w0 w : World} {base : Nat} {e : TypeId} {size n g : Nat} {v : Value} {xs l : List Value} {bs : List (Nat × List Value)} (h : w.ownsRow base e size v n xs) (_hQ : Held w0 w ((g, l) :: bs)) (hne : v.ownBlock ≠ some g) (x y : Value) :
    ((w.setCell ⟨g, 0, none⟩ x).setCell ⟨g, 1, none⟩ y).ownsRow base e size v n xs := ownsRow_setCell_other (ownsRow_setCell_other h (a := ⟨g, 0, none⟩) hne x) (a := ⟨g, 1, none⟩) hne y
theorem mip_snoc : ∀ (k : Nat) (L : Int) (ts : List Int), mipL L ts (k + 1) = halfL (L - (k : Int)) (mipL L ts k) := by
  intro k
  induction k with
  | zero => intro L ts; simp [mipL]
  | succ k ih =>
    intro L ts
    have h := ih (L - 1) (halfL L ts)
    show mipL (L - 1) (halfL L ts) (k + 1) = _
    rw [h, show L - 1 - (k : Int) = L - ((k + 1 : Nat) : Int) by omega]
    rfl
/-- an empty literal -/
theorem own_lit0 {w W : World} {bs : List (Nat × List Value)} (_h : Held w W bs) : (W.alloc (.cells #[] 3)).ownsRow W.heap.size 3 1 (.slice (some ⟨W.heap.size, 0, none⟩) 0 0) 0 [] := by
  have h := World.ownsRow_lit W #[] 0 (e := 3) (size := 1) (base := W.heap.size) (by simp) (Nat.zero_le _) (by simp)
  simpa using h
/-- where a texture has a level -/
def okM (L : Int) (ts : List Int) (k : Int) : Bool := okX L ts && inV 0 L k
theorem own_lb {w : World} {base : Nat} {e : TypeId} {size n : Nat} {v : Value} {xs : List Value} (h : w.ownsRow base e size v n xs) (g : Nat) (hg : v.ownBlock = some g) : base ≤ g := own_block h g hg


end Go.Proofs.YtjbpfgaakkkaaaaDoor
