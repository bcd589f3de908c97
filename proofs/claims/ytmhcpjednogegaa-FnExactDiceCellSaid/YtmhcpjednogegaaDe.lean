/- Small words for the laws on micropolygons. -/
import Derived.Test.YtmhcpjednogegaaProg
import Derived.Test.YtmhcpjednogegaaInts
import Derived.Test.YtmhcpjednogegaaVbox
import Derived.Test.YtmhcpjednogegaaVec
import Derived.Test.YtmhcpjednogegaaHeld
import Derived.Test.YtmhcpjednogegaaMem
import Derived.Test.YtmhcpjednogegaaFlat
import Derived.Test.YtmhcpjednogegaaRowC
import Derived.Test.YtmhcpjednogegaaDv
import Derived.WalkKit
import Derived.WalkSpells
import Derived.WalkLawsBesides
import Derived.Lib.Hide
namespace Go.Proofs.Ytmhcpjednogegaa
open Go.RowKit

theorem rowC_drew {α : Type} {n : Nat} {g : α → List Value} {w : World} {B : Nat} {A : Option Addr} {xs : List α} (h : RowC n g w B A xs) : RowC n g w.drew B A xs := h.keep fun _ _ => rfl
theorem Held.laterM {w W W' : World} {bs : List (Nat × List Value)} {B : Nat} (h : Held w W bs) (hb : Below B W W') (hB : w.heap.size ≤ B) (hk : ∀ p ∈ bs, p.1 < B) : Held w W' bs :=
  ⟨h.1.trans (hb.mono hB), fun i k vs e => (h.2 i k vs e).keep fun _ => hb.block k (hk (k, vs) (List.mem_of_getElem? e))⟩
/-- a micropolygon out of twelve integers -/
def m4 : List Int → M4
  | [a, b, c, d, e, f, g, h, i, j, k, l] => ((a, b, c), (d, e, f), (g, h, i), (j, k, l))
  | _ => ((0, 0, 0), (0, 0, 0), (0, 0, 0), (0, 0, 0))
theorem mgc_m4 (zs : List Int) (h : zs.length = 12) : mgc (m4 zs) = zs.map (Value.int .i64) := by
  match zs, h with
  | [a, b, c, d, e, f, g, h, i, j, k, l], _ => rfl
end Go.Proofs.Ytmhcpjednogegaa
