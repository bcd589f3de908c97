/- The patches of the faces of a mesh: words. -/
import Derived.Test.YtdefhepagpgnaaaProg
import Derived.Test.YtdefhepagpgnaaaInts
import Derived.Test.YtdefhepagpgnaaaVbox
import Derived.Test.YtdefhepagpgnaaaVec
import Derived.Test.YtdefhepagpgnaaaHeld
import Derived.Test.YtdefhepagpgnaaaMem
import Derived.Test.YtdefhepagpgnaaaRowC
import Derived.Test.YtdefhepagpgnaaaIntS
import Derived.Test.YtdefhepagpgnaaaVecS
import Derived.Test.YtdefhepagpgnaaaSS
import Derived.Test.YtdefhepagpgnaaaMkA
import Derived.Test.YtdefhepagpgnaaaMkB
import Derived.Test.YtdefhepagpgnaaaMkC
import Derived.Test.YtdefhepagpgnaaaMkD
import Derived.Test.YtdefhepagpgnaaaMF
import Derived.Test.YtdefhepagpgnaaaMG
import Derived.Test.YtdefhepagpgnaaaMH
import Derived.Test.YtdefhepagpgnaaaMM
import Derived.Test.YtdefhepagpgnaaaMN
import Derived.Test.YtdefhepagpgnaaaMV
import Derived.Test.YtdefhepagpgnaaaMW
import Derived.Test.YtdefhepagpgnaaaMVF
import Derived.Test.YtdefhepagpgnaaaMNb
import Derived.WalkKit
import Derived.WalkSpells
import Derived.WalkLawsBesides
import Derived.Lib.Hide
import Derived.Deep.RegionHeld3
import Derived.Deep.QuietTactic
import Derived.BigQuiet
import Derived.Handy
import Derived.Deep.DeepCutAuto
import Derived.OwnWalk
import Derived.OpenShut
import Derived.BigRegion
import Derived.Deep.AppendLies
import Derived.Deep.DrawnRows
namespace Go.Proofs.Ytdefhepagpgnaaa
open Go.RowKit


abbrev Q4 := V3 × V3 × V3 × V3
def pgc (p : Q4) : List Value := vg p.1 ++ (vg p.2.1 ++ (vg p.2.2.1 ++ vg p.2.2.2))
theorem pgc_len (p : Q4) : (pgc p).length = 12 := rfl
/-- the patch of a face -/
def patOf (vs : List V3) (f : List Int) : Q4 := (vs.getD (f.getD 0 0).toNat (0, 0, 0), vs.getD (f.getD 1 0).toNat (0, 0, 0), vs.getD (f.getD 3 0).toNat (0, 0, 0), vs.getD (f.getD 2 0).toNat (0, 0, 0))
def patL (vs : List V3) (fs : List (List Int)) : List Q4 := if okMesh vs fs then fs.map (patOf vs) else []
def PatsOut (w : World) (xs : List Q4) (e : Ending) (w' : World) : Prop :=
  ∃ A c, e = .returned (.slice A xs.length c) ∧ w'.ownsRow w.heap.size 76 12 (.slice A xs.length c) xs.length (xs.flatMap pgc) ∧ Below w.heap.size w w'
theorem infoP : (Try.prog.info? 76).map (fun i => (i.zero, i.size, i.bytes)) = some (some (.agg #[.int .i64 0, .int .i64 0, .int .i64 0, .int .i64 0, .int .i64 0, .int .i64 0, .int .i64 0, .int .i64 0, .int .i64 0, .int .i64 0, .int .i64 0, .int .i64 0]), 12, 96) := by kernel_rfl
theorem face_at {n : Nat} {f : List Int} (h : okFace n f = true) : ∃ a b c d : Nat, f = [(a : Int), (b : Int), (c : Int), (d : Int)] ∧ a < n ∧ b < n ∧ c < n ∧ d < n := by
  obtain ⟨h4, hat⟩ := okFace_at h
  obtain ⟨a, b, c, d, rfl⟩ := four h4
  have h0 := hat 0 (by simp)
  have h1 := hat 1 (by simp)
  have h2 := hat 2 (by simp)
  have h3 := hat 3 (by simp)
  simp [okAt] at h0 h1 h2 h3
  exact ⟨a.toNat, b.toNat, c.toNat, d.toNat, by rw [show ((a.toNat : Nat) : Int) = a by omega, show ((b.toNat : Nat) : Int) = b by omega, show ((c.toNat : Nat) : Int) = c by omega, show ((d.toNat : Nat) : Int) = d by omega], by omega, by omega, by omega, by omega⟩
/-- a vector out of a slice of vectors -/
theorem RowC.vec {w : World} {B : Nat} {A : Option Addr} {vs : List V3} (h : RowC 3 vg w B A vs) {k : Nat} (hk : k < vs.length) :
    ∃ b o x y z, A = some ⟨b, o, none⟩ ∧ b < B ∧ vs.getD k (0, 0, 0) = (x, y, z) ∧ w.cell? ⟨b, o + k * 3, none⟩ = some (.int .i64 x) ∧ w.cell? ⟨b, o + k * 3 + 1, none⟩ = some (.int .i64 y) ∧ w.cell? ⟨b, o + k * 3 + 2, none⟩ = some (.int .i64 z) := by
  obtain ⟨b, o, e, hb, hc⟩ := h.at hk
  obtain ⟨c0, c1, c2⟩ := vg_at hc
  exact ⟨b, o, _, _, _, e, hb, gd vs k (0, 0, 0) hk, c0, c1, c2⟩

end Go.Proofs.Ytdefhepagpgnaaa
