/- Contracts of the laws own helpers on meshes. -/
import Derived.Test.YtdefhepagpgnaaaGreatProg
import Derived.Test.YtdefhepagpgnaaaGreatInts
import Derived.Test.YtdefhepagpgnaaaGreatVbox
import Derived.Test.YtdefhepagpgnaaaGreatVec
import Derived.Test.YtdefhepagpgnaaaGreatHeld
import Derived.Test.YtdefhepagpgnaaaGreatMem
import Derived.Test.YtdefhepagpgnaaaGreatRowC
import Derived.Test.YtdefhepagpgnaaaGreatIntS
import Derived.Test.YtdefhepagpgnaaaGreatVecS
import Derived.Test.YtdefhepagpgnaaaGreatSS
import Derived.Test.YtdefhepagpgnaaaGreatMkA
import Derived.Test.YtdefhepagpgnaaaGreatMkB
import Derived.WalkKit
import Derived.WalkSpells
import Derived.WalkLawsBesides
import Derived.Lib.Hide
import Derived.Deep.RegionHeld3
import Derived.Deep.QuietTactic
import Derived.BigQuiet
import Derived.Handy
import Derived.Deep.DeepCutAuto
import Derived.OwnWalk
namespace Go.Proofs.YtdefhepagpgnaaaGreat
open Go.RowKit


def markL : Nat → Lot → Lot
  | _, [] => []
  | k, p :: ps => (p.1, cnt k p.2.length) :: markL (k + p.2.length) ps
theorem markL_hdr (ps : Lot) : ∀ k, (markL k ps).map hdr = ps.map hdr := by
  induction ps with
  | nil => intro k; rfl
  | cons p ps ih => intro k; simp only [markL, List.map_cons, ih]; simp [hdr, cnt_len]
theorem markL_fst (ps : Lot) : ∀ k, (markL k ps).map Prod.fst = ps.map Prod.fst := by
  induction ps with
  | nil => intro k; rfl
  | cons p ps ih => intro k; simp only [markL, List.map_cons, ih]
theorem markL_app (l bs : Lot) : ∀ k, markL k (l ++ bs) = markL k l ++ markL (k + sumL (l.map Prod.snd)) bs := by
  induction l with
  | nil => intro k; simp [markL, sumL]
  | cons p ps ih => intro k; simp only [List.cons_append, markL, ih, List.map_cons, sumL, List.sum_cons, Nat.add_assoc]
/-- each row goes on counting where the one before it ended -/
def Counted (k : Nat) (xss : List (List Int)) : Prop := ∀ j (h : j < xss.length), xss[j] = cnt (k + sumL (xss.take j)) xss[j].length
theorem markL_snd_len (ps : Lot) (k : Nat) : ((markL k ps).map Prod.snd).map List.length = (ps.map Prod.snd).map List.length := by
  induction ps generalizing k with
  | nil => rfl
  | cons p ps ih => simp only [markL, List.map_cons, ih, cnt_len]
theorem markL_sum (ps : Lot) (k : Nat) : sumL ((markL k ps).map Prod.snd) = sumL (ps.map Prod.snd) := by unfold sumL; rw [markL_snd_len]
theorem markL_counted (ps : Lot) (k : Nat) : Counted k ((markL k ps).map Prod.snd) := by
  induction ps generalizing k with
  | nil => intro j h; simp [markL] at h
  | cons p ps ih =>
    intro j h
    match j with
    | 0 => simp [markL, sumL, cnt_len]
    | j + 1 =>
      have := ih (k + p.2.length) j (by simpa [markL] using h)
      simp only [markL, List.map_cons, List.getElem_cons_succ, List.take_succ_cons, sumL, List.sum_cons, cnt_len, ← Nat.add_assoc] at this ⊢
      exact this
theorem Row.congr {α : Type} {f : α → Value} {w : World} {B : Nat} {A : Option Addr} {xs ys : List α} (e : ys.map f = xs.map f) (h : Row f w B A xs) : Row f w B A ys := fun hn => by
  have hl : ys.length = xs.length := by simpa using congrArg List.length e
  obtain ⟨b, o, e1, hb, hc⟩ := h (by omega)
  refine ⟨b, o, e1, hb, fun k hk => ?_⟩
  rw [hc k (by omega)]
  have := congrArg (fun l => l[k]?) e
  simp only [List.getElem?_map, List.getElem?_eq_getElem hk, List.getElem?_eq_getElem (show k < xs.length by omega), Option.map_some] at this
  rw [this]
theorem Lots.swap {w w' : World} {A B : Lot} {g : Nat} {xs ys : List Int} (h : Lots w (A ++ (g, xs) :: B)) (hg : w.grownBy w' (some g)) (hm : Mbox w' g (ys.map (Value.int .i64))) : Lots w' (A ++ (g, ys) :: B) := by
  have hnd := h.1
  refine ⟨by simpa using hnd, fun p hp => ?_⟩
  have key : ∀ q ∈ A ++ (g, xs) :: B, q.1 ≠ g → Mbox w' q.1 (q.2.map (Value.int .i64)) ∧ q.1 < w'.heap.size := fun q hq hne =>
    ⟨(h.2 q hq).1.keep fun hl => hg.block q.1 hl (fun e => hne (by injection e)), Nat.lt_of_lt_of_le (h.2 q hq).2 hg.size⟩
  simp only [List.map_append, List.map_cons, List.nodup_append, List.nodup_cons, List.mem_map, List.mem_cons] at hnd
  rcases List.mem_append.1 hp with hp | hp
  · refine key p (by simp [hp]) (fun e => ?_)
    exact hnd.2.2 p.1 ⟨p, hp, rfl⟩ g (Or.inl rfl) e
  · rcases List.mem_cons.1 hp with rfl | hp
    · exact ⟨hm, Nat.lt_of_lt_of_le (h.2 (g, xs) (by simp)).2 hg.size⟩
    · refine key p (by simp [hp]) (fun e => ?_)
      exact hnd.2.1.1 ⟨p, hp, e⟩
set_option maxHeartbeats 2000000 in
theorem markIntSS_any (g c k : Nat) (ps : Lot) (w : World) (hA : Row hdr w w.heap.size (some ⟨g, 0, none⟩) ps) (hP : Lots w ps) (hne : ∀ p ∈ ps, p.1 ≠ g) (hk2 : k + sumL (ps.map Prod.snd) ≤ 4611686018427387904) (hl : ps.length ≤ 1099511627776) :
    Calls Tryz.prog 33 #[.slice (some ⟨g, 0, none⟩) ps.length c, .int .i64 k] w fun e w' => e = .returned (.int .i64 ((k + sumL (ps.map Prod.snd) : Nat) : Int)) ∧ Row hdr w' w'.heap.size (some ⟨g, 0, none⟩) (markL k ps) ∧ Lots w' (markL k ps) ∧ Turn (fun b => b ∈ ps.map Prod.fst) w w' := by
  have HA := Lib.hid hA
  have HP := Lib.hid hP
  have HN := Lib.hid hne
  clear hA hP hne
  go_enter Tryz.func33, Tryz.ntmps33
  go_wp2
  go_loopw [1, 5] (fun m i wr => ∃ j : Nat, j ≤ ps.length ∧ i = .int .i64 j ∧ m = .int .i64 ((k + sumL ((ps.take j).map Prod.snd) : Nat) : Int) ∧ Row hdr wr wr.heap.size (some ⟨g, 0, none⟩) ps ∧ Lots wr (markL k (ps.take j) ++ ps.drop j) ∧ Turn (fun b => b ∈ ps.map Prod.fst) w wr) (fun _ i _ => ps.length - (intOf i).toNat)
  case atStart => exact ⟨0, Nat.zero_le _, rfl, rfl, HA.out, by simpa [markL] using HP.out, Turn.refl _ _⟩
  case round =>
    obtain ⟨j, hj, rfl, rfl, ha, hlots, hturn⟩ := hrel
    clear HA HP
    by_cases hlt : j < ps.length
    · obtain ⟨b, o, e, hbl, hc⟩ := ha.at hlt
      simp only [Option.some.injEq, Addr.mk.injEq, and_true] at e
      obtain ⟨rfl, rfl⟩ := e
      rw [Nat.zero_add] at hc
      have HT := Lib.hid (List.take_succ_eq_append_getElem hlt)
      have HD := Lib.hid (List.drop_eq_getElem_cons hlt)
      have HNp := Lib.hid (HN.out _ (List.getElem_mem hlt))
      have HMp := Lib.hid (List.mem_map.2 ⟨_, List.getElem_mem hlt, rfl⟩ : ps[j].1 ∈ ps.map Prod.fst)
      have hbd : k + sumL ((ps.take j).map Prod.snd) + ps[j].2.length ≤ k + sumL (ps.map Prod.snd) := by
        have h1 := sumL_step (ps.map Prod.snd) j (by simpa using hlt)
        have h2 := sumL_le (ps.map Prod.snd) (j + 1)
        rw [List.map_take]
        simp only [List.getElem_map] at h1
        omega
      obtain ⟨p, hp⟩ : ∃ p, p = ps[j] := ⟨_, rfl⟩
      have HX := Lib.hid hp
      rw [← hp] at hc hbd
      have HT : Hid (ps.take (j + 1) = ps.take j ++ [p]) := Lib.hid (by rw [HX.out]; exact HT.out)
      have HD : Hid (ps.drop j = p :: ps.drop (j + 1)) := Lib.hid (by rw [HX.out]; exact HD.out)
      have HNp : Hid (p.1 ≠ g) := Lib.hid (by rw [HX.out]; exact HNp.out)
      have HMp : Hid (p.1 ∈ ps.map Prod.fst) := Lib.hid (by rw [HX.out]; exact HMp.out)
      have hl2 : Lots wr (markL k (ps.take j) ++ (p.1, p.2) :: ps.drop (j + 1)) := by have := hlots; rwa [HD.out] at this
      have hmb := (hl2.2 (p.1, p.2) (by simp)).1
      have HL := Lib.hid hl2
      have HA := Lib.hid ha
      have HU := Lib.hid hturn
      have HB := Lib.hid hbl
      obtain ⟨s, hs⟩ : ∃ s, s = k + sumL ((ps.take j).map Prod.snd) := ⟨_, rfl⟩
      have HS := Lib.hid hs
      rw [← hs] at hbd ⊢
      obtain ⟨g1, xs⟩ := p
      simp only [hdr] at hc
      clear hp hl2 hlots ha hturn hbl hs
      go_wp2_with fail
      refine (markIntM g1 _ s xs wr hmb (by omega)).mono ?_
      rintro e w2 ⟨rfl, hm2, hg2⟩
      have hlots := HL.out.swap hg2 hm2
      have hE : markL k (ps.take j) ++ (g1, cnt s xs.length) :: ps.drop (j + 1) = markL k (ps.take (j + 1)) ++ ps.drop (j + 1) := by
        rw [HT.out, markL_app, ← HS.out]; simp [markL]
      rw [hE] at hlots
      have HL2 := Lib.hid hlots
      have HA2 := Lib.hid ((HA.out.keepAt (hg2.block g HB.out (fun e => HNp.out (by injection e with e; exact e.symm)))).more hg2.size)
      have HU2 := Lib.hid (HU.out.trans ((Turn.of_grown hg2).mono fun k e => by rw [e]; exact HMp.out))
      have HS2 : Hid (s + xs.length = k + sumL ((ps.take (j + 1)).map Prod.snd)) := Lib.hid (by rw [HT.out, HS.out]; simp [sumL]; omega)
      clear hE hlots hg2 hm2 HL HA HU HT HD HB HX hmb hc
      go_wp2
      go_roundw
      case rel => exact ⟨j + 1, by omega, by go_num, by rw [← HS2.out]; go_num, HA2.out, HL2.out, HU2.out⟩
      case measure => simp [intOf]; omega
    · have e : j = ps.length := by omega
      subst e
      simp only [List.take_length, List.drop_length, List.append_nil] at hlots ⊢
      have HL := Lib.hid hlots
      have HA := Lib.hid (Row.congr (markL_hdr ps k) ha)
      have HU := Lib.hid hturn
      clear hlots ha hturn
      go_wp2
      go_ret
      exact ⟨rfl, HA.out, HL.out, HU.out⟩

set_option maxHeartbeats 2000000 in
theorem heldIntSS_any (A : Option Addr) (c k : Nat) (xss : List (List Int)) (w : World) (hR : RowSS w w.heap.size A xss) (hC : Counted k xss) (hk2 : k + sumL xss ≤ 4611686018427387904) (hl : xss.length ≤ 1099511627776) :
    Calls Tryz.prog 35 #[.slice A xss.length c, .int .i64 k] w fun e w' => e = .returned (.int .i64 ((k + sumL xss : Nat) : Int)) ∧ Below w.heap.size w w' := by
  have HR := Lib.hid hR
  have HC := Lib.hid hC
  clear hR hC
  go_enter Tryz.func35, Tryz.ntmps35
  go_wp2
  go_loopw [1, 5] (fun m i wr => ∃ j : Nat, j ≤ xss.length ∧ i = .int .i64 j ∧ m = .int .i64 ((k + sumL (xss.take j) : Nat) : Int) ∧ Below w.heap.size w wr) (fun _ i _ => xss.length - (intOf i).toNat)
  case atStart => exact ⟨0, Nat.zero_le _, rfl, rfl, Below.refl _ _⟩
  case round =>
    obtain ⟨j, hj, rfl, rfl, HB⟩ := hrel
    by_cases hlt : j < xss.length
    · obtain ⟨b, o, a, c1, rfl, hbl, hc, _, _, hrow⟩ := HR.out.at hlt
      have hc := (HB.cell (p := ⟨b, o + j, none⟩) hbl).trans hc
      have hrow := (hrow.below HB).more HB.size
      have hst := sumL_step xss j hlt
      have hbd := sumL_le xss (j + 1)
      have hcn := HC.out j hlt
      obtain ⟨xs, hx⟩ : ∃ xs, xs = xss[j] := ⟨_, rfl⟩
      rw [← hx] at hc hrow hst hcn
      obtain ⟨s, hs⟩ : ∃ s, s = k + sumL (xss.take j) := ⟨_, rfl⟩
      rw [← hs] at hcn ⊢
      have HS : Hid (k + sumL (xss.take (j + 1)) = s + xs.length) := Lib.hid (by omega)
      have hbd : s + xs.length ≤ 4611686018427387904 := by omega
      have hrow : Row I64 wr wr.heap.size a (cnt s xs.length) := by rw [← hcn]; exact hrow
      obtain ⟨n, hn⟩ : ∃ n, n = xs.length := ⟨_, rfl⟩
      rw [← hn] at hc hrow hbd HS
      have HBB := Lib.hid HB
      clear hx hs hst hcn hbl hn HB
      go_wp2_with fail
      refine (heldIntM a c1 s n wr hrow hbd).mono ?_
      rintro e w2 ⟨rfl, hb2⟩
      have HB := Lib.hid (bcall HBB.out hb2 HBB.out.size)
      clear hb2 HBB hrow hc
      go_wp2
      go_roundw
      case rel => exact ⟨j + 1, by omega, by go_num, by rw [HS.out]; go_num, HB.out⟩
      case measure => simp [intOf]; omega
    · have e : j = xss.length := by omega
      subst e
      simp only [List.take_length] at *
      have HBB := Lib.hid HB
      clear HB
      go_wp2
      go_ret
      exact ⟨rfl, HBB.out⟩

end Go.Proofs.YtdefhepagpgnaaaGreat
