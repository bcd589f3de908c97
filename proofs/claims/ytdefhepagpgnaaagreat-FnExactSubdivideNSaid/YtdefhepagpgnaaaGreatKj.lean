/- A mesh that a call made, its rows with room to spare; its marks. -/
import Derived.Test.YtdefhepagpgnaaaGreatProg
import Derived.Test.YtdefhepagpgnaaaGreatInts
import Derived.Test.YtdefhepagpgnaaaGreatVbox
import Derived.Test.YtdefhepagpgnaaaGreatVec
import Derived.Test.YtdefhepagpgnaaaGreatHeld
import Derived.Test.YtdefhepagpgnaaaGreatMem
import Derived.Test.YtdefhepagpgnaaaGreatRowC
import Derived.Test.YtdefhepagpgnaaaGreatIntS
import Derived.Test.YtdefhepagpgnaaaGreatVecS
import Derived.Test.YtdefhepagpgnaaaGreatSS
import Derived.Test.YtdefhepagpgnaaaGreatMkA
import Derived.Test.YtdefhepagpgnaaaGreatMkB
import Derived.Test.YtdefhepagpgnaaaGreatMkC
import Derived.Test.YtdefhepagpgnaaaGreatMkD
import Derived.Test.YtdefhepagpgnaaaGreatMF
import Derived.Test.YtdefhepagpgnaaaGreatMG
import Derived.Test.YtdefhepagpgnaaaGreatMH
import Derived.Test.YtdefhepagpgnaaaGreatMLw
import Derived.Test.YtdefhepagpgnaaaGreatKg
import Derived.WalkKit
import Derived.WalkSpells
import Derived.WalkLawsBesides
import Derived.Lib.Hide
import Derived.Deep.RegionHeld3
import Derived.Deep.QuietTactic
import Derived.BigQuiet
import Derived.Handy
import Derived.Deep.DeepCutAuto
import Derived.OwnWalk
namespace Go.Proofs.YtdefhepagpgnaaaGreat
open Go.RowKit

def sh (ps : Lot) : List (Nat × Nat) := ps.map fun p => (p.1, p.2.length)
theorem sh_markL (ps : Lot) : ∀ k, sh (markL k ps) = sh ps := by
  unfold sh
  induction ps with
  | nil => intro k; rfl
  | cons p ps ih => intro k; simp only [markL, List.map_cons, ih, cnt_len]
/-- the header of a row -/
def Hd (q : Nat × Nat) (v : Value) : Prop := ∃ cap, v = .slice (some ⟨q.1, 0, none⟩) q.2 cap ∧ q.2 ≤ cap ∧ cap ≤ maxLen
def HdOf (ps : Lot) (hs : List Value) : Prop := hs.length = ps.length ∧ ∀ (j : Nat) (p : Nat × List Int) (v : Value), ps[j]? = some p → hs[j]? = some v → Hd (p.1, p.2.length) v
theorem HdOf.nil : HdOf [] [] := ⟨rfl, fun j p v h => by simp at h⟩
theorem HdOf.app {ps : Lot} {hs : List Value} (h : HdOf ps hs) {p : Nat × List Int} {v : Value} (hv : Hd (p.1, p.2.length) v) : HdOf (ps ++ [p]) (hs ++ [v]) := by
  refine ⟨by simp [h.1], fun j q u hq hu => ?_⟩
  by_cases hlt : j < ps.length
  · rw [List.getElem?_append_left hlt] at hq
    rw [List.getElem?_append_left (by rw [h.1]; exact hlt)] at hu
    exact h.2 j q u hq hu
  · rw [List.getElem?_append_right (by omega)] at hq
    rw [List.getElem?_append_right (by rw [h.1]; omega), h.1] at hu
    have h0 : j - ps.length = 0 := by
      have h1 := (List.getElem?_eq_some_iff.1 hq).1
      simp at h1
      omega
    rw [h0] at hq hu
    simp at hq hu
    rw [← hq, ← hu]
    exact hv
theorem HdOf.hdrs {ps : Lot} (hm : ∀ p ∈ ps, p.2.length ≤ maxLen) : HdOf ps (ps.map hdr) := ⟨by simp, fun j p v hp hv => by
  rw [List.getElem?_map, hp] at hv
  simp at hv
  exact ⟨p.2.length, by rw [← hv]; rfl, Nat.le_refl _, hm p (List.mem_of_getElem? hp)⟩⟩
/-- the headers are read -/
def RowH (w : World) (B g : Nat) (hl : List (Nat × Nat)) : Prop := g < B ∧ ∀ (j : Nat) (q : Nat × Nat), hl[j]? = some q → ∃ v, w.cell? ⟨g, j, none⟩ = some v ∧ Hd q v
theorem RowH.keep {w w' : World} {g : Nat} {hl : List (Nat × Nat)} (h : RowH w w.heap.size g hl) (hb : w'.heap[g]? = w.heap[g]?) (hs : w.heap.size ≤ w'.heap.size) : RowH w' w'.heap.size g hl :=
  ⟨Nat.lt_of_lt_of_le h.1 hs, fun j q hq => by
    obtain ⟨v, hc, hv⟩ := h.2 j q hq
    exact ⟨v, (World.cell?_of_block (a := ⟨g, j, none⟩) hb).trans hc, hv⟩⟩
theorem RowH.of_own {w : World} {base g cap : Nat} {ps : Lot} {hs : List Value} (h : w.ownsRow base 45 1 (.slice (some ⟨g, 0, none⟩) ps.length cap) ps.length hs) (hh : HdOf ps hs) : RowH w w.heap.size g (sh ps) :=
  ⟨own_lt h g rfl, fun j q hq => by
    unfold sh at hq
    rw [List.getElem?_map] at hq
    obtain ⟨p, hp, rfl⟩ := Option.map_eq_some_iff.1 hq
    have hj := (List.getElem?_eq_some_iff.1 hp).1
    have hc := h.cellAt j (by omega)
    have hj' : j < hs.length := by rw [hh.1]; exact hj
    rw [List.getElem?_eq_getElem hj'] at hc
    exact ⟨hs[j], hc, hh.2 j p _ hp (List.getElem?_eq_getElem hj')⟩⟩
theorem Lots.rowSH {w : World} {ps : Lot} {g : Nat} (h : Lots w ps) (hA : RowH w w.heap.size g (sh ps)) : RowSS w w.heap.size (some ⟨g, 0, none⟩) (ps.map Prod.snd) := fun _ => by
  refine ⟨g, 0, rfl, hA.1, fun k hk => ?_⟩
  have hk' : k < ps.length := by simpa using hk
  obtain ⟨v, hc, cap, rfl, h1, h2⟩ := hA.2 k (ps[k].1, ps[k].2.length) (by unfold sh; rw [List.getElem?_map, List.getElem?_eq_getElem hk']; rfl)
  refine ⟨some ⟨ps[k].1, 0, none⟩, cap, ?_, by simpa using h1, h2, ?_⟩
  · rw [Nat.zero_add, hc]; simp
  · have := h.row (List.getElem_mem hk')
    simpa using this
def OwnSC (w : World) (base : Nat) (A : Option Addr) (c : Nat) (ps : Lot) : Prop :=
  ∃ hs, w.ownsRow base 45 1 (.slice A ps.length c) ps.length hs ∧ HdOf ps hs ∧ LotT w ps ∧ ∀ p ∈ ps, base ≤ p.1
theorem OwnSC.later {w w' : World} {base : Nat} {A : Option Addr} {c : Nat} {ps : Lot} (h : OwnSC w base A c ps) (hb : Below w.heap.size w w') : OwnSC w' base A c ps := by
  obtain ⟨hs, h1, h2, h3, h4⟩ := h
  exact ⟨hs, own_keep' h1 hb, h2, h3.later hb, h4⟩
theorem OwnSC.turn {S : Nat → Prop} {w w' : World} {base : Nat} {A : Option Addr} {c : Nat} {ps : Lot} (h : OwnSC w base A c ps) (ht : Turn S w w') (hS : ∀ k, S k → k < base) : OwnSC w' base A c ps := by
  obtain ⟨hs, h1, h2, h3, h4⟩ := h
  exact ⟨hs, own_turn h1 ht hS, h2, h3.keep ht.size (fun p hp => ht.block (h3.1.2 p hp).2 (fun c => by have := hS _ c; have := h4 p hp; omega)), h4⟩
theorem OwnSC.shape {w : World} {base : Nat} {A : Option Addr} {c : Nat} {ps : Lot} (h : OwnSC w base A c ps) (h0 : 0 < ps.length) : ∃ g, A = some ⟨g, 0, none⟩ := by
  obtain ⟨hs, h1, _⟩ := h
  rcases h1.2 with ⟨_, h2⟩ | ⟨g, cap, cur, h2, _⟩
  · omega
  · injection h2 with h2; exact ⟨g, h2⟩
theorem OwnSC.rowSS {w : World} {base : Nat} {A : Option Addr} {c : Nat} {ps : Lot} (h : OwnSC w base A c ps) : RowSS w w.heap.size A (ps.map Prod.snd) := by
  by_cases h0 : 0 < ps.length
  · obtain ⟨g, rfl⟩ := h.shape h0
    obtain ⟨hs, h1, h2, h3, h4⟩ := h
    exact h3.1.rowSH (RowH.of_own h1 h2)
  · have e : ps = [] := List.eq_nil_of_length_eq_zero (by omega)
    subst e
    exact RowSS.nil
theorem OwnSS.sc {w : World} {base : Nat} {A : Option Addr} {c : Nat} {ps : Lot} (h : OwnSS w base A c ps) (hm : ∀ p ∈ ps, p.2.length ≤ maxLen) : OwnSC w base A c ps := ⟨_, h.1, HdOf.hdrs hm, h.2.1, h.2.2⟩
/-- a mesh that a call has made -/
def OwnG (w : World) (base : Nat) (A1 : Option Addr) (c1 : Nat) (A2 : Option Addr) (c2 : Nat) (P : List V3) (ps : Lot) : Prop :=
  w.ownsRow base 43 3 (.slice A1 P.length c1) P.length (P.flatMap vg) ∧ OwnSC w base A2 c2 ps
theorem OwnG.later {w w' : World} {base : Nat} {A1 A2 : Option Addr} {c1 c2 : Nat} {P : List V3} {ps : Lot} (h : OwnG w base A1 c1 A2 c2 P ps) (hb : Below w.heap.size w w') : OwnG w' base A1 c1 A2 c2 P ps := ⟨own_keep' h.1 hb, h.2.later hb⟩
theorem OwnG.under {w : World} {base : Nat} {A1 A2 : Option Addr} {c1 c2 : Nat} {P : List V3} {ps : Lot} (h : OwnG w base A1 c1 A2 c2 P ps) : OwnU w.heap.size A1 P.length c1 ps := ⟨fun q hq => own_lt h.1 q hq, fun p hp => by
  obtain ⟨hs, h1, h2, h3, h4⟩ := h.2
  exact (h3.1.2 p hp).2⟩
theorem OwnG.turn {S : Nat → Prop} {w w' : World} {base : Nat} {A1 A2 : Option Addr} {c1 c2 : Nat} {P : List V3} {ps : Lot} (h : OwnG w base A1 c1 A2 c2 P ps) (ht : Turn S w w') (hS : ∀ k, S k → k < base) : OwnG w' base A1 c1 A2 c2 P ps := ⟨own_turn h.1 ht hS, h.2.turn ht hS⟩
theorem OwnG.read {w : World} {base : Nat} {A1 A2 : Option Addr} {c1 c2 : Nat} {P : List V3} {ps : Lot} {F : List (List Int)} (h : OwnG w base A1 c1 A2 c2 P ps) (hF : ps.map Prod.snd = F) : MeshIn w A1 A2 P F := by
  subst hF
  exact ⟨RowC.of_own vg_len h.1 rfl, h.2.rowSS⟩
theorem OwnG.base {w : World} {base base' : Nat} {A1 A2 : Option Addr} {c1 c2 : Nat} {P : List V3} {ps : Lot} (h : OwnG w base A1 c1 A2 c2 P ps) (hb : base' ≤ base) : OwnG w base' A1 c1 A2 c2 P ps := by
  obtain ⟨h0, hs, h1, h2, h3, h4⟩ := h
  exact ⟨own_base h0 hb, hs, own_base h1 hb, h2, h3, fun p hp => Nat.le_trans hb (h4 p hp)⟩
set_option maxHeartbeats 4000000 in
theorem markSH_any (g c k : Nat) (ps : Lot) (w : World) (hA : RowH w w.heap.size g (sh ps)) (hP : Lots w ps) (hne : ∀ p ∈ ps, p.1 ≠ g) (hk2 : k + sumL (ps.map Prod.snd) ≤ 4611686018427387904) (hl : ps.length ≤ 1099511627776) :
    Calls Tryz.prog 33 #[.slice (some ⟨g, 0, none⟩) ps.length c, .int .i64 k] w fun e w' => e = .returned (.int .i64 ((k + sumL (ps.map Prod.snd) : Nat) : Int)) ∧ RowH w' w'.heap.size g (sh (markL k ps)) ∧ Lots w' (markL k ps) ∧ Turn (fun b => b ∈ ps.map Prod.fst) w w' := by
  have HA := Lib.hid hA
  have HP := Lib.hid hP
  have HN := Lib.hid hne
  clear hA hP hne
  go_enter Tryz.func33, Tryz.ntmps33
  go_wp2
  go_loopw [1, 5] (fun m i wr => ∃ j : Nat, j ≤ ps.length ∧ i = .int .i64 j ∧ m = .int .i64 ((k + sumL ((ps.take j).map Prod.snd) : Nat) : Int) ∧ RowH wr wr.heap.size g (sh ps) ∧ Lots wr (markL k (ps.take j) ++ ps.drop j) ∧ Turn (fun b => b ∈ ps.map Prod.fst) w wr) (fun _ i _ => ps.length - (intOf i).toNat)
  case atStart => exact ⟨0, Nat.zero_le _, rfl, rfl, HA.out, by simpa [markL] using HP.out, Turn.refl _ _⟩
  case round =>
    obtain ⟨j, hj, rfl, rfl, ha, hlots, hturn⟩ := hrel
    clear HA HP
    by_cases hlt : j < ps.length
    · obtain ⟨v, hc, cap, rfl, _, _⟩ := ha.2 j (ps[j].1, ps[j].2.length) (by unfold sh; rw [List.getElem?_map, List.getElem?_eq_getElem hlt]; rfl)
      have hbl := ha.1
      have HT := Lib.hid (List.take_succ_eq_append_getElem hlt)
      have HD := Lib.hid (List.drop_eq_getElem_cons hlt)
      have HNp := Lib.hid (HN.out _ (List.getElem_mem hlt))
      have HMp := Lib.hid (List.mem_map.2 ⟨_, List.getElem_mem hlt, rfl⟩ : ps[j].1 ∈ ps.map Prod.fst)
      have hbd : k + sumL ((ps.take j).map Prod.snd) + ps[j].2.length ≤ k + sumL (ps.map Prod.snd) := by
        have h1 := sumL_step (ps.map Prod.snd) j (by simpa using hlt)
        have h2 := sumL_le (ps.map Prod.snd) (j + 1)
        rw [List.map_take]
        simp only [List.getElem_map] at h1
        omega
      obtain ⟨p, hp⟩ : ∃ p, p = ps[j] := ⟨_, rfl⟩
      have HX := Lib.hid hp
      rw [← hp] at hc hbd
      have HT : Hid (ps.take (j + 1) = ps.take j ++ [p]) := Lib.hid (by rw [HX.out]; exact HT.out)
      have HD : Hid (ps.drop j = p :: ps.drop (j + 1)) := Lib.hid (by rw [HX.out]; exact HD.out)
      have HNp : Hid (p.1 ≠ g) := Lib.hid (by rw [HX.out]; exact HNp.out)
      have HMp : Hid (p.1 ∈ ps.map Prod.fst) := Lib.hid (by rw [HX.out]; exact HMp.out)
      have hl2 : Lots wr (markL k (ps.take j) ++ (p.1, p.2) :: ps.drop (j + 1)) := by have := hlots; rwa [HD.out] at this
      have hmb := (hl2.2 (p.1, p.2) (by simp)).1
      have HL := Lib.hid hl2
      have HA := Lib.hid ha
      have HU := Lib.hid hturn
      have HB := Lib.hid hbl
      obtain ⟨s, hs⟩ : ∃ s, s = k + sumL ((ps.take j).map Prod.snd) := ⟨_, rfl⟩
      have HS := Lib.hid hs
      rw [← hs] at hbd ⊢
      obtain ⟨g1, xs⟩ := p
      simp only at hc
      clear hp hl2 hlots ha hturn hbl hs
      go_wp2_with fail
      refine (markIntM g1 _ s xs wr hmb (by omega)).mono ?_
      rintro e w2 ⟨rfl, hm2, hg2⟩
      have hlots := HL.out.swap hg2 hm2
      have hE : markL k (ps.take j) ++ (g1, cnt s xs.length) :: ps.drop (j + 1) = markL k (ps.take (j + 1)) ++ ps.drop (j + 1) := by
        rw [HT.out, markL_app, ← HS.out]; simp [markL]
      rw [hE] at hlots
      have HL2 := Lib.hid hlots
      have HA2 := Lib.hid (HA.out.keep (hg2.block g HB.out (fun e => HNp.out (by injection e with e; exact e.symm))) hg2.size)
      have HU2 := Lib.hid (HU.out.trans ((Turn.of_grown hg2).mono fun k e => by rw [e]; exact HMp.out))
      have HS2 : Hid (s + xs.length = k + sumL ((ps.take (j + 1)).map Prod.snd)) := Lib.hid (by rw [HT.out, HS.out]; simp [sumL]; omega)
      clear hE hlots hg2 hm2 HL HA HU HT HD HB HX hmb hc
      go_wp2
      go_roundw
      case rel => exact ⟨j + 1, by omega, by go_num, by rw [← HS2.out]; go_num, HA2.out, HL2.out, HU2.out⟩
      case measure => simp [intOf]; omega
    · have e : j = ps.length := by omega
      subst e
      simp only [List.take_length, List.drop_length, List.append_nil] at hlots ⊢
      have HL := Lib.hid hlots
      have HA : Hid (RowH wr wr.heap.size g (sh (markL k ps))) := Lib.hid (by rw [sh_markL]; exact ha)
      have HU := Lib.hid hturn
      clear hlots ha hturn
      go_wp2
      go_ret
      exact ⟨rfl, HA.out, HL.out, HU.out⟩

theorem markSC_turn (A : Option Addr) (c base k : Nat) (ps : Lot) (w : World) (h : OwnSC w base A c ps) (hk2 : k + sumL (ps.map Prod.snd) ≤ 4611686018427387904) (hl : ps.length ≤ 1099511627776) :
    Calls Tryz.prog 33 #[.slice A ps.length c, .int .i64 k] w fun e w' => e = .returned (.int .i64 ((k + sumL (ps.map Prod.snd) : Nat) : Int)) ∧ RowSS w' w'.heap.size A ((markL k ps).map Prod.snd) ∧ Turn (fun b => b ∈ ps.map Prod.fst) w w' := by
  by_cases h0 : 0 < ps.length
  · obtain ⟨g, rfl⟩ := h.shape h0
    obtain ⟨hs, h1, h2, h3, h4⟩ := h
    exact (markSH_any g c k ps w (RowH.of_own h1 h2) h3.1 (fun p hp e => h3.ne h1 p hp (by rw [e]; rfl)) hk2 hl).mono fun e w' ⟨he, hr, hlo, ht⟩ => ⟨he, hlo.rowSH hr, ht⟩
  · have e : ps = [] := List.eq_nil_of_length_eq_zero (by omega)
    subst e
    refine (markSS_none A c k w).mono fun e w' ⟨he, hw⟩ => ⟨by rw [he]; simp [sumL], RowSS.nil, by rw [← hw]; exact Turn.of_later (Below.refl _ _)⟩

set_option maxHeartbeats 2000000 in
theorem markMesh_gen (A1 A2 : Option Addr) (c1 c2 base hi : Nat) (P : List V3) (ps : Lot) (w : World) (hO : OwnG w base A1 c1 A2 c2 P ps) (hU : OwnU hi A1 P.length c1 ps) (hhi : hi ≤ w.heap.size) (hp : P.length ≤ 1048576) (hn : ps.length ≤ 1048576) (hs : sumL (ps.map Prod.snd) ≤ 1048576) :
    Calls Tryz.prog 10 #[mv A1 A2 P.length c1 ps.length c2, .int .i64 1] w fun e w' => e = .returned (.int .i64 ((1 + 3 * P.length + sumL (ps.map Prod.snd) : Nat) : Int)) ∧ RowC 3 vg w' w'.heap.size A1 (mrkV 1 P.length) ∧ RowSS w' w'.heap.size A2 ((markL (1 + 3 * P.length) ps).map Prod.snd) ∧ Turn (fun q => base ≤ q ∧ q < hi) w w' := by
  have HB0 : Hid (Turn (fun q => base ≤ q ∧ q < hi) w (w.alloc (.cells #[.slice A1 P.length c1, .slice A2 ps.length c2] 29))) := Lib.hid (Turn.of_later (by go_grown))
  have HM := Lib.hid (hO.later (show Below w.heap.size w (w.alloc (.cells #[.slice A1 P.length c1, .slice A2 ps.length c2] 29)) by go_grown))
  have HN := Lib.hid (Mbox.new w #[.slice A1 P.length c1, .slice A2 ps.length c2] 29)
  have hop : ∀ q, Value.ownBlock (.slice A1 P.length c1) = some q → (base ≤ q ∧ q < hi) ∧ q ≠ w.heap.size := fun q hq => ⟨⟨own_block hO.1 q hq, hU.1 q hq⟩, by have := hU.1 q hq; omega⟩
  have HUU := Lib.hid hU.2
  clear hO hU
  go_enter Tryz.func10, Tryz.ntmps10
  go_wp2_with fail
  refine (markVecO A1 c1 base 1 P _ HM.out.1 (by omega)).mono ?_
  rintro e w2 ⟨rfl, ho2, hg2⟩
  have hn2 : Mbox w2 w.heap.size [.slice A1 P.length c1, .slice A2 ps.length c2] := HN.out.keep fun hl => hg2.block _ hl (fun e => (hop _ e.symm).2 rfl)
  have HB2 : Hid (Turn (fun q => base ≤ q ∧ q < hi) w w2) := Lib.hid (HB0.out.trans (grown_turn hg2 (fun q hq => (hop q hq).1)))
  have HS2 : Hid (OwnSC w2 base A2 c2 ps) := Lib.hid (by
    obtain ⟨h0, hs, h1, h2, h3, h4⟩ := HM.out
    exact ⟨hs, World.ownsRow.kept h1 hg2 (own_ne h1 h0 (by decide)), h2, h3.grown hg2 (lotne h3 h0 (by decide)), h4⟩)
  have HO2 := Lib.hid ho2
  have hc1 := hn2.c 1
  have HNE : Hid (∀ p ∈ ps, some p.1 ≠ (Value.slice A1 P.length c1).ownBlock) := Lib.hid (by
    obtain ⟨hs, h1, h2, h3, h4⟩ := HS2.out
    exact lotne h3 HO2.out (by decide))
  have HGE : Hid (∀ p ∈ ps, base ≤ p.1) := Lib.hid (by
    obtain ⟨hs, h1, h2, h3, h4⟩ := HS2.out
    exact h4)
  clear hg2 hn2 ho2 HM HN HB0 hop
  go_wp2_with fail
  refine (markSC_turn A2 c2 base (1 + 3 * P.length) ps w2 HS2.out (by omega) (by omega)).mono ?_
  rintro e w3 ⟨rfl, hr3, ht3⟩
  have HB3 : Hid (Turn (fun q => base ≤ q ∧ q < hi) w w3) := Lib.hid (HB2.out.trans (ht3.mono fun k hk => by
    obtain ⟨p, hp, rfl⟩ := List.mem_map.1 hk
    exact ⟨HGE.out p hp, HUU.out p hp⟩))
  have HR3 := Lib.hid hr3
  have HV3 : Hid (RowC 3 vg w3 w3.heap.size A1 (mrkV 1 P.length)) := Lib.hid (RowC.of_own vg_len (ownTurn HO2.out ht3 (fun q hq => by obtain ⟨p, hp, rfl⟩ := List.mem_map.1 hq; exact HNE.out p hp)) (mrkV_len _ _))
  clear ht3 hr3 HB2 HS2 HO2 HNE hc1
  go_wp2_with fail
  go_ret
  exact ⟨rfl, HV3.out, HR3.out, HB3.out⟩


end Go.Proofs.YtdefhepagpgnaaaGreat
