/- Contracts of the laws own helpers on whole meshes. -/
import Derived.Test.YtdefhepagpgnaaaGreatProg
import Derived.Test.YtdefhepagpgnaaaGreatInts
import Derived.Test.YtdefhepagpgnaaaGreatVbox
import Derived.Test.YtdefhepagpgnaaaGreatVec
import Derived.Test.YtdefhepagpgnaaaGreatHeld
import Derived.Test.YtdefhepagpgnaaaGreatMem
import Derived.Test.YtdefhepagpgnaaaGreatRowC
import Derived.Test.YtdefhepagpgnaaaGreatIntS
import Derived.Test.YtdefhepagpgnaaaGreatVecS
import Derived.Test.YtdefhepagpgnaaaGreatSS
import Derived.Test.YtdefhepagpgnaaaGreatMkA
import Derived.Test.YtdefhepagpgnaaaGreatMkB
import Derived.Test.YtdefhepagpgnaaaGreatMkC
import Derived.WalkKit
import Derived.WalkSpells
import Derived.WalkLawsBesides
import Derived.Lib.Hide
import Derived.Deep.RegionHeld3
import Derived.Deep.QuietTactic
import Derived.BigQuiet
import Derived.Handy
import Derived.Deep.DeepCutAuto
import Derived.OwnWalk
namespace Go.Proofs.YtdefhepagpgnaaaGreat
open Go.RowKit


theorem rcAlloc {n : Nat} {α : Type} {g : α → List Value} {W : World} {A : Option Addr} {xs : List α} (h : RowC n g W W.heap.size A xs) (o : Obj) : RowC n g (W.alloc o) (W.alloc o).heap.size A xs := (h.alloc (Nat.le_refl _) o).more (by simp)
theorem ssAlloc {W : World} {A : Option Addr} {xss : List (List Int)} (h : RowSS W W.heap.size A xss) (o : Obj) : RowSS (W.alloc o) (W.alloc o).heap.size A xss := (h.alloc (Nat.le_refl _) o).more (by simp)
/-- a mesh as a value: two slices -/
abbrev mv (A1 A2 : Option Addr) (n1 c1 n2 c2 : Nat) : Value := .agg #[.slice A1 n1 c1, .slice A2 n2 c2]
/-- a mesh that a call may read -/
def MeshIn (w : World) (A1 A2 : Option Addr) (vs : List V3) (fs : List (List Int)) : Prop := RowC 3 vg w w.heap.size A1 vs ∧ RowSS w w.heap.size A2 fs
theorem MeshIn.later {w w' : World} {A1 A2 : Option Addr} {vs : List V3} {fs : List (List Int)} (h : MeshIn w A1 A2 vs fs) (hb : Below w.heap.size w w') : MeshIn w' A1 A2 vs fs := ⟨h.1.later hb, h.2.later hb⟩
theorem MeshIn.alloc {w : World} {A1 A2 : Option Addr} {vs : List V3} {fs : List (List Int)} (h : MeshIn w A1 A2 vs fs) (o : Obj) : MeshIn (w.alloc o) A1 A2 vs fs := ⟨rcAlloc h.1 o, ssAlloc h.2 o⟩
theorem MeshIn.drew {w : World} {A1 A2 : Option Addr} {vs : List V3} {fs : List (List Int)} (h : MeshIn w A1 A2 vs fs) : MeshIn w.drew A1 A2 vs fs := h
/-- how much a law lets in -/
def MeshFits (vs : List V3) (fs : List (List Int)) : Prop := vs.length ≤ 1048576 ∧ fs.length ≤ 1048576 ∧ sumL fs ≤ 1048576
theorem MeshFits.each {vs : List V3} {fs : List (List Int)} (h : MeshFits vs fs) : ∀ xs ∈ fs, xs.length ≤ 1048576 := fun xs hx => Nat.le_trans (len_le_sum fs xs hx) h.2.2
/-- a mesh that a call has made -/
def MeshOwn (w : World) (lo g1 g2 : Nat) (vs : List V3) (ps : Lot) : Prop := lo ≤ g1 ∧ g1 < g2 ∧ g2 < w.heap.size ∧ Mbox w g1 (vs.flatMap vg) ∧ Grid2 w lo g2 ps
theorem MeshOwn.read {w : World} {lo g1 g2 : Nat} {vs : List V3} {ps : Lot} (h : MeshOwn w lo g1 g2 vs ps) (hf : MeshFits vs (ps.map Prod.snd)) : MeshIn w (some ⟨g1, 0, none⟩) (some ⟨g2, 0, none⟩) vs (ps.map Prod.snd) :=
  ⟨h.2.2.2.1.rowC vg_len (by have := h.2.1; have := h.2.2.1; omega), h.2.2.2.2.rowSS (fun p hp => by have := hf.each p.2 (List.mem_map.2 ⟨p, hp, rfl⟩); unfold maxLen; omega)⟩
theorem own_turn {S : Nat → Prop} {w w' : World} {base m n : Nat} {e : TypeId} {v : Value} {xs : List Value} (h : w.ownsRow base e m v n xs) (ht : Turn S w w') (hS : ∀ k, S k → k < base) : w'.ownsRow base e m v n xs := by
  refine ⟨h.1, ?_⟩
  rcases h.2 with h0 | ⟨g, cap, cur, h1, h2, h3, h4⟩
  · exact .inl h0
  · exact .inr ⟨g, cap, cur, h1, h2, (ht.block (Array.getElem?_eq_some_iff.1 h3).1 (fun c => by have := hS g c; omega)).trans h3, h4⟩
theorem Held.under {w W W' : World} {bs : List (Nat × List Value)} {B : Nat} (h : Held w W bs) (hb : Below B W W') (hB : w.heap.size ≤ B) (hn : ∀ p ∈ bs, p.1 < B) : Held w W' bs :=
  ⟨h.1.trans (hb.mono hB), fun i k vs e => (h.2 i k vs e).keep fun _ => hb.block k (hn (k, vs) (List.mem_of_getElem? e))⟩
theorem Held.turn {S : Nat → Prop} {w W W' : World} {bs : List (Nat × List Value)} (h : Held w W bs) (ht : Turn S W W') (hS : ∀ k, S k → w.heap.size ≤ k) (hn : ∀ p ∈ bs, ¬ S p.1) : Held w W' bs :=
  ⟨h.1.trans (ht.below h.1.size hS), fun i k vs e => (h.2 i k vs e).turn ht (hn (k, vs) (List.mem_of_getElem? e))⟩
theorem MeshOwn.under {w : World} {lo g1 g2 : Nat} {vs : List V3} {ps : Lot} (h : MeshOwn w lo g1 g2 vs ps) : g1 < w.heap.size ∧ ∀ p ∈ ps, p.1 < w.heap.size := ⟨Nat.lt_trans h.2.1 h.2.2.1, fun p hp => (h.2.2.2.2.2.2.1.2 p hp).2⟩
theorem MeshOwn.turn {S : Nat → Prop} {w w' : World} {lo g1 g2 : Nat} {vs : List V3} {ps : Lot} (h : MeshOwn w lo g1 g2 vs ps) (ht : Turn S w w') (hn : ∀ k, lo ≤ k → k < w.heap.size → ¬ S k) : MeshOwn w' lo g1 g2 vs ps :=
  ⟨h.1, h.2.1, Nat.lt_of_lt_of_le h.2.2.1 ht.size, h.2.2.2.1.turn ht (hn _ h.1 (by have := h.2.1; have := h.2.2.1; omega)),
    h.2.2.2.2.turn h.2.2.1 ht (hn _ (by have := h.1; have := h.2.1; omega) h.2.2.1) (fun p hp => hn _ (by have := h.1; have := h.2.1; have := h.2.2.2.2.2.2.2 p hp; omega) (h.2.2.2.2.2.2.1.2 p hp).2)⟩
theorem MeshOwn.turn' {S : Nat → Prop} {w w' : World} {lo g1 g2 : Nat} {vs : List V3} {ps : Lot} (h : MeshOwn w lo g1 g2 vs ps) (ht : Turn S w w') (hn : ∀ k, g1 ≤ k → ¬ S k) : MeshOwn w' lo g1 g2 vs ps :=
  ⟨h.1, h.2.1, Nat.lt_of_lt_of_le h.2.2.1 ht.size, h.2.2.2.1.turn ht (hn _ (Nat.le_refl _)),
    h.2.2.2.2.turn h.2.2.1 ht (hn _ (by have := h.2.1; omega)) (fun p hp => hn _ (by have := h.2.1; have := h.2.2.2.2.2.2.2 p hp; omega))⟩
theorem MeshOwn.later {w w' : World} {lo g1 g2 : Nat} {vs : List V3} {ps : Lot} (h : MeshOwn w lo g1 g2 vs ps) (hb : Below w.heap.size w w') : MeshOwn w' lo g1 g2 vs ps := h.turn (Turn.of_below hb) (fun k _ hk => by omega)
set_option maxHeartbeats 2000000 in
theorem szMesh_any (A1 A2 : Option Addr) (c1 c2 : Nat) (vs : List V3) (fs : List (List Int)) (m : Int) (w : World) (hR : RowSS w w.heap.size A2 fs) (h0 : 0 ≤ m) (hm : m ≤ 4611686018427387904) (hv : vs.length ≤ maxLen) (hn : fs.length ≤ maxLen) (hs : ∀ xs ∈ fs, xs.length ≤ maxLen) :
    Calls Tryz.prog 5 #[mv A1 A2 vs.length c1 fs.length c2, .int .i64 m] w fun e w' => e = .returned (.int .i64 (if (vs.length + (fs.length + sumL fs) : Nat) ≤ m then m - (vs.length + (fs.length + sumL fs) : Nat) else -1)) ∧ Below w.heap.size w w' := by
  obtain ⟨R, hRR⟩ : ∃ R : Int, R = if (vs.length + (fs.length + sumL fs) : Nat) ≤ m then m - (vs.length + (fs.length + sumL fs) : Nat) else -1 := ⟨_, rfl⟩
  rw [← hRR]
  have HRR := Lib.hid hRR
  have HR := Lib.hid hR
  have HL := Lib.hid hs
  clear hRR hR hs
  by_cases hf : (vs.length : Int) ≤ m
  · go_enter Tryz.func5, Tryz.ntmps5
    go_wp2_with fail
    refine (szVecS_yes _ _ _ _ _ hf hm).mono ?_
    rintro e w1 ⟨rfl, rfl⟩
    have hd : ¬ (m - (vs.length : Int) < 0) := by omega
    go_wp2_with fail
    refine (szIntSS_any _ _ fs _ _ (ssAlloc HR.out _) (by omega) (by omega) hn HL.out).mono ?_
    rintro e w2 ⟨rfl, rfl⟩
    by_cases h2 : ((vs.length + (fs.length + sumL fs) : Nat) : Int) ≤ m
    · have h3 : ((fs.length + sumL fs : Nat) : Int) ≤ m - (vs.length : Int) := by omega
      rw [if_pos h3]
      obtain ⟨q, hq⟩ : ∃ q : Int, q = m - (vs.length : Int) - ((fs.length + sumL fs : Nat) : Int) := ⟨_, rfl⟩
      rw [← hq]
      have hd2 : ¬ (q < 0) := by omega
      have HQ : Hid (q = R) := Lib.hid (by rw [HRR.out, if_pos h2, hq]; omega)
      clear hq h3 h2 hf hd
      go_wp2_with fail
      go_ret
      exact ⟨ret_int HQ.out, by go_grown⟩
    · have h3 : ¬ (((fs.length + sumL fs : Nat) : Int) ≤ m - (vs.length : Int)) := by omega
      rw [if_neg h3]
      have HQ : Hid ((-1 : Int) = R) := Lib.hid (by rw [HRR.out, if_neg h2])
      clear h3 h2 hf hd
      go_wp2_with fail
      go_ret
      exact ⟨ret_int HQ.out, by go_grown⟩
  · have hf' : m < (vs.length : Int) := by omega
    have HQ : Hid ((-1 : Int) = R) := Lib.hid (by rw [HRR.out, if_neg (by omega)])
    clear hf
    go_enter Tryz.func5, Tryz.ntmps5
    go_wp2_with fail
    refine (szVecS_no _ _ _ _ _ hf' h0 hv).mono ?_
    rintro e w1 ⟨rfl, rfl⟩
    clear hf'
    go_wp2_with fail
    go_ret
    exact ⟨ret_int HQ.out, by go_grown⟩

set_option maxHeartbeats 2000000 in
theorem eqMesh_same (A1 A2 B1 B2 : Option Addr) (c1 c2 d1 d2 : Nat) (vs : List V3) (fs : List (List Int)) (w : World) (hR : MeshIn w A1 A2 vs fs) (hR' : MeshIn w B1 B2 vs fs) (hf : MeshFits vs fs) :
    Calls Tryz.prog 9 #[mv A1 A2 vs.length c1 fs.length c2, mv B1 B2 vs.length d1 fs.length d2] w fun e w' => e = .returned (.bool true) ∧ Below w.heap.size w w' := by
  have HR := Lib.hid ((hR.alloc (.cells #[.slice A1 vs.length c1, .slice A2 fs.length c2] 29)).alloc (.cells #[.slice B1 vs.length d1, .slice B2 fs.length d2] 29))
  have HR' := Lib.hid ((hR'.alloc (.cells #[.slice A1 vs.length c1, .slice A2 fs.length c2] 29)).alloc (.cells #[.slice B1 vs.length d1, .slice B2 fs.length d2] 29))
  have HT : Held w ((w.alloc (.cells #[.slice A1 vs.length c1, .slice A2 fs.length c2] 29)).alloc (.cells #[.slice B1 vs.length d1, .slice B2 fs.length d2] 29)) [(w.heap.size + 1, [.slice B1 vs.length d1, .slice B2 fs.length d2]), (w.heap.size, [.slice A1 vs.length c1, .slice A2 fs.length c2])] := by
    have h := ((Held.nil w).new #[.slice A1 vs.length c1, .slice A2 fs.length c2] 29).new #[.slice B1 vs.length d1, .slice B2 fs.length d2] 29
    simpa only [World.size_alloc] using h
  have HF := Lib.hid hf
  clear hR hR' hf
  go_enter Tryz.func9, Tryz.ntmps9
  go_wp2_with fail
  refine (eqVecS_same _ _ _ _ vs _ HR.out.1 HR'.out.1 (by have := HF.out.1; omega)).mono ?_
  rintro e w1 ⟨rfl, hb1⟩
  have HR := Lib.hid (HR.out.later hb1)
  have HR' := Lib.hid (HR'.out.later hb1)
  have HT := HT.later hb1
  clear hb1
  have c0 := (HT.box 0).c 1
  have c1 := (HT.box 1).c 1
  go_wp2_with fail
  refine (eqIntSS_same _ _ _ _ fs _ HR.out.2 HR'.out.2 (by have := HF.out.2.1; omega) (fun xs hx => by have := HF.out.each xs hx; omega)).mono ?_
  rintro e w2 ⟨rfl, hb2⟩
  have HT := HT.later hb2
  clear hb2 c0 c1
  go_wp2_with fail
  go_ret
  exact ⟨rfl, HT.below⟩

set_option maxHeartbeats 2000000 in
theorem markMesh_any (lo hi g1 g2 c1 c2 : Nat) (vs : List V3) (ps : Lot) (w : World) (hM : MeshOwn w lo g1 g2 vs ps) (hhi : g1 < hi ∧ ∀ p ∈ ps, p.1 < hi) (hf : MeshFits vs (ps.map Prod.snd)) :
    Calls Tryz.prog 10 #[mv (some ⟨g1, 0, none⟩) (some ⟨g2, 0, none⟩) vs.length c1 ps.length c2, .int .i64 1] w fun e w' => e = .returned (.int .i64 ((1 + 3 * vs.length + sumL (ps.map Prod.snd) : Nat) : Int)) ∧ Turn (fun k => lo ≤ k ∧ k < hi) w w' := by
  obtain ⟨hlo, h12, h2s, hb1, hlo2, hrow, hlots, hgt⟩ := hM
  have HLO := Lib.hid hlots
  have HRO := Lib.hid hrow
  have HGT := Lib.hid hgt
  have HF := Lib.hid hf
  have HB1 := Lib.hid (hb1.alloc (.cells #[.slice (some ⟨g1, 0, none⟩) vs.length c1, .slice (some ⟨g2, 0, none⟩) ps.length c2] 29))
  have HN := Lib.hid (Mbox.new w #[.slice (some ⟨g1, 0, none⟩) vs.length c1, .slice (some ⟨g2, 0, none⟩) ps.length c2] 29)
  have HT0 : Hid (Turn (fun k => lo ≤ k ∧ k < hi) w (w.alloc (.cells #[.slice (some ⟨g1, 0, none⟩) vs.length c1, .slice (some ⟨g2, 0, none⟩) ps.length c2] 29))) := Lib.hid (Turn.of_later (by go_grown))
  clear hb1 hrow hlots hgt hf
  go_enter Tryz.func10, Tryz.ntmps10
  go_wp2_with fail
  refine (markVecM g1 c1 1 vs.length (vs.flatMap vg) (by rw [flat_len vg_len]) _ HB1.out (by have := HF.out.1; omega)).mono ?_
  rintro e w2 ⟨rfl, hg2⟩
  have hsz : w.heap.size < w2.heap.size := Nat.lt_of_lt_of_le (by simp) hg2.size
  have hn2 : Mbox w2 w.heap.size [.slice (some ⟨g1, 0, none⟩) vs.length c1, .slice (some ⟨g2, 0, none⟩) ps.length c2] := HN.out.keep fun hl => hg2.block _ hl (fun e => by injection e; omega)
  have HT2 : Hid (Turn (fun k => lo ≤ k ∧ k < hi) w w2) := Lib.hid (HT0.out.trans ((Turn.of_grown hg2).mono fun k e => by rw [e]; exact ⟨hlo, hhi.1⟩))
  have hT1 : Turn (fun k => k = g1) w w2 := (Turn.of_later (S := fun k => k = g1) (show Below w.heap.size w (w.alloc (.cells #[.slice (some ⟨g1, 0, none⟩) vs.length c1, .slice (some ⟨g2, 0, none⟩) ps.length c2] 29)) by go_grown)).trans (Turn.of_grown hg2)
  have HL2 := Lib.hid (HLO.out.turn hT1 (fun p hp e => by have := HGT.out p hp; omega))
  have HR2 := Lib.hid ((HRO.out.keepAt (hT1.block h2s (by omega))).more (Nat.le_of_lt hsz))
  have hc1 := hn2.c 1
  clear hg2 hn2 HLO HRO HB1 HN HT0 hT1
  go_wp2_with fail
  refine (markIntSS_any g2 c2 (1 + 3 * vs.length) ps w2 HR2.out HL2.out (fun p hp => by have := HGT.out p hp; omega) (by have h1 := HF.out.1; have h2 := HF.out.2.2; omega) (by have := HF.out.2.1; simp at this; omega)).mono ?_
  rintro e w3 ⟨rfl, _, _, ht3⟩
  have HT3 : Hid (Turn (fun k => lo ≤ k ∧ k < hi) w w3) := Lib.hid (HT2.out.trans (ht3.mono fun k hk => by
    obtain ⟨p, hp, rfl⟩ := List.mem_map.1 hk
    have h1 := HGT.out p hp
    exact ⟨by omega, hhi.2 p hp⟩))
  clear ht3 HT2 HL2 HR2 hc1
  go_wp2_with fail
  go_ret
  exact ⟨rfl, HT3.out⟩

set_option maxHeartbeats 4000000 in
theorem toMesh_any (A1 A2 : Option Addr) (c1 c2 : Nat) (vs : List V3) (fs : List (List Int)) (w : World) (hR : MeshIn w A1 A2 vs fs) (hf : MeshFits vs fs) :
    Calls Tryz.prog 7 #[mv A1 A2 vs.length c1 fs.length c2] w fun e w' => ∃ g1 g2 ps, e = .returned (mv (some ⟨g1, 0, none⟩) (some ⟨g2, 0, none⟩) vs.length vs.length fs.length fs.length) ∧ Below w.heap.size w w' ∧ ps.map Prod.snd = fs ∧ MeshOwn w' w.heap.size g1 g2 vs ps := by
  have HT : Held w (((w.alloc (.cells #[.slice A1 vs.length c1, .slice A2 fs.length c2] 25)).alloc (.cells #[nilS, nilS] 29)).alloc (.cells #[nilS, nilS] 29)) [(w.heap.size + 2, [nilS, nilS]), (w.heap.size + 1, [nilS, nilS]), (w.heap.size, [.slice A1 vs.length c1, .slice A2 fs.length c2])] := by
    have h := (((Held.nil w).new #[.slice A1 vs.length c1, .slice A2 fs.length c2] 25).new #[nilS, nilS] 29).new #[nilS, nilS] 29
    simpa only [World.size_alloc] using h
  have HR := Lib.hid (((hR.alloc (.cells #[.slice A1 vs.length c1, .slice A2 fs.length c2] 25)).alloc (.cells #[nilS, nilS] 29)).alloc (.cells #[nilS, nilS] 29))
  have HF := Lib.hid hf
  have HRB : ∀ W, Below w.heap.size w W → RowSS W W.heap.size A2 fs := fun W h => (hR.2.below h).more h.size
  clear hR hf
  go_enter Tryz.func7, Tryz.ntmps7
  go_wp2_with fail
  refine (toVecS_own _ _ vs _ HR.out.1 (by have := HF.out.1; omega)).mono ?_
  rintro e w1 ⟨rfl, hb1, hm1, hg1⟩
  simp only [World.size_alloc] at hm1 hg1
  have HT := HT.later hb1
  have HR := Lib.hid (HR.out.later hb1)
  clear hb1
  have a0 := (HT.box 0).c 0
  have a1 := (HT.box 0).c 1
  have af0 := (HT.box 0).f 0
  have b1 := (HT.box 2).c 1
  have HM := Lib.hid hm1
  have HG := Lib.hid hg1
  have hP := HT.put (by omega) (by simp) 0 (.slice (some ⟨w.heap.size + 1 + 1 + 1, 0, none⟩) vs.length vs.length)
  have hR2 : RowSS (w1.setCell ⟨w.heap.size + 2, 0, none⟩ (.slice (some ⟨w.heap.size + 1 + 1 + 1, 0, none⟩) vs.length vs.length)) (w1.setCell ⟨w.heap.size + 2, 0, none⟩ (.slice (some ⟨w.heap.size + 1 + 1 + 1, 0, none⟩) vs.length vs.length)).heap.size A2 fs := HRB _ hP.below
  have hM2 : Mbox (w1.setCell ⟨w.heap.size + 2, 0, none⟩ (.slice (some ⟨w.heap.size + 1 + 1 + 1, 0, none⟩) vs.length vs.length)) (w.heap.size + 1 + 1 + 1) (vs.flatMap vg) := hm1.far (by omega) _
  have HP := Lib.hid hP
  have HR2 := Lib.hid hR2
  have HM2 := Lib.hid hM2
  clear hm1 hg1 HT hP hR2 hM2 HM HR
  go_wp2_with fail
  refine (toIntSS_own _ _ fs _ HR2.out (by have := HF.out.2.1; omega) (fun xs hx => by have := HF.out.each xs hx; omega)).mono ?_
  rintro e w2 ⟨rfl, hb2, ps, hsnd, hgrid, hg2⟩
  have HT := HP.out.later hb2
  have HM3 := Lib.hid (HM2.out.later hb2)
  have hs2 := hb2.size
  simp only [World.size_setCell] at hgrid hg2 hs2
  have a0 := (HT.box 0).c 0
  have a1 := (HT.box 0).c 1
  have af1 := (HT.box 0).f 1
  have d0 := (HT.box 1).c 0
  have d1 := (HT.box 1).c 1
  have df0 := (HT.box 1).f 0
  have df1 := (HT.box 1).f 1
  have HGR := Lib.hid hgrid
  have HSN := Lib.hid hsnd
  have HTT := Lib.hid HT
  clear hb2 hgrid hsnd HT HP HR2 HM2
  go_wp2_with fail
  have hO : MeshOwn w2 w.heap.size (w.heap.size + 1 + 1 + 1) w1.heap.size vs ps := ⟨by omega, HG.out, hg2, HM3.out, by have := HGR.out.1; have := HG.out; omega, HGR.out.2⟩
  have hT := ((Turn.refl (fun k => k = w.heap.size + 1 ∨ k = w.heap.size + 1 + 1) w2).setCell (i := 1) (Or.inr rfl) (.slice (some ⟨w1.heap.size, 0, none⟩) fs.length fs.length))
  have hT := (hT.setCell (g := w.heap.size + 1) (i := 0) (Or.inl rfl) (.slice (some ⟨w.heap.size + 1 + 1 + 1, 0, none⟩) vs.length vs.length)).setCell (g := w.heap.size + 1) (i := 1) (Or.inl rfl) (.slice (some ⟨w1.heap.size, 0, none⟩) fs.length fs.length)
  have hO := hO.turn' hT (fun k hk e => by omega)
  have hB := HTT.out.below.trans (hT.below (B := w.heap.size) (by have := HG.out; omega) (fun k e => by omega))
  exact bodyPost_ret (v := mv (some ⟨w.heap.size + 1 + 1 + 1, 0, none⟩) (some ⟨w1.heap.size, 0, none⟩) vs.length vs.length fs.length fs.length) (by simp [results, Tryz.results7, go_sem, d0, d1]) rfl ⟨_, _, ps, rfl, hB, HSN.out, hO⟩

theorem toMesh_rd (A1 A2 : Option Addr) (c1 c2 : Nat) (vs : List V3) (fs : List (List Int)) (w : World) (hR : MeshIn w A1 A2 vs fs) (hf : MeshFits vs fs) :
    Calls Tryz.prog 7 #[mv A1 A2 vs.length c1 fs.length c2] w fun e w' => ∃ B1 B2, e = .returned (mv B1 B2 vs.length vs.length fs.length fs.length) ∧ Below w.heap.size w w' ∧ MeshIn w' B1 B2 vs fs :=
  (toMesh_any A1 A2 c1 c2 vs fs w hR hf).mono fun _ _ ⟨g1, g2, ps, he, hb, hs, ho⟩ => ⟨_, _, he, hb, by subst hs; exact ho.read hf⟩

end Go.Proofs.YtdefhepagpgnaaaGreat
