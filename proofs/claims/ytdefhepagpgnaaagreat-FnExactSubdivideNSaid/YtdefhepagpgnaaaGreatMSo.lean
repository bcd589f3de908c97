/- The order of edges; slices.Compare at two pairs, slices.SortFunc at a slice of pairs. -/
import Derived.Test.YtdefhepagpgnaaaGreatProg
import Derived.Test.YtdefhepagpgnaaaGreatInts
import Derived.Test.YtdefhepagpgnaaaGreatVbox
import Derived.Test.YtdefhepagpgnaaaGreatVec
import Derived.Test.YtdefhepagpgnaaaGreatHeld
import Derived.Test.YtdefhepagpgnaaaGreatMem
import Derived.Test.YtdefhepagpgnaaaGreatRowC
import Derived.Test.YtdefhepagpgnaaaGreatIntS
import Derived.Test.YtdefhepagpgnaaaGreatVecS
import Derived.Test.YtdefhepagpgnaaaGreatSS
import Derived.Test.YtdefhepagpgnaaaGreatMkA
import Derived.Test.YtdefhepagpgnaaaGreatMkB
import Derived.Test.YtdefhepagpgnaaaGreatMkC
import Derived.Test.YtdefhepagpgnaaaGreatMkD
import Derived.Test.YtdefhepagpgnaaaGreatMF
import Derived.Test.YtdefhepagpgnaaaGreatMG
import Derived.Test.YtdefhepagpgnaaaGreatMH
import Derived.Test.YtdefhepagpgnaaaGreatShelf
import Derived.WalkKit
import Derived.WalkSpells
import Derived.WalkLawsBesides
import Derived.Lib.Hide
import Derived.Deep.RegionHeld3
import Derived.Deep.QuietTactic
import Derived.BigQuiet
import Derived.Handy
import Derived.Deep.DeepCutAuto
import Derived.OwnWalk
import Derived.Lib.OwnBridge
import Derived.Shelf.SlSortCmp.NoneTotal
namespace Go.Proofs.YtdefhepagpgnaaaGreat
open Go.RowKit Go.Sort


def cmpI (x y : Int) : Int := if x < y then -1 else if y < x then 1 else 0
def cmpE (a b : E2) : Int := if cmpI a.1 b.1 = 0 then cmpI a.2 b.2 else cmpI a.1 b.1
/-- an edge comes ahead of another -/
def ltE (a b : E2) : Bool := decide (a.1 < b.1 ∨ a.1 = b.1 ∧ a.2 < b.2)
theorem cmpE_lt (a b : E2) : decide (cmpE a b < 0) = ltE a b := by
  unfold cmpE cmpI ltE
  rw [decide_eq_decide]
  split <;> split <;> (try split) <;> (try split) <;> omega
theorem ltE_irrefl (a : E2) : ltE a a = false := by simp [ltE]
theorem ltE_trans {a b c : E2} (h1 : ltE a b = true) (h2 : ltE b c = true) : ltE a c = true := by simp only [ltE, decide_eq_true_eq] at *; omega
theorem ltE_ntrans {a b c : E2} (h1 : ltE a b = false) (h2 : ltE b c = false) : ltE a c = false := by simp only [ltE, decide_eq_false_iff_not] at *; omega
theorem ltE_total {a b : E2} (h1 : ltE a b = false) (h2 : ltE b a = false) : a = b := by
  simp only [ltE, decide_eq_false_iff_not] at *
  exact Prod.ext (by omega) (by omega)
theorem ltE_asymm {a b : E2} (h1 : ltE a b = true) : ltE b a = false := by
  cases h : ltE b a
  · rfl
  · have := ltE_trans h1 h; rw [ltE_irrefl] at this; cases this
/-- a list of edges that rises -/
abbrev UpE (l : List E2) : Prop := l.Pairwise fun a b => ltE a b = true
theorem upE_eq : ∀ {l m : List E2}, UpE l → UpE m → (∀ e, e ∈ l ↔ e ∈ m) → l = m
  | [], [], _, _, _ => rfl
  | [], b :: m, _, _, h => absurd ((h b).2 List.mem_cons_self) (by simp)
  | a :: l, [], _, _, h => absurd ((h a).1 List.mem_cons_self) (by simp)
  | a :: l, b :: m, h1, h2, h => by
    have h1' := List.pairwise_cons.1 h1
    have h2' := List.pairwise_cons.1 h2
    have e : a = b := by
      rcases List.mem_cons.1 ((h a).1 List.mem_cons_self) with q | q
      · exact q
      · rcases List.mem_cons.1 ((h b).2 List.mem_cons_self) with r | r
        · exact r.symm
        · have x1 := h2'.1 a q
          rw [ltE_asymm (h1'.1 b r)] at x1
          cases x1
    subst e
    rw [upE_eq h1'.2 h2'.2 fun x => ⟨fun hx => by
      rcases List.mem_cons.1 ((h x).1 (List.mem_cons_of_mem _ hx)) with q | q
      · have := h1'.1 x hx; rw [q, ltE_irrefl] at this; cases this
      · exact q, fun hx => by
      rcases List.mem_cons.1 ((h x).2 (List.mem_cons_of_mem _ hx)) with q | q
      · have := h2'.1 x hx; rw [q, ltE_irrefl] at this; cases this
      · exact q⟩]
theorem upE_nodup {l : List E2} (h : UpE l) : l.Nodup := h.imp fun hab e => by rw [e, ltE_irrefl] at hab; cases hab
theorem inj_of_nodup {α β : Type} {f : α → β} : ∀ {l : List α}, (l.map f).Nodup → ∀ {x y : α}, x ∈ l → y ∈ l → f x = f y → x = y
  | [], _, x, y, hx, _, _ => by cases hx
  | a :: l, h, x, y, hx, hy, e => by
    rw [List.map_cons, List.nodup_cons] at h
    rcases List.mem_cons.1 hx with rfl | hx'
    · rcases List.mem_cons.1 hy with rfl | hy'
      · rfl
      · exact absurd (List.mem_map.2 ⟨y, hy', e.symm⟩) h.1
    · rcases List.mem_cons.1 hy with rfl | hy'
      · exact absurd (List.mem_map.2 ⟨x, hx', e⟩) h.1
      · exact inj_of_nodup h.2 hx' hy' e
/-- the edge that a pair holds -/
def edOf (p : Nat × List Int) : E2 := (p.2.getD 0 0, p.2.getD 1 0)
theorem edOf_pr (g : Nat) (e : E2) : edOf (g, pr e) = e := rfl
set_option maxHeartbeats 1000000 in
theorem compare_any (x y : Int) (w : World) : Calls Tryz.prog 90 #[.int .i64 x, .int .i64 y] w fun e w' => e = .returned (.int .i64 (cmpI x y)) ∧ w = w' := by
  by_cases h1 : x < y
  · have HE : Hid (cmpI x y = -1) := Lib.hid (by simp [cmpI, h1])
    go_enter Tryz.func90, Tryz.ntmps90
    go_wp2
    go_ret
    exact ⟨ret_int HE.out.symm, rfl⟩
  · by_cases h2 : y < x
    · have HE : Hid (cmpI x y = 1) := Lib.hid (by simp [cmpI, h1, h2])
      go_enter Tryz.func90, Tryz.ntmps90
      go_wp2
      go_ret
      exact ⟨ret_int HE.out.symm, rfl⟩
    · have HE : Hid (cmpI x y = 0) := Lib.hid (by simp [cmpI, h1, h2])
      go_enter Tryz.func90, Tryz.ntmps90
      go_wp2
      go_ret
      exact ⟨ret_int HE.out.symm, rfl⟩

set_option maxHeartbeats 2000000 in
theorem comparePair (g1 g2 : Nat) (a b : E2) (w : World) (h1 : Mbox w g1 ((pr a).map I64)) (h2 : Mbox w g2 ((pr b).map I64)) :
    Calls Tryz.prog 81 #[.slice (some ⟨g1, 0, none⟩) 2 2, .slice (some ⟨g2, 0, none⟩) 2 2] w fun e w' => e = .returned (.int .i64 (cmpE a b)) ∧ w = w' := by
  obtain ⟨x, y⟩ := a
  obtain ⟨p, q⟩ := b
  have a0 : w.cell? ⟨g1, 0, none⟩ = some (.int .i64 x) := h1.c 0
  have a1 : w.cell? ⟨g1, 1, none⟩ = some (.int .i64 y) := h1.c 1
  have b0 : w.cell? ⟨g2, 0, none⟩ = some (.int .i64 p) := h2.c 0
  have b1 : w.cell? ⟨g2, 1, none⟩ = some (.int .i64 q) := h2.c 1
  obtain ⟨r, hr⟩ : ∃ r, r = cmpE (x, y) (p, q) := ⟨_, rfl⟩
  obtain ⟨s, hs⟩ : ∃ s, s = cmpI x p := ⟨_, rfl⟩
  obtain ⟨t, ht⟩ : ∃ t, t = cmpI y q := ⟨_, rfl⟩
  have HR : Hid (r = if s = 0 then t else s) := Lib.hid (by rw [hr, hs, ht]; rfl)
  have C0 := compare_any x p w
  have C1 := compare_any y q w
  rw [← hs] at C0
  rw [← ht] at C1
  rw [← hr]
  clear h1 h2 hr hs ht
  go_enter Tryz.func81, Tryz.ntmps81
  go_wp2
  go_loop [11] (fun i => ∃ k : Int, (k = 0 ∨ k = 1 ∧ s = 0 ∨ k = 2 ∧ r = 0) ∧ i = .int .i64 k) (fun i => 2 - (intOf i).toNat)
  case atStart => exact ⟨0, Or.inl rfl, rfl⟩
  case round =>
    obtain ⟨k, hk, rfl⟩ := hrel
    rcases hk with rfl | ⟨rfl, hs⟩ | ⟨rfl, hz⟩
    · by_cases h : s = 0
      · subst h
        go_wp2_with fail
        refine C0.mono ?_
        rintro e w' ⟨rfl, rfl⟩
        go_wp2_with fail
        go_round
        case rel => exact ⟨1, Or.inr (Or.inl ⟨rfl, by first | rfl | trivial⟩), by go_num⟩
        case measure => simp [intOf]
      · have HE : Hid (r = s) := Lib.hid (by rw [HR.out, if_neg h])
        go_wp2_with fail
        refine C0.mono ?_
        rintro e w' ⟨rfl, rfl⟩
        go_wp2_with fail
        go_ret
        exact ⟨ret_int HE.out.symm, rfl⟩
    · have HE : Hid (r = t) := Lib.hid (by rw [HR.out, if_pos hs])
      clear hs
      by_cases h : t = 0
      · subst h
        go_wp2_with fail
        refine C1.mono ?_
        rintro e w' ⟨rfl, rfl⟩
        go_wp2_with fail
        go_round
        case rel => exact ⟨2, Or.inr (Or.inr ⟨rfl, HE.out⟩), by go_num⟩
        case measure => simp [intOf]
      · go_wp2_with fail
        refine C1.mono ?_
        rintro e w' ⟨rfl, rfl⟩
        go_wp2_with fail
        go_ret
        exact ⟨ret_int HE.out.symm, rfl⟩
    · have HZ := Lib.hid hz
      clear hz
      go_wp2_with fail
      go_ret
      exact ⟨ret_int HZ.out.symm, rfl⟩

/-- slices.SortFunc of a slice of pairs that a call has made -/
theorem sortPairs_any (base g cap : Nat) (ps : Lot) (w : World) (hpr : ∀ p ∈ ps, p.2 = pr (edOf p)) (hnd : (ps.map edOf).Nodup) (ho : w.ownsRow base 45 1 (.slice (some ⟨g, 0, none⟩) ps.length cap) ps.length (ps.map hdr)) (hl : LotT w ps) (h0 : 0 < ps.length) (hmax : ps.length ≤ 1048576) :
    Calls Tryz.prog 80 #[.slice (some ⟨g, 0, none⟩) ps.length cap, .func (.func 81) #[] #[]] w fun e w' => e = .returned (.tuple #[]) ∧
      ∃ qs : Lot, qs.Perm ps ∧ UpE (qs.map edOf) ∧ w'.ownsRow base 45 1 (.slice (some ⟨g, 0, none⟩) ps.length cap) ps.length (qs.map hdr) ∧ LotT w' qs ∧ w.grownBy w' (some g) := by
  haveI : Inhabited {p // p ∈ ps} := ⟨⟨ps[0], List.getElem_mem h0⟩⟩
  have eg : ∀ args w, (callFunc 81 args).run Tryz.prog w = .ok (.enter 81 args) w := enters_of Tryz.func81 (by kernel_rfl) rfl
  have hatt : ps.attach.map (fun x : {p // p ∈ ps} => hdr x.1) = ps.map hdr := by
    have := List.attach_map_subtype_val ps
    conv => rhs; rw [← this, List.map_map]
    rfl
  have hsz : ps.attach.toArray.size = ps.length := by simp
  have hlt := (ho.lt g rfl).2
  have hlt' : ∀ x : {p // p ∈ ps}, x.1.1 ≠ g := fun x e => by
    have := hl.ne ho x.1 x.2
    rw [e] at this
    exact this rfl
  have hcmp : CmpLays1 Tryz.prog 81 #[] (fun x : {p // p ∈ ps} => hdr x.1) (fun x y => cmpE (edOf x.1) (edOf y.1)) g 0 ps.attach.toArray.size w := fun m os dk hs x y => by
    have hb : ∀ z : {p // p ∈ ps}, Mbox (sortWorld (fun x : {p // p ∈ ps} => hdr x.1) w g 0 m dk os) z.1.1 ((pr (edOf z.1)).map I64) := fun z => by
      have h1 := (hl.1.2 z.1 z.2)
      rw [hpr z.1 z.2] at h1
      refine h1.1.keep fun _ => ?_
      unfold sortWorld
      rw [heap_grow_old _ _ (by simpa [Sort.ahead] using h1.2)]
      have hne : g ≠ z.1.1 := fun e => hlt' z e.symm
      simp [putRow, mapBlock, Sort.ahead, Array.getElem?_modify, hne]
    have h := comparePair x.1.1 y.1.1 (edOf x.1) (edOf y.1) _ (hb x) (hb y)
    have e : ∀ z : {p // p ∈ ps}, hdr z.1 = .slice (some ⟨z.1.1, 0, none⟩) 2 2 := fun z => by
      unfold hdr
      rw [hpr z.1 z.2]
      rfl
    have happ : (#[hdr x.1, hdr y.1] ++ #[] : Array Value) = #[.slice (some ⟨x.1.1, 0, none⟩) 2 2, .slice (some ⟨y.1.1, 0, none⟩) 2 2] := by rw [e x, e y]; simp
    change Calls Tryz.prog 81 (#[hdr x.1, hdr y.1] ++ #[]) _ _
    rw [happ]
    exact h.mono fun e w' ⟨he, hw⟩ => ⟨he, 0, #[], by rw [← hw, grow_empty]; rfl⟩
  have hO : SWO (ltOf fun x y : {p // p ∈ ps} => cmpE (edOf x.1) (edOf y.1)) :=
    ⟨fun x => by unfold ltOf; rw [cmpE_lt, ltE_irrefl], fun x y z h1 h2 => by unfold ltOf at *; rw [cmpE_lt] at *; exact ltE_trans h1 h2, fun x y z h1 h2 => by unfold ltOf at *; rw [cmpE_lt] at *; exact ltE_ntrans h1 h2⟩
  have hT : ∀ x y : {p // p ∈ ps}, ltOf (fun x y : {p // p ∈ ps} => cmpE (edOf x.1) (edOf y.1)) x y = false → ltOf (fun x y : {p // p ∈ ps} => cmpE (edOf x.1) (edOf y.1)) y x = false → x = y := fun x y h1 h2 => by
    unfold ltOf at *
    rw [cmpE_lt] at *
    exact Subtype.ext (inj_of_nodup hnd x.2 y.2 (ltE_total h1 h2))
  have hoA : w.ownsRow base 45 1 (.slice (some ⟨g, 0, none⟩) ps.length cap) ps.length (ps.attach.map (fun x : {p // p ∈ ps} => hdr x.1)) := by rw [hatt]; exact ho
  obtain ⟨g1, cap1, e1, _, _, _, _, _, hH⟩ := Lib.holds_of_ownsRow hoA (by simp)
  injection e1 with e1 _ e3
  injection e1 with e1
  injection e1 with e1
  subst e1
  have hS := Tryz.slices_SortFunc_total (fun x : {p // p ∈ ps} => hdr x.1) (fun _ => rfl) (fun x y => cmpE (edOf x.1) (edOf y.1)) hO 81 #[] g 0 cap ps.attach.toArray w eg hcmp hH hlt (by rw [hsz]; omega) hT
  rw [hsz] at hS
  refine hS.mono fun e w' ⟨he, n, os, hw⟩ => ⟨he, ?_⟩
  obtain ⟨zs, hzs⟩ : ∃ zs, zs = ps.attach.toArray.toList.mergeSort fun x y => !(ltOf fun x y : {p // p ∈ ps} => cmpE (edOf x.1) (edOf y.1)) y x := ⟨_, rfl⟩
  rw [← hzs] at hw
  have hperm : zs.Perm ps.attach := by rw [hzs]; simpa using List.mergeSort_perm ps.attach _
  have hpw : zs.Pairwise fun x y => (!(ltOf fun x y : {p // p ∈ ps} => cmpE (edOf x.1) (edOf y.1)) y x) = true := by
    rw [hzs]
    refine List.pairwise_mergeSort (fun a b c h1 h2 => ?_) (fun a b => ?_) _
    · simp only [Bool.not_eq_true'] at *
      exact hO.ntrans _ _ _ h2 h1
    · cases h : ltOf (fun x y : {p // p ∈ ps} => cmpE (edOf x.1) (edOf y.1)) b a
      · rfl
      · simp only [Bool.not_true, Bool.false_or, Bool.not_eq_true']
        unfold ltOf at *
        rw [cmpE_lt] at *
        exact ltE_asymm h
  have hq : (zs.map (·.1)).Perm ps := by
    have := hperm.map (fun x : {p // p ∈ ps} => x.1)
    rwa [List.attach_map_subtype_val] at this
  have hgr : w.grownBy w' (some g) := by
    rw [hw]
    refine ⟨rfl, rfl, rfl, by simp [sortWorld, Sort.ahead], fun k hk hne => ?_⟩
    unfold sortWorld
    rw [heap_grow_old _ _ (by simpa [Sort.ahead] using hk)]
    have : g ≠ k := fun e => hne (by rw [e])
    simp [putRow, mapBlock, Sort.ahead, Array.getElem?_modify, this]
  refine ⟨zs.map (·.1), hq, ?_, ?_, ?_, hgr⟩
  · have hnd2 : ((zs.map (·.1)).map edOf).Nodup := (hq.map edOf).nodup_iff.2 hnd
    rw [List.map_map] at hnd2 ⊢
    refine List.pairwise_map.2 ?_
    have hnd3 := List.pairwise_map.1 hnd2
    refine hpw.imp₂ (fun x y h1 h2 => ?_) hnd3
    unfold ltOf at h1
    rw [cmpE_lt] at h1
    cases h : ltE (edOf x.1) (edOf y.1)
    · exact absurd (ltE_total h (by simpa using h1)) h2
    · exact h
  · have h := Lib.ownsRow_putRow (q := n) (k := ps.length) hoA (ys := zs) (by rw [hperm.length_eq]; simp) (Nat.le_refl _)
    rw [List.take_of_length_le (by rw [hperm.length_eq]; simp)] at h
    rw [List.map_map]
    rw [hw]
    refine h.kept (row := none) ⟨rfl, rfl, rfl, by simp [sortWorld], fun k hk _ => ?_⟩ (.inr (by simp [Value.ownBlock]))
    unfold sortWorld
    exact heap_grow_old _ _ hk
  · have h1 : LotT w' ps := hl.row ho hgr
    exact ⟨h1.1.perm hq, fun p hp => h1.2 p (hq.mem_iff.1 hp)⟩


end Go.Proofs.YtdefhepagpgnaaaGreat
