/- Contract of DiceRate, in the program. -/
import Derived.Test.YtmhcpjednogegaaProg
import Derived.Test.YtmhcpjednogegaaInts
import Derived.Test.YtmhcpjednogegaaVbox
import Derived.Test.YtmhcpjednogegaaVec
import Derived.Test.YtmhcpjednogegaaHeld
import Derived.Test.YtmhcpjednogegaaMem
import Derived.Test.YtmhcpjednogegaaFlat
import Derived.Test.YtmhcpjednogegaaRowC
import Derived.Test.YtmhcpjednogegaaArr
import Derived.Test.YtmhcpjednogegaaTr
import Derived.Test.YtmhcpjednogegaaPat
import Derived.Test.YtmhcpjednogegaaVecS
import Derived.Test.YtmhcpjednogegaaPut
import Derived.Test.YtmhcpjednogegaaSub
import Derived.Test.YtmhcpjednogegaaSplW
import Derived.Test.YtmhcpjednogegaaGrid
import Derived.Test.YtmhcpjednogegaaPEv
import Derived.Test.YtmhcpjednogegaaCam
import Derived.Test.YtmhcpjednogegaaCPrj
import Derived.Test.YtmhcpjednogegaaPVal
import Derived.Test.YtmhcpjednogegaaDv
import Derived.Test.YtmhcpjednogegaaDp
import Derived.Test.YtmhcpjednogegaaDg
import Derived.Test.YtmhcpjednogegaaDa
import Derived.Test.YtmhcpjednogegaaDt
import Derived.WalkKit
import Derived.WalkSpells
import Derived.WalkLawsBesides
import Derived.Lib.Hide
import Derived.Deep.RegionHeld3
import Derived.Deep.QuietTactic
import Derived.BigQuiet
import Derived.Handy
import Derived.Deep.DeepCutAuto
import Derived.Laws.RangeAny
import Derived.RangeFuncBox
import Derived.RangeFuncLeaves
import Derived.RangeFuncNested
import Derived.Shelf.Abstract
import Derived.OwnWalkIn
import Derived.TacticsInMore
import Derived.LoopNIn
import Derived.LoopIn
import Derived.Maps.AppendAt
import Derived.RangeFuncCalls
import Derived.WalkMore
import Derived.Sort.CutIn
namespace Go.Proofs.Ytmhcpjednogegaa
open Go.RowKit Go.Shelf
attribute [local go_sem] Oper.semAt_some
section
variable {B : Nat} {w W0 W W' : World} {bs : List (Nat × List Value)}
/-- an append onto a row of the loop's own -/
theorem RH.growU {e : TypeId} {size n Bq : Nat} {v : Value} {xs : List Value} (h : RH B w W0 W bs) (ho : W.ownsRow Bq e size v n xs) (hg : W.grownBy W' v.ownBlock) (hB : w.heap.size ≤ Bq) (hlt : ∀ p ∈ bs, p.1 < Bq) : RH B w W0 W' bs := by
  have hrow : ∀ k, v.ownBlock = some k → Bq ≤ k := own_block ho
  refine ⟨⟨below_own h.held.1 hg h.held.size (fun k e => Nat.le_trans hB (hrow k e)), fun i k vs e => (h.held.2 i k vs e).keep fun hk => hg.block k hk (fun e2 => ?_)⟩, h.keep.trans ((KeepsOthers.of_grownBy hg (fun j o hj hjo => ?_)).from B)⟩
  · have h1 := hlt _ (List.mem_of_getElem? e)
    have h2 := hrow k e2.symm
    simp only at h1
    omega
  · rcases ho.2 with ⟨rfl, _⟩ | ⟨b, cap, cur, rfl, _, hh, _⟩
    · cases hj
    · injection hj with hj
      subst hj
      rw [hh] at hjo
      cases hjo
      rfl
end

/-- the marks of loops that are done: their blocks for deferred calls, all empty -/
def markD (D : Nat) : Deferred := { target := .collected D, args := #[] }
def Marks (B : Nat) (Ds : List Nat) (W : World) : Prop := Ds.Nodup ∧ ∀ D ∈ Ds, B ≤ D ∧ W.heap[D]? = some (.deferred (some []))
theorem Marks.same {B : Nat} {Ds : List Nat} {W W' : World} (h : Marks B Ds W) (hk : ∀ D ∈ Ds, W.heap[D]? = some (.deferred (some [])) → W'.heap[D]? = some (.deferred (some []))) : Marks B Ds W' := ⟨h.1, fun D hD => ⟨(h.2 D hD).1, hk D hD (h.2 D hD).2⟩⟩
theorem Marks.keep {B : Nat} {Ds : List Nat} {W W' : World} (h : Marks B Ds W) (hk : KeepsFrom 0 W W') : Marks B Ds W' := h.same fun D _ e => hk.same D _ (Nat.zero_le _) e rfl
theorem Marks.turned {B X : Nat} {Ds : List Nat} {W W' : World} {row : Option Nat} (h : Marks B Ds W) (hX : ∀ D ∈ Ds, D < X) (hg : W.grownBy W' row) (hr : ∀ r, row = some r → X ≤ r) : Marks B Ds W' := h.same fun D hD e => (hg.block D (Array.getElem?_eq_some_iff.1 e).1 (fun e2 => by have := hr D e2.symm; have := hX D hD; omega)).trans e
theorem Marks.cons {B D : Nat} {Ds : List Nat} {W : World} (h : Marks B Ds W) (hB : B ≤ D) (hD : W.heap[D]? = some (.deferred (some []))) (hX : ∀ E ∈ Ds, E < D) : Marks B (D :: Ds) W :=
  ⟨List.nodup_cons.2 ⟨fun e => Nat.lt_irrefl _ (hX D e), h.1⟩, fun E hE => by
    rcases List.mem_cons.1 hE with rfl | hE
    · exact ⟨hB, hD⟩
    · exact h.2 E hE⟩
theorem Marks.lt {B : Nat} {Ds : List Nat} {W : World} (h : Marks B Ds W) : ∀ D ∈ Ds, D < W.heap.size := fun D hD => (Array.getElem?_eq_some_iff.1 (h.2 D hD).2).1
/-- the function is left: the marks are taken one by one -/
theorem marks_leave {P : Program} {n : Nat} {fn : Func} {tmps : Array Value} {R : Ending → World → Prop} {w : World} {B : Nat} (hB : B ≤ w.heap.size) (h0 : ∀ W', Below B w W' → LeavesInM Fence.wide n P fn tmps R [] .returning W') :
    ∀ (Ds : List Nat) (W : World), Marks B Ds W → Below B w W → LeavesInM Fence.wide n P fn tmps R (Ds.map markD) .returning W := by
  intro Ds
  induction Ds with
  | nil => exact fun W _ hb => h0 W hb
  | cons D Ds ih =>
    intro W hM hb
    have hD := (hM.2 D (List.mem_cons_self ..))
    refine ⟨by simp, .inl ⟨D, _, rfl, run_takeDeferred hD.2, ih _ ?_ ?_⟩⟩
    · refine ⟨(List.nodup_cons.1 hM.1).2, fun E hE => ⟨(hM.2 E (List.mem_cons_of_mem _ hE)).1, ?_⟩⟩
      rw [World.putObj_heap_other (by rintro rfl; exact (List.nodup_cons.1 hM.1).1 hE)]
      exact (hM.2 E (List.mem_cons_of_mem _ hE)).2
    · exact hb.grown (grownBy_putObj' W D _) (Nat.le_trans hB hb.size) (fun k e => by cases e; exact hD.1)
theorem keepsMono {B : Nat} {W W' : World} (h : KeepsFrom 0 W W') : KeepsFrom B W W' := ⟨h.size, fun k o _ hk ho => h.same k o (Nat.zero_le _) hk ho⟩
/-- the points of the first k rounds -/
def ptsL (C : CV) (P : PV) (n s k : Nat) : List V3 := (List.range k).map fun i => gV C P 0 0 n ((i % s : Nat) : Int) ((i / s : Nat) : Int)
theorem mod_div (s c r : Nat) (hc : c < s) : (s * r + c) % s = c ∧ (s * r + c) / s = r := by
  rw [Nat.mul_add_mod, Nat.mod_eq_of_lt hc, Nat.mul_add_div (by omega), Nat.div_eq_of_lt hc]
  simp
theorem ptsL_len (C : CV) (P : PV) (n s k : Nat) : (ptsL C P n s k).length = k := by simp [ptsL]
theorem ptsL_at (C : CV) (P : PV) (n s k c r : Nat) (hc : c < s) (hk : s * r + c < k) : (ptsL C P n s k)[s * r + c]? = some (gV C P 0 0 n c r) := by
  unfold ptsL
  obtain ⟨hm, hd⟩ := mod_div s c r hc
  rw [List.getElem?_map, List.getElem?_range hk]
  simp only [Option.map_some, hm, hd]
theorem ptsL_step (C : CV) (P : PV) (n s c r : Nat) (hc : c < s) : ptsL C P n s (s * r + c + 1) = ptsL C P n s (s * r + c) ++ [gV C P 0 0 n c r] := by
  unfold ptsL
  obtain ⟨hm, hd⟩ := mod_div s c r hc
  rw [List.range_succ, List.map_append]
  simp only [List.map_cons, List.map_nil, hm, hd]
/-- a point that is kept, in memory -/
theorem own_pt {w : World} {base : Nat} {e : TypeId} {g n cap : Nat} {xs : List V3} (h : w.ownsRow base e 3 (.slice (some ⟨g, 0, none⟩) n cap) n (xs.flatMap vg)) {k : Nat} {v : V3} (hv : xs[k]? = some v) (hn : xs.length = n) :
    w.cell? ⟨g, k * 3, none⟩ = some (.int .i64 v.1) ∧ w.cell? ⟨g, k * 3 + 1, none⟩ = some (.int .i64 v.2.1) ∧ w.cell? ⟨g, k * 3 + 2, none⟩ = some (.int .i64 v.2.2) := by
  obtain ⟨hk, rfl⟩ := List.getElem?_eq_some_iff.1 hv
  have h0 := h.cellAt (k * 3) (by omega)
  have h1 := h.cellAt (k * 3 + 1) (by omega)
  have h2 := h.cellAt (k * 3 + 2) (by omega)
  rw [← Nat.add_zero (k * 3), flat_get vg_len xs k 0 hk (by omega)] at h0
  rw [flat_get vg_len xs k 1 hk (by omega)] at h1
  rw [flat_get vg_len xs k 2 hk (by omega)] at h2
  exact ⟨h0, h1, h2⟩
/-- all rates below n have been refused -/
def BadBelow (C : CV) (P : PV) (m : Int) (n : Nat) : Prop := (1 < n → rateOk C P m 1 = false) ∧ (2 < n → rateOk C P m 2 = false) ∧ (4 < n → rateOk C P m 4 = false)
theorem bad_next {C : CV} {P : PV} {m : Int} {n : Nat} (hn : n = 1 ∨ n = 2 ∨ n = 4) (h : BadBelow C P m n) (hno : rateOk C P m n = false) : BadBelow C P m (n * 2) := by
  obtain ⟨h1, h2, h4⟩ := h
  rcases hn with rfl | rfl | rfl
  · exact ⟨fun _ => hno, fun h => by omega, fun h => by omega⟩
  · exact ⟨fun _ => h1 (by omega), fun _ => hno, fun h => by omega⟩
  · exact ⟨fun _ => h1 (by omega), fun _ => h2 (by omega), fun _ => hno⟩
theorem rate_found {C : CV} {P : PV} {m : Int} {n : Nat} (hi : rateIn C P m = true) (hn : n = 1 ∨ n = 2 ∨ n = 4) (h : BadBelow C P m n) (hyes : rateOk C P m n = true) : rateA C P m = n := by
  obtain ⟨h1, h2, h4⟩ := h
  unfold rateA rateV
  rw [if_pos hi]
  rcases hn with rfl | rfl | rfl
  · rw [if_pos hyes]; rfl
  · rw [if_neg (by rw [h1 (by omega)]; simp), if_pos hyes]; rfl
  · rw [if_neg (by rw [h1 (by omega)]; simp), if_neg (by rw [h2 (by omega)]; simp), if_pos hyes]; rfl
theorem rate_none {C : CV} {P : PV} {m : Int} (hi : rateIn C P m = true) (h : BadBelow C P m 8) : rateA C P m = 8 := by
  obtain ⟨h1, h2, h4⟩ := h
  unfold rateA rateV
  rw [if_pos hi, if_neg (by rw [h1 (by omega)]; simp), if_neg (by rw [h2 (by omega)]; simp), if_neg (by rw [h4 (by omega)]; simp)]
theorem Held.lts {w W : World} {bs : List (Nat × List Value)} (h : Held w W bs) (hne : ∀ p ∈ bs, p.2 ≠ []) : ∀ p ∈ bs, p.1 < W.heap.size := fun p hp => by
  obtain ⟨i, hi⟩ := List.getElem?_of_mem hp
  obtain ⟨k, vs⟩ := p
  have hv := hne _ hp
  cases vs with
  | nil => exact absurd rfl hv
  | cons v vs => exact (h.2 i k _ hi).lt
theorem cells3_new (W : World) (a b c : Value) (t : TypeId) : ∀ j y, [a, b, c][j]? = some y → (W.alloc (.cells #[a, b, c] t)).cell? ((⟨W.heap.size, 0, none⟩ : Addr).add j) = some y := fun j y hj => by
  rw [Addr.add_mid, Nat.zero_add]
  exact (Mbox.new W #[a, b, c] t).c j hj
theorem Held.put3 {w W : World} {bs : List (Nat × List Value)} {k : Nat} {p q r : Value} (h : Held w W ((k, [p, q, r]) :: bs)) (hg : w.heap.size ≤ k) (hne : ∀ p ∈ bs, p.1 ≠ k) (x y z : Value) : Held w (((W.setCell ⟨k, 0, none⟩ x).setCell ⟨k, 1, none⟩ y).setCell ⟨k, 2, none⟩ z) ((k, [x, y, z]) :: bs) :=
  ((h.put hg hne 0 x).put hg hne 1 y).put hg hne 2 z
/-- the measure of the loop over rates: what the variable behind slot 7 still lacks -/
def muR (a : Act) (W : World) : Nat := match a.tmps.getD 7 undef with
  | .pointer (some p) => (match W.cell? p with | some (.int _ z) => 16 - z.toNat | _ => 0)
  | _ => 0
theorem muR_eq {a : Act} {W : World} {bn n : Nat} (h7 : a.tmps.getD 7 undef = .pointer (some ⟨bn, 0, none⟩)) (hc : W.cell? ⟨bn, 0, none⟩ = some (.int .i64 n)) : muR a W = 16 - n := by
  unfold muR
  rw [h7]
  simp only [hc, Int.toNat_natCast]

theorem validC (C : CV) (w : World) : Calls Try.prog 39 #[C.v] w (BoolIs C.ok w) := isValidCamera_any C.a C.b C.c C.d C.e C.f C.g w
theorem validP (P : PV) (w : World) : Calls Try.prog 40 #[P.v] w (BOut P.ok w) := isValidPatch_any P.p0 P.p1 P.p2 P.p3 P.p4 P.p5 P.p6 P.p7 P.p8 P.x P.y P.z w

set_option maxHeartbeats 4000000 in
theorem diceRate_bad (C : CV) (P : PV) (m : Int) (w : World) (hk : rateIn C P m = false) :
    Calls Try.prog 15 #[C.v, P.v, .int .i64 m] w (fun e w' => e = .returned (.int .i64 (rateA C P m)) ∧ Below w.heap.size w w') := by
  have HT : Held w (((w.alloc (.cells #[.int .i64 C.a, .int .i64 C.b, .int .i64 C.c, .int .i64 C.d, .bool C.e, .int .i64 C.f, .int .i64 C.g] 24)).alloc (.cells #[.int .i64 P.p0, .int .i64 P.p1, .int .i64 P.p2, .int .i64 P.p3, .int .i64 P.p4, .int .i64 P.p5, .int .i64 P.p6, .int .i64 P.p7, .int .i64 P.p8, .int .i64 P.x, .int .i64 P.y, .int .i64 P.z] 30)).alloc (.cells #[.int .i64 m] 3)) [(w.heap.size + 1 + 1, [.int .i64 m]), (w.heap.size + 1, [.int .i64 P.p0, .int .i64 P.p1, .int .i64 P.p2, .int .i64 P.p3, .int .i64 P.p4, .int .i64 P.p5, .int .i64 P.p6, .int .i64 P.p7, .int .i64 P.p8, .int .i64 P.x, .int .i64 P.y, .int .i64 P.z]), (w.heap.size, [.int .i64 C.a, .int .i64 C.b, .int .i64 C.c, .int .i64 C.d, .bool C.e, .int .i64 C.f, .int .i64 C.g])] := by
    have h := (((Held.nil w).new #[.int .i64 C.a, .int .i64 C.b, .int .i64 C.c, .int .i64 C.d, .bool C.e, .int .i64 C.f, .int .i64 C.g] 24).new #[.int .i64 P.p0, .int .i64 P.p1, .int .i64 P.p2, .int .i64 P.p3, .int .i64 P.p4, .int .i64 P.p5, .int .i64 P.p6, .int .i64 P.p7, .int .i64 P.p8, .int .i64 P.x, .int .i64 P.y, .int .i64 P.z] 30).new #[.int .i64 m] 3
    simpa only [World.size_alloc] using h
  rcases h0 : C.ok with _ | _
  · skip
    have HE : Hid (rateA C P m = 0) := Lib.hid (by unfold rateA rateIn; rw [h0] <;> rfl)
    go_enter Try.func15, Try.ntmps15
    go_wp2_with fail
    go_step3
    go_wp2_with (first | (go_at_call 39; refine (validC _ _).mono ?_; rintro e w1 ⟨rfl, hb1⟩; have HT := HT.later hb1; clear hb1; rw [h0]; have b0 := (HT.box 1).c 0; have b1 := (HT.box 1).c 1; have b2 := (HT.box 1).c 2; have b3 := (HT.box 1).c 3; have b4 := (HT.box 1).c 4; have b5 := (HT.box 1).c 5; have b6 := (HT.box 1).c 6; have b7 := (HT.box 1).c 7; have b8 := (HT.box 1).c 8; have b9 := (HT.box 1).c 9; have b10 := (HT.box 1).c 10; have b11 := (HT.box 1).c 11; have b12 := (HT.box 0).c 0) | (go_at_call 40; refine (validP _ _).mono ?_; rintro e w1 ⟨rfl, hb1⟩; have HT := HT.later hb1; clear hb1; rw [h1]; have b12 := (HT.box 0).c 0) | (go_at_call 38; refine (isWithin_any _ _ _ _).mono ?_; rintro x w' ⟨rfl, rfl⟩; (try simp only [h2])))
    rw [Exit.noGoto_ret]
    go_ret
    rw [HE.out]
    exact ⟨rfl, HT.below⟩
  rcases h1 : P.ok with _ | _
  · skip
    have HE : Hid (rateA C P m = 0) := Lib.hid (by unfold rateA rateIn; rw [h0, h1] <;> rfl)
    go_enter Try.func15, Try.ntmps15
    go_wp2_with fail
    go_step3
    go_wp2_with (first | (go_at_call 39; refine (validC _ _).mono ?_; rintro e w1 ⟨rfl, hb1⟩; have HT := HT.later hb1; clear hb1; rw [h0]; have b0 := (HT.box 1).c 0; have b1 := (HT.box 1).c 1; have b2 := (HT.box 1).c 2; have b3 := (HT.box 1).c 3; have b4 := (HT.box 1).c 4; have b5 := (HT.box 1).c 5; have b6 := (HT.box 1).c 6; have b7 := (HT.box 1).c 7; have b8 := (HT.box 1).c 8; have b9 := (HT.box 1).c 9; have b10 := (HT.box 1).c 10; have b11 := (HT.box 1).c 11; have b12 := (HT.box 0).c 0) | (go_at_call 40; refine (validP _ _).mono ?_; rintro e w1 ⟨rfl, hb1⟩; have HT := HT.later hb1; clear hb1; rw [h1]; have b12 := (HT.box 0).c 0) | (go_at_call 38; refine (isWithin_any _ _ _ _).mono ?_; rintro x w' ⟨rfl, rfl⟩; (try simp only [h2])))
    rw [Exit.noGoto_ret]
    go_ret
    rw [HE.out]
    exact ⟨rfl, HT.below⟩
  rcases h2 : inC 1 1000 m with _ | _
  · skip
    have HE : Hid (rateA C P m = 0) := Lib.hid (by unfold rateA rateIn; rw [h0, h1, h2] <;> rfl)
    go_enter Try.func15, Try.ntmps15
    go_wp2_with fail
    go_step3
    go_wp2_with (first | (go_at_call 39; refine (validC _ _).mono ?_; rintro e w1 ⟨rfl, hb1⟩; have HT := HT.later hb1; clear hb1; rw [h0]; have b0 := (HT.box 1).c 0; have b1 := (HT.box 1).c 1; have b2 := (HT.box 1).c 2; have b3 := (HT.box 1).c 3; have b4 := (HT.box 1).c 4; have b5 := (HT.box 1).c 5; have b6 := (HT.box 1).c 6; have b7 := (HT.box 1).c 7; have b8 := (HT.box 1).c 8; have b9 := (HT.box 1).c 9; have b10 := (HT.box 1).c 10; have b11 := (HT.box 1).c 11; have b12 := (HT.box 0).c 0) | (go_at_call 40; refine (validP _ _).mono ?_; rintro e w1 ⟨rfl, hb1⟩; have HT := HT.later hb1; clear hb1; rw [h1]; have b12 := (HT.box 0).c 0) | (go_at_call 38; refine (isWithin_any _ _ _ _).mono ?_; rintro x w' ⟨rfl, rfl⟩; (try simp only [h2])))
    rw [Exit.noGoto_ret]
    go_ret
    rw [HE.out]
    exact ⟨rfl, HT.below⟩
  unfold rateIn at hk
  rw [h0, h1, h2] at hk
  cases hk

def rateTmps (C : CV) (P : PV) (m : Int) (k0 k1 k2 bn : Nat) (us : Nat → Value) : Array Value := #[C.v, P.v, .int .i64 m, .pointer (some ⟨k0, 0, none⟩), .pointer (some ⟨k1, 0, none⟩), .pointer (some ⟨k2, 0, none⟩), .int .i64 0, .pointer (some ⟨bn, 0, none⟩), us 8, us 9, us 10, us 11, us 12, us 13, C.v, .bool true, .bool false, .bool false, P.v, .bool true, .bool false, .bool false, .bool false, .int .i64 m, .bool true, .bool false, .bool false, us 27, us 28, us 29, us 30, us 31, us 32, us 33, us 34, us 35, us 36, us 37, us 38, us 39, us 40, us 41, us 42, us 43, us 44, us 45, us 46, us 47, us 48, us 49, us 50, us 51, us 52, us 53, us 54, us 55, us 56, us 57, us 58, us 59, us 60, us 61, us 62, us 63, us 64, us 65, us 66, us 67, us 68, us 69, us 70, us 71, us 72, us 73, us 74, us 75, us 76, us 77, us 78, us 79, us 80, us 81, us 82, us 83]
/-- what holds whenever the loop over rates begins anew -/
def RInv (C : CV) (P : PV) (m : Int) (k0 k1 k2 : Nat) (w : World) (a : Act) (W : World) : Prop :=
  ∃ (n bn : Nat) (Ds : List Nat) (us : Nat → Value), a = { tmps := rateTmps C P m k0 k1 k2 bn us, defers := Ds.map markD } ∧ (n = 1 ∨ n = 2 ∨ n = 4 ∨ n = 8) ∧ BadBelow C P m n ∧ Held w W ((bn, [.int .i64 n]) :: [(k2, [.int .i64 m]), (k1, [.int .i64 P.p0, .int .i64 P.p1, .int .i64 P.p2, .int .i64 P.p3, .int .i64 P.p4, .int .i64 P.p5, .int .i64 P.p6, .int .i64 P.p7, .int .i64 P.p8, .int .i64 P.x, .int .i64 P.y, .int .i64 P.z]), (k0, [.int .i64 C.a, .int .i64 C.b, .int .i64 C.c, .int .i64 C.d, .bool C.e, .int .i64 C.f, .int .i64 C.g])]) ∧ Marks w.heap.size Ds W
theorem rinv_mk {C : CV} {P : PV} {m : Int} {k0 k1 k2 : Nat} {w W : World} {a : Act} (n bn : Nat) (Ds : List Nat) (h : a = { tmps := rateTmps C P m k0 k1 k2 bn (fun i => a.tmps.getD i undef), defers := Ds.map markD }) (hn : n = 1 ∨ n = 2 ∨ n = 4 ∨ n = 8) (hb : BadBelow C P m n) (hh : Held w W ((bn, [.int .i64 n]) :: [(k2, [.int .i64 m]), (k1, [.int .i64 P.p0, .int .i64 P.p1, .int .i64 P.p2, .int .i64 P.p3, .int .i64 P.p4, .int .i64 P.p5, .int .i64 P.p6, .int .i64 P.p7, .int .i64 P.p8, .int .i64 P.x, .int .i64 P.y, .int .i64 P.z]), (k0, [.int .i64 C.a, .int .i64 C.b, .int .i64 C.c, .int .i64 C.d, .bool C.e, .int .i64 C.f, .int .i64 C.g])])) (hm : Marks w.heap.size Ds W) :
    RInv C P m k0 k1 k2 w a W := ⟨n, bn, Ds, _, h, hn, hb, hh, hm⟩
theorem rinv_mu {C : CV} {P : PV} {m : Int} {k0 k1 k2 : Nat} {W : World} {a : Act} {n bn : Nat} {Ds : List Nat} {us : Nat → Value} (h : a = { tmps := rateTmps C P m k0 k1 k2 bn us, defers := Ds.map markD }) (hc : W.cell? ⟨bn, 0, none⟩ = some (.int .i64 n)) : muR a W = 16 - n := by
  subst h
  exact muR_eq rfl hc

set_option maxRecDepth 100000 in
set_option maxHeartbeats 32000000 in
theorem diceRate_go (C : CV) (P : PV) (m : Int) (w : World) (hk : rateIn C P m = true) :
    CallsIn Fence.wide 3 Try.prog 15 #[C.v, P.v, .int .i64 m] w (fun e w' => e = .returned (.int .i64 (rateA C P m)) ∧ Below w.heap.size w w') := by
  have HT : Held w (((w.alloc (.cells #[.int .i64 C.a, .int .i64 C.b, .int .i64 C.c, .int .i64 C.d, .bool C.e, .int .i64 C.f, .int .i64 C.g] 24)).alloc (.cells #[.int .i64 P.p0, .int .i64 P.p1, .int .i64 P.p2, .int .i64 P.p3, .int .i64 P.p4, .int .i64 P.p5, .int .i64 P.p6, .int .i64 P.p7, .int .i64 P.p8, .int .i64 P.x, .int .i64 P.y, .int .i64 P.z] 30)).alloc (.cells #[.int .i64 m] 3)) [(w.heap.size + 1 + 1, [.int .i64 m]), (w.heap.size + 1, [.int .i64 P.p0, .int .i64 P.p1, .int .i64 P.p2, .int .i64 P.p3, .int .i64 P.p4, .int .i64 P.p5, .int .i64 P.p6, .int .i64 P.p7, .int .i64 P.p8, .int .i64 P.x, .int .i64 P.y, .int .i64 P.z]), (w.heap.size, [.int .i64 C.a, .int .i64 C.b, .int .i64 C.c, .int .i64 C.d, .bool C.e, .int .i64 C.f, .int .i64 C.g])] := by
    have h := (((Held.nil w).new #[.int .i64 C.a, .int .i64 C.b, .int .i64 C.c, .int .i64 C.d, .bool C.e, .int .i64 C.f, .int .i64 C.g] 24).new #[.int .i64 P.p0, .int .i64 P.p1, .int .i64 P.p2, .int .i64 P.p3, .int .i64 P.p4, .int .i64 P.p5, .int .i64 P.p6, .int .i64 P.p7, .int .i64 P.p8, .int .i64 P.x, .int .i64 P.y, .int .i64 P.z] 30).new #[.int .i64 m] 3
    simpa only [World.size_alloc] using h
  have h0 : C.ok = true := by unfold rateIn at hk; simp only [Bool.and_eq_true] at hk; exact hk.1.1
  have h1 : P.ok = true := by unfold rateIn at hk; simp only [Bool.and_eq_true] at hk; exact hk.1.2
  have h2 : inC 1 1000 m = true := by unfold rateIn at hk; simp only [Bool.and_eq_true] at hk; exact hk.2
  have HMM := Lib.hid ((inC_iff ..).1 h2)
  have HRI := Lib.hid hk
  clear hk
  refine callsIn_of_wp_marks Try.func15 rfl trivial ?_ rfl
  simp only [Try.ntmps15, List.size_toArray, List.length_cons, List.length_nil, Nat.reduceAdd, Nat.reduceSub, Array.replicate_succ, Array.replicate_zero, List.push_toArray, List.append_toArray, List.nil_append, List.cons_append]
  refine wpIn_wide.2 ?_
  go_wp2_with fail
  go_step3
  go_wp2_with (first | (go_at_call 39; refine (validC _ _).mono ?_; rintro e w1 ⟨rfl, hb1⟩; have HT := HT.later hb1; clear hb1; rw [h0]; have b0 := (HT.box 1).c 0; have b1 := (HT.box 1).c 1; have b2 := (HT.box 1).c 2; have b3 := (HT.box 1).c 3; have b4 := (HT.box 1).c 4; have b5 := (HT.box 1).c 5; have b6 := (HT.box 1).c 6; have b7 := (HT.box 1).c 7; have b8 := (HT.box 1).c 8; have b9 := (HT.box 1).c 9; have b10 := (HT.box 1).c 10; have b11 := (HT.box 1).c 11; have b12 := (HT.box 0).c 0) | (go_at_call 40; refine (validP _ _).mono ?_; rintro e w2 ⟨rfl, hb1⟩; have HT := HT.later hb1; have hs2 := hb1.size; clear hb1; rw [h1]; have b12 := (HT.box 0).c 0) | (go_at_call 38; refine (isWithin_any _ _ _ _).mono ?_; rintro x w' ⟨rfl, rfl⟩; (try simp only [h2])))
  go_step3
  go_wp2_with fail
  have HT := HT.new #[.int .i64 1] 3
  clear h0 h1 h2 b12 b0 b1 b2 b3 b4 b5 b6 b7 b8 b9 b10 b11
  generalize g2 : w.heap.size + 1 + 1 = k2 at HT ⊢
  generalize g1 : w.heap.size + 1 = k1 at HT ⊢
  generalize g0 : w.heap.size = k0 at HT ⊢
  have HK012 := Lib.hid (show k0 = w.heap.size ∧ k1 = w.heap.size + 1 ∧ k2 = w.heap.size + 2 by omega)
  clear g0 g1 g2 hs2
  refine wp_loop (RInv C P m k0 k1 k2 w) muR (rinv_mk 1 w2.heap.size [] rfl (.inl rfl) ⟨fun h => absurd h (by omega), fun h => absurd h (by omega), fun h => absurd h (by omega)⟩ HT ⟨List.nodup_nil, fun D hD => absurd hD (List.not_mem_nil)⟩) ?_
  clear HT
  rintro a W ⟨n, bn, Ds, us, ha, hn, hbad, HT, HM⟩
  have HMU := Lib.hid (rinv_mu ha ((HT.box 0).c 0))
  subst ha
  unfold rateTmps
  have HM := Lib.hid HM
  have HBAD := Lib.hid hbad
  clear hbad
  have hcn := (HT.box 0).c 0
  by_cases h8 : n = 8
  · subst h8
    have HE : Hid (rateA C P m = 8) := Lib.hid (rate_none HRI.out HBAD.out)
    go_wp2_with fail
    refine marks_leave (w := w) (B := w.heap.size) (Nat.le_refl _) (fun W' hb => ?_) Ds _ HM.out HT.below
    exact ⟨_, results_tmp rfl _ _ _, by rw [HE.out]; rfl, hb⟩
  · have hn4 : n = 1 ∨ n = 2 ∨ n = 4 := by omega
    have HN4 := Lib.hid hn4
    clear h8 hn hcn
    obtain ⟨s, hs⟩ : ∃ s, s = n + 1 := ⟨_, rfl⟩
    have e1 : IntKind.i64.wrap ((n : Int) + 1) = (s : Int) := by rw [hs, show ((n + 1 : Nat) : Int) = (n : Int) + 1 by omega]; exact wrap_in (by omega)
    have HSN := Lib.hid hs
    have HSS := Lib.hid (show 2 ≤ s ∧ s ≤ 5 by omega)
    clear hs
    have hn8 : (n : Int) < 8 := by omega
    have c0 := (HT.box 0).c 0
    have HTn := (HT.new #[.int .i64 s] 3).new #[.slice none 0 0] 81 |>.new #[.int .i64 s] 3
    simp only [World.size_alloc] at HTn
    go_wp2_with (go_at_call 37; refine (callsIn_wide.1 (gridPts_in 3 _ _)).mono ?_; rintro e w' ⟨rfl, rfl⟩)
    clear c0 e1 hn8
    obtain ⟨W0, hW0⟩ : ∃ X, X = (((W.alloc (.cells #[.int .i64 s] 3)).alloc (.cells #[.slice none 0 0] 81)).alloc (.cells #[.int .i64 s] 3)) := ⟨_, rfl⟩
    have hs0 : W0.heap.size = W.heap.size + 3 := by rw [hW0]; simp only [World.size_alloc]
    have HM0 : Marks w.heap.size Ds W0 := by
      rw [hW0]
      exact HM.out.keep (((KeepsOthers.alloc W _).trans (KeepsOthers.alloc _ _)).trans (KeepsOthers.alloc _ _) |>.from 0)
    rw [← hW0] at HTn ⊢
    clear hW0
    have HLD := Lib.hid (fun D hD => Nat.lt_of_lt_of_le (HM.out.lt D hD) (show W.heap.size ≤ W0.heap.size by omega))
    have hWs := HT.size
    have hb0 := (HT.box 0).lt
    have hb1 := (HT.box 1).lt
    have hb2 := (HT.box 2).lt
    have hb3 := (HT.box 3).lt
    clear HT HM
    generalize g2 : W.heap.size + 1 + 1 = kN at HTn ⊢
    generalize g1 : W.heap.size + 1 = kq at HTn ⊢
    generalize g0 : W.heap.size = ks at HTn hb0 hb1 hb2 hb3 ⊢
    have HT0 : Held w W0 ((kq, [.slice none 0 0]) :: (kN, [.int .i64 s]) :: (ks, [.int .i64 s]) :: (bn, [.int .i64 n]) :: [(k2, [.int .i64 m]), (k1, [.int .i64 P.p0, .int .i64 P.p1, .int .i64 P.p2, .int .i64 P.p3, .int .i64 P.p4, .int .i64 P.p5, .int .i64 P.p6, .int .i64 P.p7, .int .i64 P.p8, .int .i64 P.x, .int .i64 P.y, .int .i64 P.z]), (k0, [.int .i64 C.a, .int .i64 C.b, .int .i64 C.c, .int .i64 C.d, .bool C.e, .int .i64 C.f, .int .i64 C.g])]) := HTn.pick (by simp)
    have HLT0 : ∀ (v : Value), ∀ p ∈ ((kq, [v]) :: (kN, [.int .i64 s]) :: (ks, [.int .i64 s]) :: (bn, [.int .i64 n]) :: [(k2, [.int .i64 m]), (k1, [.int .i64 P.p0, .int .i64 P.p1, .int .i64 P.p2, .int .i64 P.p3, .int .i64 P.p4, .int .i64 P.p5, .int .i64 P.p6, .int .i64 P.p7, .int .i64 P.p8, .int .i64 P.x, .int .i64 P.y, .int .i64 P.z]), (k0, [.int .i64 C.a, .int .i64 C.b, .int .i64 C.c, .int .i64 C.d, .bool C.e, .int .i64 C.f, .int .i64 C.g])] : List (Nat × List Value)), p.1 < W0.heap.size := fun v p hp => by
      simp only [List.mem_cons, List.not_mem_nil, or_false] at hp
      rcases hp with rfl | rfl | rfl | rfl | rfl | rfl | rfl <;> (show _ < _) <;> omega
    have HNE0 : ∀ p ∈ ((kN, [.int .i64 s]) :: (ks, [.int .i64 s]) :: (bn, [.int .i64 n]) :: [(k2, [.int .i64 m]), (k1, [.int .i64 P.p0, .int .i64 P.p1, .int .i64 P.p2, .int .i64 P.p3, .int .i64 P.p4, .int .i64 P.p5, .int .i64 P.p6, .int .i64 P.p7, .int .i64 P.p8, .int .i64 P.x, .int .i64 P.y, .int .i64 P.z]), (k0, [.int .i64 C.a, .int .i64 C.b, .int .i64 C.c, .int .i64 C.d, .bool C.e, .int .i64 C.f, .int .i64 C.g])] : List (Nat × List Value)), p.1 ≠ kq := fun p hp => by
      simp only [List.mem_cons, List.not_mem_nil, or_false] at hp
      rcases hp with rfl | rfl | rfl | rfl | rfl | rfl <;> (show _ ≠ _) <;> omega
    have HLT := Lib.hid HLT0
    have HNE := Lib.hid HNE0
    have HKQ : Hid (kq < W0.heap.size) := Lib.hid (by omega)
    have HWQ : Hid (w.heap.size ≤ kq) := Lib.hid (by omega)
    have HWB : Hid (w.heap.size ≤ W0.heap.size) := Lib.hid (by omega)
    obtain ⟨i0, hi, hz0, hz1, hz2⟩ := info_parts infoVec
    have HINF := Lib.hid (And.intro hi (And.intro hz0 (And.intro hz1 hz2)))
    clear hi hz0 hz1 hz2 HTn g0 g1 g2 hb0 hb1 hb2 hb3 HLT0 HNE0 hWs
    have HMI := Lib.hid HM0
    refine (wpIn_wide (n := 3)).1 ?_
    refine' wpIn_grid (s := s) (Bn := kN) (by omega) (by have := HSS.out; omega) rfl rfl
      (fun k W => ∃ v, Held w W ((kq, [v]) :: (kN, [.int .i64 s]) :: (ks, [.int .i64 s]) :: (bn, [.int .i64 n]) :: [(k2, [.int .i64 m]), (k1, [.int .i64 P.p0, .int .i64 P.p1, .int .i64 P.p2, .int .i64 P.p3, .int .i64 P.p4, .int .i64 P.p5, .int .i64 P.p6, .int .i64 P.p7, .int .i64 P.p8, .int .i64 P.x, .int .i64 P.y, .int .i64 P.z]), (k0, [.int .i64 C.a, .int .i64 C.b, .int .i64 C.c, .int .i64 C.d, .bool C.e, .int .i64 C.f, .int .i64 C.g])]) ∧ W.ownsRow W0.heap.size 27 3 v k ((ptsL C P n s k).flatMap vg) ∧ wentOk C P m n k ∧ W0.heap.size ≤ W.heap.size ∧ Marks w.heap.size Ds W)
      (fun c W => c = .exit 1 ∧ rateOk C P m n = false ∧ Held w W ((bn, [.int .i64 n]) :: [(k2, [.int .i64 m]), (k1, [.int .i64 P.p0, .int .i64 P.p1, .int .i64 P.p2, .int .i64 P.p3, .int .i64 P.p4, .int .i64 P.p5, .int .i64 P.p6, .int .i64 P.p7, .int .i64 P.p8, .int .i64 P.x, .int .i64 P.y, .int .i64 P.z]), (k0, [.int .i64 C.a, .int .i64 C.b, .int .i64 C.c, .int .i64 C.d, .bool C.e, .int .i64 C.f, .int .i64 C.g])]) ∧ W0.heap.size ≤ W.heap.size ∧ Marks w.heap.size Ds W)
      (fun k A B row h hg hr => by obtain ⟨v, h1, h2, h3, h4, h5⟩ := h; exact ⟨v, h1.turned hg HWB.out hr, own_turned h2 hg (fun r e => (hr r e).2), h3, Nat.le_trans h4 hg.size, h5.turned HLD.out hg (fun r e => (hr r e).1)⟩)
      (fun c A B row h hg hr => ⟨h.1, h.2.1, h.2.2.1.turned hg HWB.out hr, Nat.le_trans h.2.2.2.1 hg.size, h.2.2.2.2.turned HLD.out hg (fun r e => (hr r e).1)⟩)
      (fun k W h => by obtain ⟨v, h1, _⟩ := h; exact (h1.box 1).c 0) ⟨_, HT0, World.ownsRow_nil _ _ _ _, fun c r _ h => absurd h (Nat.not_lt_zero _), Nat.le_refl _, HM0⟩ _ ?assign ?body ?done ?stop
    case assign =>
      intro l c r W K hK
      gi_wp2
      exact hK
    case body =>
      rintro l c r W hc hr ⟨v, HT, hown, hwent, hsz, HM⟩
      have hcn : c ≤ n := by have := HSN.out; omega
      have hrn : r ≤ n := by have := HSN.out; omega
      obtain ⟨K0, hK⟩ : ∃ K, K = s * r + c := ⟨_, rfl⟩
      rw [← hK] at hown hwent ⊢
      have HKE := Lib.hid hK
      have HSR : Hid (0 < r → s * (r - 1) + s = s * r) := Lib.hid (fun h => by rw [← Nat.mul_succ]; congr 1; omega)
      have HKB : Hid (K0 < 25) := Lib.hid (by
        have h1 : s * r + s ≤ s * s := by rw [← Nat.mul_succ]; exact Nat.mul_le_mul_left s hr
        have h2 : s * s ≤ 5 * 5 := Nat.mul_le_mul HSS.out.2 HSS.out.2
        omega)
      have HCR := Lib.hid (And.intro hcn hrn)
      have HWE := Lib.hid hwent
      have HO := Lib.hid hown
      have HM := Lib.hid HM
      have HSZ := Lib.hid hsz
      obtain ⟨pt, HPT⟩ : ∃ pt, pt = P.at (c : Int) (r : Int) n := ⟨_, rfl⟩
      have HE : Hid (∀ w, Calls Try.prog 42 #[P.v, .int .i64 (c : Int), .int .i64 (r : Int), .int .i64 (n : Int)] w (VecIs pt w)) := Lib.hid (fun w => by rw [HPT]; exact evalP P _ _ _ w)
      obtain ⟨kk, ekk⟩ : ∃ k, k = gK C P 0 0 n (c : Int) (r : Int) := ⟨_, rfl⟩
      obtain ⟨zz, ezz⟩ : ∃ z, z = zV kk (gV C P 0 0 n (c : Int) (r : Int)) := ⟨_, rfl⟩
      have HJ : Hid (∀ w, Calls Try.prog 41 #[C.v, v3v pt, .int .i64 0, .int .i64 0] w (SeenIs kk zz w)) := Lib.hid (fun w => by rw [ezz, ekk, HPT]; exact projC C _ 0 0 w)
      have HKK := Lib.hid ekk
      have HZZ := Lib.hid ezz
      have HQ : Held W W ((kq, [v]) :: (kN, [.int .i64 s]) :: (ks, [.int .i64 s]) :: (bn, [.int .i64 n]) :: [(k2, [.int .i64 m]), (k1, [.int .i64 P.p0, .int .i64 P.p1, .int .i64 P.p2, .int .i64 P.p3, .int .i64 P.p4, .int .i64 P.p5, .int .i64 P.p6, .int .i64 P.p7, .int .i64 P.p8, .int .i64 P.x, .int .i64 P.y, .int .i64 P.z]), (k0, [.int .i64 C.a, .int .i64 C.b, .int .i64 C.c, .int .i64 C.d, .bool C.e, .int .i64 C.f, .int .i64 C.g])]) := ⟨Below.refl _ _, HT.2⟩
      have HLW := Lib.hid (HT.lts (by intro p hp; simp only [List.mem_cons, List.not_mem_nil, or_false] at hp; rcases hp with rfl | rfl | rfl | rfl | rfl | rfl | rfl <;> simp))
      have HC : ∀ W', Held W W' ((kq, [v]) :: (kN, [.int .i64 s]) :: (ks, [.int .i64 s]) :: (bn, [.int .i64 n]) :: [(k2, [.int .i64 m]), (k1, [.int .i64 P.p0, .int .i64 P.p1, .int .i64 P.p2, .int .i64 P.p3, .int .i64 P.p4, .int .i64 P.p5, .int .i64 P.p6, .int .i64 P.p7, .int .i64 P.p8, .int .i64 P.x, .int .i64 P.y, .int .i64 P.z]), (k0, [.int .i64 C.a, .int .i64 C.b, .int .i64 C.c, .int .i64 C.d, .bool C.e, .int .i64 C.f, .int .i64 C.g])]) → (W'.cell? ⟨k0, 0, none⟩ = some (.int .i64 C.a) ∧ W'.cell? ⟨k0, 1, none⟩ = some (.int .i64 C.b) ∧ W'.cell? ⟨k0, 2, none⟩ = some (.int .i64 C.c) ∧ W'.cell? ⟨k0, 3, none⟩ = some (.int .i64 C.d) ∧ W'.cell? ⟨k0, 4, none⟩ = some (.bool C.e) ∧ W'.cell? ⟨k0, 5, none⟩ = some (.int .i64 C.f) ∧ W'.cell? ⟨k0, 6, none⟩ = some (.int .i64 C.g) ∧ W'.cell? ⟨k1, 0, none⟩ = some (.int .i64 P.p0) ∧ W'.cell? ⟨k1, 1, none⟩ = some (.int .i64 P.p1) ∧ W'.cell? ⟨k1, 2, none⟩ = some (.int .i64 P.p2) ∧ W'.cell? ⟨k1, 3, none⟩ = some (.int .i64 P.p3) ∧ W'.cell? ⟨k1, 4, none⟩ = some (.int .i64 P.p4) ∧ W'.cell? ⟨k1, 5, none⟩ = some (.int .i64 P.p5) ∧ W'.cell? ⟨k1, 6, none⟩ = some (.int .i64 P.p6) ∧ W'.cell? ⟨k1, 7, none⟩ = some (.int .i64 P.p7) ∧ W'.cell? ⟨k1, 8, none⟩ = some (.int .i64 P.p8) ∧ W'.cell? ⟨k1, 9, none⟩ = some (.int .i64 P.x) ∧ W'.cell? ⟨k1, 10, none⟩ = some (.int .i64 P.y) ∧ W'.cell? ⟨k1, 11, none⟩ = some (.int .i64 P.z) ∧ W'.cell? ⟨bn, 0, none⟩ = some (.int .i64 n)) := fun W' h => ⟨(h.box 6).c 0, (h.box 6).c 1, (h.box 6).c 2, (h.box 6).c 3, (h.box 6).c 4, (h.box 6).c 5, (h.box 6).c 6, (h.box 5).c 0, (h.box 5).c 1, (h.box 5).c 2, (h.box 5).c 3, (h.box 5).c 4, (h.box 5).c 5, (h.box 5).c 6, (h.box 5).c 7, (h.box 5).c 8, (h.box 5).c 9, (h.box 5).c 10, (h.box 5).c 11, (h.box 3).c 0⟩
      have HTT := Lib.hid HT
      clear HPT ekk ezz hown hwent hsz hK hcn hrn hc hr HT
      gi_upto_region 11 with fail
      gi_cut [12, 13] from 37 (fun x y wx => ∃ kp : Nat, x = .pointer (some ⟨kp, 0, none⟩) ∧ y = .bool kk ∧ Mbox wx kp [.int .i64 zz.1, .int .i64 zz.2.1, .int .i64 zz.2.2] ∧ W.heap.size ≤ kp ∧ Below W.heap.size W wx)
      case first =>
        have HQb := HQ
        have HQ := HQ.drew
        refine region_round (S := fun w' => w'.cell? ⟨k0, 0, none⟩ = some (.int .i64 C.a) ∧ w'.cell? ⟨k0, 1, none⟩ = some (.int .i64 C.b) ∧ w'.cell? ⟨k0, 2, none⟩ = some (.int .i64 C.c) ∧ w'.cell? ⟨k0, 3, none⟩ = some (.int .i64 C.d) ∧ w'.cell? ⟨k0, 4, none⟩ = some (.bool C.e) ∧ w'.cell? ⟨k0, 5, none⟩ = some (.int .i64 C.f) ∧ w'.cell? ⟨k0, 6, none⟩ = some (.int .i64 C.g) ∧ w'.cell? ⟨k1, 0, none⟩ = some (.int .i64 P.p0) ∧ w'.cell? ⟨k1, 1, none⟩ = some (.int .i64 P.p1) ∧ w'.cell? ⟨k1, 2, none⟩ = some (.int .i64 P.p2) ∧ w'.cell? ⟨k1, 3, none⟩ = some (.int .i64 P.p3) ∧ w'.cell? ⟨k1, 4, none⟩ = some (.int .i64 P.p4) ∧ w'.cell? ⟨k1, 5, none⟩ = some (.int .i64 P.p5) ∧ w'.cell? ⟨k1, 6, none⟩ = some (.int .i64 P.p6) ∧ w'.cell? ⟨k1, 7, none⟩ = some (.int .i64 P.p7) ∧ w'.cell? ⟨k1, 8, none⟩ = some (.int .i64 P.p8) ∧ w'.cell? ⟨k1, 9, none⟩ = some (.int .i64 P.x) ∧ w'.cell? ⟨k1, 10, none⟩ = some (.int .i64 P.y) ∧ w'.cell? ⟨k1, 11, none⟩ = some (.int .i64 P.z) ∧ w'.cell? ⟨bn, 0, none⟩ = some (.int .i64 n)) (by kernel_rfl) (by rintro ⟨a, w, h⟩; exact h) (by kernel_rfl) (HC _ HQ) (fun hHeld => ?_)
        refine wpAnyH_take (i := 0) (oi := { dst := some 38, op := Op.load 24 (Operand.tmp 3), type := 24, pos := "l10_dice.go:26", after := #[], guard := none }) (v := ?_) rfl (by kernel_rfl) (by kernel_rfl) (by kernel_rfl) (fun _ _ _ h => h) (Or.inl ⟨by rfl, ?_⟩) (by assumption) ?_
        rotate_left 1
        · (intro w hSw; (try dsimp only at hSw); go_simp <;> with_reducible rfl)
        (try simp only [Act.put, List.setIfInBounds_toArray, List.set_cons_zero, List.set_cons_succ])
        refine wpAnyH_take (i := 1) (oi := { dst := some 39, op := Op.load 30 (Operand.tmp 4), type := 30, pos := "l10_dice.go:26", after := #[], guard := none }) (v := ?_) rfl (by kernel_rfl) (by kernel_rfl) (by kernel_rfl) (fun _ _ _ h => h) (Or.inl ⟨by rfl, ?_⟩) (by assumption) ?_
        rotate_left 1
        · (intro w hSw; (try dsimp only at hSw); go_simp <;> with_reducible rfl)
        (try simp only [Act.put, List.setIfInBounds_toArray, List.set_cons_zero, List.set_cons_succ])
        refine wpAnyH_take (i := 2) (oi := { dst := some 40, op := Op.move (Operand.tmp 10), type := 3, pos := "l10_dice.go:26", after := #[], guard := none }) (v := ?_) rfl (by kernel_rfl) (by kernel_rfl) (by kernel_rfl) (fun _ _ _ h => h) (Or.inl ⟨by rfl, ?_⟩) (by assumption) ?_
        rotate_left 1
        · (intro w hSw; (try dsimp only at hSw); go_simp <;> with_reducible rfl)
        (try simp only [Act.put, List.setIfInBounds_toArray, List.set_cons_zero, List.set_cons_succ])
        refine wpAnyH_take (i := 3) (oi := { dst := some 41, op := Op.move (Operand.tmp 11), type := 3, pos := "l10_dice.go:26", after := #[], guard := none }) (v := ?_) rfl (by kernel_rfl) (by kernel_rfl) (by kernel_rfl) (fun _ _ _ h => h) (Or.inl ⟨by rfl, ?_⟩) (by assumption) ?_
        rotate_left 1
        · (intro w hSw; (try dsimp only at hSw); go_simp <;> with_reducible rfl)
        (try simp only [Act.put, List.setIfInBounds_toArray, List.set_cons_zero, List.set_cons_succ])
        refine wpAnyH_take (i := 4) (oi := { dst := some 42, op := Op.load 3 (Operand.tmp 7), type := 3, pos := "l10_dice.go:26", after := #[], guard := none }) (v := ?_) rfl (by kernel_rfl) (by kernel_rfl) (by kernel_rfl) (fun _ _ _ h => h) (Or.inl ⟨by rfl, ?_⟩) (by assumption) ?_
        rotate_left 1
        · (intro w hSw; (try dsimp only at hSw); go_simp <;> with_reducible rfl)
        (try simp only [Act.put, List.setIfInBounds_toArray, List.set_cons_zero, List.set_cons_succ])
        refine wpAnyH_ready (rs := [5, 10]) (by kernel_rfl) (by simp) ?_
        refine AllReadyH.cons (o := { dst := some 43, op := Op.call { callee := Callee.value (Operand.func 42), args := #[Operand.tmp 39, Operand.tmp 40, Operand.tmp 41, Operand.tmp 42], argTypes := #[30, 3, 3, 3] }, type := 27, pos := "l10_dice.go:26", after := #[{ on := 1, ground := Ground.data }, { on := 2, ground := Ground.data }, { on := 3, ground := Ground.data }, { on := 4, ground := Ground.data }], guard := none }) rfl (fun K hK => ?_) ?_
        · go_simp
          (with_reducible refine (HE.out _).mono ?_)
          rintro e w1 ⟨rfl, hb1⟩
          have HQ := HQ.later hb1
          clear hb1
          (try go_wp2_with fail)
          refine hK.out _ _ (by (try dsimp only); (first | with_reducible exact HC _ HQ | with_reducible exact HC _ HQ.tail)) (fun hHeld => ?_)
          clear hK K
          (try simp only [Act.put, List.setIfInBounds_toArray, List.set_cons_zero, List.set_cons_succ])
          refine wpAnyH_ready (rs := [6, 10]) (by kernel_rfl) (by simp) ?_
          refine AllReadyH.cons (o := { dst := some 44, op := Op.call { callee := Callee.value (Operand.func 41), args := #[Operand.tmp 38, Operand.tmp 43, Operand.const (Value.int IntKind.i64 0), Operand.const (Value.int IntKind.i64 0)], argTypes := #[24, 27, 3, 3] }, type := 82, pos := "l10_dice.go:26", after := #[{ on := 0, ground := Ground.data }, { on := 5, ground := Ground.data }, { on := 5, ground := Ground.chain }], guard := none }) rfl (fun K hK => ?_) ?_
          · go_simp
            (with_reducible refine (HJ.out _).mono ?_)
            rintro e w2 ⟨rfl, hb2⟩
            have HQ := HQ.later hb2
            clear hb2
            (try go_wp2_with fail)
            refine hK.out _ _ (by (try dsimp only); (first | with_reducible exact HC _ HQ | with_reducible exact HC _ HQ.tail)) (fun hHeld => ?_)
            clear hK K
            (try simp only [Act.put, List.setIfInBounds_toArray, List.set_cons_zero, List.set_cons_succ])
            refine wpAnyH_take (i := 7) (oi := { dst := some 37, op := Op.move (Operand.tmp 44), type := 82, pos := "l10_dice.go:26", after := #[{ on := 6, ground := Ground.data }], guard := none }) (v := ?_) rfl (by kernel_rfl) (by kernel_rfl) (by kernel_rfl) (fun _ _ _ h => h) (Or.inl ⟨by rfl, ?_⟩) (by assumption) ?_
            rotate_left 1
            · (intro w hSw; (try dsimp only at hSw); go_simp <;> with_reducible rfl)
            (try simp only [Act.put, List.setIfInBounds_toArray, List.set_cons_zero, List.set_cons_succ])
            refine wpAnyH_take (i := 8) (oi := { dst := some 45, op := Op.extract (Operand.tmp 37) 0, type := 27, pos := "l10_dice.go:26", after := #[{ on := 7, ground := Ground.data }], guard := none }) (v := ?_) rfl (by kernel_rfl) (by kernel_rfl) (by kernel_rfl) (fun _ _ _ h => h) (Or.inl ⟨by rfl, ?_⟩) (by assumption) ?_
            rotate_left 1
            · (intro w hSw; (try dsimp only at hSw); go_simp <;> with_reducible rfl)
            (try simp only [Act.put, List.setIfInBounds_toArray, List.set_cons_zero, List.set_cons_succ])
            refine wpAnyH_take (i := 9) (oi := { dst := some 46, op := Op.extract (Operand.tmp 37) 1, type := 4, pos := "l10_dice.go:26", after := #[{ on := 7, ground := Ground.data }, { on := 11, ground := Ground.gcOnly Departure.lateStores }], guard := none }) (v := ?_) rfl (by kernel_rfl) (by kernel_rfl) (by kernel_rfl) (fun _ _ _ h => h) (Or.inl ⟨by rfl, ?_⟩) (by assumption) ?_
            rotate_left 1
            · (intro w hSw; (try dsimp only at hSw); go_simp <;> with_reducible rfl)
            (try simp only [Act.put, List.setIfInBounds_toArray, List.set_cons_zero, List.set_cons_succ])
            refine wpAnyH_ready (rs := [10]) (by kernel_rfl) (by simp) ?_
            refine AllReadyH.cons (o := { dst := some 12, op := Op.alloc 27, type := 0, pos := "l10_dice.go:26", after := #[], guard := none }) rfl (fun K hK => ?_) ?_
            · have hN := Lib.hid HQ.size
              have HPre := HQ
              go_simp
              first | (refine hK.out _ _ (by (try dsimp only); with_reducible exact HC _ (HQ.new #[.int .i64 0, .int .i64 0, .int .i64 0] 27).tail) (fun hHeld => ?_); have HQ := HQ.new #[.int .i64 0, .int .i64 0, .int .i64 0] 27) | (refine hK.out _ _ (by (try dsimp only); with_reducible exact HC _ (HQb.new #[.int .i64 0, .int .i64 0, .int .i64 0] 27).drew.tail) (fun hHeld => ?_); have HQ := (HQb.new #[.int .i64 0, .int .i64 0, .int .i64 0] 27).drew)
              clear hK K
              (try simp only [Act.put, List.setIfInBounds_toArray, List.set_cons_zero, List.set_cons_succ])
              refine wpAnyH_ready (rs := [11]) (by kernel_rfl) (by simp) ?_
              refine AllReadyH.cons (o := { dst := none, op := Op.store 27 (Operand.tmp 12) (Operand.tmp 45), type := 0, pos := "l10_dice.go:26", after := #[{ on := 10, ground := Ground.data }, { on := 8, ground := Ground.data }, { on := 6, ground := Ground.chain }, { on := 0, ground := Ground.phase }, { on := 1, ground := Ground.phase }, { on := 2, ground := Ground.phase }, { on := 3, ground := Ground.phase }, { on := 4, ground := Ground.phase }, { on := 5, ground := Ground.phase }, { on := 6, ground := Ground.phase }, { on := 7, ground := Ground.phase }, { on := 8, ground := Ground.phase }, { on := 9, ground := Ground.textOnly Departure.lateStores }, { on := 10, ground := Ground.phase }], guard := none }) rfl (fun K hK => ?_) ?_
              · have n0 := (HQ.box 0).c 0
                have n1 := (HQ.box 0).c 1
                have n2 := (HQ.box 0).c 2
                have g0' := (HQ.box 0).f 0
                have g1' := (HQ.box 0).f 1
                have g2' := (HQ.box 0).f 2
                go_simp
                clear n0 n1 n2 g0' g1' g2'
                have HX := HQ.put3 hN.out (fun p hp => Nat.ne_of_lt (Nat.lt_of_lt_of_le (HLW.out p hp) hN.out)) (.int .i64 zz.1) (.int .i64 zz.2.1) (.int .i64 zz.2.2)
                first | (refine hK.out _ _ (by (try dsimp only); with_reducible exact HC _ HX.tail) (fun hHeld => ?_); have HQ := HX) | (have HQ := HPre.new #[.int .i64 zz.1, .int .i64 zz.2.1, .int .i64 zz.2.2] 27; refine hK.out _ _ (by (try dsimp only); with_reducible exact HC _ HQ.tail) (fun hHeld => ?_))
                clear HPre HX
                clear hK K
                (try simp only [Act.put, List.setIfInBounds_toArray, List.set_cons_zero, List.set_cons_succ])
                refine wpAnyH_take (i := 12) (oi := { dst := some 13, op := Op.assign (Operand.tmp 46), type := 4, pos := "l10_dice.go:26", after := #[{ on := 9, ground := Ground.data }, { on := 11, ground := Ground.chain }, { on := 0, ground := Ground.phase }, { on := 1, ground := Ground.phase }, { on := 2, ground := Ground.phase }, { on := 3, ground := Ground.phase }, { on := 4, ground := Ground.phase }, { on := 5, ground := Ground.phase }, { on := 6, ground := Ground.phase }, { on := 7, ground := Ground.phase }, { on := 8, ground := Ground.phase }, { on := 9, ground := Ground.phase }, { on := 10, ground := Ground.phase }, { on := 11, ground := Ground.phase }], guard := none }) (v := ?_) rfl (by kernel_rfl) (by kernel_rfl) (by kernel_rfl) (fun _ _ _ h => h) (Or.inl ⟨by rfl, ?_⟩) (by assumption) ?_
                rotate_left 1
                · (intro w hSw; (try dsimp only at hSw); go_simp <;> with_reducible rfl)
                (try simp only [Act.put, List.setIfInBounds_toArray, List.set_cons_zero, List.set_cons_succ])
                refine wpAnyH_done (by kernel_rfl) ?_ _
                clear hHeld
                gi_wp2
                gi_meet
                exact ⟨_, rfl, rfl, HQ.box 0, hN.out, HQ.below⟩
              exact AllReadyH.nil
            exact AllReadyH.nil
          refine AllReadyH.cons (o := { dst := some 12, op := Op.alloc 27, type := 0, pos := "l10_dice.go:26", after := #[], guard := none }) rfl (fun K hK => ?_) ?_
          · have hN := Lib.hid HQ.size
            have HPre := HQ
            go_simp
            first | (refine hK.out _ _ (by (try dsimp only); with_reducible exact HC _ (HQ.new #[.int .i64 0, .int .i64 0, .int .i64 0] 27).tail) (fun hHeld => ?_); have HQ := HQ.new #[.int .i64 0, .int .i64 0, .int .i64 0] 27) | (refine hK.out _ _ (by (try dsimp only); with_reducible exact HC _ (HQb.new #[.int .i64 0, .int .i64 0, .int .i64 0] 27).drew.tail) (fun hHeld => ?_); have HQ := (HQb.new #[.int .i64 0, .int .i64 0, .int .i64 0] 27).drew)
            clear hK K
            (try simp only [Act.put, List.setIfInBounds_toArray, List.set_cons_zero, List.set_cons_succ])
            refine wpAnyH_ready (rs := [6]) (by kernel_rfl) (by simp) ?_
            refine AllReadyH.cons (o := { dst := some 44, op := Op.call { callee := Callee.value (Operand.func 41), args := #[Operand.tmp 38, Operand.tmp 43, Operand.const (Value.int IntKind.i64 0), Operand.const (Value.int IntKind.i64 0)], argTypes := #[24, 27, 3, 3] }, type := 82, pos := "l10_dice.go:26", after := #[{ on := 0, ground := Ground.data }, { on := 5, ground := Ground.data }, { on := 5, ground := Ground.chain }], guard := none }) rfl (fun K hK => ?_) ?_
            · go_simp
              (with_reducible refine (HJ.out _).mono ?_)
              rintro e w2 ⟨rfl, hb2⟩
              have HQ := HQ.later hb2
              clear hb2
              (try go_wp2_with fail)
              refine hK.out _ _ (by (try dsimp only); (first | with_reducible exact HC _ HQ | with_reducible exact HC _ HQ.tail)) (fun hHeld => ?_)
              clear hK K
              (try simp only [Act.put, List.setIfInBounds_toArray, List.set_cons_zero, List.set_cons_succ])
              refine wpAnyH_take (i := 7) (oi := { dst := some 37, op := Op.move (Operand.tmp 44), type := 82, pos := "l10_dice.go:26", after := #[{ on := 6, ground := Ground.data }], guard := none }) (v := ?_) rfl (by kernel_rfl) (by kernel_rfl) (by kernel_rfl) (fun _ _ _ h => h) (Or.inl ⟨by rfl, ?_⟩) (by assumption) ?_
              rotate_left 1
              · (intro w hSw; (try dsimp only at hSw); go_simp <;> with_reducible rfl)
              (try simp only [Act.put, List.setIfInBounds_toArray, List.set_cons_zero, List.set_cons_succ])
              refine wpAnyH_take (i := 8) (oi := { dst := some 45, op := Op.extract (Operand.tmp 37) 0, type := 27, pos := "l10_dice.go:26", after := #[{ on := 7, ground := Ground.data }], guard := none }) (v := ?_) rfl (by kernel_rfl) (by kernel_rfl) (by kernel_rfl) (fun _ _ _ h => h) (Or.inl ⟨by rfl, ?_⟩) (by assumption) ?_
              rotate_left 1
              · (intro w hSw; (try dsimp only at hSw); go_simp <;> with_reducible rfl)
              (try simp only [Act.put, List.setIfInBounds_toArray, List.set_cons_zero, List.set_cons_succ])
              refine wpAnyH_take (i := 9) (oi := { dst := some 46, op := Op.extract (Operand.tmp 37) 1, type := 4, pos := "l10_dice.go:26", after := #[{ on := 7, ground := Ground.data }, { on := 11, ground := Ground.gcOnly Departure.lateStores }], guard := none }) (v := ?_) rfl (by kernel_rfl) (by kernel_rfl) (by kernel_rfl) (fun _ _ _ h => h) (Or.inl ⟨by rfl, ?_⟩) (by assumption) ?_
              rotate_left 1
              · (intro w hSw; (try dsimp only at hSw); go_simp <;> with_reducible rfl)
              (try simp only [Act.put, List.setIfInBounds_toArray, List.set_cons_zero, List.set_cons_succ])
              refine wpAnyH_ready (rs := [11]) (by kernel_rfl) (by simp) ?_
              refine AllReadyH.cons (o := { dst := none, op := Op.store 27 (Operand.tmp 12) (Operand.tmp 45), type := 0, pos := "l10_dice.go:26", after := #[{ on := 10, ground := Ground.data }, { on := 8, ground := Ground.data }, { on := 6, ground := Ground.chain }, { on := 0, ground := Ground.phase }, { on := 1, ground := Ground.phase }, { on := 2, ground := Ground.phase }, { on := 3, ground := Ground.phase }, { on := 4, ground := Ground.phase }, { on := 5, ground := Ground.phase }, { on := 6, ground := Ground.phase }, { on := 7, ground := Ground.phase }, { on := 8, ground := Ground.phase }, { on := 9, ground := Ground.textOnly Departure.lateStores }, { on := 10, ground := Ground.phase }], guard := none }) rfl (fun K hK => ?_) ?_
              · have n0 := (HQ.box 0).c 0
                have n1 := (HQ.box 0).c 1
                have n2 := (HQ.box 0).c 2
                have g0' := (HQ.box 0).f 0
                have g1' := (HQ.box 0).f 1
                have g2' := (HQ.box 0).f 2
                go_simp
                clear n0 n1 n2 g0' g1' g2'
                have HX := HQ.put3 hN.out (fun p hp => Nat.ne_of_lt (Nat.lt_of_lt_of_le (HLW.out p hp) hN.out)) (.int .i64 zz.1) (.int .i64 zz.2.1) (.int .i64 zz.2.2)
                first | (refine hK.out _ _ (by (try dsimp only); with_reducible exact HC _ HX.tail) (fun hHeld => ?_); have HQ := HX) | (have HQ := HPre.new #[.int .i64 zz.1, .int .i64 zz.2.1, .int .i64 zz.2.2] 27; refine hK.out _ _ (by (try dsimp only); with_reducible exact HC _ HQ.tail) (fun hHeld => ?_))
                clear HPre HX
                clear hK K
                (try simp only [Act.put, List.setIfInBounds_toArray, List.set_cons_zero, List.set_cons_succ])
                refine wpAnyH_take (i := 12) (oi := { dst := some 13, op := Op.assign (Operand.tmp 46), type := 4, pos := "l10_dice.go:26", after := #[{ on := 9, ground := Ground.data }, { on := 11, ground := Ground.chain }, { on := 0, ground := Ground.phase }, { on := 1, ground := Ground.phase }, { on := 2, ground := Ground.phase }, { on := 3, ground := Ground.phase }, { on := 4, ground := Ground.phase }, { on := 5, ground := Ground.phase }, { on := 6, ground := Ground.phase }, { on := 7, ground := Ground.phase }, { on := 8, ground := Ground.phase }, { on := 9, ground := Ground.phase }, { on := 10, ground := Ground.phase }, { on := 11, ground := Ground.phase }], guard := none }) (v := ?_) rfl (by kernel_rfl) (by kernel_rfl) (by kernel_rfl) (fun _ _ _ h => h) (Or.inl ⟨by rfl, ?_⟩) (by assumption) ?_
                rotate_left 1
                · (intro w hSw; (try dsimp only at hSw); go_simp <;> with_reducible rfl)
                (try simp only [Act.put, List.setIfInBounds_toArray, List.set_cons_zero, List.set_cons_succ])
                refine wpAnyH_done (by kernel_rfl) ?_ _
                clear hHeld
                gi_wp2
                gi_meet
                exact ⟨_, rfl, rfl, HQ.box 0, hN.out, HQ.below⟩
              exact AllReadyH.nil
            exact AllReadyH.nil
          exact AllReadyH.nil
        refine AllReadyH.cons (o := { dst := some 12, op := Op.alloc 27, type := 0, pos := "l10_dice.go:26", after := #[], guard := none }) rfl (fun K hK => ?_) ?_
        · have hN := Lib.hid HQ.size
          have HPre := HQ
          go_simp
          first | (refine hK.out _ _ (by (try dsimp only); with_reducible exact HC _ (HQ.new #[.int .i64 0, .int .i64 0, .int .i64 0] 27).tail) (fun hHeld => ?_); have HQ := HQ.new #[.int .i64 0, .int .i64 0, .int .i64 0] 27) | (refine hK.out _ _ (by (try dsimp only); with_reducible exact HC _ (HQb.new #[.int .i64 0, .int .i64 0, .int .i64 0] 27).drew.tail) (fun hHeld => ?_); have HQ := (HQb.new #[.int .i64 0, .int .i64 0, .int .i64 0] 27).drew)
          clear hK K
          (try simp only [Act.put, List.setIfInBounds_toArray, List.set_cons_zero, List.set_cons_succ])
          refine wpAnyH_ready (rs := [5]) (by kernel_rfl) (by simp) ?_
          refine AllReadyH.cons (o := { dst := some 43, op := Op.call { callee := Callee.value (Operand.func 42), args := #[Operand.tmp 39, Operand.tmp 40, Operand.tmp 41, Operand.tmp 42], argTypes := #[30, 3, 3, 3] }, type := 27, pos := "l10_dice.go:26", after := #[{ on := 1, ground := Ground.data }, { on := 2, ground := Ground.data }, { on := 3, ground := Ground.data }, { on := 4, ground := Ground.data }], guard := none }) rfl (fun K hK => ?_) ?_
          · go_simp
            (with_reducible refine (HE.out _).mono ?_)
            rintro e w1 ⟨rfl, hb1⟩
            have HQ := HQ.later hb1
            clear hb1
            (try go_wp2_with fail)
            refine hK.out _ _ (by (try dsimp only); (first | with_reducible exact HC _ HQ | with_reducible exact HC _ HQ.tail)) (fun hHeld => ?_)
            clear hK K
            (try simp only [Act.put, List.setIfInBounds_toArray, List.set_cons_zero, List.set_cons_succ])
            refine wpAnyH_ready (rs := [6]) (by kernel_rfl) (by simp) ?_
            refine AllReadyH.cons (o := { dst := some 44, op := Op.call { callee := Callee.value (Operand.func 41), args := #[Operand.tmp 38, Operand.tmp 43, Operand.const (Value.int IntKind.i64 0), Operand.const (Value.int IntKind.i64 0)], argTypes := #[24, 27, 3, 3] }, type := 82, pos := "l10_dice.go:26", after := #[{ on := 0, ground := Ground.data }, { on := 5, ground := Ground.data }, { on := 5, ground := Ground.chain }], guard := none }) rfl (fun K hK => ?_) ?_
            · go_simp
              (with_reducible refine (HJ.out _).mono ?_)
              rintro e w2 ⟨rfl, hb2⟩
              have HQ := HQ.later hb2
              clear hb2
              (try go_wp2_with fail)
              refine hK.out _ _ (by (try dsimp only); (first | with_reducible exact HC _ HQ | with_reducible exact HC _ HQ.tail)) (fun hHeld => ?_)
              clear hK K
              (try simp only [Act.put, List.setIfInBounds_toArray, List.set_cons_zero, List.set_cons_succ])
              refine wpAnyH_take (i := 7) (oi := { dst := some 37, op := Op.move (Operand.tmp 44), type := 82, pos := "l10_dice.go:26", after := #[{ on := 6, ground := Ground.data }], guard := none }) (v := ?_) rfl (by kernel_rfl) (by kernel_rfl) (by kernel_rfl) (fun _ _ _ h => h) (Or.inl ⟨by rfl, ?_⟩) (by assumption) ?_
              rotate_left 1
              · (intro w hSw; (try dsimp only at hSw); go_simp <;> with_reducible rfl)
              (try simp only [Act.put, List.setIfInBounds_toArray, List.set_cons_zero, List.set_cons_succ])
              refine wpAnyH_take (i := 8) (oi := { dst := some 45, op := Op.extract (Operand.tmp 37) 0, type := 27, pos := "l10_dice.go:26", after := #[{ on := 7, ground := Ground.data }], guard := none }) (v := ?_) rfl (by kernel_rfl) (by kernel_rfl) (by kernel_rfl) (fun _ _ _ h => h) (Or.inl ⟨by rfl, ?_⟩) (by assumption) ?_
              rotate_left 1
              · (intro w hSw; (try dsimp only at hSw); go_simp <;> with_reducible rfl)
              (try simp only [Act.put, List.setIfInBounds_toArray, List.set_cons_zero, List.set_cons_succ])
              refine wpAnyH_take (i := 9) (oi := { dst := some 46, op := Op.extract (Operand.tmp 37) 1, type := 4, pos := "l10_dice.go:26", after := #[{ on := 7, ground := Ground.data }, { on := 11, ground := Ground.gcOnly Departure.lateStores }], guard := none }) (v := ?_) rfl (by kernel_rfl) (by kernel_rfl) (by kernel_rfl) (fun _ _ _ h => h) (Or.inl ⟨by rfl, ?_⟩) (by assumption) ?_
              rotate_left 1
              · (intro w hSw; (try dsimp only at hSw); go_simp <;> with_reducible rfl)
              (try simp only [Act.put, List.setIfInBounds_toArray, List.set_cons_zero, List.set_cons_succ])
              refine wpAnyH_ready (rs := [11]) (by kernel_rfl) (by simp) ?_
              refine AllReadyH.cons (o := { dst := none, op := Op.store 27 (Operand.tmp 12) (Operand.tmp 45), type := 0, pos := "l10_dice.go:26", after := #[{ on := 10, ground := Ground.data }, { on := 8, ground := Ground.data }, { on := 6, ground := Ground.chain }, { on := 0, ground := Ground.phase }, { on := 1, ground := Ground.phase }, { on := 2, ground := Ground.phase }, { on := 3, ground := Ground.phase }, { on := 4, ground := Ground.phase }, { on := 5, ground := Ground.phase }, { on := 6, ground := Ground.phase }, { on := 7, ground := Ground.phase }, { on := 8, ground := Ground.phase }, { on := 9, ground := Ground.textOnly Departure.lateStores }, { on := 10, ground := Ground.phase }], guard := none }) rfl (fun K hK => ?_) ?_
              · have n0 := (HQ.box 0).c 0
                have n1 := (HQ.box 0).c 1
                have n2 := (HQ.box 0).c 2
                have g0' := (HQ.box 0).f 0
                have g1' := (HQ.box 0).f 1
                have g2' := (HQ.box 0).f 2
                go_simp
                clear n0 n1 n2 g0' g1' g2'
                have HX := HQ.put3 hN.out (fun p hp => Nat.ne_of_lt (Nat.lt_of_lt_of_le (HLW.out p hp) hN.out)) (.int .i64 zz.1) (.int .i64 zz.2.1) (.int .i64 zz.2.2)
                first | (refine hK.out _ _ (by (try dsimp only); with_reducible exact HC _ HX.tail) (fun hHeld => ?_); have HQ := HX) | (have HQ := HPre.new #[.int .i64 zz.1, .int .i64 zz.2.1, .int .i64 zz.2.2] 27; refine hK.out _ _ (by (try dsimp only); with_reducible exact HC _ HQ.tail) (fun hHeld => ?_))
                clear HPre HX
                clear hK K
                (try simp only [Act.put, List.setIfInBounds_toArray, List.set_cons_zero, List.set_cons_succ])
                refine wpAnyH_take (i := 12) (oi := { dst := some 13, op := Op.assign (Operand.tmp 46), type := 4, pos := "l10_dice.go:26", after := #[{ on := 9, ground := Ground.data }, { on := 11, ground := Ground.chain }, { on := 0, ground := Ground.phase }, { on := 1, ground := Ground.phase }, { on := 2, ground := Ground.phase }, { on := 3, ground := Ground.phase }, { on := 4, ground := Ground.phase }, { on := 5, ground := Ground.phase }, { on := 6, ground := Ground.phase }, { on := 7, ground := Ground.phase }, { on := 8, ground := Ground.phase }, { on := 9, ground := Ground.phase }, { on := 10, ground := Ground.phase }, { on := 11, ground := Ground.phase }], guard := none }) (v := ?_) rfl (by kernel_rfl) (by kernel_rfl) (by kernel_rfl) (fun _ _ _ h => h) (Or.inl ⟨by rfl, ?_⟩) (by assumption) ?_
                rotate_left 1
                · (intro w hSw; (try dsimp only at hSw); go_simp <;> with_reducible rfl)
                (try simp only [Act.put, List.setIfInBounds_toArray, List.set_cons_zero, List.set_cons_succ])
                refine wpAnyH_done (by kernel_rfl) ?_ _
                clear hHeld
                gi_wp2
                gi_meet
                exact ⟨_, rfl, rfl, HQ.box 0, hN.out, HQ.below⟩
              exact AllReadyH.nil
            exact AllReadyH.nil
          exact AllReadyH.nil
        exact AllReadyH.nil
      case rest =>
        obtain ⟨kp, rfl, rfl, HV, hkp, hbw⟩ := hcut
        have HR := (RH.start (B := 0) HTT.out).later hbw
        have HT : RH 0 w W wc ((kp, [.int .i64 zz.1, .int .i64 zz.2.1, .int .i64 zz.2.2]) :: (kq, [v]) :: (kN, [.int .i64 s]) :: (ks, [.int .i64 s]) :: (bn, [.int .i64 n]) :: [(k2, [.int .i64 m]), (k1, [.int .i64 P.p0, .int .i64 P.p1, .int .i64 P.p2, .int .i64 P.p3, .int .i64 P.p4, .int .i64 P.p5, .int .i64 P.p6, .int .i64 P.p7, .int .i64 P.p8, .int .i64 P.x, .int .i64 P.y, .int .i64 P.z]), (k0, [.int .i64 C.a, .int .i64 C.b, .int .i64 C.c, .int .i64 C.d, .bool C.e, .int .i64 C.f, .int .i64 C.g])]) := ⟨HR.held.cons HV, HR.keep⟩
        have HO2 := Lib.hid (own_keep' HO.out hbw)
        have HSZ2 := Lib.hid (Nat.le_trans HSZ.out hbw.size)
        have HKP := Lib.hid (show W0.heap.size ≤ kp from Nat.le_trans HSZ.out hkp)
        clear HR HV hkp hbw HC HQ HE HJ HTT HO HLW
        rcases kk with _ | _
        · have hno := went_not C P m n c r HCR.out.1 HCR.out.2 (by unfold stepOk; rw [← HKK.out]; rfl)
          gi_wp2
          exact ⟨keepsMono HT.keep, rfl, hno, HT.held.pick (by simp), Nat.le_trans HSZ.out HT.keep.size, HM.out.keep HT.keep⟩
        · have hzz : zz = gV C P 0 0 n (c : Int) (r : Int) := HZZ.out
          have HZS : Hid (onS zz) := Lib.hid (by rw [hzz]; exact gV_on ..)
          have HZE := Lib.hid hzz
          obtain ⟨nc, enc⟩ : ∃ b, b = (c == 0 || near m zz (gV C P 0 0 n ((c : Int) - 1) (r : Int))) := ⟨_, rfl⟩
          obtain ⟨nr, enr⟩ : ∃ b, b = (r == 0 || near m zz (gV C P 0 0 n (c : Int) ((r : Int) - 1))) := ⟨_, rfl⟩
          have HST : Hid (stepOk C P m n c r = (nc && nr)) := Lib.hid (by unfold stepOk; rw [← HKK.out, ← hzz, enc, enr]; rfl)
          have Enc := Lib.hid enc
          have Enr := Lib.hid enr
          have HT2 := Lib.hid HT
          clear hzz HT enc enr
          gi_upto_region 13 with fail
          gi_cut [62] from 49 (fun x wx => x = .bool (!nc) ∧ Below wc.heap.size wc wx)
          case first =>
            have HQ := Held.nil wc
            rcases Nat.eq_zero_or_pos c with h | h
            · have HNB : Hid (nc = true) := Lib.hid (by rw [Enc.out, h]; rfl)
              have hd : decide ((0 : Int) < (c : Int)) = false := decide_eq_false (by omega)
              have hd' : ¬ ((0 : Int) < (c : Int)) := by omega
              have HC2 : ∀ W', Below wc.heap.size wc W' → True := fun _ _ => trivial
              have Hh := Lib.hid h
              clear h
              have HQ := HQ.drew
              refine region_round (S := fun _ => True) (by kernel_rfl) (by rintro ⟨a, w, h⟩; exact h) (by kernel_rfl) trivial (fun hHeld => ?_)
              refine wpAnyH_take (i := 0) (oi := { dst := some 49, op := Op.move (Operand.tmp 10), type := 3, pos := "l10_dice.go:30", after := #[], guard := none }) (v := ?_) rfl (by kernel_rfl) (by kernel_rfl) (by kernel_rfl) (fun _ _ _ h => h) (Or.inl ⟨by rfl, ?_⟩) (by assumption) ?_
              rotate_left 1
              · (intro w hSw; (try dsimp only at hSw); go_simp <;> with_reducible rfl)
              (try simp only [Act.put, List.setIfInBounds_toArray, List.set_cons_zero, List.set_cons_succ])
              refine wpAnyH_take (i := 1) (oi := { dst := some 50, op := Op.binOp BinOp.gtr 3 (Operand.tmp 49) (Operand.const (Value.int IntKind.i64 0)) 3, type := 4, pos := "l10_dice.go:30", after := #[{ on := 0, ground := Ground.data }], guard := none }) (v := .bool false) rfl (by kernel_rfl) (by kernel_rfl) (by kernel_rfl) (fun _ _ _ h => h) (Or.inl ⟨by rfl, ?_⟩) (by assumption) ?_
              · (intro w hSw; (try dsimp only at hSw); (go_simp; (try (first | exact Hh.out | (have h := Hh.out; omega)))))
              (try simp only [Act.put, List.setIfInBounds_toArray, List.set_cons_zero, List.set_cons_succ])
              refine wpAnyH_take (i := 2) (oi := { dst := some 51, op := Op.move (Operand.tmp 50), type := 4, pos := "l10_dice.go:30", after := #[{ on := 1, ground := Ground.data }], guard := none }) (v := ?_) rfl (by kernel_rfl) (by kernel_rfl) (by kernel_rfl) (fun _ _ _ h => h) (Or.inl ⟨by rfl, ?_⟩) (by assumption) ?_
              rotate_left 1
              · (intro w hSw; (try dsimp only at hSw); go_simp <;> with_reducible rfl)
              (try simp only [Act.put, List.setIfInBounds_toArray, List.set_cons_zero, List.set_cons_succ])
              refine wpAnyH_take (i := 3) (oi := { dst := some 52, op := Op.load 27 (Operand.tmp 12), type := 27, pos := "l10_dice.go:30", after := #[{ on := 2, ground := Ground.guard }], guard := some (2, true) }) (v := undef) rfl (by kernel_rfl) (by kernel_rfl) (by kernel_rfl) (fun _ _ _ h => h) (Or.inr ⟨by rfl, rfl⟩) (by assumption) ?_
              (try simp only [Act.put, List.setIfInBounds_toArray, List.set_cons_zero, List.set_cons_succ])
              refine wpAnyH_take (i := 4) (oi := { dst := some 53, op := Op.load 81 (Operand.tmp 9), type := 81, pos := "l10_dice.go:30", after := #[{ on := 2, ground := Ground.guard }], guard := some (2, true) }) (v := undef) rfl (by kernel_rfl) (by kernel_rfl) (by kernel_rfl) (fun _ _ _ h => h) (Or.inr ⟨by rfl, rfl⟩) (by assumption) ?_
              (try simp only [Act.put, List.setIfInBounds_toArray, List.set_cons_zero, List.set_cons_succ])
              refine wpAnyH_take (i := 5) (oi := { dst := some 54, op := Op.load 81 (Operand.tmp 9), type := 81, pos := "l10_dice.go:30", after := #[{ on := 2, ground := Ground.guard }], guard := some (2, true) }) (v := undef) rfl (by kernel_rfl) (by kernel_rfl) (by kernel_rfl) (fun _ _ _ h => h) (Or.inr ⟨by rfl, rfl⟩) (by assumption) ?_
              (try simp only [Act.put, List.setIfInBounds_toArray, List.set_cons_zero, List.set_cons_succ])
              refine wpAnyH_take (i := 6) (oi := { dst := some 55, op := Op.call { callee := Callee.builtin Builtin.len, args := #[Operand.tmp 54], argTypes := #[81] }, type := 3, pos := "l10_dice.go:30", after := #[{ on := 5, ground := Ground.data }, { on := 2, ground := Ground.guard }], guard := some (2, true) }) (v := undef) rfl (by kernel_rfl) (by kernel_rfl) (by kernel_rfl) (fun _ _ _ h => h) (Or.inr ⟨by rfl, rfl⟩) (by assumption) ?_
              (try simp only [Act.put, List.setIfInBounds_toArray, List.set_cons_zero, List.set_cons_succ])
              refine wpAnyH_take (i := 7) (oi := { dst := some 56, op := Op.binOp BinOp.sub 3 (Operand.tmp 55) (Operand.const (Value.int IntKind.i64 1)) 3, type := 3, pos := "l10_dice.go:30", after := #[{ on := 6, ground := Ground.data }, { on := 2, ground := Ground.guard }], guard := some (2, true) }) (v := undef) rfl (by kernel_rfl) (by kernel_rfl) (by kernel_rfl) (fun _ _ _ h => h) (Or.inr ⟨by rfl, rfl⟩) (by assumption) ?_
              (try simp only [Act.put, List.setIfInBounds_toArray, List.set_cons_zero, List.set_cons_succ])
              refine wpAnyH_take (i := 8) (oi := { dst := some 57, op := Op.indexAddr 81 (Operand.tmp 53) (Operand.tmp 56), type := 0, pos := "l10_dice.go:30", after := #[{ on := 4, ground := Ground.data }, { on := 7, ground := Ground.data }, { on := 2, ground := Ground.guard }], guard := some (2, true) }) (v := undef) rfl (by kernel_rfl) (by kernel_rfl) (by kernel_rfl) (fun _ _ _ h => h) (Or.inr ⟨by rfl, rfl⟩) (by assumption) ?_
              (try simp only [Act.put, List.setIfInBounds_toArray, List.set_cons_zero, List.set_cons_succ])
              refine wpAnyH_take (i := 9) (oi := { dst := some 58, op := Op.load 27 (Operand.tmp 57), type := 27, pos := "l10_dice.go:30", after := #[{ on := 8, ground := Ground.data }, { on := 2, ground := Ground.guard }], guard := some (2, true) }) (v := undef) rfl (by kernel_rfl) (by kernel_rfl) (by kernel_rfl) (fun _ _ _ h => h) (Or.inr ⟨by rfl, rfl⟩) (by assumption) ?_
              (try simp only [Act.put, List.setIfInBounds_toArray, List.set_cons_zero, List.set_cons_succ])
              refine wpAnyH_take (i := 10) (oi := { dst := some 59, op := Op.load 3 (Operand.tmp 5), type := 3, pos := "l10_dice.go:30", after := #[{ on := 2, ground := Ground.guard }], guard := some (2, true) }) (v := undef) rfl (by kernel_rfl) (by kernel_rfl) (by kernel_rfl) (fun _ _ _ h => h) (Or.inr ⟨by rfl, rfl⟩) (by assumption) ?_
              (try simp only [Act.put, List.setIfInBounds_toArray, List.set_cons_zero, List.set_cons_succ])
              refine wpAnyH_take (i := 11) (oi := { dst := some 60, op := Op.call { callee := Callee.value (Operand.func 43), args := #[Operand.tmp 52, Operand.tmp 58, Operand.tmp 59], argTypes := #[27, 27, 3] }, type := 4, pos := "l10_dice.go:30", after := #[{ on := 3, ground := Ground.data }, { on := 9, ground := Ground.data }, { on := 10, ground := Ground.data }, { on := 2, ground := Ground.chain }, { on := 2, ground := Ground.guard }], guard := some (2, true) }) (v := undef) rfl (by kernel_rfl) (by kernel_rfl) (by kernel_rfl) (fun _ _ _ h => h) (Or.inr ⟨by rfl, rfl⟩) (by assumption) ?_
              (try simp only [Act.put, List.setIfInBounds_toArray, List.set_cons_zero, List.set_cons_succ])
              refine wpAnyH_take (i := 12) (oi := { dst := some 61, op := Op.unOp UnOp.not 4 (Operand.tmp 60), type := 4, pos := "l10_dice.go:30", after := #[{ on := 11, ground := Ground.data }, { on := 2, ground := Ground.guard }], guard := some (2, true) }) (v := undef) rfl (by kernel_rfl) (by kernel_rfl) (by kernel_rfl) (fun _ _ _ h => h) (Or.inr ⟨by rfl, rfl⟩) (by assumption) ?_
              (try simp only [Act.put, List.setIfInBounds_toArray, List.set_cons_zero, List.set_cons_succ])
              refine wpAnyH_take (i := 13) (oi := { dst := some 62, op := Op.pick (Operand.tmp 51) (Operand.tmp 61) (Operand.const (Value.bool false)), type := 4, pos := "l10_dice.go:30", after := #[{ on := 2, ground := Ground.data }, { on := 12, ground := Ground.data }], guard := none }) (v := ?_) rfl (by kernel_rfl) (by kernel_rfl) (by kernel_rfl) (fun _ _ _ h => h) (Or.inl ⟨by rfl, ?_⟩) (by assumption) ?_
              rotate_left 1
              · (intro w hSw; (try dsimp only at hSw); go_simp <;> with_reducible rfl)
              (try simp only [Act.put, List.setIfInBounds_toArray, List.set_cons_zero, List.set_cons_succ])
              refine wpAnyH_done (by kernel_rfl) ?_ _
              clear hHeld
              gi_wp2
              gi_meet
              exact ⟨by first | rfl | (rw [HNB.out]; rfl) | (rw [HNB.out]), HQ.below⟩
            · obtain ⟨g0, cap, hv⟩ : ∃ g cap, v = .slice (some ⟨g, 0, none⟩) K0 cap := by
                rcases HO2.out.2 with ⟨_, h0⟩ | ⟨g, cap, cur, h, _⟩
                · exact absurd h0 (by have := HKE.out; skip; omega)
                · exact ⟨g, cap, h⟩
              subst hv
              obtain ⟨pv, epv⟩ : ∃ pv, pv = gV C P 0 0 n ((c : Int) - 1) (r : Int) := ⟨_, rfl⟩
              have HNB : Hid (nc = near m zz pv) := Lib.hid (by rw [Enc.out, epv, show (c == 0) = false from beq_false_of_ne (by omega)]; rfl)
              obtain ⟨ix, hix⟩ : ∃ ix, ix = s * r + (c - 1) := ⟨_, rfl⟩
              have hpt := ptsL_at C P n s K0 (c - 1) r (by have := HCR.out; have := HSN.out; omega) (by have := HKE.out; omega)
              rw [show ((c - 1 : Nat) : Int) = (c : Int) - 1 by omega] at hpt
              have hixk : (ix : Int) < (K0 : Int) := by rw [hix]; have := HKE.out; skip; omega
              have hix0 : (0 : Int) ≤ (ix : Int) := by omega
              have hpp : (ptsL C P n s K0)[ix]? = some pv := by rw [hix, epv]; exact hpt
              obtain ⟨p0, p1, p2⟩ := own_pt HO2.out hpp (ptsL_len ..)
              have HCL : Hid (∀ w, Calls Try.prog 43 #[v3v zz, v3v pv, .int .i64 m] w (BoolIs (near m zz pv) w)) := Lib.hid (fun w => isClose_any zz pv m HZS.out (by rw [epv]; exact gV_on ..) HMM.out w)
              have hlt0 : g0 < wc.heap.size := World.block_lt_of_cell? wc _ p0
              have HC2 : ∀ W', Below wc.heap.size wc W' → (W'.cell? ⟨kp, 0, none⟩ = some (.int .i64 zz.1) ∧ W'.cell? ⟨kp, 1, none⟩ = some (.int .i64 zz.2.1) ∧ W'.cell? ⟨kp, 2, none⟩ = some (.int .i64 zz.2.2) ∧ W'.cell? ⟨kq, 0, none⟩ = some (.slice (some ⟨g0, 0, none⟩) K0 cap) ∧ W'.cell? ⟨g0, ix * 3, none⟩ = some (.int .i64 pv.1) ∧ W'.cell? ⟨g0, ix * 3 + 1, none⟩ = some (.int .i64 pv.2.1) ∧ W'.cell? ⟨g0, ix * 3 + 2, none⟩ = some (.int .i64 pv.2.2) ∧ W'.cell? ⟨k2, 0, none⟩ = some (.int .i64 m) ∧ W'.cell? ⟨ks, 0, none⟩ = some (.int .i64 s)) := fun W' h => ⟨(h.cell (p := ⟨kp, 0, none⟩) (HT2.out.box 0).lt).trans ((HT2.out.box 0).c 0), (h.cell (p := ⟨kp, 1, none⟩) (HT2.out.box 0).lt).trans ((HT2.out.box 0).c 1), (h.cell (p := ⟨kp, 2, none⟩) (HT2.out.box 0).lt).trans ((HT2.out.box 0).c 2), (h.cell (p := ⟨kq, 0, none⟩) (HT2.out.box 1).lt).trans ((HT2.out.box 1).c 0), (h.cell (p := ⟨g0, ix * 3, none⟩) hlt0).trans p0, (h.cell (p := ⟨g0, ix * 3 + 1, none⟩) hlt0).trans p1, (h.cell (p := ⟨g0, ix * 3 + 2, none⟩) hlt0).trans p2, (h.cell (p := ⟨k2, 0, none⟩) (HT2.out.box 5).lt).trans ((HT2.out.box 5).c 0), (h.cell (p := ⟨ks, 0, none⟩) (HT2.out.box 3).lt).trans ((HT2.out.box 3).c 0)⟩
              have hd : decide ((0 : Int) < (c : Int)) = true := decide_eq_true (by omega)
              have hd' : (0 : Int) < (c : Int) := by omega
              have eix : (K0 : Int) - 1 = (ix : Int) := by rw [hix]; have := HKE.out; skip; omega
              have wix : IntKind.i64.wrap ((K0 : Int) - 1) = (ix : Int) := by rw [eix]; exact wrap_in (by have := HKB.out; omega)
              have Hh := Lib.hid h
              clear h hpt hpp hix epv p0 p1 p2 hlt0
              have wx : IntKind.i64.wrap (ix : Int) = (ix : Int) := wrap_in (by have := HKB.out; omega)
              have hHC := HC2 _ HQ.drew.below
              have HQ := HQ.drew
              refine region_round (S := fun w' => w'.cell? ⟨kp, 0, none⟩ = some (.int .i64 zz.1) ∧ w'.cell? ⟨kp, 1, none⟩ = some (.int .i64 zz.2.1) ∧ w'.cell? ⟨kp, 2, none⟩ = some (.int .i64 zz.2.2) ∧ w'.cell? ⟨kq, 0, none⟩ = some (.slice (some ⟨g0, 0, none⟩) K0 cap) ∧ w'.cell? ⟨g0, ix * 3, none⟩ = some (.int .i64 pv.1) ∧ w'.cell? ⟨g0, ix * 3 + 1, none⟩ = some (.int .i64 pv.2.1) ∧ w'.cell? ⟨g0, ix * 3 + 2, none⟩ = some (.int .i64 pv.2.2) ∧ w'.cell? ⟨k2, 0, none⟩ = some (.int .i64 m) ∧ w'.cell? ⟨ks, 0, none⟩ = some (.int .i64 s)) (by kernel_rfl) (by rintro ⟨a, w, h⟩; exact h) (by kernel_rfl) hHC (fun hHeld => ?_)
              clear hHC
              refine wpAnyH_take (i := 0) (oi := { dst := some 49, op := Op.move (Operand.tmp 10), type := 3, pos := "l10_dice.go:30", after := #[], guard := none }) (v := ?_) rfl (by kernel_rfl) (by kernel_rfl) (by kernel_rfl) (fun _ _ _ h => h) (Or.inl ⟨by rfl, ?_⟩) (by assumption) ?_
              rotate_left 1
              · (intro w hSw; (try dsimp only at hSw); go_simp <;> with_reducible rfl)
              (try simp only [Act.put, List.setIfInBounds_toArray, List.set_cons_zero, List.set_cons_succ])
              refine wpAnyH_take (i := 1) (oi := { dst := some 50, op := Op.binOp BinOp.gtr 3 (Operand.tmp 49) (Operand.const (Value.int IntKind.i64 0)) 3, type := 4, pos := "l10_dice.go:30", after := #[{ on := 0, ground := Ground.data }], guard := none }) (v := .bool true) rfl (by kernel_rfl) (by kernel_rfl) (by kernel_rfl) (fun _ _ _ h => h) (Or.inl ⟨by rfl, ?_⟩) (by assumption) ?_
              · (intro w hSw; (try dsimp only at hSw); (go_simp; (try (first | exact Hh.out | (have h := Hh.out; omega)))))
              (try simp only [Act.put, List.setIfInBounds_toArray, List.set_cons_zero, List.set_cons_succ])
              refine wpAnyH_take (i := 2) (oi := { dst := some 51, op := Op.move (Operand.tmp 50), type := 4, pos := "l10_dice.go:30", after := #[{ on := 1, ground := Ground.data }], guard := none }) (v := ?_) rfl (by kernel_rfl) (by kernel_rfl) (by kernel_rfl) (fun _ _ _ h => h) (Or.inl ⟨by rfl, ?_⟩) (by assumption) ?_
              rotate_left 1
              · (intro w hSw; (try dsimp only at hSw); go_simp <;> with_reducible rfl)
              (try simp only [Act.put, List.setIfInBounds_toArray, List.set_cons_zero, List.set_cons_succ])
              refine wpAnyH_take (i := 3) (oi := { dst := some 52, op := Op.load 27 (Operand.tmp 12), type := 27, pos := "l10_dice.go:30", after := #[{ on := 2, ground := Ground.guard }], guard := some (2, true) }) (v := ?_) rfl (by kernel_rfl) (by kernel_rfl) (by kernel_rfl) (fun _ _ _ h => h) (Or.inl ⟨by rfl, ?_⟩) (by assumption) ?_
              rotate_left 1
              · (intro w hSw; (try dsimp only at hSw); go_simp <;> with_reducible rfl)
              (try simp only [Act.put, List.setIfInBounds_toArray, List.set_cons_zero, List.set_cons_succ])
              refine wpAnyH_take (i := 4) (oi := { dst := some 53, op := Op.load 81 (Operand.tmp 9), type := 81, pos := "l10_dice.go:30", after := #[{ on := 2, ground := Ground.guard }], guard := some (2, true) }) (v := ?_) rfl (by kernel_rfl) (by kernel_rfl) (by kernel_rfl) (fun _ _ _ h => h) (Or.inl ⟨by rfl, ?_⟩) (by assumption) ?_
              rotate_left 1
              · (intro w hSw; (try dsimp only at hSw); go_simp <;> with_reducible rfl)
              (try simp only [Act.put, List.setIfInBounds_toArray, List.set_cons_zero, List.set_cons_succ])
              refine wpAnyH_take (i := 5) (oi := { dst := some 54, op := Op.load 81 (Operand.tmp 9), type := 81, pos := "l10_dice.go:30", after := #[{ on := 2, ground := Ground.guard }], guard := some (2, true) }) (v := ?_) rfl (by kernel_rfl) (by kernel_rfl) (by kernel_rfl) (fun _ _ _ h => h) (Or.inl ⟨by rfl, ?_⟩) (by assumption) ?_
              rotate_left 1
              · (intro w hSw; (try dsimp only at hSw); go_simp <;> with_reducible rfl)
              (try simp only [Act.put, List.setIfInBounds_toArray, List.set_cons_zero, List.set_cons_succ])
              refine wpAnyH_take (i := 6) (oi := { dst := some 55, op := Op.call { callee := Callee.builtin Builtin.len, args := #[Operand.tmp 54], argTypes := #[81] }, type := 3, pos := "l10_dice.go:30", after := #[{ on := 5, ground := Ground.data }, { on := 2, ground := Ground.guard }], guard := some (2, true) }) (v := ?_) rfl (by kernel_rfl) (by kernel_rfl) (by kernel_rfl) (fun _ _ _ h => h) (Or.inl ⟨by rfl, ?_⟩) (by assumption) ?_
              rotate_left 1
              · (intro w hSw; (try dsimp only at hSw); go_simp <;> with_reducible rfl)
              (try simp only [Act.put, List.setIfInBounds_toArray, List.set_cons_zero, List.set_cons_succ])
              refine wpAnyH_take (i := 7) (oi := { dst := some 56, op := Op.binOp BinOp.sub 3 (Operand.tmp 55) (Operand.const (Value.int IntKind.i64 1)) 3, type := 3, pos := "l10_dice.go:30", after := #[{ on := 6, ground := Ground.data }, { on := 2, ground := Ground.guard }], guard := some (2, true) }) (v := ?_) rfl (by kernel_rfl) (by kernel_rfl) (by kernel_rfl) (fun _ _ _ h => h) (Or.inl ⟨by rfl, ?_⟩) (by assumption) ?_
              rotate_left 1
              · (intro w hSw; (try dsimp only at hSw); go_simp <;> with_reducible rfl)
              (try simp only [Act.put, List.setIfInBounds_toArray, List.set_cons_zero, List.set_cons_succ])
              refine wpAnyH_take (i := 8) (oi := { dst := some 57, op := Op.indexAddr 81 (Operand.tmp 53) (Operand.tmp 56), type := 0, pos := "l10_dice.go:30", after := #[{ on := 4, ground := Ground.data }, { on := 7, ground := Ground.data }, { on := 2, ground := Ground.guard }], guard := some (2, true) }) (v := ?_) rfl (by kernel_rfl) (by kernel_rfl) (by kernel_rfl) (fun _ _ _ h => h) (Or.inl ⟨by rfl, ?_⟩) (by assumption) ?_
              rotate_left 1
              · (intro w hSw; (try dsimp only at hSw); go_simp <;> with_reducible rfl)
              (try simp only [Act.put, List.setIfInBounds_toArray, List.set_cons_zero, List.set_cons_succ])
              refine wpAnyH_take (i := 9) (oi := { dst := some 58, op := Op.load 27 (Operand.tmp 57), type := 27, pos := "l10_dice.go:30", after := #[{ on := 8, ground := Ground.data }, { on := 2, ground := Ground.guard }], guard := some (2, true) }) (v := ?_) rfl (by kernel_rfl) (by kernel_rfl) (by kernel_rfl) (fun _ _ _ h => h) (Or.inl ⟨by rfl, ?_⟩) (by assumption) ?_
              rotate_left 1
              · (intro w hSw; (try dsimp only at hSw); go_simp <;> with_reducible rfl)
              (try simp only [Act.put, List.setIfInBounds_toArray, List.set_cons_zero, List.set_cons_succ])
              refine wpAnyH_take (i := 10) (oi := { dst := some 59, op := Op.load 3 (Operand.tmp 5), type := 3, pos := "l10_dice.go:30", after := #[{ on := 2, ground := Ground.guard }], guard := some (2, true) }) (v := ?_) rfl (by kernel_rfl) (by kernel_rfl) (by kernel_rfl) (fun _ _ _ h => h) (Or.inl ⟨by rfl, ?_⟩) (by assumption) ?_
              rotate_left 1
              · (intro w hSw; (try dsimp only at hSw); go_simp <;> with_reducible rfl)
              (try simp only [Act.put, List.setIfInBounds_toArray, List.set_cons_zero, List.set_cons_succ])
              refine wpAnyH_ready (rs := [11]) (by kernel_rfl) (by simp) ?_
              refine AllReadyH.cons (o := { dst := some 60, op := Op.call { callee := Callee.value (Operand.func 43), args := #[Operand.tmp 52, Operand.tmp 58, Operand.tmp 59], argTypes := #[27, 27, 3] }, type := 4, pos := "l10_dice.go:30", after := #[{ on := 3, ground := Ground.data }, { on := 9, ground := Ground.data }, { on := 10, ground := Ground.data }, { on := 2, ground := Ground.chain }, { on := 2, ground := Ground.guard }], guard := some (2, true) }) rfl (fun K hK => ?_) ?_
              · go_simp
                (with_reducible refine (HCL.out _).mono ?_)
                rintro e w1 ⟨rfl, hb1⟩
                have HQ := HQ.later hb1
                clear hb1
                (try go_wp2_with fail)
                refine hK.out _ _ (by (try dsimp only); with_reducible exact HC2 _ HQ.below) (fun hHeld => ?_)
                clear hK K
                (try simp only [Act.put, List.setIfInBounds_toArray, List.set_cons_zero, List.set_cons_succ])
                refine wpAnyH_take (i := 12) (oi := { dst := some 61, op := Op.unOp UnOp.not 4 (Operand.tmp 60), type := 4, pos := "l10_dice.go:30", after := #[{ on := 11, ground := Ground.data }, { on := 2, ground := Ground.guard }], guard := some (2, true) }) (v := ?_) rfl (by kernel_rfl) (by kernel_rfl) (by kernel_rfl) (fun _ _ _ h => h) (Or.inl ⟨by rfl, ?_⟩) (by assumption) ?_
                rotate_left 1
                · (intro w hSw; (try dsimp only at hSw); go_simp <;> with_reducible rfl)
                (try simp only [Act.put, List.setIfInBounds_toArray, List.set_cons_zero, List.set_cons_succ])
                refine wpAnyH_take (i := 13) (oi := { dst := some 62, op := Op.pick (Operand.tmp 51) (Operand.tmp 61) (Operand.const (Value.bool false)), type := 4, pos := "l10_dice.go:30", after := #[{ on := 2, ground := Ground.data }, { on := 12, ground := Ground.data }], guard := none }) (v := ?_) rfl (by kernel_rfl) (by kernel_rfl) (by kernel_rfl) (fun _ _ _ h => h) (Or.inl ⟨by rfl, ?_⟩) (by assumption) ?_
                rotate_left 1
                · (intro w hSw; (try dsimp only at hSw); go_simp <;> with_reducible rfl)
                (try simp only [Act.put, List.setIfInBounds_toArray, List.set_cons_zero, List.set_cons_succ])
                refine wpAnyH_done (by kernel_rfl) ?_ _
                clear hHeld
                gi_wp2
                gi_meet
                exact ⟨by first | rfl | (rw [HNB.out]; rfl) | (rw [HNB.out]), HQ.below⟩
              exact AllReadyH.nil
          case rest =>
            obtain ⟨rfl, hbw⟩ := hcut
      
            have HT3 := Lib.hid (HT2.out.later hbw)
            have HO3 := Lib.hid (own_keep' HO2.out hbw)
            have HSZ3 := Lib.hid (Nat.le_trans HSZ2.out hbw.size)
            clear hbw HT2 HO2 HSZ2
            rcases nc with _ | _
            · have hno := went_not C P m n c r HCR.out.1 HCR.out.2 (by rw [HST.out]; rfl)
              have HT := HT3.out
              gi_wp2
              exact ⟨keepsMono HT.keep, rfl, hno, HT.held.pick (by simp), Nat.le_trans HSZ.out HT.keep.size, HM.out.keep HT.keep⟩
            · have HT2 := HT3
              have HO2 := HO3
              have HSZ2 := HSZ3
              clear HT3 HO3 HSZ3
              gi_upto_region 14 with fail
              gi_cut [77] from 63 (fun x wx => x = .bool (!nr) ∧ Below wc.heap.size wc wx)
              case first =>
                have HQ := Held.nil wc
                rcases Nat.eq_zero_or_pos r with h | h
                · have HNB : Hid (nr = true) := Lib.hid (by rw [Enr.out, h]; rfl)
                  have hd : decide ((0 : Int) < (r : Int)) = false := decide_eq_false (by omega)
                  have hd' : ¬ ((0 : Int) < (r : Int)) := by omega
                  have HC2 : ∀ W', Below wc.heap.size wc W' → True := fun _ _ => trivial
                  have Hh := Lib.hid h
                  clear h
                  have HQ := HQ.drew
                  refine region_round (S := fun _ => True) (by kernel_rfl) (by rintro ⟨a, w, h⟩; exact h) (by kernel_rfl) trivial (fun hHeld => ?_)
                  refine wpAnyH_take (i := 0) (oi := { dst := some 63, op := Op.move (Operand.tmp 11), type := 3, pos := "l10_dice.go:33", after := #[], guard := none }) (v := ?_) rfl (by kernel_rfl) (by kernel_rfl) (by kernel_rfl) (fun _ _ _ h => h) (Or.inl ⟨by rfl, ?_⟩) (by assumption) ?_
                  rotate_left 1
                  · (intro w hSw; (try dsimp only at hSw); go_simp <;> with_reducible rfl)
                  (try simp only [Act.put, List.setIfInBounds_toArray, List.set_cons_zero, List.set_cons_succ])
                  refine wpAnyH_take (i := 1) (oi := { dst := some 64, op := Op.binOp BinOp.gtr 3 (Operand.tmp 63) (Operand.const (Value.int IntKind.i64 0)) 3, type := 4, pos := "l10_dice.go:33", after := #[{ on := 0, ground := Ground.data }], guard := none }) (v := .bool false) rfl (by kernel_rfl) (by kernel_rfl) (by kernel_rfl) (fun _ _ _ h => h) (Or.inl ⟨by rfl, ?_⟩) (by assumption) ?_
                  · (intro w hSw; (try dsimp only at hSw); (go_simp; (try (first | exact Hh.out | (have h := Hh.out; omega)))))
                  (try simp only [Act.put, List.setIfInBounds_toArray, List.set_cons_zero, List.set_cons_succ])
                  refine wpAnyH_take (i := 2) (oi := { dst := some 65, op := Op.move (Operand.tmp 64), type := 4, pos := "l10_dice.go:33", after := #[{ on := 1, ground := Ground.data }], guard := none }) (v := ?_) rfl (by kernel_rfl) (by kernel_rfl) (by kernel_rfl) (fun _ _ _ h => h) (Or.inl ⟨by rfl, ?_⟩) (by assumption) ?_
                  rotate_left 1
                  · (intro w hSw; (try dsimp only at hSw); go_simp <;> with_reducible rfl)
                  (try simp only [Act.put, List.setIfInBounds_toArray, List.set_cons_zero, List.set_cons_succ])
                  refine wpAnyH_take (i := 3) (oi := { dst := some 66, op := Op.load 27 (Operand.tmp 12), type := 27, pos := "l10_dice.go:33", after := #[{ on := 2, ground := Ground.guard }], guard := some (2, true) }) (v := undef) rfl (by kernel_rfl) (by kernel_rfl) (by kernel_rfl) (fun _ _ _ h => h) (Or.inr ⟨by rfl, rfl⟩) (by assumption) ?_
                  (try simp only [Act.put, List.setIfInBounds_toArray, List.set_cons_zero, List.set_cons_succ])
                  refine wpAnyH_take (i := 4) (oi := { dst := some 67, op := Op.load 81 (Operand.tmp 9), type := 81, pos := "l10_dice.go:33", after := #[{ on := 2, ground := Ground.guard }], guard := some (2, true) }) (v := undef) rfl (by kernel_rfl) (by kernel_rfl) (by kernel_rfl) (fun _ _ _ h => h) (Or.inr ⟨by rfl, rfl⟩) (by assumption) ?_
                  (try simp only [Act.put, List.setIfInBounds_toArray, List.set_cons_zero, List.set_cons_succ])
                  refine wpAnyH_take (i := 5) (oi := { dst := some 68, op := Op.load 81 (Operand.tmp 9), type := 81, pos := "l10_dice.go:33", after := #[{ on := 2, ground := Ground.guard }], guard := some (2, true) }) (v := undef) rfl (by kernel_rfl) (by kernel_rfl) (by kernel_rfl) (fun _ _ _ h => h) (Or.inr ⟨by rfl, rfl⟩) (by assumption) ?_
                  (try simp only [Act.put, List.setIfInBounds_toArray, List.set_cons_zero, List.set_cons_succ])
                  refine wpAnyH_take (i := 6) (oi := { dst := some 69, op := Op.call { callee := Callee.builtin Builtin.len, args := #[Operand.tmp 68], argTypes := #[81] }, type := 3, pos := "l10_dice.go:33", after := #[{ on := 5, ground := Ground.data }, { on := 2, ground := Ground.guard }], guard := some (2, true) }) (v := undef) rfl (by kernel_rfl) (by kernel_rfl) (by kernel_rfl) (fun _ _ _ h => h) (Or.inr ⟨by rfl, rfl⟩) (by assumption) ?_
                  (try simp only [Act.put, List.setIfInBounds_toArray, List.set_cons_zero, List.set_cons_succ])
                  refine wpAnyH_take (i := 7) (oi := { dst := some 70, op := Op.load 3 (Operand.tmp 8), type := 3, pos := "l10_dice.go:33", after := #[{ on := 2, ground := Ground.guard }], guard := some (2, true) }) (v := undef) rfl (by kernel_rfl) (by kernel_rfl) (by kernel_rfl) (fun _ _ _ h => h) (Or.inr ⟨by rfl, rfl⟩) (by assumption) ?_
                  (try simp only [Act.put, List.setIfInBounds_toArray, List.set_cons_zero, List.set_cons_succ])
                  refine wpAnyH_take (i := 8) (oi := { dst := some 71, op := Op.binOp BinOp.sub 3 (Operand.tmp 69) (Operand.tmp 70) 3, type := 3, pos := "l10_dice.go:33", after := #[{ on := 6, ground := Ground.data }, { on := 7, ground := Ground.data }, { on := 2, ground := Ground.guard }], guard := some (2, true) }) (v := undef) rfl (by kernel_rfl) (by kernel_rfl) (by kernel_rfl) (fun _ _ _ h => h) (Or.inr ⟨by rfl, rfl⟩) (by assumption) ?_
                  (try simp only [Act.put, List.setIfInBounds_toArray, List.set_cons_zero, List.set_cons_succ])
                  refine wpAnyH_take (i := 9) (oi := { dst := some 72, op := Op.indexAddr 81 (Operand.tmp 67) (Operand.tmp 71), type := 0, pos := "l10_dice.go:33", after := #[{ on := 4, ground := Ground.data }, { on := 8, ground := Ground.data }, { on := 2, ground := Ground.guard }], guard := some (2, true) }) (v := undef) rfl (by kernel_rfl) (by kernel_rfl) (by kernel_rfl) (fun _ _ _ h => h) (Or.inr ⟨by rfl, rfl⟩) (by assumption) ?_
                  (try simp only [Act.put, List.setIfInBounds_toArray, List.set_cons_zero, List.set_cons_succ])
                  refine wpAnyH_take (i := 10) (oi := { dst := some 73, op := Op.load 27 (Operand.tmp 72), type := 27, pos := "l10_dice.go:33", after := #[{ on := 9, ground := Ground.data }, { on := 2, ground := Ground.guard }], guard := some (2, true) }) (v := undef) rfl (by kernel_rfl) (by kernel_rfl) (by kernel_rfl) (fun _ _ _ h => h) (Or.inr ⟨by rfl, rfl⟩) (by assumption) ?_
                  (try simp only [Act.put, List.setIfInBounds_toArray, List.set_cons_zero, List.set_cons_succ])
                  refine wpAnyH_take (i := 11) (oi := { dst := some 74, op := Op.load 3 (Operand.tmp 5), type := 3, pos := "l10_dice.go:33", after := #[{ on := 2, ground := Ground.guard }], guard := some (2, true) }) (v := undef) rfl (by kernel_rfl) (by kernel_rfl) (by kernel_rfl) (fun _ _ _ h => h) (Or.inr ⟨by rfl, rfl⟩) (by assumption) ?_
                  (try simp only [Act.put, List.setIfInBounds_toArray, List.set_cons_zero, List.set_cons_succ])
                  refine wpAnyH_take (i := 12) (oi := { dst := some 75, op := Op.call { callee := Callee.value (Operand.func 43), args := #[Operand.tmp 66, Operand.tmp 73, Operand.tmp 74], argTypes := #[27, 27, 3] }, type := 4, pos := "l10_dice.go:33", after := #[{ on := 3, ground := Ground.data }, { on := 10, ground := Ground.data }, { on := 11, ground := Ground.data }, { on := 2, ground := Ground.chain }, { on := 2, ground := Ground.guard }], guard := some (2, true) }) (v := undef) rfl (by kernel_rfl) (by kernel_rfl) (by kernel_rfl) (fun _ _ _ h => h) (Or.inr ⟨by rfl, rfl⟩) (by assumption) ?_
                  (try simp only [Act.put, List.setIfInBounds_toArray, List.set_cons_zero, List.set_cons_succ])
                  refine wpAnyH_take (i := 13) (oi := { dst := some 76, op := Op.unOp UnOp.not 4 (Operand.tmp 75), type := 4, pos := "l10_dice.go:33", after := #[{ on := 12, ground := Ground.data }, { on := 2, ground := Ground.guard }], guard := some (2, true) }) (v := undef) rfl (by kernel_rfl) (by kernel_rfl) (by kernel_rfl) (fun _ _ _ h => h) (Or.inr ⟨by rfl, rfl⟩) (by assumption) ?_
                  (try simp only [Act.put, List.setIfInBounds_toArray, List.set_cons_zero, List.set_cons_succ])
                  refine wpAnyH_take (i := 14) (oi := { dst := some 77, op := Op.pick (Operand.tmp 65) (Operand.tmp 76) (Operand.const (Value.bool false)), type := 4, pos := "l10_dice.go:33", after := #[{ on := 2, ground := Ground.data }, { on := 13, ground := Ground.data }], guard := none }) (v := ?_) rfl (by kernel_rfl) (by kernel_rfl) (by kernel_rfl) (fun _ _ _ h => h) (Or.inl ⟨by rfl, ?_⟩) (by assumption) ?_
                  rotate_left 1
                  · (intro w hSw; (try dsimp only at hSw); go_simp <;> with_reducible rfl)
                  (try simp only [Act.put, List.setIfInBounds_toArray, List.set_cons_zero, List.set_cons_succ])
                  refine wpAnyH_done (by kernel_rfl) ?_ _
                  clear hHeld
                  gi_wp2
                  gi_meet
                  exact ⟨by first | rfl | (rw [HNB.out]; rfl) | (rw [HNB.out]), HQ.below⟩
                · obtain ⟨g0, cap, hv⟩ : ∃ g cap, v = .slice (some ⟨g, 0, none⟩) K0 cap := by
                    rcases HO2.out.2 with ⟨_, h0⟩ | ⟨g, cap, cur, h, _⟩
                    · exact absurd h0 (by have := HKE.out; have := HSR.out (by omega); have := HSS.out; omega)
                    · exact ⟨g, cap, h⟩
                  subst hv
                  obtain ⟨pv, epv⟩ : ∃ pv, pv = gV C P 0 0 n (c : Int) ((r : Int) - 1) := ⟨_, rfl⟩
                  have HNB : Hid (nr = near m zz pv) := Lib.hid (by rw [Enr.out, epv, show (r == 0) = false from beq_false_of_ne (by omega)]; rfl)
                  obtain ⟨ix, hix⟩ : ∃ ix, ix = s * (r - 1) + c := ⟨_, rfl⟩
                  have hpt := ptsL_at C P n s K0 c (r - 1) (by have := HCR.out; have := HSN.out; omega) (by have := HKE.out; have := HSR.out (by omega); have := HSS.out; omega)
                  rw [show ((r - 1 : Nat) : Int) = (r : Int) - 1 by omega] at hpt
                  have hixk : (ix : Int) < (K0 : Int) := by rw [hix]; have := HKE.out; have := HSR.out (by omega); have := HSS.out; omega
                  have hix0 : (0 : Int) ≤ (ix : Int) := by omega
                  have hpp : (ptsL C P n s K0)[ix]? = some pv := by rw [hix, epv]; exact hpt
                  obtain ⟨p0, p1, p2⟩ := own_pt HO2.out hpp (ptsL_len ..)
                  have HCL : Hid (∀ w, Calls Try.prog 43 #[v3v zz, v3v pv, .int .i64 m] w (BoolIs (near m zz pv) w)) := Lib.hid (fun w => isClose_any zz pv m HZS.out (by rw [epv]; exact gV_on ..) HMM.out w)
                  have hlt0 : g0 < wc.heap.size := World.block_lt_of_cell? wc _ p0
                  have HC2 : ∀ W', Below wc.heap.size wc W' → (W'.cell? ⟨kp, 0, none⟩ = some (.int .i64 zz.1) ∧ W'.cell? ⟨kp, 1, none⟩ = some (.int .i64 zz.2.1) ∧ W'.cell? ⟨kp, 2, none⟩ = some (.int .i64 zz.2.2) ∧ W'.cell? ⟨kq, 0, none⟩ = some (.slice (some ⟨g0, 0, none⟩) K0 cap) ∧ W'.cell? ⟨g0, ix * 3, none⟩ = some (.int .i64 pv.1) ∧ W'.cell? ⟨g0, ix * 3 + 1, none⟩ = some (.int .i64 pv.2.1) ∧ W'.cell? ⟨g0, ix * 3 + 2, none⟩ = some (.int .i64 pv.2.2) ∧ W'.cell? ⟨k2, 0, none⟩ = some (.int .i64 m) ∧ W'.cell? ⟨ks, 0, none⟩ = some (.int .i64 s)) := fun W' h => ⟨(h.cell (p := ⟨kp, 0, none⟩) (HT2.out.box 0).lt).trans ((HT2.out.box 0).c 0), (h.cell (p := ⟨kp, 1, none⟩) (HT2.out.box 0).lt).trans ((HT2.out.box 0).c 1), (h.cell (p := ⟨kp, 2, none⟩) (HT2.out.box 0).lt).trans ((HT2.out.box 0).c 2), (h.cell (p := ⟨kq, 0, none⟩) (HT2.out.box 1).lt).trans ((HT2.out.box 1).c 0), (h.cell (p := ⟨g0, ix * 3, none⟩) hlt0).trans p0, (h.cell (p := ⟨g0, ix * 3 + 1, none⟩) hlt0).trans p1, (h.cell (p := ⟨g0, ix * 3 + 2, none⟩) hlt0).trans p2, (h.cell (p := ⟨k2, 0, none⟩) (HT2.out.box 5).lt).trans ((HT2.out.box 5).c 0), (h.cell (p := ⟨ks, 0, none⟩) (HT2.out.box 3).lt).trans ((HT2.out.box 3).c 0)⟩
                  have hd : decide ((0 : Int) < (r : Int)) = true := decide_eq_true (by omega)
                  have hd' : (0 : Int) < (r : Int) := by omega
                  have eix : (K0 : Int) - (s : Int) = (ix : Int) := by rw [hix]; have := HKE.out; have := HSR.out (by omega); have := HSS.out; omega
                  have wix : IntKind.i64.wrap ((K0 : Int) - (s : Int)) = (ix : Int) := by rw [eix]; exact wrap_in (by have := HKB.out; omega)
                  have Hh := Lib.hid h
                  clear h hpt hpp hix epv p0 p1 p2 hlt0
                  have wx : IntKind.i64.wrap (ix : Int) = (ix : Int) := wrap_in (by have := HKB.out; omega)
                  have hHC := HC2 _ HQ.drew.below
                  have HQ := HQ.drew
                  refine region_round (S := fun w' => w'.cell? ⟨kp, 0, none⟩ = some (.int .i64 zz.1) ∧ w'.cell? ⟨kp, 1, none⟩ = some (.int .i64 zz.2.1) ∧ w'.cell? ⟨kp, 2, none⟩ = some (.int .i64 zz.2.2) ∧ w'.cell? ⟨kq, 0, none⟩ = some (.slice (some ⟨g0, 0, none⟩) K0 cap) ∧ w'.cell? ⟨g0, ix * 3, none⟩ = some (.int .i64 pv.1) ∧ w'.cell? ⟨g0, ix * 3 + 1, none⟩ = some (.int .i64 pv.2.1) ∧ w'.cell? ⟨g0, ix * 3 + 2, none⟩ = some (.int .i64 pv.2.2) ∧ w'.cell? ⟨k2, 0, none⟩ = some (.int .i64 m) ∧ w'.cell? ⟨ks, 0, none⟩ = some (.int .i64 s)) (by kernel_rfl) (by rintro ⟨a, w, h⟩; exact h) (by kernel_rfl) hHC (fun hHeld => ?_)
                  clear hHC
                  refine wpAnyH_take (i := 0) (oi := { dst := some 63, op := Op.move (Operand.tmp 11), type := 3, pos := "l10_dice.go:33", after := #[], guard := none }) (v := ?_) rfl (by kernel_rfl) (by kernel_rfl) (by kernel_rfl) (fun _ _ _ h => h) (Or.inl ⟨by rfl, ?_⟩) (by assumption) ?_
                  rotate_left 1
                  · (intro w hSw; (try dsimp only at hSw); go_simp <;> with_reducible rfl)
                  (try simp only [Act.put, List.setIfInBounds_toArray, List.set_cons_zero, List.set_cons_succ])
                  refine wpAnyH_take (i := 1) (oi := { dst := some 64, op := Op.binOp BinOp.gtr 3 (Operand.tmp 63) (Operand.const (Value.int IntKind.i64 0)) 3, type := 4, pos := "l10_dice.go:33", after := #[{ on := 0, ground := Ground.data }], guard := none }) (v := .bool true) rfl (by kernel_rfl) (by kernel_rfl) (by kernel_rfl) (fun _ _ _ h => h) (Or.inl ⟨by rfl, ?_⟩) (by assumption) ?_
                  · (intro w hSw; (try dsimp only at hSw); (go_simp; (try (first | exact Hh.out | (have h := Hh.out; omega)))))
                  (try simp only [Act.put, List.setIfInBounds_toArray, List.set_cons_zero, List.set_cons_succ])
                  refine wpAnyH_take (i := 2) (oi := { dst := some 65, op := Op.move (Operand.tmp 64), type := 4, pos := "l10_dice.go:33", after := #[{ on := 1, ground := Ground.data }], guard := none }) (v := ?_) rfl (by kernel_rfl) (by kernel_rfl) (by kernel_rfl) (fun _ _ _ h => h) (Or.inl ⟨by rfl, ?_⟩) (by assumption) ?_
                  rotate_left 1
                  · (intro w hSw; (try dsimp only at hSw); go_simp <;> with_reducible rfl)
                  (try simp only [Act.put, List.setIfInBounds_toArray, List.set_cons_zero, List.set_cons_succ])
                  refine wpAnyH_take (i := 3) (oi := { dst := some 66, op := Op.load 27 (Operand.tmp 12), type := 27, pos := "l10_dice.go:33", after := #[{ on := 2, ground := Ground.guard }], guard := some (2, true) }) (v := ?_) rfl (by kernel_rfl) (by kernel_rfl) (by kernel_rfl) (fun _ _ _ h => h) (Or.inl ⟨by rfl, ?_⟩) (by assumption) ?_
                  rotate_left 1
                  · (intro w hSw; (try dsimp only at hSw); go_simp <;> with_reducible rfl)
                  (try simp only [Act.put, List.setIfInBounds_toArray, List.set_cons_zero, List.set_cons_succ])
                  refine wpAnyH_take (i := 4) (oi := { dst := some 67, op := Op.load 81 (Operand.tmp 9), type := 81, pos := "l10_dice.go:33", after := #[{ on := 2, ground := Ground.guard }], guard := some (2, true) }) (v := ?_) rfl (by kernel_rfl) (by kernel_rfl) (by kernel_rfl) (fun _ _ _ h => h) (Or.inl ⟨by rfl, ?_⟩) (by assumption) ?_
                  rotate_left 1
                  · (intro w hSw; (try dsimp only at hSw); go_simp <;> with_reducible rfl)
                  (try simp only [Act.put, List.setIfInBounds_toArray, List.set_cons_zero, List.set_cons_succ])
                  refine wpAnyH_take (i := 5) (oi := { dst := some 68, op := Op.load 81 (Operand.tmp 9), type := 81, pos := "l10_dice.go:33", after := #[{ on := 2, ground := Ground.guard }], guard := some (2, true) }) (v := ?_) rfl (by kernel_rfl) (by kernel_rfl) (by kernel_rfl) (fun _ _ _ h => h) (Or.inl ⟨by rfl, ?_⟩) (by assumption) ?_
                  rotate_left 1
                  · (intro w hSw; (try dsimp only at hSw); go_simp <;> with_reducible rfl)
                  (try simp only [Act.put, List.setIfInBounds_toArray, List.set_cons_zero, List.set_cons_succ])
                  refine wpAnyH_take (i := 6) (oi := { dst := some 69, op := Op.call { callee := Callee.builtin Builtin.len, args := #[Operand.tmp 68], argTypes := #[81] }, type := 3, pos := "l10_dice.go:33", after := #[{ on := 5, ground := Ground.data }, { on := 2, ground := Ground.guard }], guard := some (2, true) }) (v := ?_) rfl (by kernel_rfl) (by kernel_rfl) (by kernel_rfl) (fun _ _ _ h => h) (Or.inl ⟨by rfl, ?_⟩) (by assumption) ?_
                  rotate_left 1
                  · (intro w hSw; (try dsimp only at hSw); go_simp <;> with_reducible rfl)
                  (try simp only [Act.put, List.setIfInBounds_toArray, List.set_cons_zero, List.set_cons_succ])
                  refine wpAnyH_take (i := 7) (oi := { dst := some 70, op := Op.load 3 (Operand.tmp 8), type := 3, pos := "l10_dice.go:33", after := #[{ on := 2, ground := Ground.guard }], guard := some (2, true) }) (v := ?_) rfl (by kernel_rfl) (by kernel_rfl) (by kernel_rfl) (fun _ _ _ h => h) (Or.inl ⟨by rfl, ?_⟩) (by assumption) ?_
                  rotate_left 1
                  · (intro w hSw; (try dsimp only at hSw); go_simp <;> with_reducible rfl)
                  (try simp only [Act.put, List.setIfInBounds_toArray, List.set_cons_zero, List.set_cons_succ])
                  refine wpAnyH_take (i := 8) (oi := { dst := some 71, op := Op.binOp BinOp.sub 3 (Operand.tmp 69) (Operand.tmp 70) 3, type := 3, pos := "l10_dice.go:33", after := #[{ on := 6, ground := Ground.data }, { on := 7, ground := Ground.data }, { on := 2, ground := Ground.guard }], guard := some (2, true) }) (v := ?_) rfl (by kernel_rfl) (by kernel_rfl) (by kernel_rfl) (fun _ _ _ h => h) (Or.inl ⟨by rfl, ?_⟩) (by assumption) ?_
                  rotate_left 1
                  · (intro w hSw; (try dsimp only at hSw); go_simp <;> with_reducible rfl)
                  (try simp only [Act.put, List.setIfInBounds_toArray, List.set_cons_zero, List.set_cons_succ])
                  refine wpAnyH_take (i := 9) (oi := { dst := some 72, op := Op.indexAddr 81 (Operand.tmp 67) (Operand.tmp 71), type := 0, pos := "l10_dice.go:33", after := #[{ on := 4, ground := Ground.data }, { on := 8, ground := Ground.data }, { on := 2, ground := Ground.guard }], guard := some (2, true) }) (v := ?_) rfl (by kernel_rfl) (by kernel_rfl) (by kernel_rfl) (fun _ _ _ h => h) (Or.inl ⟨by rfl, ?_⟩) (by assumption) ?_
                  rotate_left 1
                  · (intro w hSw; (try dsimp only at hSw); go_simp <;> with_reducible rfl)
                  (try simp only [Act.put, List.setIfInBounds_toArray, List.set_cons_zero, List.set_cons_succ])
                  refine wpAnyH_take (i := 10) (oi := { dst := some 73, op := Op.load 27 (Operand.tmp 72), type := 27, pos := "l10_dice.go:33", after := #[{ on := 9, ground := Ground.data }, { on := 2, ground := Ground.guard }], guard := some (2, true) }) (v := ?_) rfl (by kernel_rfl) (by kernel_rfl) (by kernel_rfl) (fun _ _ _ h => h) (Or.inl ⟨by rfl, ?_⟩) (by assumption) ?_
                  rotate_left 1
                  · (intro w hSw; (try dsimp only at hSw); go_simp <;> with_reducible rfl)
                  (try simp only [Act.put, List.setIfInBounds_toArray, List.set_cons_zero, List.set_cons_succ])
                  refine wpAnyH_take (i := 11) (oi := { dst := some 74, op := Op.load 3 (Operand.tmp 5), type := 3, pos := "l10_dice.go:33", after := #[{ on := 2, ground := Ground.guard }], guard := some (2, true) }) (v := ?_) rfl (by kernel_rfl) (by kernel_rfl) (by kernel_rfl) (fun _ _ _ h => h) (Or.inl ⟨by rfl, ?_⟩) (by assumption) ?_
                  rotate_left 1
                  · (intro w hSw; (try dsimp only at hSw); go_simp <;> with_reducible rfl)
                  (try simp only [Act.put, List.setIfInBounds_toArray, List.set_cons_zero, List.set_cons_succ])
                  refine wpAnyH_ready (rs := [12]) (by kernel_rfl) (by simp) ?_
                  refine AllReadyH.cons (o := { dst := some 75, op := Op.call { callee := Callee.value (Operand.func 43), args := #[Operand.tmp 66, Operand.tmp 73, Operand.tmp 74], argTypes := #[27, 27, 3] }, type := 4, pos := "l10_dice.go:33", after := #[{ on := 3, ground := Ground.data }, { on := 10, ground := Ground.data }, { on := 11, ground := Ground.data }, { on := 2, ground := Ground.chain }, { on := 2, ground := Ground.guard }], guard := some (2, true) }) rfl (fun K hK => ?_) ?_
                  · go_simp
                    (with_reducible refine (HCL.out _).mono ?_)
                    rintro e w1 ⟨rfl, hb1⟩
                    have HQ := HQ.later hb1
                    clear hb1
                    (try go_wp2_with fail)
                    refine hK.out _ _ (by (try dsimp only); with_reducible exact HC2 _ HQ.below) (fun hHeld => ?_)
                    clear hK K
                    (try simp only [Act.put, List.setIfInBounds_toArray, List.set_cons_zero, List.set_cons_succ])
                    refine wpAnyH_take (i := 13) (oi := { dst := some 76, op := Op.unOp UnOp.not 4 (Operand.tmp 75), type := 4, pos := "l10_dice.go:33", after := #[{ on := 12, ground := Ground.data }, { on := 2, ground := Ground.guard }], guard := some (2, true) }) (v := ?_) rfl (by kernel_rfl) (by kernel_rfl) (by kernel_rfl) (fun _ _ _ h => h) (Or.inl ⟨by rfl, ?_⟩) (by assumption) ?_
                    rotate_left 1
                    · (intro w hSw; (try dsimp only at hSw); go_simp <;> with_reducible rfl)
                    (try simp only [Act.put, List.setIfInBounds_toArray, List.set_cons_zero, List.set_cons_succ])
                    refine wpAnyH_take (i := 14) (oi := { dst := some 77, op := Op.pick (Operand.tmp 65) (Operand.tmp 76) (Operand.const (Value.bool false)), type := 4, pos := "l10_dice.go:33", after := #[{ on := 2, ground := Ground.data }, { on := 13, ground := Ground.data }], guard := none }) (v := ?_) rfl (by kernel_rfl) (by kernel_rfl) (by kernel_rfl) (fun _ _ _ h => h) (Or.inl ⟨by rfl, ?_⟩) (by assumption) ?_
                    rotate_left 1
                    · (intro w hSw; (try dsimp only at hSw); go_simp <;> with_reducible rfl)
                    (try simp only [Act.put, List.setIfInBounds_toArray, List.set_cons_zero, List.set_cons_succ])
                    refine wpAnyH_done (by kernel_rfl) ?_ _
                    clear hHeld
                    gi_wp2
                    gi_meet
                    exact ⟨by first | rfl | (rw [HNB.out]; rfl) | (rw [HNB.out]), HQ.below⟩
                  exact AllReadyH.nil
              case rest =>
                obtain ⟨rfl, hbw⟩ := hcut
          
                have HT3 := Lib.hid (HT2.out.later hbw)
                have HO3 := Lib.hid (own_keep' HO2.out hbw)
                have HSZ3 := Lib.hid (Nat.le_trans HSZ2.out hbw.size)
                clear hbw HT2 HO2 HSZ2
                rcases nr with _ | _
                · have hno := went_not C P m n c r HCR.out.1 HCR.out.2 (by rw [HST.out]; rfl)
                  have HT := HT3.out
                  gi_wp2
                  exact ⟨keepsMono HT.keep, rfl, hno, HT.held.pick (by simp), Nat.le_trans HSZ.out HT.keep.size, HM.out.keep HT.keep⟩
                · have HT := HT3.out
                  have hok : stepOk C P m n c r = true := HST.out
                  obtain ⟨A0, cap0, rfl⟩ := own_shape HO3.out
                  have n0 := (HT.box 0).c 0
                  have n1 := (HT.box 0).c 1
                  have n2 := (HT.box 0).c 2
                  have q0 := (HT.box 1).c 0
                  obtain ⟨hi, hz0, hz1, hz2⟩ := HINF.out
                  have hk25 := HKB.out
                  have HLQ := Lib.hid (fun (u : Value) => HLT.out u)
                  have HHH := Lib.hid HT
                  clear HT
                  gi_wp2_with (gi_at_builtin; refine wpListIn_append_own _ rfl _ _ 81 rfl W0.heap.size 27 i0 (vec 0 0 0) 3 24 Try.underlying81 hi hz0 hz1 hz2 rfl (by decide) _ _ _ rfl (HO3.out.alloc _) ⟨wc.heap.size, 0, none⟩ 1 1 [.int .i64 zz.1, .int .i64 zz.2.1, .int .i64 zz.2.2] rfl rfl (cells3_new _ _ _ _ _) (by simp [Value.oneCell']) (by unfold maxLen; omega) (by omega) (by have := HSZ3.out; simp; omega) ?_; intro v3 w3 ho3 hg3 _; obtain ⟨A3, c3, rfl⟩ := own_shape ho3; have HT := ((HHH.out.pick (cs := (kq, [.slice A0 K0 cap0]) :: (kN, [.int .i64 s]) :: (ks, [.int .i64 s]) :: (bn, [.int .i64 n]) :: [(k2, [.int .i64 m]), (k1, [.int .i64 P.p0, .int .i64 P.p1, .int .i64 P.p2, .int .i64 P.p3, .int .i64 P.p4, .int .i64 P.p5, .int .i64 P.p6, .int .i64 P.p7, .int .i64 P.p8, .int .i64 P.x, .int .i64 P.y, .int .i64 P.z]), (k0, [.int .i64 C.a, .int .i64 C.b, .int .i64 C.c, .int .i64 C.d, .bool C.e, .int .i64 C.f, .int .i64 C.g])]) (by simp)).alloc (.cells #[.int .i64 zz.1, .int .i64 zz.2.1, .int .i64 zz.2.2] 27)).growU (HO3.out.alloc _) hg3 HWB.out (HLQ.out _); have c7 := (HT.box 0).c 0; have f7 := (HT.box 0).f 0)
                  have HT := HT.put HWQ.out HNE.out 0 (.slice A3 (K0 + 1) c3)
                  simp only [List.set_cons_zero] at HT
                  refine ⟨keepsMono HT.keep, .slice A3 (K0 + 1) c3, HT.held, ?_, ?_, Nat.le_trans HSZ.out HT.keep.size, HM.out.keep HT.keep⟩
                  · rw [HKE.out, ptsL_step C P n s c r (by have := HCR.out; have := HSN.out; omega), List.flatMap_append, ← HKE.out, ← HZE.out]
                    exact ownsRow_setCell_below ho3 (a := ⟨kq, 0, none⟩) HKQ.out _
                  · have h1 := HWE.out
                    rw [HKE.out, HSN.out] at h1 ⊢
                    exact went_step C P m n c r HCR.out.1 h1 hok
    case done =>
      rintro D W' hD ⟨v, HT, hown, hwent, hsz, HM⟩ hK
      have HE : Hid (rateA C P m = n) := Lib.hid (rate_found HRI.out HN4.out HBAD.out (went_all C P m n (by have h := hwent; rw [HSN.out] at h; exact h)))
      have HMD : Marks w.heap.size (D :: Ds) W' := HM.cons (Nat.le_trans HWB.out hD) hK (fun E hE => Nat.lt_of_lt_of_le (HLD.out E hE) hD)
      have HMD := Lib.hid HMD
      have cn := (HT.box 3).c 0
      have HB := Lib.hid HT.below
      clear hown hwent hsz HM hK HT
      go_wp2_with fail
      refine marks_leave (w := w) (B := w.heap.size) (Nat.le_refl _) (fun W' hb => ?_) (D :: Ds) _ HMD.out HB.out
      exact ⟨_, results_tmp rfl _ _ _, by rw [HE.out]; rfl, hb⟩
    case stop =>
      rintro D c W' hD ⟨rfl, hno, HT, hsz, HM⟩ hK
      have HMD := Lib.hid (HM.cons (Nat.le_trans HWB.out hD) hK (fun E hE => Nat.lt_of_lt_of_le (HLD.out E hE) hD))
      have hx2 : IntKind.i64.wrap ((n : Int) * 2) = ((n * 2 : Nat) : Int) := by rw [show (n : Int) * 2 = ((n * 2 : Nat) : Int) by omega]; exact wrap_in (by have := HN4.out; omega)
      have cn := (HT.box 0).c 0
      have HTD := Lib.hid ((HT.pick (cs := [(k2, [.int .i64 m]), (k1, [.int .i64 P.p0, .int .i64 P.p1, .int .i64 P.p2, .int .i64 P.p3, .int .i64 P.p4, .int .i64 P.p5, .int .i64 P.p6, .int .i64 P.p7, .int .i64 P.p8, .int .i64 P.x, .int .i64 P.y, .int .i64 P.z]), (k0, [.int .i64 C.a, .int .i64 C.b, .int .i64 C.c, .int .i64 C.d, .bool C.e, .int .i64 C.f, .int .i64 C.g])]) (by simp)).new #[.int .i64 ((n * 2 : Nat) : Int)] 3)
      have HMA := Lib.hid ((HMD.out).keep ((KeepsOthers.alloc W' (.cells #[.int .i64 ((n * 2 : Nat) : Int)] 3)).from 0))
      have HNO := Lib.hid (bad_next HN4.out HBAD.out hno)
      clear HT HM hsz hno hK hD
      refine wpIn_wide.2 ?_
      go_wp2_with fail
      refine ⟨rinv_mk (n * 2) W'.heap.size (D :: Ds) rfl (by have := HN4.out; omega) HNO.out HTD.out HMA.out, ?_⟩
      have e := HMU.out
      unfold rateTmps at e
      refine Nat.lt_of_lt_of_le (Nat.lt_of_le_of_lt (Nat.le_of_eq (muR_eq (n := n * 2) rfl ((HTD.out.box 0).c 0))) ?_) (Nat.le_of_eq e.symm)
      have := HN4.out
      omega

theorem diceRate_any (C : CV) (P : PV) (m : Int) (w : World) : Calls Try.prog 15 #[C.v, P.v, .int .i64 m] w (fun e w' => e = .returned (.int .i64 (rateA C P m)) ∧ Below w.heap.size w w') := by
  rcases hk : rateIn C P m with _ | _
  · exact diceRate_bad C P m w hk
  · exact (callsIn_wide (n := 3)).1 (diceRate_go C P m w hk)
end Go.Proofs.Ytmhcpjednogegaa
