/- Rk and Ro in one text. -/
import Derived.Test.YtkbdnjhgcoihhaaGreatDoorProg
import Derived.Test.YtkbdnjhgcoihhaaGreatDoorInts
import Derived.Test.YtkbdnjhgcoihhaaGreatDoorVbox
import Derived.Test.YtkbdnjhgcoihhaaGreatDoorHeld
import Derived.Test.YtkbdnjhgcoihhaaGreatDoorMem
import Derived.Test.YtkbdnjhgcoihhaaGreatDoorFlat
import Derived.Test.YtkbdnjhgcoihhaaGreatDoorRowC
import Derived.Test.YtkbdnjhgcoihhaaGreatDoorKS
import Derived.Test.YtkbdnjhgcoihhaaGreatDoorStrS
import Derived.Test.YtkbdnjhgcoihhaaGreatDoorIntS
import Derived.Test.YtkbdnjhgcoihhaaGreatDoorSS
import Derived.Test.YtkbdnjhgcoihhaaGreatDoorTok
import Derived.Test.YtkbdnjhgcoihhaaGreatDoorPg
import Derived.Test.YtkbdnjhgcoihhaaGreatDoorPh
import Derived.Test.YtkbdnjhgcoihhaaGreatDoorPi
import Derived.Test.YtkbdnjhgcoihhaaGreatDoorPk
import Derived.Test.YtkbdnjhgcoihhaaGreatDoorPl
import Derived.Test.YtkbdnjhgcoihhaaGreatDoorPm
import Derived.Test.YtkbdnjhgcoihhaaGreatDoorPp
import Derived.Test.YtkbdnjhgcoihhaaGreatDoorPq
import Derived.Test.YtkbdnjhgcoihhaaGreatDoorPr
import Derived.Test.YtkbdnjhgcoihhaaGreatDoorPs
import Derived.Test.YtkbdnjhgcoihhaaGreatDoorPt
import Derived.Test.YtkbdnjhgcoihhaaGreatDoorPu
import Derived.Test.YtkbdnjhgcoihhaaGreatDoorPv
import Derived.Test.YtkbdnjhgcoihhaaGreatDoorPw
import Derived.Test.YtkbdnjhgcoihhaaGreatDoorTp
import Derived.Test.YtkbdnjhgcoihhaaGreatDoorShelf
import Derived.Test.YtkbdnjhgcoihhaaGreatDoorRa
import Derived.Test.YtkbdnjhgcoihhaaGreatDoorRb
import Derived.Test.YtkbdnjhgcoihhaaGreatDoorRc
import Derived.Test.YtkbdnjhgcoihhaaGreatDoorRd
import Derived.Test.YtkbdnjhgcoihhaaGreatDoorPj
import Derived.Test.YtkbdnjhgcoihhaaGreatDoorRe
import Derived.Test.YtkbdnjhgcoihhaaGreatDoorRf
import Derived.Test.YtkbdnjhgcoihhaaGreatDoorRg
import Derived.Test.YtkbdnjhgcoihhaaGreatDoorRh
import Derived.Test.YtkbdnjhgcoihhaaGreatDoorRi
import Derived.Test.YtkbdnjhgcoihhaaGreatDoorRl
import Derived.Test.YtkbdnjhgcoihhaaGreatDoorDoorT
import Derived.Test.YtkbdnjhgcoihhaaGreatDoorAs
import Derived.Test.YtkbdnjhgcoihhaaGreatDoorTm
import Derived.Test.YtkbdnjhgcoihhaaGreatDoorIa
import Derived.Test.YtkbdnjhgcoihhaaGreatDoorIb
import Derived.Test.YtkbdnjhgcoihhaaGreatDoorIc
import Derived.Test.YtkbdnjhgcoihhaaGreatDoorRn
import Derived.WalkKit
import Derived.WalkSpells
import Derived.WalkLawsBesides
import Derived.Lib.Hide
import Derived.Deep.RegionHeld3
import Derived.Deep.QuietTactic
import Derived.BigQuiet
import Derived.Handy
import Derived.Deep.DeepCutAuto
/- Marks on an answer of Parse, and that they are held. -/
namespace Go.Proofs.YtkbdnjhgcoihhaaGreatDoor
open Go.RowKit

theorem QO.row {base : Nat} {w : World} {a : Option Addr × Nat} {xs : List Int} (h : QO base w a xs) : Row I64 w w.heap.size a.1 xs ∧ xs.length ≤ a.2 ∧ a.2 ≤ maxLen := by
  refine ⟨Row.of_own h, ?_⟩
  rcases h.2 with ⟨e, _⟩ | ⟨g, cap, cur, e, _, _, hn, hm, _⟩
  · injection e with _ e1 e2
    omega
  · injection e with _ _ e2
    omega
theorem ng_lenQ (p : PN) : (ng p).length = 4 := rfl
theorem ndg_row {base : Nat} {w : World} {A : Option Addr} {c : Nat} {ps : List PN} (h : NdG (QO base) w base A c ps) : NdRow w w.heap.size A (ps.map Prod.snd) := fun hn => by
  rw [List.length_map] at hn
  have ho := h.1
  rcases ho.2 with ⟨e, _⟩ | ⟨g, cap, cur, e, _, _⟩
  · injection e with _ e1 _
    omega
  · injection e with e _ _
    subst e
    refine ⟨g, 0, rfl, (ho.lt g rfl).2, fun k hk => ?_⟩
    have hk' : k < ps.length := by simpa using hk
    obtain ⟨hr, h1, h2⟩ := (h.2.1 k hk').1.row
    rw [List.getElem_map]
    have hc : ∀ j, j < 4 → w.cell? ⟨g, k * 4 + j, none⟩ = (ng ps[k])[j]? := fun j hj => by
      have := ho.cellAt (k * 4 + j) (by omega)
      rw [this]
      exact flat_get ng_lenQ ps k j hk' hj
    rw [Nat.zero_add]
    exact ⟨(ps[k]).1.1, (ps[k]).1.2, hc 0 (by decide), hc 1 (by decide), hc 2 (by decide), hc 3 (by decide), h1, h2, hr⟩

set_option maxHeartbeats 1000000 in
theorem markIntOT (A : Option Addr) (c base k : Nat) (xs : List Int) (w : World) (ho : w.ownsRow base 3 1 (.slice A xs.length c) xs.length (xs.map I64)) (hk2 : k + xs.length ≤ 4611686018427387904) :
    Calls Tryz.prog 35 #[.slice A xs.length c, .int .i64 k] w fun e w' => e = .returned (.int .i64 ((k + xs.length : Nat) : Int)) ∧ w'.ownsRow base 3 1 (.slice A xs.length c) xs.length ((cntQ k xs.length).map I64) ∧ Turn (fun b => blk A = some b) w w' := by
  have HO := Lib.hid ho
  clear ho
  go_enter Tryz.func35, Tryz.ntmps35
  go_wp2
  go_loopw [1, 5] (fun m i wr => ∃ j : Nat, j ≤ xs.length ∧ i = .int .i64 j ∧ m = .int .i64 ((k + j : Nat) : Int) ∧ wr.ownsRow base 3 1 (.slice A xs.length c) xs.length ((cntInP k j xs).map I64) ∧ Turn (fun b => blk A = some b) w wr) (fun _ i _ => xs.length - (intOf i).toNat)
  case atStart => exact ⟨0, Nat.zero_le _, rfl, rfl, by rw [cntIn_zeroP]; exact HO.out, Turn.refl _ _⟩
  case round =>
    obtain ⟨j, hj, rfl, rfl, hown, hb⟩ := hrel
    clear HO
    have HO := Lib.hid hown
    have HB := Lib.hid hb
    clear hown hb
    by_cases hlt : j < xs.length
    · obtain ⟨A0, hA⟩ : ∃ g, A = some ⟨g, 0, none⟩ := by
        rcases HO.out.2 with ⟨h, h0⟩ | ⟨g, cap, cur, h, _⟩
        · omega
        · injection h with h; exact ⟨g, h⟩
      subst hA
      have hlh : j < (cntInP k j xs).length := by rw [cntIn_lenP _ _ _ hj]; exact hlt
      have hd := HO.out.cellAt j (by omega)
      have hf := HO.out.frozenAt j
      rw [List.getElem?_map, List.getElem?_eq_getElem hlh, Option.map_some] at hd
      obtain ⟨y, hy⟩ : ∃ y, y = (cntInP k j xs)[j] := ⟨_, rfl⟩
      rw [← hy] at hd
      have hs := (HO.out.stored j (I64 ((k + j : Nat) : Int))).1
      rw [← List.map_set, cntIn_stepP _ _ _ hlt] at hs
      have hs' := HB.out.setCell (g := A0) (i := j) rfl (I64 ((k + j : Nat) : Int))
      have e : ((k + j : Nat) : Int) = (k : Int) + (j : Int) := by omega
      rw [e] at hs hs'
      have HS := Lib.hid hs
      have HS' := Lib.hid hs'
      clear hy hs hs' hlh e
      go_wp2
      go_roundw
      case rel => exact ⟨j + 1, by omega, by go_num, by go_num, HS.out, HS'.out⟩
      case measure => simp [intOf]; omega
    · have e : j = xs.length := by omega
      have HO2 : Hid (wr.ownsRow base 3 1 (.slice A xs.length c) xs.length ((cntQ k xs.length).map I64)) := by have := HO.out; rw [e, cntIn_allP] at this; exact this
      have HE := Lib.hid e
      clear e HO
      go_wp2
      go_ret
      exact ⟨retIP (by have := HE.out; omega), HO2.out, HB.out⟩

theorem qo_mark (base : Nat) : MarkQ (QO base) where
  keep := fun w w' a xs h _ hb => qo_keep h hb
  inb := fun w a xs h b hb => qo_lt h hb
  mark := fun w a xs k h hk => by
    obtain ⟨A, c⟩ := a
    refine (markIntOT A c base k xs w h hk).mono ?_
    rintro e w' ⟨rfl, ho, ht⟩
    refine ⟨rfl, ?_, ht⟩
    unfold QO
    rw [cnt_lenP]
    exact ho

set_option maxRecDepth 100000 in
set_option maxHeartbeats 4000000 in
theorem heldNodeS_any (A : Option Addr) (c k : Nat) (ps : List PN) (w : World) (hR : NdRow w w.heap.size A ((mkI k ps.length ps).map Prod.snd)) (hk2 : k + offN ps ps.length ≤ 4611686018427387904) (hl : ps.length ≤ 1099511627776) :
    Calls Tryz.prog 21 #[.slice A ps.length c, .int .i64 k] w fun e w' => e = .returned (.int .i64 ((k + offN ps ps.length : Nat) : Int)) ∧ Below w.heap.size w w' := by
  obtain ⟨n, hn⟩ : ∃ n, n = ps.length := ⟨_, rfl⟩
  have HN := Lib.hid hn
  rw [← hn] at hl ⊢
  clear hn
  go_enter Tryz.func21, Tryz.ntmps21
  go_wp2
  go_loopw [1, 5] (fun m i wr => ∃ j : Nat, j ≤ n ∧ i = .int .i64 j ∧ m = .int .i64 ((k + offN ps j : Nat) : Int) ∧ Below w.heap.size w wr) (fun _ i _ => n - (intOf i).toNat)
  case atStart => exact ⟨0, Nat.zero_le _, rfl, by rw [offN_zero]; rfl, Below.refl _ _⟩
  case round =>
    obtain ⟨j, hj, rfl, rfl, hb⟩ := hrel
    by_cases hlt : j < n
    · have hjp : j < ps.length := by rw [← HN.out]; exact hlt
      have hjm : j < ((mkI k ps.length ps).map Prod.snd).length := by rw [List.length_map, mkI_len]; exact hjp
      obtain ⟨b, o, rfl, hbl, a, ca, c0, c1, c2, c3, hca1, hca2, hrow⟩ := hR.at hjm
      have hz : ((mkI k ps.length ps).map Prod.snd)[j] = (mk1N (k + offN ps j) ps[j]).2 := by
        rw [List.getElem_map, mkI_at _ _ _ _ _ hjp, if_pos hjp]
      rw [hz] at c0 c1 c2 c3 hrow
      have hsu := offN_succ ps j hjp
      have hle := offN_le ps (j + 1)
      rw [← HN.out] at hle hk2
      obtain ⟨L, hL⟩ : ∃ L, L = (ps[j]).2.2.2.2.length := ⟨_, rfl⟩
      rw [← hL] at hsu
      dsimp only [mk1N] at c0 c1 c2 c3 hrow
      rw [← hL] at c3 hrow
      rw [cnt_lenP] at c3
      have hct := fun W : World => markText_any (k + offN ps j + 1) W (by omega) (by omega)
      have hhi := fun W (h : Row I64 W W.heap.size a (cntQ (k + offN ps j + 3) L)) => heldIntMP a ca (k + offN ps j + 3) L W h (by omega)
      obtain ⟨m, hm⟩ : ∃ m : Int, m = ((k + offN ps j : Nat) : Int) := ⟨_, rfl⟩
      have e1 : ((k + offN ps j + 1 : Nat) : Int) = m + 1 := by omega
      have e2 : ((k + offN ps j + 2 : Nat) : Int) = m + 1 + 1 := by omega
      have e3 : ((k + offN ps j + 3 : Nat) : Int) = m + 1 + 1 + 1 := by omega
      have e4 : ((k + offN ps j + 3 + L : Nat) : Int) = m + 1 + 1 + 1 + L := by omega
      have e5 : ((k + offN ps (j + 1) : Nat) : Int) = m + 1 + 1 + 1 + L := by omega
      obtain ⟨x, hx⟩ : ∃ x, x = markP (k + offN ps j + 1) := ⟨_, rfl⟩
      rw [e1, ← hx] at hct
      rw [e3, e4] at hhi
      rw [← hm] at c0 ⊢
      rw [← hx] at c1
      rw [e2] at c2
      have hmb : 0 ≤ m ∧ m + 3 + L ≤ 4611686018427387904 := by omega
      have HC : ∀ W, Below w.heap.size w W → (W.cell? ⟨b, o + j * 4, none⟩ = some (.int .i64 m) ∧ W.cell? ⟨b, o + j * 4 + 1, none⟩ = some (.string x) ∧ W.cell? ⟨b, o + j * 4 + 2, none⟩ = some (.int .i64 (m + 1 + 1)) ∧ W.cell? ⟨b, o + j * 4 + 3, none⟩ = some (.slice a L ca)) := fun W h =>
        ⟨(h.cell (p := ⟨b, o + j * 4, none⟩) hbl).trans c0, (h.cell (p := ⟨b, o + j * 4 + 1, none⟩) hbl).trans c1, (h.cell (p := ⟨b, o + j * 4 + 2, none⟩) hbl).trans c2, (h.cell (p := ⟨b, o + j * 4 + 3, none⟩) hbl).trans c3⟩
      have HHI := Lib.hid (fun W (h : Below w.heap.size w W) => hhi W ((hrow.below h).more h.size))
      have HE5 := Lib.hid e5
      have HCT := Lib.hid hct
      have hlt' : (j : Int) < (n : Int) := by omega
      have hge' : (0 : Int) ≤ (j : Int) := by omega
      have HB := Lib.hid hb
      clear hR e1 e2 e3 e4 e5 hm hct hx hb hhi hrow hz hsu hle hL c0 c1 c2 c3 hca1 hjm hjp
      obtain ⟨c0, c1, c2, c3⟩ := HC wr HB.out
      have HCC := Lib.hid HC
      clear HC
      go_wp2_with fail
      go_region_held3 (fun w' => w'.cell? ⟨b, o + j * 4 + 1, none⟩ = some (.string x) ∧ Below w.heap.size w w') (first | exact ⟨c1, HB.out.drew⟩ | exact keep_stepT (a := ⟨b, o + j * 4 + 1, none⟩) hbl ⟨c1, HB.out⟩ (by assumption) | exact keep_stepT (a := ⟨b, o + j * 4 + 1, none⟩) hbl (by assumption) (by assumption))
        (first | (go_at_call 34; refine (HCT.out _).mono ?_; rintro e w' ⟨rfl, hbm⟩))
      all_goals
        have HB2 : Hid (Below w.heap.size w w') := Lib.hid (And.right (by assumption))
        clear hbm c0 c1 c2 c3
        obtain ⟨c0, c1, c2, c3⟩ := HCC.out w' HB2.out
        have hhw := HHI.out w' HB2.out
        have hs2 := HB2.out.size
        go_wp2_with fail
        refine hhw.mono ?_
        rintro e w3 ⟨rfl, hb3⟩
        have HB3 := Lib.hid (HB2.out.trans (hb3.mono hs2))
        clear hb3 hhw c0 c1 c2 c3
        go_wp2
        go_roundw
        case rel => exact ⟨j + 1, by omega, by go_num, by rw [HE5.out], HB3.out⟩
        case measure => simp [intOf]; omega
    · have HE : Hid (j = n) := Lib.hid (by omega)
      have HB := Lib.hid hb
      clear hR hb
      go_wp2
      go_ret
      exact ⟨retIP (by have := HE.out; subst this; rfl), HB.out⟩

set_option maxRecDepth 100000 in
set_option maxHeartbeats 4000000 in
theorem heldAsgS_any (A : Option Addr) (c k : Nat) (ys : List As) (w : World) (hR : RowC 2 asg w w.heap.size A (asI k ys.length ys)) (hk1 : 1 ≤ k) (hk2 : k + 2 * ys.length ≤ 4611686018427387904) :
    Calls Tryz.prog 22 #[.slice A ys.length c, .int .i64 k] w fun e w' => e = .returned (.int .i64 ((k + 2 * ys.length : Nat) : Int)) ∧ Below w.heap.size w w' := by
  obtain ⟨n, hn⟩ : ∃ n, n = ys.length := ⟨_, rfl⟩
  have HN := Lib.hid hn
  rw [← hn] at hk2 ⊢
  clear hn
  go_enter Tryz.func22, Tryz.ntmps22
  go_wp2
  go_loopw [1, 5] (fun m i wr => ∃ j : Nat, j ≤ n ∧ i = .int .i64 j ∧ m = .int .i64 ((k + 2 * j : Nat) : Int) ∧ Below w.heap.size w wr) (fun _ i _ => n - (intOf i).toNat)
  case atStart => exact ⟨0, Nat.zero_le _, rfl, rfl, Below.refl _ _⟩
  case round =>
    obtain ⟨j, hj, rfl, rfl, hb⟩ := hrel
    by_cases hlt : j < n
    · have hjp : j < ys.length := by rw [← HN.out]; exact hlt
      obtain ⟨b, o, rfl, hbl, hc⟩ := hR.at (k := j) (by rw [asI_len]; exact hjp)
      rw [asI_at _ _ _ _ _ hjp, if_pos hjp] at hc
      obtain ⟨c0, c1⟩ := asg_at hc
      dsimp only [mk1A] at c0 c1
      have hct := fun W : World => markText_any (k + 2 * j) W (by omega) (by omega)
      obtain ⟨m, hm⟩ : ∃ m : Int, m = ((k + 2 * j : Nat) : Int) := ⟨_, rfl⟩
      have e1 : ((k + 2 * j + 1 : Nat) : Int) = m + 1 := by omega
      have e5 : ((k + 2 * (j + 1) : Nat) : Int) = m + 1 + 1 := by omega
      obtain ⟨x, hx⟩ : ∃ x, x = markP (k + 2 * j) := ⟨_, rfl⟩
      rw [← hx, ← hm] at hct
      rw [← hm]
      rw [← hx] at c0
      rw [e1] at c1
      have hmb : 0 ≤ m ∧ m ≤ 4611686018427387904 := by omega
      have HC : ∀ W, Below w.heap.size w W → (W.cell? ⟨b, o + j * 2, none⟩ = some (.string x) ∧ W.cell? ⟨b, o + j * 2 + 1, none⟩ = some (.int .i64 (m + 1))) := fun W h =>
        ⟨(h.cell (p := ⟨b, o + j * 2, none⟩) hbl).trans c0, (h.cell (p := ⟨b, o + j * 2 + 1, none⟩) hbl).trans c1⟩
      have HE5 := Lib.hid e5
      have HCT := Lib.hid hct
      have hlt' : (j : Int) < (n : Int) := by omega
      have hge' : (0 : Int) ≤ (j : Int) := by omega
      have HB := Lib.hid hb
      clear hR e1 e5 hm hc hct hx hb c0 c1 hjp
      obtain ⟨c0, c1⟩ := HC wr HB.out
      have HCC := Lib.hid HC
      clear HC
      go_wp2_with fail
      go_region_held3 (fun w' => w'.cell? ⟨b, o + j * 2, none⟩ = some (.string x) ∧ Below w.heap.size w w') (first | exact ⟨c0, HB.out.drew⟩ | exact keep_stepT (a := ⟨b, o + j * 2, none⟩) hbl ⟨c0, HB.out⟩ (by assumption) | exact keep_stepT (a := ⟨b, o + j * 2, none⟩) hbl (by assumption) (by assumption))
        (first | (go_at_call 34; refine (HCT.out _).mono ?_; rintro e w' ⟨rfl, hbm⟩))
      all_goals
        have HB2 : Hid (Below w.heap.size w w') := Lib.hid (And.right (by assumption))
        clear hbm c0 c1
        obtain ⟨c0, c1⟩ := HCC.out w' HB2.out
        go_wp2
        go_roundw
        case rel => exact ⟨j + 1, by omega, by go_num, by rw [HE5.out], HB2.out⟩
        case measure => simp [intOf]; omega
    · have HE : Hid (j = n) := Lib.hid (by omega)
      have HB := Lib.hid hb
      clear hR hb
      go_wp2
      go_ret
      exact ⟨retIP (by have := HE.out; subst this; rfl), HB.out⟩

set_option maxHeartbeats 4000000 in
theorem heldProg_any (A A' : Option Addr) (c c' k : Nat) (ps : List PN) (ys : List As) (w : World) (hR : NdRow w w.heap.size A ((mkI k ps.length ps).map Prod.snd)) (hR' : RowC 2 asg w w.heap.size A' (asI (k + offN ps ps.length) ys.length ys)) (hk1 : 1 ≤ k) (hk2 : k + offN ps ps.length + 2 * ys.length ≤ 4611686018427387904) (hl : ps.length ≤ 1099511627776) :
    Calls Tryz.prog 8 #[pgv A A' ps.length c ys.length c', .int .i64 k] w fun e w' => e = .returned (.int .i64 ((k + offN ps ps.length + 2 * ys.length : Nat) : Int)) ∧ Below w.heap.size w w' := by
  have HT0 : Held w (w.alloc (.cells #[.slice A ps.length c, .slice A' ys.length c'] 25)) [(w.heap.size, [.slice A ps.length c, .slice A' ys.length c'])] := by
    have h := (Held.nil w).new #[.slice A ps.length c, .slice A' ys.length c'] 25
    simpa only [World.size_alloc] using h
  have H1 := Lib.hid (fun W (h : Below w.heap.size w W) => heldNodeS_any A c k ps W ((hR.below h).more h.size) (by omega) hl)
  have H2 := Lib.hid (fun W (h : Below w.heap.size w W) => heldAsgS_any A' c' (k + offN ps ps.length) ys W ((hR'.below h).more h.size) (by omega) (by omega))
  have hk3 : ((k + offN ps ps.length : Nat) : Int) ≤ 4611686018427387904 := by omega
  have hk4 : ((k + offN ps ps.length + 2 * ys.length : Nat) : Int) ≤ 4611686018427387904 := by omega
  have hk5 : ¬ ((k + offN ps ps.length : Nat) : Int) < 0 := by omega
  have hk6 : ¬ ((k + offN ps ps.length + 2 * ys.length : Nat) : Int) < 0 := by omega
  obtain ⟨p, hp⟩ : ∃ p, p = k + offN ps ps.length := ⟨_, rfl⟩
  obtain ⟨r, hr⟩ : ∃ r, r = k + offN ps ps.length + 2 * ys.length := ⟨_, rfl⟩
  rw [← hr] at hk4 hk6 ⊢
  have hr2 : p + 2 * ys.length = r := by omega
  rw [← hp] at H1 H2 hk3 hk5
  rw [hr2] at H2
  clear hR hR' hp hr hr2 hk2
  go_enter Tryz.func8, Tryz.ntmps8
  go_upto_region 1 with fail
  obtain ⟨W1, hW1⟩ : ∃ W, W = w.alloc (.cells #[.slice A ps.length c, .slice A' ys.length c'] 25) := ⟨_, rfl⟩
  rw [← hW1] at HT0 ⊢
  clear hW1
  have c0 := (HT0.box 0).c 0
  go_wp2_with fail
  refine (H1.out _ HT0.below).mono ?_
  rintro e w2 ⟨rfl, hb2⟩
  have HT := HT0.later hb2
  clear hb2 c0 HT0
  have c1 := (HT.box 0).c 1
  go_wp2_with fail
  refine (H2.out _ HT.below).mono ?_
  rintro e w3 ⟨rfl, hb3⟩
  have HT := HT.later hb3
  clear hb3 c1
  go_wp2_with fail
  go_ret
  exact ⟨rfl, HT.below⟩
end Go.Proofs.YtkbdnjhgcoihhaaGreatDoor

/- What Parse answers, in one form. -/
namespace Go.Proofs.YtkbdnjhgcoihhaaGreatDoor
open Go.RowKit

def Ok3 (ns : List Nd) : Prop := ∀ n ∈ ns, n.2.2.2.length ≤ 3
def Ok3R (R : PR) : Prop := ∀ r a' ns', R = .ok r a' ns' → Ok3 ns'
theorem ok3_add {ns : List Nd} (h : Ok3 ns) {n : Nd} (hn : n.2.2.2.length ≤ 3) : Ok3 (ns ++ [n]) := fun x hx => by
  rcases List.mem_append.1 hx with hx | hx
  · exact h x hx
  · rw [List.mem_singleton] at hx
    rw [hx]
    exact hn
theorem ok3_bad (o : Int) : Ok3R (.bad o) := fun r a' ns' e => by cases e
theorem ok3_ok {r a : Nat} {ns : List Nd} (h : Ok3 ns) : Ok3R (.ok r a ns) := fun r' a' ns' e => by
  injection e with e1 e2 e3
  rw [← e3]
  exact h
theorem ok3_emit {ts : List Tk} {a : Nat} {ns : List Nd} {n : Nd} (h : Ok3 ns) (hn : n.2.2.2.length ≤ 3) : Ok3R (emitP ts a ns n) := fun r a' ns' e => by
  obtain ⟨_, _, _, rfl⟩ := emit_ok e
  exact ok3_add h hn
def nsM : PM → List Nd
  | .fac _ _ ns => ns
  | .bin _ _ _ ns => ns
  | .chain _ _ _ _ ns => ns
  | .call _ _ _ _ ns => ns
def arM : PM → Nat
  | .call _ args _ _ _ => args.length
  | _ => 0
theorem par_three {ts : List Tk} : ∀ (f : Nat) (m : PM) (R : PR), Ok3 (nsM m) → arM m ≤ 3 → par ts f m = some R → Ok3R R := by
  intro f
  induction f with
  | zero =>
    intro m R _ _ hp
    cases m <;> simp [par] at hp
  | succ f ih =>
    intro m R hns har hp
    cases m with
    | fac a d ns =>
      have hns : Ok3 ns := hns
      simp only [par] at hp
      split at hp
      · injection hp with hp; subst hp; exact ok3_bad _
      split at hp
      · cases hR : par ts f (.fac (a + 1) (d + 1) ns) with
        | none => rw [hR] at hp; cases hp
        | some R1 =>
          rw [hR] at hp
          have hG := ih (.fac (a + 1) (d + 1) ns) R1 hns (Nat.zero_le _) hR
          cases R1 with
          | bad o => injection hp with hp; subst hp; exact ok3_bad _
          | ok r a' ns' => injection hp with hp; subst hp; exact ok3_emit (hG _ _ _ rfl) (by simp)
      split at hp
      · cases hR : par ts f (.bin true (a + 1) (d + 1) ns) with
        | none => rw [hR] at hp; cases hp
        | some R1 =>
          rw [hR] at hp
          have hG := ih (.bin true (a + 1) (d + 1) ns) R1 hns (Nat.zero_le _) hR
          cases R1 with
          | bad o => injection hp with hp; subst hp; exact ok3_bad _
          | ok r a' ns' =>
            simp only at hp
            split at hp
            · injection hp with hp; subst hp; exact ok3_ok (hG _ _ _ rfl)
            · injection hp with hp; subst hp; exact ok3_bad _
      split at hp
      · injection hp with hp; subst hp; exact ok3_emit hns (by simp)
      split at hp
      · split at hp
        · split at hp
          · injection hp with hp; subst hp; exact ok3_emit hns (by simp)
          · exact ih (.call _ [] _ _ ns) R hns (by simp [arM]) hp
        · injection hp with hp; subst hp; exact ok3_emit hns (by simp)
      · injection hp with hp; subst hp; exact ok3_bad _
    | bin add a d ns =>
      have hns : Ok3 ns := hns
      simp only [par] at hp
      cases hR : par ts f (if add = true then .bin false a d ns else .fac a d ns) with
      | none => rw [hR] at hp; cases hp
      | some R1 =>
        rw [hR] at hp
        have hG := ih _ R1 (by cases add <;> exact hns) (by cases add <;> exact Nat.zero_le _) hR
        cases R1 with
        | bad o => injection hp with hp; subst hp; exact ok3_bad _
        | ok r a' ns' => exact ih (.chain add r a' d ns') R (hG _ _ _ rfl) (Nat.zero_le _) hp
    | chain add l a d ns =>
      have hns : Ok3 ns := hns
      simp only [par] at hp
      split at hp
      · injection hp with hp; subst hp; exact ok3_ok hns
      cases hR : par ts f (if add = true then .bin false (a + 1) d ns else .fac (a + 1) d ns) with
      | none => rw [hR] at hp; cases hp
      | some R1 =>
        rw [hR] at hp
        have hG := ih _ R1 (by cases add <;> exact hns) (by cases add <;> exact Nat.zero_le _) hR
        cases R1 with
        | bad o => injection hp with hp; subst hp; exact ok3_bad _
        | ok r a' ns' =>
          simp only at hp
          have hE := ok3_emit (ts := ts) (a := a') (n := (opP add (symA ts a), ⟨#[]⟩, 0, [(l : Int), (r : Int)])) (hG _ _ _ rfl) (by simp)
          cases hq : emitP ts a' ns' (opP add (symA ts a), ⟨#[]⟩, 0, [(l : Int), (r : Int)]) with
          | bad o => rw [hq] at hp; injection hp with hp; subst hp; exact ok3_bad _
          | ok r2 a2 ns2 =>
            rw [hq] at hp hE
            exact ih (.chain add r2 a2 d ns2) R (hE _ _ _ rfl) (Nat.zero_le _) hp
    | call nm args a d ns =>
      have hns : Ok3 ns := hns
      have har : args.length ≤ 3 := har
      simp only [par] at hp
      split at hp
      · injection hp with hp; subst hp; exact ok3_bad _
      rename_i h3
      cases hR : par ts f (.bin true a d ns) with
      | none => rw [hR] at hp; cases hp
      | some R1 =>
        rw [hR] at hp
        have hG := ih (.bin true a d ns) R1 hns (Nat.zero_le _) hR
        cases R1 with
        | bad o => injection hp with hp; subst hp; exact ok3_bad _
        | ok r a' ns' =>
          simp only at hp
          split at hp
          · exact ih (.call nm (args ++ [(r : Int)]) (a' + 1) d ns') R (hG _ _ _ rfl) (by simp only [arM, List.length_append, List.length_singleton]; omega) hp
          split at hp
          · injection hp with hp; subst hp; exact ok3_emit (hG _ _ _ rfl) (by simp only [List.length_append, List.length_singleton]; omega)
          · injection hp with hp; subst hp; exact ok3_bad _
theorem prs_three {ts : List Tk} {F : Nat} : ∀ (f a : Nat) (ns : List Nd) (ys : List As) (R : PA), Ok3 ns → prsP ts F f a ns ys = some R → ∀ ns' ys', R = .done ns' ys' → Ok3 ns' := by
  intro f
  induction f with
  | zero => intro a ns ys R _ hp; simp [prsP] at hp
  | succ f ih =>
    intro a ns ys R hns hp ns' ys' e
    unfold prsP at hp
    split at hp
    · injection hp with hp
      rw [← hp] at e
      injection e with e1 e2
      rw [← e1]
      exact hns
    split at hp
    · injection hp with hp; rw [← hp] at e; cases e
    split at hp
    · injection hp with hp; rw [← hp] at e; cases e
    cases hR : par ts F (.bin true (a + 2) 1 ns) with
    | none => rw [hR] at hp; cases hp
    | some R1 =>
      rw [hR] at hp
      have hG := par_three F (.bin true (a + 2) 1 ns) R1 hns (Nat.zero_le _) hR
      cases R1 with
      | bad o => injection hp with hp; rw [← hp] at e; cases e
      | ok r a' ns2 =>
        simp only at hp
        split at hp
        · exact ih _ _ _ _ (hG _ _ _ rfl) hp ns' ys' e
        · injection hp with hp; rw [← hp] at e; cases e
theorem parse_three (s : ByteArray) {ns : List Nd} {ys : List As} (h : parseR s = .done ns ys) : Ok3 ns := by
  unfold parseR at h
  split at h
  · cases hp : prsP (tokP s).1 (4 * (tokP s).1.length + 4) ((tokP s).1.length + 1) 0 [] [] with
    | none => rw [hp] at h; cases h
    | some R =>
      rw [hp] at h
      exact prs_three _ _ _ _ _ (fun n hn => by cases hn) hp ns ys h
  · cases h
theorem off_three (ps : List PN) (h : Ok3 (ps.map Prod.snd)) : offN ps ps.length ≤ 6 * ps.length := by
  unfold offN
  rw [List.take_length]
  induction ps with
  | nil => simp
  | cons p ps ih =>
    have h1 := h p.2 (by simp)
    have h2 := ih (fun n hn => h n (by simp only [List.map_cons, List.mem_cons]; exact .inr hn))
    simp only [List.map_cons, List.sum_cons, List.length_cons]
    omega
theorem progG_base {base base' : Nat} {w : World} {A A' : Option Addr} {c c' : Nat} {ps : List PN} {ys : List As} (h : ProgG (QO base) w base A c A' c' ps ys) (hb : base' ≤ base) : ProgG (QO base') w base' A c A' c' ps ys := by
  obtain ⟨⟨h1, h2, h3⟩, h4, h5, h6⟩ := h
  exact ⟨⟨own_base h1 hb, fun i hi => ⟨own_base (h2 i hi).1 hb, (h2 i hi).2⟩, h3⟩, own_base h4 hb, h5, h6⟩
/-- what Parse answers: a program of its own, and a number -/
def ParOut (ns : List Nd) (ys : List As) (o : Int) (w : World) (e : Ending) (w' : World) : Prop :=
  ∃ (NA : Option Addr) (nc : Nat) (ps : List PN) (BA : Option Addr) (bc : Nat), ps.map Prod.snd = ns ∧ e = .returned (.tuple #[pgv NA BA ps.length nc ys.length bc, .int .i64 o]) ∧ ProgG (QO w.heap.size) w' w.heap.size NA nc BA bc ps ys ∧ Below w.heap.size w w'
theorem par_out (s : ByteArray) : ∃ (ns : List Nd) (ys : List As) (o : Int), Ok3 ns ∧ ns.length ≤ 60 ∧ ys.length ≤ 1048576 ∧ ∀ w e w', ParsePost s w e w' → ParOut ns ys o w e w' := by
  cases hR : parseR s with
  | bad o =>
    refine ⟨[], [], o, (fun n hn => by cases hn), by simp, by simp, fun w e w' h => ?_⟩
    unfold ParsePost at h
    rw [hR] at h
    obtain ⟨rfl, hb⟩ := h
    exact ⟨none, 0, [], none, 0, rfl, rfl, ⟨⟨World.ownsRow_nil _ _ _ _, (fun i hi => by simp at hi), (fun i j hi => by simp at hi)⟩, World.ownsRow_nil _ _ _ _, (fun k h => by cases h), (fun i hi => by simp at hi)⟩, hb⟩
  | done ns ys =>
    by_cases hB : ns.length ≤ 60 ∧ ys.length ≤ 1048576
    · refine ⟨ns, ys, -1, parse_three s hR, hB.1, hB.2, fun w e w' h => ?_⟩
      unfold ParsePost at h
      rw [hR] at h
      obtain ⟨hb, base, NA, nc, ps, BA, bc, h1, h2, h3, h4, _, _⟩ := h
      exact ⟨NA, nc, ps, BA, bc, h2, h3, progG_base h4 h1, hb⟩
    · refine ⟨[], [], 0, (fun n hn => by cases hn), by simp, by simp, fun w e w' h => ?_⟩
      unfold ParsePost at h
      rw [hR] at h
      obtain ⟨hb, base, NA, nc, ps, BA, bc, h1, h2, h3, h4, h5, h6⟩ := h
      exact absurd ⟨by rw [← h2, List.length_map]; exact h5, h6⟩ hB
theorem ProgG.read {w : World} {base : Nat} {NA BA : Option Addr} {nc bc : Nat} {ps : List PN} {ys : List As} (h : ProgG (QO base) w base NA nc BA bc ps ys) : ProgIn w w.heap.size NA BA (ps.map Prod.snd) ys := ⟨ndg_row h.1, RowC.of_own asg_len h.2.1 rfl⟩
theorem ProgG.lt {w : World} {base : Nat} {NA BA : Option Addr} {nc bc : Nat} {ps : List PN} {ys : List As} (h : ProgG (QO base) w base NA nc BA bc ps ys) {b : Nat} (hb : SP NA BA ps b) : base ≤ b ∧ b < w.heap.size := by
  rcases hb with (hb | ⟨p, hp, hb⟩) | hb
  · exact h.1.1.lt b (of_blk hb)
  · obtain ⟨i, hi, rfl⟩ := List.getElem_of_mem hp
    exact (h.1.2.1 i hi).1.lt b (of_blk hb)
  · exact h.2.1.lt b (of_blk hb)

theorem eqProg_n (A A' B B' : Option Addr) (c c' d d' n n2 : Nat) (xs : List Nd) (ys : List As) (w : World) (hR : ProgIn w w.heap.size A A' xs ys) (hR' : ProgIn w w.heap.size B B' xs ys) (hn : n = xs.length) (hn2 : n2 = xs.length) (hl : xs.length ≤ 60) (hl' : ys.length ≤ 1048576) (h3 : Ok3 xs) :
    Calls Tryz.prog 6 #[pgv A A' n c ys.length c', pgv B B' n2 d ys.length d'] w fun e w' => e = .returned (.bool true) ∧ Below w.heap.size w w' := by
  subst hn
  subst hn2
  exact eqProg_same A A' B B' c c' d d' xs ys w hR hR' (by omega) (by omega) (fun x hx => by have := h3 x hx; omega)
end Go.Proofs.YtkbdnjhgcoihhaaGreatDoor
