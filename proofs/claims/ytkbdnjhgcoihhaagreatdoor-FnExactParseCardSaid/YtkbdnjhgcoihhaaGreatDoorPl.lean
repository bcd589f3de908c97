/- Marks on programs that a call made. -/
import Derived.Test.YtkbdnjhgcoihhaaGreatDoorProg
import Derived.Test.YtkbdnjhgcoihhaaGreatDoorInts
import Derived.Test.YtkbdnjhgcoihhaaGreatDoorVbox
import Derived.Test.YtkbdnjhgcoihhaaGreatDoorHeld
import Derived.Test.YtkbdnjhgcoihhaaGreatDoorMem
import Derived.Test.YtkbdnjhgcoihhaaGreatDoorFlat
import Derived.Test.YtkbdnjhgcoihhaaGreatDoorRowC
import Derived.Test.YtkbdnjhgcoihhaaGreatDoorKS
import Derived.Test.YtkbdnjhgcoihhaaGreatDoorStrS
import Derived.Test.YtkbdnjhgcoihhaaGreatDoorIntS
import Derived.Test.YtkbdnjhgcoihhaaGreatDoorSS
import Derived.Test.YtkbdnjhgcoihhaaGreatDoorPg
import Derived.Test.YtkbdnjhgcoihhaaGreatDoorPh
import Derived.Test.YtkbdnjhgcoihhaaGreatDoorPi
import Derived.Test.YtkbdnjhgcoihhaaGreatDoorPk
import Derived.WalkKit
import Derived.WalkSpells
import Derived.WalkLawsBesides
import Derived.Lib.Hide
import Derived.Deep.RegionHeld3
import Derived.Deep.QuietTactic
import Derived.BigQuiet
import Derived.Handy
import Derived.Deep.DeepCutAuto
namespace Go.Proofs.YtkbdnjhgcoihhaaGreatDoor
open Go.RowKit

theorem own_keepN {w w' : World} {base m n : Nat} {e : TypeId} {v : Value} {xs : List Value} (h : w.ownsRow base e m v n xs) (hk : ∀ b, v.ownBlock = some b → w'.heap[b]? = w.heap[b]?) : w'.ownsRow base e m v n xs := by
  refine ⟨h.1, ?_⟩
  rcases h.2 with h1 | ⟨g, cap, cur, e, hb, hg, r⟩
  · exact .inl h1
  · exact .inr ⟨g, cap, cur, e, hb, (hk g (by rw [e]; rfl)).trans hg, r⟩
theorem blk_of {A : Option Addr} {n c b : Nat} (h : (Value.slice A n c).ownBlock = some b) : blk A = some b := by
  rcases A with _ | x
  · cases h
  · exact h
theorem of_blk {A : Option Addr} {n c b : Nat} (h : blk A = some b) : (Value.slice A n c).ownBlock = some b := by
  rcases A with _ | x
  · cases h
  · exact h
def mk1A (k : Nat) : As := (markP k, ((k + 1 : Nat) : Int))
def asI (k j : Nat) (ys : List As) : List As := ys.mapIdx (fun i v => if i < j then mk1A (k + 2 * i) else v)
theorem asI_len (k j : Nat) (ys : List As) : (asI k j ys).length = ys.length := by simp [asI]
theorem asI_at (k j : Nat) (ys : List As) (i : Nat) (h : i < (asI k j ys).length) (h' : i < ys.length) : (asI k j ys)[i] = if i < j then mk1A (k + 2 * i) else ys[i] := by simp [asI]
theorem asI_zero (k : Nat) (ys : List As) : asI k 0 ys = ys := by
  apply List.ext_getElem
  · simp [asI]
  · intro i h1 h2
    simp [asI]
theorem asI_step (k j : Nat) (ys : List As) : (asI k j ys).set j (mk1A (k + 2 * j)) = asI k (j + 1) ys := by
  apply List.ext_getElem
  · simp [asI]
  · intro i h1 h2
    have hi : i < ys.length := by simpa [asI] using h2
    rw [List.getElem_set, asI_at k (j + 1) ys i h2 hi]
    by_cases e : j = i
    · subst e
      simp
    · rw [if_neg e, asI_at k j ys i (by simpa [asI] using hi) hi]
      by_cases e2 : i < j
      · rw [if_pos e2, if_pos (by omega)]
      · rw [if_neg e2, if_neg (by omega)]

set_option maxHeartbeats 4000000 in
theorem markAsgS_any (A : Option Addr) (c base k : Nat) (ys : List As) (w : World) (ho : w.ownsRow base 43 2 (.slice A ys.length c) ys.length (ys.flatMap asg)) (hk1 : 1 ≤ k) (hk2 : k + 2 * ys.length ≤ 4611686018427387904) :
    Calls Tryz.prog 20 #[.slice A ys.length c, .int .i64 k] w fun e w' => e = .returned (.int .i64 ((k + 2 * ys.length : Nat) : Int)) ∧ w'.ownsRow base 43 2 (.slice A ys.length c) ys.length ((asI k ys.length ys).flatMap asg) ∧ Turn (fun b => blk A = some b) w w' := by
  have HO := Lib.hid ho
  clear ho
  go_enter Tryz.func20, Tryz.ntmps20
  go_wp2
  go_loopw [1, 5] (fun m i wr => ∃ j : Nat, j ≤ ys.length ∧ i = .int .i64 j ∧ m = .int .i64 ((k + 2 * j : Nat) : Int) ∧ wr.ownsRow base 43 2 (.slice A ys.length c) ys.length ((asI k j ys).flatMap asg) ∧ Turn (fun b => blk A = some b) w wr) (fun _ i _ => ys.length - (intOf i).toNat)
  case atStart => exact ⟨0, Nat.zero_le _, rfl, rfl, by rw [asI_zero]; exact HO.out, Turn.refl _ _⟩
  case round =>
    obtain ⟨j, hj, rfl, rfl, hown, hb⟩ := hrel
    clear HO
    have HO := Lib.hid hown
    have HB := Lib.hid hb
    clear hown hb
    by_cases hlt : j < ys.length
    · obtain ⟨A0, hA⟩ : ∃ g, A = some ⟨g, 0, none⟩ := by
        rcases HO.out.2 with ⟨h, h0⟩ | ⟨g, cap, cur, h, _⟩
        · omega
        · injection h with h; exact ⟨g, h⟩
      subst hA
      obtain ⟨m, hm⟩ : ∃ m : Int, m = ((k + 2 * j : Nat) : Int) := ⟨_, rfl⟩
      have hct := fun W : World => markText_any (k + 2 * j) W (by omega) (by omega)
      rw [← hm] at hct ⊢
      have hmb : 0 ≤ m ∧ m + 2 ≤ 4611686018427387904 := by omega
      have HCT := Lib.hid hct
      have HM := Lib.hid hm
      have hlt' : (j : Int) < (ys.length : Int) := by omega
      have hge' : (0 : Int) ≤ (j : Int) := by omega
      clear hct hm
      go_wp2_with fail
      refine (HCT.out _).mono ?_
      rintro e w2 ⟨rfl, hb2⟩
      obtain ⟨mk, hmk⟩ : ∃ mk, mk = markP (k + 2 * j) := ⟨_, rfl⟩
      have ho2 := own_keep' HO.out hb2
      have hT2 := HB.out.trans (Turn.of_later (S := fun b => blk (some ⟨A0, 0, none⟩) = some b) hb2)
      clear HO HB hb2
      obtain ⟨x, y, d0, d1⟩ := own_asg ho2 (asI_len _ _ _) hlt
      have f0 := ho2.frozenAt (j * 2)
      have f1 := ho2.frozenAt (j * 2 + 1)
      have e1 : ((k + 2 * j + 1 : Nat) : Int) = m + 1 := by have := HM.out; omega
      have e5 : ((k + 2 * (j + 1) : Nat) : Int) = m + 1 + 1 := by have := HM.out; omega
      have hs := ((ho2.stored (j * 2) (.string (markP (k + 2 * j)))).1.stored (j * 2 + 1) (.int .i64 ((k + 2 * j + 1 : Nat) : Int))).1
      have hv := asg_set (asI k j ys) j (mk1A (k + 2 * j))
      dsimp only [mk1A] at hv
      have hst := asI_step k j ys
      dsimp only [mk1A] at hst
      rw [hv, hst] at hs
      have hT3 := (hT2.setCell (g := A0) (i := j * 2) rfl (.string (markP (k + 2 * j)))).setCell (g := A0) (i := j * 2 + 1) rfl (.int .i64 ((k + 2 * j + 1 : Nat) : Int))
      rw [← hmk, e1] at hs hT3
      rw [← hmk]
      have HS := Lib.hid hs
      have HT3 := Lib.hid hT3
      have HE5 := Lib.hid e5
      clear hs hT3 hv hst e1 e5 ho2 hT2 hmk HM HCT
      go_wp2
      go_roundw
      case rel => exact ⟨j + 1, by omega, by go_num, by rw [HE5.out], HS.out, HT3.out⟩
      case measure => simp [intOf]; omega
    · have e : j = ys.length := by omega
      have HO2 : Hid (wr.ownsRow base 43 2 (.slice A ys.length c) ys.length ((asI k ys.length ys).flatMap asg)) := by have := HO.out; rw [e] at this; exact Lib.hid this
      have HE := Lib.hid e
      clear e HO
      go_wp2
      go_ret
      exact ⟨retIP (by have := HE.out; omega), HO2.out, HB.out⟩

/-- a program that a call made, its parts wherever they lie -/
def ProgG (Q : World → Option Addr × Nat → List Int → Prop) (w : World) (base : Nat) (A : Option Addr) (c : Nat) (A' : Option Addr) (c' : Nat) (ps : List PN) (ys : List As) : Prop :=
  NdG Q w base A c ps ∧ w.ownsRow base 43 2 (.slice A' ys.length c') ys.length (ys.flatMap asg) ∧ Apart A A' ∧ ∀ i (h : i < ps.length), Apart (ps[i]).1.1 A'
def SP (A A' : Option Addr) (ps : List PN) (b : Nat) : Prop := SN A ps b ∨ blk A' = some b

theorem NdG.keepB {Q : World → Option Addr × Nat → List Int → Prop} (hQ : MarkQ Q) {w w' : World} {base : Nat} {A : Option Addr} {c : Nat} {ps : List PN} (h : NdG Q w base A c ps) (hb : Below w.heap.size w w') : NdG Q w' base A c ps :=
  ⟨own_keep' h.1 hb, fun i hi => ⟨hQ.keep _ _ _ _ (h.2.1 i hi).1 hb.size (fun b hbk => hb.block b (hQ.inb _ _ _ (h.2.1 i hi).1 b hbk)), (h.2.1 i hi).2⟩, h.2.2⟩
theorem NdG.turn {Q : World → Option Addr × Nat → List Int → Prop} (hQ : MarkQ Q) {w w' : World} {base : Nat} {A A' : Option Addr} {c : Nat} {ps : List PN} (h : NdG Q w base A c ps) (ht : Turn (fun b => blk A' = some b) w w') (hA : Apart A' A) (hp : ∀ i (h : i < ps.length), Apart (ps[i]).1.1 A') : NdG Q w' base A c ps :=
  ⟨own_turnN h.1 ht hA, fun i hi => ⟨hQ.keep _ _ _ _ (h.2.1 i hi).1 ht.size (fun b hbk => ht.block (hQ.inb _ _ _ (h.2.1 i hi).1 b hbk) (fun e => hp i hi b hbk e)), (h.2.1 i hi).2⟩, h.2.2⟩

set_option maxHeartbeats 4000000 in
theorem markProg_any {Q : World → Option Addr × Nat → List Int → Prop} (hQ : MarkQ Q) (A A' : Option Addr) (c c' base k : Nat) (ps : List PN) (ys : List As) (w : World) (ho : ProgG Q w base A c A' c' ps ys)  (hk1 : 1 ≤ k) (hk2 : k + offN ps ps.length + 2 * ys.length ≤ 4611686018427387904) (hl : ps.length ≤ 1099511627776) :
    Calls Tryz.prog 7 #[pgv A A' ps.length c ys.length c', .int .i64 k] w fun e w' => e = .returned (.int .i64 ((k + offN ps ps.length + 2 * ys.length : Nat) : Int)) ∧ ProgG Q w' base A c A' c' (mkI k ps.length ps) (asI (k + offN ps ps.length) ys.length ys) ∧ Turn (SP A A' ps) w w' := by
  have HT0 : Held w (w.alloc (.cells #[.slice A ps.length c, .slice A' ys.length c'] 25)) [(w.heap.size, [.slice A ps.length c, .slice A' ys.length c'])] := by
    have h := (Held.nil w).new #[.slice A ps.length c, .slice A' ys.length c'] 25
    simpa only [World.size_alloc] using h
  have hb0 : Below w.heap.size w (w.alloc (.cells #[.slice A ps.length c, .slice A' ys.length c'] 25)) := HT0.below
  have h1 := markNodeS_any hQ A c base k ps _ (ho.1.keepB hQ hb0) (by omega) hl
  have hown := own_keep' ho.2.1 hb0
  obtain ⟨W1, hW1⟩ : ∃ W, W = w.alloc (.cells #[.slice A ps.length c, .slice A' ys.length c'] 25) := ⟨_, rfl⟩
  have hsz : w.heap.size ≤ W1.heap.size := by rw [hW1]; simp
  have hT0 : Turn (SP A A' ps) w W1 := by rw [hW1]; exact Turn.of_later hb0
  have HAP := Lib.hid ho.2.2
  have HQ := Lib.hid hQ
  have HS : Hid (∀ b, SP A A' ps b → b < w.heap.size) := Lib.hid fun b h => by
    rcases h with (h | ⟨p, hp, h⟩) | h
    · exact (ho.1.1.lt b (of_blk h)).2
    · obtain ⟨i, hi, rfl⟩ := List.getElem_of_mem hp
      exact hQ.inb _ _ _ (ho.1.2.1 i hi).1 b h
    · exact (ho.2.1.lt b (of_blk h)).2
  rw [← hW1] at h1 hown
  have HT1 : Held w W1 [(w.heap.size, [.slice A ps.length c, .slice A' ys.length c'])] := by rw [hW1]; exact HT0
  have H1 := Lib.hid h1
  have HOW := Lib.hid hown
  have HTU := Lib.hid hT0
  clear ho hb0 h1 hown hT0 hQ HT0
  go_enter Tryz.func7, Tryz.ntmps7
  go_upto_region 1 with fail
  rw [← hW1]
  clear hW1
  have c0 := (HT1.box 0).c 0
  go_wp2_with fail
  refine H1.out.mono ?_
  rintro e w2 ⟨rfl, hn2, ht2⟩
  have hM2 : Mbox w2 w.heap.size [.slice A ps.length c, .slice A' ys.length c'] := (HT1.box 0).turn ht2 (fun h => by have := HS.out _ (.inl h); omega)
  have hown2 : w2.ownsRow base 43 2 (.slice A' ys.length c') ys.length (ys.flatMap asg) := by
    have hn : ∀ b, SN A ps b → blk A' ≠ some b := fun b h => by
      rcases h with h | ⟨p, hp, h⟩
      · exact HAP.out.1 b h
      · obtain ⟨i, hi, rfl⟩ := List.getElem_of_mem hp
        exact HAP.out.2 i hi b h
    exact own_keepN HOW.out (fun b hb => ht2.block (Nat.lt_of_lt_of_le (HS.out _ (.inr (blk_of hb))) hsz) (fun h => hn _ h (blk_of hb)))
  have c1 := hM2.c 1
  have HT2 := Lib.hid (HTU.out.trans (ht2.mono (S' := SP A A' ps) (fun b h => .inl h)))
  have HN2 := Lib.hid hn2
  have h3 := markAsgS_any A' c' base (k + offN ps ps.length) ys w2 hown2 (by omega) (by omega)
  have H3 := Lib.hid h3
  clear h3 hn2 ht2 hM2 hown2 c0 H1 HTU HT1 HOW
  go_wp2_with fail
  refine H3.out.mono ?_
  rintro e w3 ⟨rfl, ho3, ht3⟩
  have hn3 := HN2.out.turn HQ.out ht3 HAP.out.1.symm (fun i h => by
    have h' : i < ps.length := by rw [mkI_len] at h; exact h
    rw [mkI_addr k _ ps i h h']
    exact HAP.out.2 i h')
  have hfin : ProgG Q w3 base A c A' c' (mkI k ps.length ps) (asI (k + offN ps ps.length) ys.length ys) := ⟨hn3, by rw [asI_len]; exact ho3, HAP.out.1, fun i h => by
    have h' : i < ps.length := by rw [mkI_len] at h; exact h
    rw [mkI_addr k _ ps i h h']
    exact HAP.out.2 i h'⟩
  have HF := Lib.hid hfin
  have HT3 := Lib.hid (HT2.out.trans (ht3.mono (S' := SP A A' ps) (fun b h => .inr h)))
  clear hfin hn3 ho3 ht3 HN2 HT2 H3 c1
  go_wp2_with fail
  go_ret
  exact ⟨rfl, HF.out, HT3.out⟩
end Go.Proofs.YtkbdnjhgcoihhaaGreatDoor
