/- The model's lexer, on: Tokenize. -/
import Derived.Test.YtkbdnjhgcoihhaaGreatDoorProg
import Derived.Test.YtkbdnjhgcoihhaaGreatDoorInts
import Derived.Test.YtkbdnjhgcoihhaaGreatDoorVbox
import Derived.Test.YtkbdnjhgcoihhaaGreatDoorHeld
import Derived.Test.YtkbdnjhgcoihhaaGreatDoorMem
import Derived.Test.YtkbdnjhgcoihhaaGreatDoorFlat
import Derived.Test.YtkbdnjhgcoihhaaGreatDoorRowC
import Derived.Test.YtkbdnjhgcoihhaaGreatDoorKS
import Derived.Test.YtkbdnjhgcoihhaaGreatDoorStrS
import Derived.Test.YtkbdnjhgcoihhaaGreatDoorTok
import Derived.Test.YtkbdnjhgcoihhaaGreatDoorFn
import Derived.Test.YtkbdnjhgcoihhaaGreatDoorTp
import Derived.Test.YtkbdnjhgcoihhaaGreatDoorTk
import Derived.Test.YtkbdnjhgcoihhaaGreatDoorTl
import Derived.WalkKit
import Derived.WalkSpells
import Derived.WalkLawsBesides
import Derived.Lib.Hide
import Derived.Deep.RegionHeld3
import Derived.Deep.QuietTactic
import Derived.BigQuiet
import Derived.Handy
import Derived.Deep.DeepCutAuto
import Derived.Deep.CutRange
namespace Go.Proofs.YtkbdnjhgcoihhaaGreatDoor
open Go.RowKit

def TokRes (R : List Tk × Int) (w : World) (e : Ending) (w' : World) : Prop :=
  ∃ (A : Option Addr) (c : Nat), e = .returned (.tuple #[.slice A R.1.length c, .int .i64 R.2]) ∧ w'.ownsRow w.heap.size 38 4 (.slice A R.1.length c) R.1.length (R.1.flatMap tkg) ∧ Below w.heap.size w w'
theorem tokRes_nil {n : Int} {w w' : World} (hb : Below w.heap.size w w') : TokRes ([], n) w (.returned (.tuple #[.slice none 0 0, .int .i64 n])) w' :=
  ⟨none, 0, rfl, World.ownsRow_nil _ _ _ _, hb⟩
theorem snoc_flat (xs : List Tk) (v : Tk) : (xs ++ [v]).flatMap tkg = xs.flatMap tkg ++ tkg v := by simp

set_option maxRecDepth 100000 in
set_option maxHeartbeats 4000000 in
theorem sTok_any (s : ByteArray) (w : World) :
    Calls Tryz.prog 9 #[.string s] w (TokRes (tokP s) w) := by
  by_cases hbig : 2000 < s.size
  · have hb : (2000 : Int) < (s.size : Int) := by omega
    have HR : Hid (tokP s = ([], 0)) := Lib.hid (by unfold tokP; rw [if_pos hbig])
    go_enter Tryz.func9, Tryz.ntmps9
    go_wp2_with fail
    exact bodyPost_ret (v := .tuple #[.slice none 0 0, .int .i64 0]) (by simp [results, Tryz.results9, go_sem]) rfl (by rw [HR.out]; exact tokRes_nil (Below.refl _ _))
  · have hb : ¬ (2000 : Int) < (s.size : Int) := by omega
    obtain ⟨R, hR⟩ : ∃ R, R = tokP s := ⟨_, rfl⟩
    have hR0 : tokT s 0 [] = R := by rw [hR]; unfold tokP; rw [if_neg hbig]
    rw [← hR]
    have HR0 := Lib.hid hR0
    clear hR hR0
    go_enter Tryz.func9, Tryz.ntmps9
    go_wp2
    have h0own : World.ownsRow (w.alloc (.cells #[] 38)) w.heap.size 38 4 (.slice (some ⟨w.heap.size, 0, none⟩) 0 0) 0 [] := World.ownsRow_lit w #[] 0 (Nat.le_refl _) (Nat.zero_le _) (by simp)
    go_loopw [4, 5] (fun v i wr => ∃ (k : Nat) (acc : List Tk), k ≤ s.size ∧ acc.length ≤ k ∧ i = .int .i64 k ∧ wr.ownsRow w.heap.size 38 4 v acc.length (acc.flatMap tkg) ∧ Below w.heap.size w wr ∧ tokT s k acc = R) (fun _ i _ => s.size - (intOf i).toNat)
    case atStart => exact ⟨0, [], Nat.zero_le _, Nat.le_refl _, rfl, h0own, (Below.refl _ _).alloc (Nat.le_refl _) _, HR0.out⟩
    case round =>
      obtain ⟨k, acc, hk, hacc, rfl, hown, hbel, hT⟩ := hrel
      have HO := Lib.hid hown
      have HB := Lib.hid hbel
      have HT := Lib.hid hT
      clear hown hbel hT h0own
      by_cases hlt : k < s.size
      · have hlt' : (k : Int) < (s.size : Int) := by omega
        cases hbl : blkB s[k] with
        | true =>
          have hst := Lib.hid (HT.out.symm.trans (tok_blank hlt hbl)).symm
          go_upto_region 6 with fail
          go_cut [26] from 13 to 43 (fun y wx => wr = wx ∧ y = .bool true)
          case first =>
            have hor := (blkB_iff _).1 hbl
            by_cases h32 : (s[k]).toNat = 32
            · have b0 : (((s[k]).toNat : Int) == 32) = true := by simp [h32]; 
              go_wp2_with fail
              go_meet
              exact ⟨rfl, rfl⟩
            · have b0 : (((s[k]).toNat : Int) == 32) = false := by simp; omega
              have b1 : (((s[k]).toNat : Int) == 10) = true := by simp; omega
              go_wp2_with fail
              go_meet
              exact ⟨rfl, rfl⟩
          case rest =>
            obtain ⟨rfl, rfl⟩ := hcut
            go_wp2_with fail
            go_roundw
            case rel => exact ⟨k + 1, acc, by omega, by omega, by go_num, HO.out, HB.out, hst.out⟩
            case measure => simp [intOf]; omega
        | false =>
          have hscan := fun W => sScan_any s k W hlt (by omega)
          have HSC := Lib.hid hscan
          go_upto_region 6 with fail
          go_cut [26] from 13 to 43 (fun y wx => wr = wx ∧ y = .bool false)
          case first =>
            have hor : ¬ ((s[k]).toNat = 32 ∨ (s[k]).toNat = 10) := fun h => by rw [(blkB_iff _).2 h] at hbl; cases hbl
            have b0 : (((s[k]).toNat : Int) == 32) = false := by simp; omega
            have b1 : (((s[k]).toNat : Int) == 10) = false := by simp; omega
            clear hscan
            go_wp2_with fail
            go_meet
            exact ⟨rfl, rfl⟩
          case rest =>
            obtain ⟨rfl, rfl⟩ := hcut
            clear hscan
            go_wp2_with fail
            refine (HSC.out _).mono ?_
            rintro e w2 ⟨hb2, he⟩
            have HO2 := Lib.hid (own_keep' HO.out hb2)
            have HB2 := Lib.hid (HB.out.trans (hb2.mono HB.out.size))
            clear hb2
            cases hsc : scanT s k s[k] with
            | none =>
              rw [hsc] at he
              obtain ⟨t, q, rfl⟩ := he
              have hst : R = ([], (k : Int)) := HT.out.symm.trans (tok_none hlt hbl hsc)
              have HST := Lib.hid hst
              clear hst hsc hbl
              go_wp2_with fail
              exact bodyPost_ret (v := .tuple #[.slice none 0 0, .int .i64 k]) (by simp [results, Tryz.results9, go_sem]) rfl (by rw [HST.out]; exact tokRes_nil (HB2.out.alloc HB2.out.size _))
            | some t =>
              rw [hsc] at he
              have hst := Lib.hid (HT.out.symm.trans (tok_some hlt hbl hsc)).symm
              obtain ⟨hz1, hz2, -⟩ := scan_size hlt hsc
              obtain ⟨q, hq⟩ : ∃ q, q = k + t.2.1.size := ⟨_, rfl⟩
              have hst' : Hid (tokT s q (acc ++ [t]) = R) := Lib.hid (by rw [hq]; exact hst.out)
              have hqs : q ≤ s.size := by rw [hq]; exact hz2
              have hkq : k + 1 ≤ q := by rw [hq]; exact Nat.add_le_add_left hz1 k
              have he' : e = .returned (.tuple #[tkv t, .int .i64 (q : Nat), .bool true]) := by rw [hq]; exact he
              subst he'
              have HQS := Lib.hid hqs
              have HKQ := Lib.hid hkq
              clear he hst hsc hbl hz1 hz2 hq HO HB HT hqs hkq
              go_upto_region 9 with fail
              obtain ⟨W1, hW1⟩ : ∃ W, W = w2.alloc (.cells #[.int .i64 t.1, .string t.2.1, .int .i64 t.2.2.1, .int .i64 t.2.2.2] 38) := ⟨_, rfl⟩
              have M := Mbox.new w2 #[.int .i64 t.1, .string t.2.1, .int .i64 t.2.2.1, .int .i64 t.2.2.2] 38
              have HO1 := Lib.hid (HO2.out.alloc (.cells #[.int .i64 t.1, .string t.2.1, .int .i64 t.2.2.1, .int .i64 t.2.2.2] 38))
              have HB1 := Lib.hid (HB2.out.alloc HB2.out.size (.cells #[.int .i64 t.1, .string t.2.1, .int .i64 t.2.2.1, .int .i64 t.2.2.2] 38))
              rw [← hW1] at M HO1 HB1 ⊢
              have m0 := M.c 0
              have m1 := M.c 1
              have m2 := M.c 2
              have m3 := M.c 3
              clear hW1 M
              have hs1 : w.heap.size ≤ W1.heap.size := HB1.out.size
              go_wp2_with (at_builtin; refine wpList_app4 W1 rfl _ _ 31 rfl w.heap.size 38 (tok 0 ⟨#[]⟩ 0 0) 40 Tryz.underlying31 infoTok rfl _ _ _ (by rfl) HO1.out _ _ _ _ (by rfl) ⟨rfl, rfl, rfl, rfl⟩ (by unfold maxLen; omega) (by omega) hs1 ?_)
              intro v' w4 ho4 hg4
              have HO4 := Lib.hid ho4
              have HB4 := Lib.hid (HB1.out.grown hg4 hs1 (own_block HO1.out))
              clear ho4 hg4
              go_wp2_with fail
              go_roundw
              case rel => exact ⟨q, acc ++ [t], HQS.out, by have := HKQ.out; simp; omega, by go_num, by rw [snoc_flat, List.length_append]; exact HO4.out, HB4.out, hst'.out⟩
              case measure => have := HKQ.out; have := HQS.out; simp [intOf]; omega
      · have hge : s.size ≤ k := by omega
        have hl' : ¬ (k : Int) < (s.size : Int) := by omega
        have hst := HT.out.symm.trans (tok_end hge)
        have HST := Lib.hid hst
        have hs1 : w.heap.size ≤ wr.heap.size := HB.out.size
        clear hst HT
        go_wp2_with (at_builtin; refine wpList_app4 wr rfl _ _ 31 rfl w.heap.size 38 (tok 0 ⟨#[]⟩ 0 0) 40 Tryz.underlying31 infoTok rfl _ _ _ (by rfl) HO.out _ _ _ _ (by rfl) ⟨rfl, rfl, rfl, rfl⟩ (by unfold maxLen; omega) (by omega) hs1 ?_)
        intro v' w4 ho4 hg4
        obtain ⟨A4, c4, rfl⟩ := own_shape ho4
        have HO4 := Lib.hid ho4
        have HB4 := Lib.hid (HB.out.grown hg4 hs1 (own_block HO.out))
        clear ho4 hg4
        go_wp2_with fail
        refine bodyPost_ret (v := .tuple #[.slice A4 (acc.length + 1) c4, .int .i64 (-1)]) (by simp [results, Tryz.results9, go_sem]) rfl ?_
        rw [HST.out]
        refine ⟨A4, c4, ?_, ?_, HB4.out⟩
        · rw [List.length_append]; rfl
        · rw [snoc_flat, List.length_append]; exact HO4.out
end Go.Proofs.YtkbdnjhgcoihhaaGreatDoor
