/- The checker of the model: names. -/
import Derived.Test.YtpcdlehicdepaaaProg
import Derived.Test.YtpcdlehicdepaaaInts
import Derived.Test.YtpcdlehicdepaaaVbox
import Derived.Test.YtpcdlehicdepaaaHeld
import Derived.Test.YtpcdlehicdepaaaMem
import Derived.Test.YtpcdlehicdepaaaFlat
import Derived.Test.YtpcdlehicdepaaaRowC
import Derived.Test.YtpcdlehicdepaaaKS
import Derived.Test.YtpcdlehicdepaaaStrS
import Derived.Test.YtpcdlehicdepaaaIntS
import Derived.Test.YtpcdlehicdepaaaSS
import Derived.Test.YtpcdlehicdepaaaPg
import Derived.Test.YtpcdlehicdepaaaPh
import Derived.Test.YtpcdlehicdepaaaPi
import Derived.Test.YtpcdlehicdepaaaIdent
import Derived.Test.YtpcdlehicdepaaaPn
import Derived.Test.YtpcdlehicdepaaaQa
import Derived.Test.YtpcdlehicdepaaaQb
import Derived.Test.YtpcdlehicdepaaaQd
import Derived.Test.YtpcdlehicdepaaaQe
import Derived.Test.YtpcdlehicdepaaaSa
import Derived.Test.YtpcdlehicdepaaaSb
import Derived.Test.YtpcdlehicdepaaaSc
import Derived.Test.YtpcdlehicdepaaaSd
import Derived.WalkKit
import Derived.WalkSpells
import Derived.WalkLawsBesides
import Derived.Lib.Hide
import Derived.Deep.RegionHeld3
import Derived.Deep.QuietTactic
import Derived.BigQuiet
import Derived.Handy
import Derived.Deep.DeepCutAuto
import Derived.OwnWalk
namespace Go.Proofs.Ytpcdlehicdepaaa
open Go.RowKit

/-- what l14Names answers -/
def namP (xs : List Nd) (ys : List As) : Int := match firstB xs.length (badN xs ys) with
  | some i => (i : Int)
  | none => -1

set_option maxRecDepth 100000 in
set_option maxHeartbeats 8000000 in
theorem sNames_any (A A' : Option Addr) (c c' : Nat) (xs : List Nd) (ys : List As) (w : World) (hR : ProgIn w w.heap.size A A' xs ys) (hok : okPr xs ys) (hx : ∀ x ∈ xs, x.2.2.2.length ≤ 1048576) :
    Calls Try.prog 39 #[pgv A A' xs.length c ys.length c'] w fun e w' => e = .returned (.int .i64 (namP xs ys)) ∧ Below w.heap.size w w' := by
  have hlen := okPr_len hok
  have h60 : xs.length ≤ 60 := hok.1
  have hy60 : ys.length ≤ 60 := by omega
  have HOK := Lib.hid hok
  have HXS := Lib.hid hx
  clear hok hlen hx
  obtain ⟨W1, hW1⟩ : ∃ W, W = w.alloc (.cells #[.slice A xs.length c, .slice A' ys.length c'] 35) := ⟨_, rfl⟩
  have M := Mbox.new w #[.slice A xs.length c, .slice A' ys.length c'] 35
  have hB : Below w.heap.size w (w.alloc (.cells #[.slice A xs.length c, .slice A' ys.length c'] 35)) := by go_grown
  have hR1 := (hR.alloc (Nat.le_refl _) (.cells #[.slice A xs.length c, .slice A' ys.length c'] 35)).more (B' := (w.alloc (.cells #[.slice A xs.length c, .slice A' ys.length c'] 35)).heap.size) (by simp)
  rw [← hW1] at M hB hR1
  have HM := Lib.hid M
  have HB := Lib.hid hB
  have HR := Lib.hid hR1
  clear M hB hR hR1
  go_enter Try.func39, Try.ntmps39
  go_upto_region 1 with fail
  rw [← hW1]
  clear hW1
  have m0 := HM.out.c 0
  have m1 := HM.out.c 1
  go_wp2_with fail
  refine (sOwners_any A A' c c' xs ys W1 HR.out HOK.out).mono ?_
  rintro e w3 ⟨A2, rfl, hrow, hb3⟩
  have HM3 := Lib.hid (HM.out.later hb3)
  have HR3 := Lib.hid (HR.out.later hb3)
  have HB3 := Lib.hid (HB.out.trans (hb3.mono HB.out.size))
  have HOW := Lib.hid hrow
  clear hrow hb3 m0 m1
  have m0 := HM3.out.c 0
  have m1 := HM3.out.c 1
  go_wp2_with fail
  go_loopw [11] (fun i wr => ∃ k : Nat, k ≤ xs.length ∧ i = .int .i64 k ∧ Below w3.heap.size w3 wr ∧ ∀ j, j < k → badN xs ys j = false) (fun i _ => xs.length - (intOf i).toNat)
  case atStart => exact ⟨0, Nat.zero_le _, rfl, Below.refl _ _, fun j h => by omega⟩
  case round =>
    clear m0 m1
    obtain ⟨k, hk, rfl, hb, hno⟩ := hrel
    have HNO := Lib.hid hno
    clear hno
    by_cases hlt : k < xs.length
    · obtain ⟨bb, o, rfl, hbl, a, ca, c0, c1, c2, c3, hca1, hca2, hrow⟩ := HR3.out.1.at hlt
      obtain ⟨b3, o3, rfl, hbl3, hz⟩ := HOW.out.at (k := k) (by simp; omega)
      obtain ⟨z, hzz⟩ : ∃ z, z = ownV xs ys k := ⟨_, rfl⟩
      have hz : w3.cell? ⟨b3, o3 + k, none⟩ = some (.int .i64 z) := by rw [hzz]; simpa using hz
      have c0 := (hb.cell (p := ⟨bb, o + k * 4, none⟩) hbl).trans c0
      have c1 := (hb.cell (p := ⟨bb, o + k * 4 + 1, none⟩) hbl).trans c1
      have c2 := (hb.cell (p := ⟨bb, o + k * 4 + 2, none⟩) hbl).trans c2
      have c3 := (hb.cell (p := ⟨bb, o + k * 4 + 3, none⟩) hbl).trans c3
      have hz := (hb.cell (p := ⟨b3, o3 + k, none⟩) hbl3).trans hz
      have hl3 := HXS.out _ (List.getElem_mem hlt)
      obtain ⟨v, hv⟩ : ∃ v, v = xs[k] := ⟨_, rfl⟩
      rw [← hv] at c0 c1 c2 c3 hca1 hl3
      have HV : Hid (ndA xs k = v) := Lib.hid (by unfold ndA; rw [getD_at hlt]; exact hv.symm)
      obtain ⟨v0, v1, v2, v3⟩ := v
      dsimp only at c0 c1 c2 c3 hca1 hl3
      have hlt' : (k : Int) < (xs.length : Int) := by omega
      have hge' : (0 : Int) ≤ (k : Int) := by omega
      have hm := HM3.out.later hb
      have hr := HR3.out.later hb
      have hZB : b3 < wr.heap.size := Nat.lt_of_lt_of_le hbl3 hb.size
      have hb2 : Below wr.heap.size wr (wr.alloc (.cells #[.int .i64 v0, .string v1, .int .i64 v2, .slice a v3.length ca] 56)) := by go_grown
      have hm := hm.later hb2
      have hr := hr.later hb2
      have hz := (hb2.cell (p := ⟨b3, o3 + k, none⟩) hZB).trans hz
      have hb := hb.trans (hb2.mono hb.size)
      have hZB2 := Nat.lt_of_lt_of_le hZB hb2.size
      clear hrow hv hca1 hca2 hbl hbl3 hZB hb2
      go_upto_region 5 with fail
      obtain ⟨W2, hW2⟩ : ∃ W, W = wr.alloc (.cells #[.int .i64 v0, .string v1, .int .i64 v2, .slice a v3.length ca] 56) := ⟨_, rfl⟩
      obtain ⟨g, hg⟩ : ∃ g, g = wr.heap.size := ⟨_, rfl⟩
      have M2 := Mbox.new wr #[.int .i64 v0, .string v1, .int .i64 v2, .slice a v3.length ca] 56
      rw [← hW2] at M2 hm hr hz hb hZB2 ⊢
      rw [← hg] at M2 ⊢
      clear hW2 hg c0 c1 c2 c3
      have HT : Held W2 W2 [(g, [.int .i64 v0, .string v1, .int .i64 v2, .slice a v3.length ca]), (w.heap.size, [.slice (some ⟨bb, o, none⟩) xs.length c, .slice A' ys.length c'])] := ((Held.nil W2).cons hm).cons M2
      have HC : ∀ W', Held W2 W' [(g, [.int .i64 v0, .string v1, .int .i64 v2, .slice a v3.length ca]), (w.heap.size, [.slice (some ⟨bb, o, none⟩) xs.length c, .slice A' ys.length c'])] → W'.cell? ⟨g, 0, none⟩ = some (.int .i64 v0) ∧ W'.cell? ⟨g, 1, none⟩ = some (.string v1) ∧ W'.cell? ⟨w.heap.size, 0, none⟩ = some (.slice (some ⟨bb, o, none⟩) xs.length c) ∧ W'.cell? ⟨w.heap.size, 1, none⟩ = some (.slice A' ys.length c') ∧ W'.cell? ⟨b3, o3 + k, none⟩ = some (.int .i64 z) := fun W' h => ⟨(h.box 0).c 0, (h.box 0).c 1, (h.box 1).c 0, (h.box 1).c 1, (h.below.cell (p := ⟨b3, o3 + k, none⟩) hZB2).trans hz⟩
      have HVAR := Lib.hid (fun W => sVar_any v1 W)
      have HAS := Lib.hid (fun W (h : Below W2.heap.size W2 W) => sAsgd_any _ A' c c' xs ys v1 z W (hr.later h) (by omega))
      obtain ⟨q, hq⟩ : ∃ q, q = asgd ys v1 z := ⟨_, rfl⟩
      rw [← hq] at HAS
      obtain ⟨vb, hvb⟩ : ∃ b, b = varB v1 := ⟨_, rfl⟩
      rw [← hvb] at HVAR
      obtain ⟨B1, hB1⟩ : ∃ B : Bool, B = (decide (v0 = 2) && !vb && decide (q < 0)) := ⟨_, rfl⟩
      have HB1 := Lib.hid hB1
      have HBD : Hid (badN xs ys k = (B1 || (decide (v0 = 8) && decide (arN v1 < 0)))) := Lib.hid (by unfold badN; rw [HV.out]; simp only; rw [← hvb, ← hzz, ← hq, ← hB1])
      have HBW := Lib.hid hb
      clear hm hr hz hb M2 hq hvb hB1 hzz
      go_cut [35] (fun y wx => y = .bool B1 ∧ Held W2 wx [(g, [.int .i64 v0, .string v1, .int .i64 v2, .slice a v3.length ca]), (w.heap.size, [.slice (some ⟨bb, o, none⟩) xs.length c, .slice A' ys.length c'])])
      case first =>
        by_cases e2 : v0 = 2
        · have b2 : (v0 == 2) = true := by simp [e2]
          rw [decide_eq_true e2] at HB1
          clear e2
          cases vb with
          | true =>
            have hHC := HC _ HT.drew
            have HQ := HT.drew
            refine wp_region_held_drew (S := fun W' => W'.cell? ⟨g, 0, none⟩ = some (.int .i64 v0) ∧ W'.cell? ⟨g, 1, none⟩ = some (.string v1) ∧ W'.cell? ⟨w.heap.size, 0, none⟩ = some (.slice (some ⟨bb, o, none⟩) xs.length c) ∧ W'.cell? ⟨w.heap.size, 1, none⟩ = some (.slice A' ys.length c') ∧ W'.cell? ⟨b3, o3 + k, none⟩ = some (.int .i64 z)) (by kernel_rfl) hHC (fun hHeld => ?_)
            clear hHC
            refine wpAnyH_take (i := 0) (oi := { dst := some 16, op := Op.fieldAddr 56 (Operand.tmp 5) 0, type := 0, pos := "l14_checker.go:73", after := #[], guard := none }) (v := ?_) rfl (by kernel_rfl) (by kernel_rfl) (by kernel_rfl) (fun _ _ _ h => h) (Or.inl ⟨by rfl, ?_⟩) (by assumption) ?_
            rotate_left 1
            · (intro w hSw; (try dsimp only at hSw); go_simp <;> with_reducible rfl)
            (try simp only [Act.put, List.setIfInBounds_toArray, List.set_cons_zero, List.set_cons_succ])
            refine wpAnyH_take (i := 1) (oi := { dst := some 17, op := Op.load 3 (Operand.tmp 16), type := 3, pos := "l14_checker.go:73", after := #[{ on := 0, ground := Ground.data }], guard := none }) (v := ?_) rfl (by kernel_rfl) (by kernel_rfl) (by kernel_rfl) (fun _ _ _ h => h) (Or.inl ⟨by rfl, ?_⟩) (by assumption) ?_
            rotate_left 1
            · (intro w hSw; (try dsimp only at hSw); go_simp <;> with_reducible rfl)
            (try simp only [Act.put, List.setIfInBounds_toArray, List.set_cons_zero, List.set_cons_succ])
            refine wpAnyH_take (i := 2) (oi := { dst := some 18, op := Op.binOp BinOp.eql 3 (Operand.tmp 17) (Operand.const (Value.int IntKind.i64 2)) 3, type := 4, pos := "l14_checker.go:73", after := #[{ on := 1, ground := Ground.data }], guard := none }) (v := ?_) rfl (by kernel_rfl) (by kernel_rfl) (by kernel_rfl) (fun _ _ _ h => h) (Or.inl ⟨by rfl, ?_⟩) (by assumption) ?_
            rotate_left 1
            · (intro w hSw; (try dsimp only at hSw); go_simp <;> with_reducible rfl)
            (try simp only [Act.put, List.setIfInBounds_toArray, List.set_cons_zero, List.set_cons_succ])
            refine wpAnyH_take (i := 3) (oi := { dst := some 19, op := Op.move (Operand.tmp 18), type := 4, pos := "l14_checker.go:73", after := #[{ on := 2, ground := Ground.data }], guard := none }) (v := ?_) rfl (by kernel_rfl) (by kernel_rfl) (by kernel_rfl) (fun _ _ _ h => h) (Or.inl ⟨by rfl, ?_⟩) (by assumption) ?_
            rotate_left 1
            · (intro w hSw; (try dsimp only at hSw); go_simp <;> with_reducible rfl)
            (try simp only [Act.put, List.setIfInBounds_toArray, List.set_cons_zero, List.set_cons_succ])
            refine wpAnyH_take (i := 4) (oi := { dst := some 20, op := Op.fieldAddr 56 (Operand.tmp 5) 1, type := 0, pos := "l14_checker.go:73", after := #[{ on := 3, ground := Ground.guard }], guard := some (3, true) }) (v := ?_) rfl (by kernel_rfl) (by kernel_rfl) (by kernel_rfl) (fun _ _ _ h => h) (Or.inl ⟨by rfl, ?_⟩) (by assumption) ?_
            rotate_left 1
            · (intro w hSw; (try dsimp only at hSw); go_simp <;> with_reducible rfl)
            (try simp only [Act.put, List.setIfInBounds_toArray, List.set_cons_zero, List.set_cons_succ])
            refine wpAnyH_take (i := 5) (oi := { dst := some 21, op := Op.load 9 (Operand.tmp 20), type := 9, pos := "l14_checker.go:73", after := #[{ on := 4, ground := Ground.data }, { on := 3, ground := Ground.guard }], guard := some (3, true) }) (v := ?_) rfl (by kernel_rfl) (by kernel_rfl) (by kernel_rfl) (fun _ _ _ h => h) (Or.inl ⟨by rfl, ?_⟩) (by assumption) ?_
            rotate_left 1
            · (intro w hSw; (try dsimp only at hSw); go_simp <;> with_reducible rfl)
            (try simp only [Act.put, List.setIfInBounds_toArray, List.set_cons_zero, List.set_cons_succ])
            refine wpAnyH_ready (rs := [6]) (by kernel_rfl) (by simp) ?_
            refine AllReadyH.cons (o := { dst := some 22, op := Op.call { callee := Callee.value (Operand.func 12), args := #[Operand.tmp 21], argTypes := #[9] }, type := 4, pos := "l14_checker.go:73", after := #[{ on := 5, ground := Ground.data }, { on := 3, ground := Ground.chain }, { on := 3, ground := Ground.guard }], guard := some (3, true) }) rfl (fun K hK => ?_) ?_
            · go_simp
              (with_reducible refine (HVAR.out _).mono ?_)
              rintro e w7 ⟨rfl, hb7⟩
              have HQ := HQ.later hb7
              clear hb7
              (try go_wp2_with fail)
              refine hK.out _ _ (by (try dsimp only); with_reducible exact HC _ HQ) (fun hHeld => ?_)
              clear hK K
              (try simp only [Act.put, List.setIfInBounds_toArray, List.set_cons_zero, List.set_cons_succ])
              refine wpAnyH_take (i := 7) (oi := { dst := some 23, op := Op.unOp UnOp.not 4 (Operand.tmp 22), type := 4, pos := "l14_checker.go:73", after := #[{ on := 6, ground := Ground.data }, { on := 3, ground := Ground.guard }], guard := some (3, true) }) (v := ?_) rfl (by kernel_rfl) (by kernel_rfl) (by kernel_rfl) (fun _ _ _ h => h) (Or.inl ⟨by rfl, ?_⟩) (by assumption) ?_
              rotate_left 1
              · (intro w hSw; (try dsimp only at hSw); go_simp <;> with_reducible rfl)
              (try simp only [Act.put, List.setIfInBounds_toArray, List.set_cons_zero, List.set_cons_succ])
              refine wpAnyH_take (i := 8) (oi := { dst := some 24, op := Op.pick (Operand.tmp 19) (Operand.tmp 23) (Operand.const (Value.bool false)), type := 4, pos := "l14_checker.go:73", after := #[{ on := 3, ground := Ground.data }, { on := 7, ground := Ground.data }], guard := none }) (v := ?_) rfl (by kernel_rfl) (by kernel_rfl) (by kernel_rfl) (fun _ _ _ h => h) (Or.inl ⟨by rfl, ?_⟩) (by assumption) ?_
              rotate_left 1
              · (intro w hSw; (try dsimp only at hSw); go_simp <;> with_reducible rfl)
              (try simp only [Act.put, List.setIfInBounds_toArray, List.set_cons_zero, List.set_cons_succ])
              refine wpAnyH_take (i := 9) (oi := { dst := some 25, op := Op.move (Operand.tmp 24), type := 4, pos := "l14_checker.go:73", after := #[{ on := 8, ground := Ground.data }, { on := 6, ground := Ground.chain }], guard := none }) (v := ?_) rfl (by kernel_rfl) (by kernel_rfl) (by kernel_rfl) (fun _ _ _ h => h) (Or.inl ⟨by rfl, ?_⟩) (by assumption) ?_
              rotate_left 1
              · (intro w hSw; (try dsimp only at hSw); go_simp <;> with_reducible rfl)
              (try simp only [Act.put, List.setIfInBounds_toArray, List.set_cons_zero, List.set_cons_succ])
              refine wpAnyH_take (i := 10) (oi := { dst := some 26, op := Op.load 35 (Operand.tmp 1), type := 35, pos := "l14_checker.go:73", after := #[{ on := 9, ground := Ground.guard }], guard := some (9, true) }) (v := undef) rfl (by kernel_rfl) (by kernel_rfl) (by kernel_rfl) (fun _ _ _ h => h) (Or.inr ⟨by rfl, rfl⟩) (by assumption) ?_
              (try simp only [Act.put, List.setIfInBounds_toArray, List.set_cons_zero, List.set_cons_succ])
              refine wpAnyH_take (i := 11) (oi := { dst := some 27, op := Op.fieldAddr 56 (Operand.tmp 5) 1, type := 0, pos := "l14_checker.go:73", after := #[{ on := 9, ground := Ground.guard }], guard := some (9, true) }) (v := undef) rfl (by kernel_rfl) (by kernel_rfl) (by kernel_rfl) (fun _ _ _ h => h) (Or.inr ⟨by rfl, rfl⟩) (by assumption) ?_
              (try simp only [Act.put, List.setIfInBounds_toArray, List.set_cons_zero, List.set_cons_succ])
              refine wpAnyH_take (i := 12) (oi := { dst := some 28, op := Op.load 9 (Operand.tmp 27), type := 9, pos := "l14_checker.go:73", after := #[{ on := 11, ground := Ground.data }, { on := 9, ground := Ground.guard }], guard := some (9, true) }) (v := undef) rfl (by kernel_rfl) (by kernel_rfl) (by kernel_rfl) (fun _ _ _ h => h) (Or.inr ⟨by rfl, rfl⟩) (by assumption) ?_
              (try simp only [Act.put, List.setIfInBounds_toArray, List.set_cons_zero, List.set_cons_succ])
              refine wpAnyH_take (i := 13) (oi := { dst := some 29, op := Op.move (Operand.tmp 3), type := 49, pos := "l14_checker.go:73", after := #[{ on := 9, ground := Ground.guard }], guard := some (9, true) }) (v := undef) rfl (by kernel_rfl) (by kernel_rfl) (by kernel_rfl) (fun _ _ _ h => h) (Or.inr ⟨by rfl, rfl⟩) (by assumption) ?_
              (try simp only [Act.put, List.setIfInBounds_toArray, List.set_cons_zero, List.set_cons_succ])
              refine wpAnyH_take (i := 14) (oi := { dst := some 30, op := Op.move (Operand.tmp 4), type := 3, pos := "l14_checker.go:73", after := #[{ on := 9, ground := Ground.guard }], guard := some (9, true) }) (v := undef) rfl (by kernel_rfl) (by kernel_rfl) (by kernel_rfl) (fun _ _ _ h => h) (Or.inr ⟨by rfl, rfl⟩) (by assumption) ?_
              (try simp only [Act.put, List.setIfInBounds_toArray, List.set_cons_zero, List.set_cons_succ])
              refine wpAnyH_take (i := 15) (oi := { dst := some 31, op := Op.indexAddr 49 (Operand.tmp 29) (Operand.tmp 30), type := 0, pos := "l14_checker.go:73", after := #[{ on := 13, ground := Ground.data }, { on := 14, ground := Ground.data }, { on := 9, ground := Ground.guard }], guard := some (9, true) }) (v := undef) rfl (by kernel_rfl) (by kernel_rfl) (by kernel_rfl) (fun _ _ _ h => h) (Or.inr ⟨by rfl, rfl⟩) (by assumption) ?_
              (try simp only [Act.put, List.setIfInBounds_toArray, List.set_cons_zero, List.set_cons_succ])
              refine wpAnyH_take (i := 16) (oi := { dst := some 32, op := Op.load 3 (Operand.tmp 31), type := 3, pos := "l14_checker.go:73", after := #[{ on := 15, ground := Ground.data }, { on := 9, ground := Ground.guard }], guard := some (9, true) }) (v := undef) rfl (by kernel_rfl) (by kernel_rfl) (by kernel_rfl) (fun _ _ _ h => h) (Or.inr ⟨by rfl, rfl⟩) (by assumption) ?_
              (try simp only [Act.put, List.setIfInBounds_toArray, List.set_cons_zero, List.set_cons_succ])
              refine wpAnyH_take (i := 17) (oi := { dst := some 33, op := Op.call { callee := Callee.value (Operand.func 40), args := #[Operand.tmp 26, Operand.tmp 28, Operand.tmp 32], argTypes := #[35, 9, 3] }, type := 3, pos := "l14_checker.go:73", after := #[{ on := 10, ground := Ground.data }, { on := 12, ground := Ground.data }, { on := 16, ground := Ground.data }, { on := 9, ground := Ground.chain }, { on := 9, ground := Ground.guard }], guard := some (9, true) }) (v := undef) rfl (by kernel_rfl) (by kernel_rfl) (by kernel_rfl) (fun _ _ _ h => h) (Or.inr ⟨by rfl, rfl⟩) (by assumption) ?_
              (try simp only [Act.put, List.setIfInBounds_toArray, List.set_cons_zero, List.set_cons_succ])
              refine wpAnyH_take (i := 18) (oi := { dst := some 34, op := Op.binOp BinOp.lss 3 (Operand.tmp 33) (Operand.const (Value.int IntKind.i64 0)) 3, type := 4, pos := "l14_checker.go:73", after := #[{ on := 17, ground := Ground.data }, { on := 9, ground := Ground.guard }], guard := some (9, true) }) (v := undef) rfl (by kernel_rfl) (by kernel_rfl) (by kernel_rfl) (fun _ _ _ h => h) (Or.inr ⟨by rfl, rfl⟩) (by assumption) ?_
              (try simp only [Act.put, List.setIfInBounds_toArray, List.set_cons_zero, List.set_cons_succ])
              refine wpAnyH_take (i := 19) (oi := { dst := some 35, op := Op.pick (Operand.tmp 25) (Operand.tmp 34) (Operand.const (Value.bool false)), type := 4, pos := "l14_checker.go:73", after := #[{ on := 9, ground := Ground.data }, { on := 18, ground := Ground.data }], guard := none }) (v := ?_) rfl (by kernel_rfl) (by kernel_rfl) (by kernel_rfl) (fun _ _ _ h => h) (Or.inl ⟨by rfl, ?_⟩) (by assumption) ?_
              rotate_left 1
              · (intro w hSw; (try dsimp only at hSw); go_simp <;> with_reducible rfl)
              (try simp only [Act.put, List.setIfInBounds_toArray, List.set_cons_zero, List.set_cons_succ])
              refine wpAnyH_done (by kernel_rfl) ?_ _
              clear hHeld
              go_wp2
              go_meet
              exact ⟨by rw [HB1.out]; rfl, HQ⟩
            exact AllReadyH.nil
          | false =>
            go_region_held3 (fun W' => W'.cell? ⟨g, 0, none⟩ = some (.int .i64 v0) ∧ W'.cell? ⟨g, 1, none⟩ = some (.string v1) ∧ W'.cell? ⟨w.heap.size, 0, none⟩ = some (.slice (some ⟨bb, o, none⟩) xs.length c) ∧ W'.cell? ⟨w.heap.size, 1, none⟩ = some (.slice A' ys.length c') ∧ W'.cell? ⟨b3, o3 + k, none⟩ = some (.int .i64 z))
              (first | (with_reducible exact HC _ HT) | (with_reducible exact HC _ HT.drew))
              ((first | (go_at_call 12; (with_reducible refine (HVAR.out _).mono ?_); rintro e w7 ⟨rfl, hb7⟩; (first | (have HT := HT.later hb7) | (have HT := HT.drew.later hb7))) | (go_at_call 40; (with_reducible refine (HAS.out _ (by first | with_reducible exact HT.below | with_reducible exact HT.drew.below)).mono ?_); rintro e w7 ⟨rfl, hb7⟩; (first | (have HT := HT.later hb7) | (have HT := HT.drew.later hb7)))))
            all_goals (go_wp2_with fail; go_meet)
            all_goals (first | exact ⟨by rw [HB1.out]; rfl, HT⟩ | exact ⟨by rw [HB1.out]; rfl, HT.drew⟩)
        · have b2 : (v0 == 2) = false := by simp [e2]
          rw [decide_eq_false e2] at HB1
          clear e2
          obtain ⟨q0, q1, q2, q3, q4⟩ := HC _ HT
          clear HC
          go_quiet (fail)
          go_wp2_with fail
          go_meet
          exact ⟨by rw [HB1.out]; rfl, HT.drewN nq⟩
      case rest =>
        clear HC HT HVAR HAS
        obtain ⟨rfl, HT⟩ := hcut
        have n0 := (HT.box 0).c 0
        have n1 := (HT.box 0).c 1
        have HBX := Lib.hid (HBW.out.trans (HT.below.mono HBW.out.size))
        cases B1 with
        | true =>
          have HF : Hid (namP xs ys = (k : Int)) := Lib.hid (by unfold namP; rw [first_some hlt (by rw [HBD.out]; rfl) HNO.out])
          have HF2 := Lib.hid (HB3.out.trans (HBX.out.mono HB3.out.size))
          clear HT
          go_wp2_with fail
          go_ret
          exact ⟨by rw [HF.out]; rfl, HF2.out⟩
        | false =>
          by_cases e8 : v0 = 8
          · have b8 : (v0 == 8) = true := by simp [e8]
            have HAR := Lib.hid (sArity_any v1 wc)
            obtain ⟨r, hr⟩ : ∃ r, r = arN v1 := ⟨_, rfl⟩
            rw [← hr] at HAR HBD
            rw [decide_eq_true e8] at HBD
            clear hr e8 HT
            go_wp2_with fail
            refine HAR.out.mono ?_
            rintro e w7 ⟨rfl, hb7⟩
            have HBY := Lib.hid (HBX.out.trans (hb7.mono HBX.out.size))
            clear hb7
            by_cases hr0 : r < 0
            · have HF : Hid (namP xs ys = (k : Int)) := Lib.hid (by unfold namP; rw [first_some hlt (by rw [HBD.out, decide_eq_true hr0]; rfl) HNO.out])
              have HF2 := Lib.hid (HB3.out.trans (HBY.out.mono HB3.out.size))
              go_wp2_with fail
              go_ret
              exact ⟨by rw [HF.out]; rfl, HF2.out⟩
            · have HN2 : Hid (∀ j, j < k + 1 → badN xs ys j = false) := Lib.hid (fun j hj => by
                by_cases e : j = k
                · rw [e, HBD.out, decide_eq_false hr0]
                  rfl
                · exact HNO.out j (by omega))
              go_wp2_with fail
              go_roundw
              case rel => exact ⟨k + 1, by omega, by go_num, HBY.out, HN2.out⟩
              case measure => simp [intOf]; omega
          · have b8 : (v0 == 8) = false := by simp [e8]
            have HN2 : Hid (∀ j, j < k + 1 → badN xs ys j = false) := Lib.hid (fun j hj => by
              by_cases e : j = k
              · rw [e, HBD.out, decide_eq_false e8]
                rfl
              · exact HNO.out j (by omega))
            clear HT e8
            go_wp2_with fail
            go_roundw
            case rel => exact ⟨k + 1, by omega, by go_num, HBX.out, HN2.out⟩
            case measure => simp [intOf]; omega
    · obtain rfl : k = xs.length := by omega
      have HF : Hid (namP xs ys = -1) := Lib.hid (by unfold namP; rw [first_none HNO.out])
      have HF2 := Lib.hid (HB3.out.trans (hb.mono HB3.out.size))
      have hge2 : ¬ ((xs.length : Nat) : Int) < ((xs.length : Nat) : Int) := by omega
      clear hb
      go_wp2_with fail
      go_ret
      exact ⟨by rw [HF.out]; rfl, HF2.out⟩
end Go.Proofs.Ytpcdlehicdepaaa
