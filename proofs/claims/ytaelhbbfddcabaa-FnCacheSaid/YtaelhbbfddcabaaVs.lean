/- Drawn textures. -/
import Derived.Test.YtaelhbbfddcabaaProg
import Derived.Test.YtaelhbbfddcabaaInts
import Derived.Test.YtaelhbbfddcabaaVbox
import Derived.Test.YtaelhbbfddcabaaHeld
import Derived.Test.YtaelhbbfddcabaaMem
import Derived.Test.YtaelhbbfddcabaaFlat
import Derived.Test.YtaelhbbfddcabaaRowC
import Derived.Test.YtaelhbbfddcabaaKS
import Derived.Test.YtaelhbbfddcabaaStrS
import Derived.Test.YtaelhbbfddcabaaIntS
import Derived.Test.YtaelhbbfddcabaaSS
import Derived.Test.YtaelhbbfddcabaaVi
import Derived.Test.YtaelhbbfddcabaaVa
import Derived.Test.YtaelhbbfddcabaaVb
import Derived.Test.YtaelhbbfddcabaaVc
import Derived.Test.YtaelhbbfddcabaaVd
import Derived.Test.YtaelhbbfddcabaaVe
import Derived.Test.YtaelhbbfddcabaaVf
import Derived.Test.YtaelhbbfddcabaaCur
import Derived.Test.YtaelhbbfddcabaaGd
import Derived.Test.YtaelhbbfddcabaaVl
import Derived.WalkKit
import Derived.WalkSpells
import Derived.WalkLawsBesides
import Derived.Lib.Hide
import Derived.Deep.RegionHeld3
import Derived.Deep.QuietTactic
import Derived.BigQuiet
import Derived.Handy
import Derived.Deep.DeepCutAuto
import Derived.OwnWalk
import Derived.Laws.OwnMore
namespace Go.Proofs.Ytaelhbbfddcabaa
open Go.RowKit

/-- a texture that a call draws -/
def TexDrawn (B g : Nat) (w : World) (e : Ending) (w' : World) : Prop :=
  ∃ (L : Int) (ts : List Int) (A : Option Addr) (c : Nat), okX L ts = true ∧ e = .returned (txv L A ts.length c) ∧ w'.ownsRow w.heap.size 3 1 (.slice A ts.length c) ts.length (ts.map I64) ∧ Cur w' B g ∧ w.grownBy w' (some g)
/-- a texture that a call makes of bytes -/
def TexMade (w : World) (e : Ending) (w' : World) : Prop :=
  ∃ (L : Int) (ts : List Int) (A : Option Addr) (c : Nat), okX L ts = true ∧ e = .returned (txv L A ts.length c) ∧ w'.ownsRow w.heap.size 3 1 (.slice A ts.length c) ts.length (ts.map I64) ∧ Below w.heap.size w w'
theorem own_ltX {w : World} {base m n : Nat} {e : TypeId} {v : Value} {xs : List Value} (ho : w.ownsRow base e m v n xs) : ∀ q, v.ownBlock = some q → q < w.heap.size := fun q hq => (ho.lt q hq).2

set_option maxRecDepth 100000 in
set_option maxHeartbeats 16000000 in
theorem l15Draw_any (B g : Nat) (w : World) (hC : Cur w B g) (hB : B ≤ w.heap.size) :
    Calls Try.prog 43 #[.pointer (some ⟨g, 0, none⟩)] w (TexDrawn B g w) := by
  have HQ := (GD.start hC hB).new #[.int .i64 0, .slice none 0 0] 25
  obtain ⟨W1, hW1⟩ : ∃ W, W = w.alloc (.cells #[.int .i64 0, .slice none 0 0] 25) := ⟨_, rfl⟩
  have hs1 : W1.heap.size = w.heap.size + 1 := by rw [hW1]; simp
  rw [← hW1] at HQ
  clear hC hB
  go_enter Try.func43, Try.ntmps43
  go_upto_region 1 with fail
  rw [← hW1]
  obtain ⟨kr, hkr⟩ : ∃ k, k = w.heap.size := ⟨_, rfl⟩
  rw [← hkr] at HQ ⊢
  have HKR := Lib.hid (And.intro hkr hs1)
  clear hW1 hkr hs1
  go_wp2_with fail
  refine (below_any B g 4 _ HQ.cur (by omega) (by omega)).mono ?_
  rintro e w2 ⟨L, l0, l1, rfl, hc2, hg2⟩
  have HQ := (HQ.grow hc2 hg2).new #[.int .i64 L, .slice none 0 0] 25
  have hs2 := hg2.size
  have hL : 0 ≤ L ∧ L ≤ 4 := by omega
  have hs3 : (w2.alloc (.cells #[.int .i64 L, .slice none 0 0] 25)).heap.size = w2.heap.size + 1 := by simp
  clear hc2 hg2
  go_upto_region 2 with fail
  obtain ⟨W3, hW3⟩ : ∃ W, W = w2.alloc (.cells #[.int .i64 L, .slice none 0 0] 25) := ⟨_, rfl⟩
  obtain ⟨k3, hk3⟩ : ∃ k, k = w2.heap.size := ⟨_, rfl⟩
  rw [← hW3] at HQ hs3 ⊢
  rw [← hk3] at HQ hs3 hs2 ⊢
  have hgl := HQ.glt
  obtain ⟨B0, hB0⟩ : ∃ B, B = W3.heap.size := ⟨_, rfl⟩
  have HORD := Lib.hid (show kr = w.heap.size ∧ kr < k3 ∧ k3 < B0 ∧ g < kr by have := HKR.out; omega)
  have HB0 := Lib.hid hB0
  have HS := Lib.hid (fun W => sSize_any L W hL)
  have hsq := sq_le hL
  have HOKK := Lib.hid hL
  have HSN : Hid (sd L = sd L) := Lib.hid rfl
  obtain ⟨s, hs⟩ : ∃ s, s = sd L := ⟨_, rfl⟩
  rw [← hs] at HS hsq
  obtain ⟨n, hn⟩ : ∃ n, n = s * s := ⟨_, rfl⟩
  have e1 : IntKind.i64.wrap ((s : Int) * (s : Int)) = (n : Int) := by rw [hn, Int.natCast_mul]; exact wrap_v (by rw [← Int.natCast_mul]; omega)
  have HN := Lib.hid (show n = sd L * sd L ∧ n ≤ 256 by rw [hn, ← hs]; exact ⟨rfl, hsq⟩)
  have m0 := (HQ.box 0).c 0
  clear hW3 hk3 hs2 hs3 hgl hB0 hL hs hn hsq l0 l1 HSN
  go_quiet ((go_at_call 64; with_reducible exact Calls.quiet_of_same ((HS.out _).mono fun _ _ h => h)))
  have HQ := HQ.drewN nq
  have HI := Lib.hid (And.intro HQ (show B0 ≤ (W3.drewN nq).heap.size from by rw [HB0.out]; exact Nat.le_refl _))
  obtain ⟨W4, hW4⟩ : ∃ W, W = W3.drewN nq := ⟨_, rfl⟩
  rw [← hW4] at HI ⊢
  clear HQ m0 e1 HS HB0 hW4
  go_wp2_with fail
  go_loopw [4] (fun v wr => ∃ (k : Nat) (xs : List Int) (S : Value), k ≤ n ∧ v = .int .i64 ((n : Int) - (k : Int)) ∧ xs.length = k ∧ (∀ x ∈ xs, 0 ≤ x ∧ x ≤ 256) ∧ GD B g w wr [(k3, [.int .i64 L, S]), (kr, [.int .i64 0, .slice none 0 0])] ∧ wr.ownsRow B0 3 1 S k (xs.map I64) ∧ B0 ≤ wr.heap.size) (fun v _ => (intOf v).toNat)
  case atStart => exact ⟨0, [], .slice none 0 0, Nat.zero_le _, by simp, rfl, (fun x h => by cases h), HI.out.1, World.ownsRow_nil _ _ _ _, HI.out.2⟩
  case round =>
    clear HI
    obtain ⟨k, xs, S, hk, rfl, hxl, hxx, HQ, hown, hsz⟩ := hrel
    have HO := Lib.hid hown
    by_cases hlt : k < n
    · obtain ⟨d, hd⟩ : ∃ d : Int, d = (n : Int) - (k : Int) := ⟨_, rfl⟩
      have hd0 : 0 < d := by omega
      have ed : IntKind.i64.wrap (d - 1) = (n : Int) - ((k + 1 : Nat) : Int) := by rw [wrap_v (by have := HN.out; omega)]; omega
      rw [← hd]
      have HKN := Lib.hid (show k < n ∧ n ≤ 256 ∧ B0 ≤ wr.heap.size ∧ d = (n : Int) - (k : Int) from ⟨hlt, HN.out.2, hsz, hd⟩)
      have HXL := Lib.hid hxl
      have HXX := Lib.hid hxx
      have HBL := Lib.hid (fun W (h : Cur W B g) => below_any B g 257 W h (by omega) (by omega))
      clear hown hxl hxx hk hlt hd
      go_upto_region 5 with fail
      have HQ := HQ.drew
      have HO : Hid (wr.drew.ownsRow B0 3 1 S k (xs.map I64)) := HO
      have HSZ : Hid (B0 ≤ wr.drew.heap.size) := Lib.hid hsz
      clear hsz
      refine wp_region_held_drew (S := fun _ => True) (by kernel_rfl) trivial (fun hHeld => ?_)
      obtain ⟨wd, hwd⟩ : ∃ x, x = wr.drew := ⟨_, rfl⟩
      rw [← hwd] at HQ HO HSZ ⊢
      clear hwd
      refine wpAnyH_take (i := 0) (oi := { dst := some 19, op := Op.fieldAddr 25 (Operand.tmp 3) 1, type := 0, pos := "l15_texture.go:113", after := #[], guard := none }) (v := ?_) rfl (by kernel_rfl) (by kernel_rfl) (by kernel_rfl) (fun _ _ _ h => h) (Or.inl ⟨by rfl, ?_⟩) (by assumption) ?_
      rotate_left 1
      · (intro w hSw; (try dsimp only at hSw); go_simp <;> with_reducible rfl)
      (try simp only [Act.put, List.setIfInBounds_toArray, List.set_cons_zero, List.set_cons_succ])
      refine wpAnyH_take (i := 2) (oi := { dst := some 21, op := Op.move (Operand.tmp 0), type := 67, pos := "l15_texture.go:113", after := #[], guard := none }) (v := ?_) rfl (by kernel_rfl) (by kernel_rfl) (by kernel_rfl) (fun _ _ _ h => h) (Or.inl ⟨by rfl, ?_⟩) (by assumption) ?_
      rotate_left 1
      · (intro w hSw; (try dsimp only at hSw); go_simp <;> with_reducible rfl)
      (try simp only [Act.put, List.setIfInBounds_toArray, List.set_cons_zero, List.set_cons_succ])
      refine wpAnyH_take (i := 3) (oi := { dst := some 22, op := Op.move (Operand.tmp 0), type := 67, pos := "l15_texture.go:113", after := #[], guard := none }) (v := ?_) rfl (by kernel_rfl) (by kernel_rfl) (by kernel_rfl) (fun _ _ _ h => h) (Or.inl ⟨by rfl, ?_⟩) (by assumption) ?_
      rotate_left 1
      · (intro w hSw; (try dsimp only at hSw); go_simp <;> with_reducible rfl)
      (try simp only [Act.put, List.setIfInBounds_toArray, List.set_cons_zero, List.set_cons_succ])
      refine wpAnyH_ready (rs := [1, 4]) (by kernel_rfl) (by simp) ?_
      refine AllReadyH.cons (o := { dst := some 20, op := Op.load 23 (Operand.tmp 19), type := 23, pos := "l15_texture.go:113", after := #[{ on := 0, ground := Ground.data }], guard := none }) rfl (fun K hK => ?_) ?_
      · have c61 := (HQ.box 0).c 1
        go_simp
        refine hK.out _ _ trivial (fun hHeld => ?_)
        clear c61
        clear hK K
        (try simp only [Act.put, List.setIfInBounds_toArray, List.set_cons_zero, List.set_cons_succ])
        refine wpAnyH_ready (rs := [4]) (by kernel_rfl) (by simp) ?_
        refine AllReadyH.cons (o := { dst := some 23, op := Op.call { callee := Callee.value (Operand.func 77), args := #[Operand.tmp 22, Operand.const (Value.int IntKind.i64 257)], argTypes := #[67, 3] }, type := 3, pos := "l15_texture.go:113", after := #[{ on := 3, ground := Ground.data }], guard := none }) rfl (fun K hK => ?_) ?_
        · go_simp
          (with_reducible refine (HBL.out _ HQ.cur).mono ?_)
          rintro e w7 ⟨x, x0, x1, rfl, hc7, hg7⟩
          have HQ := HQ.grow hc7 hg7
          have HO := Lib.hid (own_keep HO.out hg7 (by have := HORD.out; omega))
          have HSZ := Lib.hid (Nat.le_trans HSZ.out hg7.size)
          have HXB := Lib.hid (And.intro x0 x1)
          clear hc7 hg7 x0 x1
          (try go_wp2_with fail)
          refine hK.out _ _ (by (try dsimp only); (try trivial)) (fun hHeld => ?_)
          clear hK K
          (try simp only [Act.put, List.setIfInBounds_toArray, List.set_cons_zero, List.set_cons_succ])
          refine wpAnyH_ready (rs := [5]) (by kernel_rfl) (by simp) ?_
          refine AllReadyH.cons (o := { dst := some 24, op := Op.buildSlice 23 3 #[(0, Operand.const (Value.int IntKind.i64 0)), (1, Operand.const (Value.int IntKind.i64 256)), (2, Operand.tmp 23)], type := 23, pos := "l15_texture.go:113", after := #[{ on := 4, ground := Ground.data }], guard := none }) rfl (fun K hK => ?_) ?_
          · go_simp
            have HQ := HQ.new #[.int .i64 0, .int .i64 256, .int .i64 x] 3
            have HO := Lib.hid (HO.out.alloc (.cells #[.int .i64 0, .int .i64 256, .int .i64 x] 3))
            have HSZ := Lib.hid (Nat.le_trans HSZ.out (show w7.heap.size ≤ (w7.alloc (.cells #[.int .i64 0, .int .i64 256, .int .i64 x] 3)).heap.size by simp))
            refine hK.out _ _ trivial (fun hHeld => ?_)
            obtain ⟨w8, hw8⟩ : ∃ W, W = w7.alloc (.cells #[.int .i64 0, .int .i64 256, .int .i64 x] 3) := ⟨_, rfl⟩
            rw [← hw8] at HQ HO HSZ ⊢
            obtain ⟨kb, hkb⟩ : ∃ k, k = w7.heap.size := ⟨_, rfl⟩
            rw [← hkb] at HQ ⊢
            clear hw8 hkb
            have HQ : GD B g w w8 ((kb, [.int .i64 0, .int .i64 256, .int .i64 x]) :: [(k3, [.int .i64 L, S]), (kr, [.int .i64 0, .slice none 0 0])]) := HQ
            have HVB := HQ.box 0
            have HNE := HQ.ne
            have HQ := HQ.tail
            clear hK K
            (try simp only [Act.put, List.setIfInBounds_toArray, List.set_cons_zero, List.set_cons_succ])
            refine wpAnyH_ready (rs := [6]) (by kernel_rfl) (by simp) ?_
            refine AllReadyH.cons (o := { dst := some 25, op := Op.call { callee := Callee.value (Operand.func 78), args := #[Operand.tmp 21, Operand.tmp 24], argTypes := #[67, 23] }, type := 3, pos := "l15_texture.go:113", after := #[{ on := 2, ground := Ground.data }, { on := 5, ground := Ground.data }, { on := 4, ground := Ground.chain }], guard := none }) rfl (fun K hK => ?_) ?_
            · go_simp
              (with_reducible refine (pick3_any B g kb 0 256 x _ HQ.cur HNE HVB).mono ?_)
              rintro e w9 ⟨y, hy, rfl, hc7, hg7⟩
              have HQ := HQ.grow hc7 hg7
              have HO := Lib.hid (own_keep HO.out hg7 (by have := HORD.out; omega))
              have HSZ := Lib.hid (Nat.le_trans HSZ.out hg7.size)
              have HYB : Hid (0 ≤ y ∧ y ≤ 256) := Lib.hid (by have := HXB.out; omega)
              clear hc7 hg7 hy HVB HNE
              (try go_wp2_with fail)
              refine hK.out _ _ (by (try dsimp only); (try trivial)) (fun hHeld => ?_)
              clear hK K
              (try simp only [Act.put, List.setIfInBounds_toArray, List.set_cons_zero, List.set_cons_succ])
              refine wpAnyH_ready (rs := [7]) (by kernel_rfl) (by simp) ?_
              refine AllReadyH.cons (o := { dst := some 26, op := Op.buildSlice 23 1 #[(0, Operand.tmp 25)], type := 23, pos := "l15_texture.go:113", after := #[{ on := 6, ground := Ground.data }], guard := none }) rfl (fun K hK => ?_) ?_
              · go_simp
                have HQ := HQ.new #[.int .i64 y] 3
                have HO := Lib.hid (HO.out.alloc (.cells #[.int .i64 y] 3))
                have HSZ := Lib.hid (Nat.le_trans HSZ.out (show w9.heap.size ≤ (w9.alloc (.cells #[.int .i64 y] 3)).heap.size by simp))
                refine hK.out _ _ trivial (fun hHeld => ?_)
                obtain ⟨wA, hwA⟩ : ∃ W, W = w9.alloc (.cells #[.int .i64 y] 3) := ⟨_, rfl⟩
                rw [← hwA] at HQ HO HSZ ⊢
                obtain ⟨kc, hkc⟩ : ∃ k, k = w9.heap.size := ⟨_, rfl⟩
                rw [← hkc] at HQ ⊢
                clear hwA hkc
                have HQ : GD B g w wA ((kc, [.int .i64 y]) :: [(k3, [.int .i64 L, S]), (kr, [.int .i64 0, .slice none 0 0])]) := HQ
                have HVC := HQ.box 0
                have HQ := HQ.tail
                clear hK K
                (try simp only [Act.put, List.setIfInBounds_toArray, List.set_cons_zero, List.set_cons_succ])
                refine wpAnyH_ready (rs := [8]) (by kernel_rfl) (by simp) ?_
                refine AllReadyH.cons (o := { dst := some 27, op := Op.call { callee := Callee.builtin Builtin.append, args := #[Operand.tmp 20, Operand.tmp 26], argTypes := #[23, 23] }, type := 23, pos := "l15_texture.go:113", after := #[{ on := 1, ground := Ground.data }, { on := 7, ground := Ground.data }, { on := 6, ground := Ground.chain }], guard := none }) rfl (fun K hK => ?_) ?_
                · have HR1 : Row I64 wA wA.heap.size (some ⟨kc, 0, none⟩) [y] := fun _ => ⟨kc, 0, rfl, HVC.lt, fun j hj => by obtain rfl : j = 0 := (by simp at hj; omega); exact HVC.c 0⟩
                  refine step_append_at rfl _ _ 23 rfl B0 3 (.int .i64 0) 8 Try.underlying23 infoInt rfl S k (xs.map I64) (by rfl) HO.out _ (some ⟨kc, 0, none⟩) 1 [y] (by rfl) HR1 (by simp) (by unfold maxLen; have := HKN.out; simp; omega) (by have := HKN.out; simp; omega) HSZ.out ?_
                  intro v6 w6 ho6 hg6 hat6
                  obtain ⟨A6, c6, rfl⟩ : ∃ A c, v6 = .slice A (k + 1) c := own_shape ho6
                  have HQ := HQ.grown2 hg6 (fun r e => by have h1 := own_block HO.out r e; have := HORD.out; omega) (fun p hp e => by (have h1 := own_block HO.out p.1 e.symm; have h2 := HORD.out; simp only [List.mem_cons, List.not_mem_nil, or_false] at hp; rcases hp with rfl | rfl <;> dsimp only at h1 <;> omega))
                  have HSZ := Lib.hid (Nat.le_trans HSZ.out hg6.size)
                  have HO := Lib.hid ho6
                  clear ho6 hg6 hat6 HR1 HVC
                  refine hK.out _ _ trivial (fun hHeld => ?_)
                  clear hK K
                  (try simp only [Act.put, List.setIfInBounds_toArray, List.set_cons_zero, List.set_cons_succ])
                  refine wpAnyH_take (i := 9) (oi := { dst := some 28, op := Op.fieldAddr 25 (Operand.tmp 3) 1, type := 0, pos := "l15_texture.go:113", after := #[{ on := 0, ground := Ground.phase }, { on := 1, ground := Ground.phase }, { on := 2, ground := Ground.phase }, { on := 3, ground := Ground.phase }, { on := 4, ground := Ground.phase }, { on := 5, ground := Ground.phase }, { on := 6, ground := Ground.phase }, { on := 7, ground := Ground.phase }, { on := 8, ground := Ground.phase }], guard := none }) (v := ?_) rfl (by kernel_rfl) (by kernel_rfl) (by kernel_rfl) (fun _ _ _ h => h) (Or.inl ⟨by rfl, ?_⟩) (by assumption) ?_
                  rotate_left 1
                  · (intro w hSw; (try dsimp only at hSw); go_simp <;> with_reducible rfl)
                  (try simp only [Act.put, List.setIfInBounds_toArray, List.set_cons_zero, List.set_cons_succ])
                  refine wpAnyH_ready (rs := [10]) (by kernel_rfl) (by simp) ?_
                  refine AllReadyH.cons (o := { dst := none, op := Op.store 23 (Operand.tmp 28) (Operand.tmp 27), type := 0, pos := "l15_texture.go:113", after := #[{ on := 9, ground := Ground.data }, { on := 8, ground := Ground.data }, { on := 8, ground := Ground.chain }, { on := 0, ground := Ground.phase }, { on := 1, ground := Ground.phase }, { on := 2, ground := Ground.phase }, { on := 3, ground := Ground.phase }, { on := 4, ground := Ground.phase }, { on := 5, ground := Ground.phase }, { on := 6, ground := Ground.phase }, { on := 7, ground := Ground.phase }, { on := 8, ground := Ground.phase }], guard := none }) rfl (fun K hK => ?_) ?_
                  · have c61 := (HQ.box 0).c 1
                    have f61 := (HQ.box 0).f 1
                    go_simp
                    clear c61 f61
                    have HO := Lib.hid (ownsRow_setCell_below HO.out (a := ⟨k3, 1, none⟩) (by have := HORD.out; show k3 < B0; omega) (.slice A6 (k + 1) c6))
                    have HQ := HQ.put (by have := HORD.out; simp; omega) 1 (.slice A6 (k + 1) c6)
                    refine hK.out _ _ trivial (fun hHeld => ?_)
                    clear hK K
                    (try simp only [Act.put, List.setIfInBounds_toArray, List.set_cons_zero, List.set_cons_succ])
                    refine wpAnyH_done (by kernel_rfl) ?_ _
                    clear hHeld
                    have HEN := Lib.hid (And.intro HQ (And.intro HO.out (show B0 ≤ (w6.setCell ⟨k3, 1, none⟩ (.slice A6 (k + 1) c6)).heap.size by have := HSZ.out; simpa using this)))
                    clear HQ HO
                    go_wp2_with fail
                    go_roundw
                    case rel => exact ⟨k + 1, xs ++ [y], .slice A6 (k + 1) c6, by have := HKN.out; omega, by go_num, by have := HXL.out; simp; omega, fun z hz => (List.mem_append.1 hz).elim (HXX.out z) (fun h => by rw [List.mem_singleton.1 h]; exact HYB.out), HEN.out.1, by have h := HEN.out.2.1; rw [List.map_append]; exact h, HEN.out.2.2⟩
                    case measure => simp [intOf]; have := HKN.out; omega
                  exact AllReadyH.nil
                exact AllReadyH.nil
              exact AllReadyH.nil
            exact AllReadyH.nil
          exact AllReadyH.nil
        exact AllReadyH.nil
      refine AllReadyH.cons (o := { dst := some 23, op := Op.call { callee := Callee.value (Operand.func 77), args := #[Operand.tmp 22, Operand.const (Value.int IntKind.i64 257)], argTypes := #[67, 3] }, type := 3, pos := "l15_texture.go:113", after := #[{ on := 3, ground := Ground.data }], guard := none }) rfl (fun K hK => ?_) ?_
      · go_simp
        (with_reducible refine (HBL.out _ HQ.cur).mono ?_)
        rintro e w7 ⟨x, x0, x1, rfl, hc7, hg7⟩
        have HQ := HQ.grow hc7 hg7
        have HO := Lib.hid (own_keep HO.out hg7 (by have := HORD.out; omega))
        have HSZ := Lib.hid (Nat.le_trans HSZ.out hg7.size)
        have HXB := Lib.hid (And.intro x0 x1)
        clear hc7 hg7 x0 x1
        (try go_wp2_with fail)
        refine hK.out _ _ (by (try dsimp only); (try trivial)) (fun hHeld => ?_)
        clear hK K
        (try simp only [Act.put, List.setIfInBounds_toArray, List.set_cons_zero, List.set_cons_succ])
        refine wpAnyH_ready (rs := [1, 5]) (by kernel_rfl) (by simp) ?_
        refine AllReadyH.cons (o := { dst := some 20, op := Op.load 23 (Operand.tmp 19), type := 23, pos := "l15_texture.go:113", after := #[{ on := 0, ground := Ground.data }], guard := none }) rfl (fun K hK => ?_) ?_
        · have c61 := (HQ.box 0).c 1
          go_simp
          refine hK.out _ _ trivial (fun hHeld => ?_)
          clear c61
          clear hK K
          (try simp only [Act.put, List.setIfInBounds_toArray, List.set_cons_zero, List.set_cons_succ])
          refine wpAnyH_ready (rs := [5]) (by kernel_rfl) (by simp) ?_
          refine AllReadyH.cons (o := { dst := some 24, op := Op.buildSlice 23 3 #[(0, Operand.const (Value.int IntKind.i64 0)), (1, Operand.const (Value.int IntKind.i64 256)), (2, Operand.tmp 23)], type := 23, pos := "l15_texture.go:113", after := #[{ on := 4, ground := Ground.data }], guard := none }) rfl (fun K hK => ?_) ?_
          · go_simp
            have HQ := HQ.new #[.int .i64 0, .int .i64 256, .int .i64 x] 3
            have HO := Lib.hid (HO.out.alloc (.cells #[.int .i64 0, .int .i64 256, .int .i64 x] 3))
            have HSZ := Lib.hid (Nat.le_trans HSZ.out (show w7.heap.size ≤ (w7.alloc (.cells #[.int .i64 0, .int .i64 256, .int .i64 x] 3)).heap.size by simp))
            refine hK.out _ _ trivial (fun hHeld => ?_)
            obtain ⟨w8, hw8⟩ : ∃ W, W = w7.alloc (.cells #[.int .i64 0, .int .i64 256, .int .i64 x] 3) := ⟨_, rfl⟩
            rw [← hw8] at HQ HO HSZ ⊢
            obtain ⟨kb, hkb⟩ : ∃ k, k = w7.heap.size := ⟨_, rfl⟩
            rw [← hkb] at HQ ⊢
            clear hw8 hkb
            have HQ : GD B g w w8 ((kb, [.int .i64 0, .int .i64 256, .int .i64 x]) :: [(k3, [.int .i64 L, S]), (kr, [.int .i64 0, .slice none 0 0])]) := HQ
            have HVB := HQ.box 0
            have HNE := HQ.ne
            have HQ := HQ.tail
            clear hK K
            (try simp only [Act.put, List.setIfInBounds_toArray, List.set_cons_zero, List.set_cons_succ])
            refine wpAnyH_ready (rs := [6]) (by kernel_rfl) (by simp) ?_
            refine AllReadyH.cons (o := { dst := some 25, op := Op.call { callee := Callee.value (Operand.func 78), args := #[Operand.tmp 21, Operand.tmp 24], argTypes := #[67, 23] }, type := 3, pos := "l15_texture.go:113", after := #[{ on := 2, ground := Ground.data }, { on := 5, ground := Ground.data }, { on := 4, ground := Ground.chain }], guard := none }) rfl (fun K hK => ?_) ?_
            · go_simp
              (with_reducible refine (pick3_any B g kb 0 256 x _ HQ.cur HNE HVB).mono ?_)
              rintro e w9 ⟨y, hy, rfl, hc7, hg7⟩
              have HQ := HQ.grow hc7 hg7
              have HO := Lib.hid (own_keep HO.out hg7 (by have := HORD.out; omega))
              have HSZ := Lib.hid (Nat.le_trans HSZ.out hg7.size)
              have HYB : Hid (0 ≤ y ∧ y ≤ 256) := Lib.hid (by have := HXB.out; omega)
              clear hc7 hg7 hy HVB HNE
              (try go_wp2_with fail)
              refine hK.out _ _ (by (try dsimp only); (try trivial)) (fun hHeld => ?_)
              clear hK K
              (try simp only [Act.put, List.setIfInBounds_toArray, List.set_cons_zero, List.set_cons_succ])
              refine wpAnyH_ready (rs := [7]) (by kernel_rfl) (by simp) ?_
              refine AllReadyH.cons (o := { dst := some 26, op := Op.buildSlice 23 1 #[(0, Operand.tmp 25)], type := 23, pos := "l15_texture.go:113", after := #[{ on := 6, ground := Ground.data }], guard := none }) rfl (fun K hK => ?_) ?_
              · go_simp
                have HQ := HQ.new #[.int .i64 y] 3
                have HO := Lib.hid (HO.out.alloc (.cells #[.int .i64 y] 3))
                have HSZ := Lib.hid (Nat.le_trans HSZ.out (show w9.heap.size ≤ (w9.alloc (.cells #[.int .i64 y] 3)).heap.size by simp))
                refine hK.out _ _ trivial (fun hHeld => ?_)
                obtain ⟨wA, hwA⟩ : ∃ W, W = w9.alloc (.cells #[.int .i64 y] 3) := ⟨_, rfl⟩
                rw [← hwA] at HQ HO HSZ ⊢
                obtain ⟨kc, hkc⟩ : ∃ k, k = w9.heap.size := ⟨_, rfl⟩
                rw [← hkc] at HQ ⊢
                clear hwA hkc
                have HQ : GD B g w wA ((kc, [.int .i64 y]) :: [(k3, [.int .i64 L, S]), (kr, [.int .i64 0, .slice none 0 0])]) := HQ
                have HVC := HQ.box 0
                have HQ := HQ.tail
                clear hK K
                (try simp only [Act.put, List.setIfInBounds_toArray, List.set_cons_zero, List.set_cons_succ])
                refine wpAnyH_ready (rs := [8]) (by kernel_rfl) (by simp) ?_
                refine AllReadyH.cons (o := { dst := some 27, op := Op.call { callee := Callee.builtin Builtin.append, args := #[Operand.tmp 20, Operand.tmp 26], argTypes := #[23, 23] }, type := 23, pos := "l15_texture.go:113", after := #[{ on := 1, ground := Ground.data }, { on := 7, ground := Ground.data }, { on := 6, ground := Ground.chain }], guard := none }) rfl (fun K hK => ?_) ?_
                · have HR1 : Row I64 wA wA.heap.size (some ⟨kc, 0, none⟩) [y] := fun _ => ⟨kc, 0, rfl, HVC.lt, fun j hj => by obtain rfl : j = 0 := (by simp at hj; omega); exact HVC.c 0⟩
                  refine step_append_at rfl _ _ 23 rfl B0 3 (.int .i64 0) 8 Try.underlying23 infoInt rfl S k (xs.map I64) (by rfl) HO.out _ (some ⟨kc, 0, none⟩) 1 [y] (by rfl) HR1 (by simp) (by unfold maxLen; have := HKN.out; simp; omega) (by have := HKN.out; simp; omega) HSZ.out ?_
                  intro v6 w6 ho6 hg6 hat6
                  obtain ⟨A6, c6, rfl⟩ : ∃ A c, v6 = .slice A (k + 1) c := own_shape ho6
                  have HQ := HQ.grown2 hg6 (fun r e => by have h1 := own_block HO.out r e; have := HORD.out; omega) (fun p hp e => by (have h1 := own_block HO.out p.1 e.symm; have h2 := HORD.out; simp only [List.mem_cons, List.not_mem_nil, or_false] at hp; rcases hp with rfl | rfl <;> dsimp only at h1 <;> omega))
                  have HSZ := Lib.hid (Nat.le_trans HSZ.out hg6.size)
                  have HO := Lib.hid ho6
                  clear ho6 hg6 hat6 HR1 HVC
                  refine hK.out _ _ trivial (fun hHeld => ?_)
                  clear hK K
                  (try simp only [Act.put, List.setIfInBounds_toArray, List.set_cons_zero, List.set_cons_succ])
                  refine wpAnyH_take (i := 9) (oi := { dst := some 28, op := Op.fieldAddr 25 (Operand.tmp 3) 1, type := 0, pos := "l15_texture.go:113", after := #[{ on := 0, ground := Ground.phase }, { on := 1, ground := Ground.phase }, { on := 2, ground := Ground.phase }, { on := 3, ground := Ground.phase }, { on := 4, ground := Ground.phase }, { on := 5, ground := Ground.phase }, { on := 6, ground := Ground.phase }, { on := 7, ground := Ground.phase }, { on := 8, ground := Ground.phase }], guard := none }) (v := ?_) rfl (by kernel_rfl) (by kernel_rfl) (by kernel_rfl) (fun _ _ _ h => h) (Or.inl ⟨by rfl, ?_⟩) (by assumption) ?_
                  rotate_left 1
                  · (intro w hSw; (try dsimp only at hSw); go_simp <;> with_reducible rfl)
                  (try simp only [Act.put, List.setIfInBounds_toArray, List.set_cons_zero, List.set_cons_succ])
                  refine wpAnyH_ready (rs := [10]) (by kernel_rfl) (by simp) ?_
                  refine AllReadyH.cons (o := { dst := none, op := Op.store 23 (Operand.tmp 28) (Operand.tmp 27), type := 0, pos := "l15_texture.go:113", after := #[{ on := 9, ground := Ground.data }, { on := 8, ground := Ground.data }, { on := 8, ground := Ground.chain }, { on := 0, ground := Ground.phase }, { on := 1, ground := Ground.phase }, { on := 2, ground := Ground.phase }, { on := 3, ground := Ground.phase }, { on := 4, ground := Ground.phase }, { on := 5, ground := Ground.phase }, { on := 6, ground := Ground.phase }, { on := 7, ground := Ground.phase }, { on := 8, ground := Ground.phase }], guard := none }) rfl (fun K hK => ?_) ?_
                  · have c61 := (HQ.box 0).c 1
                    have f61 := (HQ.box 0).f 1
                    go_simp
                    clear c61 f61
                    have HO := Lib.hid (ownsRow_setCell_below HO.out (a := ⟨k3, 1, none⟩) (by have := HORD.out; show k3 < B0; omega) (.slice A6 (k + 1) c6))
                    have HQ := HQ.put (by have := HORD.out; simp; omega) 1 (.slice A6 (k + 1) c6)
                    refine hK.out _ _ trivial (fun hHeld => ?_)
                    clear hK K
                    (try simp only [Act.put, List.setIfInBounds_toArray, List.set_cons_zero, List.set_cons_succ])
                    refine wpAnyH_done (by kernel_rfl) ?_ _
                    clear hHeld
                    have HEN := Lib.hid (And.intro HQ (And.intro HO.out (show B0 ≤ (w6.setCell ⟨k3, 1, none⟩ (.slice A6 (k + 1) c6)).heap.size by have := HSZ.out; simpa using this)))
                    clear HQ HO
                    go_wp2_with fail
                    go_roundw
                    case rel => exact ⟨k + 1, xs ++ [y], .slice A6 (k + 1) c6, by have := HKN.out; omega, by go_num, by have := HXL.out; simp; omega, fun z hz => (List.mem_append.1 hz).elim (HXX.out z) (fun h => by rw [List.mem_singleton.1 h]; exact HYB.out), HEN.out.1, by have h := HEN.out.2.1; rw [List.map_append]; exact h, HEN.out.2.2⟩
                    case measure => simp [intOf]; have := HKN.out; omega
                  exact AllReadyH.nil
                exact AllReadyH.nil
              exact AllReadyH.nil
            exact AllReadyH.nil
          exact AllReadyH.nil
        refine AllReadyH.cons (o := { dst := some 24, op := Op.buildSlice 23 3 #[(0, Operand.const (Value.int IntKind.i64 0)), (1, Operand.const (Value.int IntKind.i64 256)), (2, Operand.tmp 23)], type := 23, pos := "l15_texture.go:113", after := #[{ on := 4, ground := Ground.data }], guard := none }) rfl (fun K hK => ?_) ?_
        · go_simp
          have HQ := HQ.new #[.int .i64 0, .int .i64 256, .int .i64 x] 3
          have HO := Lib.hid (HO.out.alloc (.cells #[.int .i64 0, .int .i64 256, .int .i64 x] 3))
          have HSZ := Lib.hid (Nat.le_trans HSZ.out (show w7.heap.size ≤ (w7.alloc (.cells #[.int .i64 0, .int .i64 256, .int .i64 x] 3)).heap.size by simp))
          refine hK.out _ _ trivial (fun hHeld => ?_)
          obtain ⟨w8, hw8⟩ : ∃ W, W = w7.alloc (.cells #[.int .i64 0, .int .i64 256, .int .i64 x] 3) := ⟨_, rfl⟩
          rw [← hw8] at HQ HO HSZ ⊢
          obtain ⟨kb, hkb⟩ : ∃ k, k = w7.heap.size := ⟨_, rfl⟩
          rw [← hkb] at HQ ⊢
          clear hw8 hkb
          have HQ : GD B g w w8 ((kb, [.int .i64 0, .int .i64 256, .int .i64 x]) :: [(k3, [.int .i64 L, S]), (kr, [.int .i64 0, .slice none 0 0])]) := HQ
          have HVB := HQ.box 0
          have HNE := HQ.ne
          have HQ := HQ.tail
          clear hK K
          (try simp only [Act.put, List.setIfInBounds_toArray, List.set_cons_zero, List.set_cons_succ])
          refine wpAnyH_ready (rs := [1, 6]) (by kernel_rfl) (by simp) ?_
          refine AllReadyH.cons (o := { dst := some 20, op := Op.load 23 (Operand.tmp 19), type := 23, pos := "l15_texture.go:113", after := #[{ on := 0, ground := Ground.data }], guard := none }) rfl (fun K hK => ?_) ?_
          · have c61 := (HQ.box 0).c 1
            go_simp
            refine hK.out _ _ trivial (fun hHeld => ?_)
            clear c61
            clear hK K
            (try simp only [Act.put, List.setIfInBounds_toArray, List.set_cons_zero, List.set_cons_succ])
            refine wpAnyH_ready (rs := [6]) (by kernel_rfl) (by simp) ?_
            refine AllReadyH.cons (o := { dst := some 25, op := Op.call { callee := Callee.value (Operand.func 78), args := #[Operand.tmp 21, Operand.tmp 24], argTypes := #[67, 23] }, type := 3, pos := "l15_texture.go:113", after := #[{ on := 2, ground := Ground.data }, { on := 5, ground := Ground.data }, { on := 4, ground := Ground.chain }], guard := none }) rfl (fun K hK => ?_) ?_
            · go_simp
              (with_reducible refine (pick3_any B g kb 0 256 x _ HQ.cur HNE HVB).mono ?_)
              rintro e w9 ⟨y, hy, rfl, hc7, hg7⟩
              have HQ := HQ.grow hc7 hg7
              have HO := Lib.hid (own_keep HO.out hg7 (by have := HORD.out; omega))
              have HSZ := Lib.hid (Nat.le_trans HSZ.out hg7.size)
              have HYB : Hid (0 ≤ y ∧ y ≤ 256) := Lib.hid (by have := HXB.out; omega)
              clear hc7 hg7 hy HVB HNE
              (try go_wp2_with fail)
              refine hK.out _ _ (by (try dsimp only); (try trivial)) (fun hHeld => ?_)
              clear hK K
              (try simp only [Act.put, List.setIfInBounds_toArray, List.set_cons_zero, List.set_cons_succ])
              refine wpAnyH_ready (rs := [7]) (by kernel_rfl) (by simp) ?_
              refine AllReadyH.cons (o := { dst := some 26, op := Op.buildSlice 23 1 #[(0, Operand.tmp 25)], type := 23, pos := "l15_texture.go:113", after := #[{ on := 6, ground := Ground.data }], guard := none }) rfl (fun K hK => ?_) ?_
              · go_simp
                have HQ := HQ.new #[.int .i64 y] 3
                have HO := Lib.hid (HO.out.alloc (.cells #[.int .i64 y] 3))
                have HSZ := Lib.hid (Nat.le_trans HSZ.out (show w9.heap.size ≤ (w9.alloc (.cells #[.int .i64 y] 3)).heap.size by simp))
                refine hK.out _ _ trivial (fun hHeld => ?_)
                obtain ⟨wA, hwA⟩ : ∃ W, W = w9.alloc (.cells #[.int .i64 y] 3) := ⟨_, rfl⟩
                rw [← hwA] at HQ HO HSZ ⊢
                obtain ⟨kc, hkc⟩ : ∃ k, k = w9.heap.size := ⟨_, rfl⟩
                rw [← hkc] at HQ ⊢
                clear hwA hkc
                have HQ : GD B g w wA ((kc, [.int .i64 y]) :: [(k3, [.int .i64 L, S]), (kr, [.int .i64 0, .slice none 0 0])]) := HQ
                have HVC := HQ.box 0
                have HQ := HQ.tail
                clear hK K
                (try simp only [Act.put, List.setIfInBounds_toArray, List.set_cons_zero, List.set_cons_succ])
                refine wpAnyH_ready (rs := [8]) (by kernel_rfl) (by simp) ?_
                refine AllReadyH.cons (o := { dst := some 27, op := Op.call { callee := Callee.builtin Builtin.append, args := #[Operand.tmp 20, Operand.tmp 26], argTypes := #[23, 23] }, type := 23, pos := "l15_texture.go:113", after := #[{ on := 1, ground := Ground.data }, { on := 7, ground := Ground.data }, { on := 6, ground := Ground.chain }], guard := none }) rfl (fun K hK => ?_) ?_
                · have HR1 : Row I64 wA wA.heap.size (some ⟨kc, 0, none⟩) [y] := fun _ => ⟨kc, 0, rfl, HVC.lt, fun j hj => by obtain rfl : j = 0 := (by simp at hj; omega); exact HVC.c 0⟩
                  refine step_append_at rfl _ _ 23 rfl B0 3 (.int .i64 0) 8 Try.underlying23 infoInt rfl S k (xs.map I64) (by rfl) HO.out _ (some ⟨kc, 0, none⟩) 1 [y] (by rfl) HR1 (by simp) (by unfold maxLen; have := HKN.out; simp; omega) (by have := HKN.out; simp; omega) HSZ.out ?_
                  intro v6 w6 ho6 hg6 hat6
                  obtain ⟨A6, c6, rfl⟩ : ∃ A c, v6 = .slice A (k + 1) c := own_shape ho6
                  have HQ := HQ.grown2 hg6 (fun r e => by have h1 := own_block HO.out r e; have := HORD.out; omega) (fun p hp e => by (have h1 := own_block HO.out p.1 e.symm; have h2 := HORD.out; simp only [List.mem_cons, List.not_mem_nil, or_false] at hp; rcases hp with rfl | rfl <;> dsimp only at h1 <;> omega))
                  have HSZ := Lib.hid (Nat.le_trans HSZ.out hg6.size)
                  have HO := Lib.hid ho6
                  clear ho6 hg6 hat6 HR1 HVC
                  refine hK.out _ _ trivial (fun hHeld => ?_)
                  clear hK K
                  (try simp only [Act.put, List.setIfInBounds_toArray, List.set_cons_zero, List.set_cons_succ])
                  refine wpAnyH_take (i := 9) (oi := { dst := some 28, op := Op.fieldAddr 25 (Operand.tmp 3) 1, type := 0, pos := "l15_texture.go:113", after := #[{ on := 0, ground := Ground.phase }, { on := 1, ground := Ground.phase }, { on := 2, ground := Ground.phase }, { on := 3, ground := Ground.phase }, { on := 4, ground := Ground.phase }, { on := 5, ground := Ground.phase }, { on := 6, ground := Ground.phase }, { on := 7, ground := Ground.phase }, { on := 8, ground := Ground.phase }], guard := none }) (v := ?_) rfl (by kernel_rfl) (by kernel_rfl) (by kernel_rfl) (fun _ _ _ h => h) (Or.inl ⟨by rfl, ?_⟩) (by assumption) ?_
                  rotate_left 1
                  · (intro w hSw; (try dsimp only at hSw); go_simp <;> with_reducible rfl)
                  (try simp only [Act.put, List.setIfInBounds_toArray, List.set_cons_zero, List.set_cons_succ])
                  refine wpAnyH_ready (rs := [10]) (by kernel_rfl) (by simp) ?_
                  refine AllReadyH.cons (o := { dst := none, op := Op.store 23 (Operand.tmp 28) (Operand.tmp 27), type := 0, pos := "l15_texture.go:113", after := #[{ on := 9, ground := Ground.data }, { on := 8, ground := Ground.data }, { on := 8, ground := Ground.chain }, { on := 0, ground := Ground.phase }, { on := 1, ground := Ground.phase }, { on := 2, ground := Ground.phase }, { on := 3, ground := Ground.phase }, { on := 4, ground := Ground.phase }, { on := 5, ground := Ground.phase }, { on := 6, ground := Ground.phase }, { on := 7, ground := Ground.phase }, { on := 8, ground := Ground.phase }], guard := none }) rfl (fun K hK => ?_) ?_
                  · have c61 := (HQ.box 0).c 1
                    have f61 := (HQ.box 0).f 1
                    go_simp
                    clear c61 f61
                    have HO := Lib.hid (ownsRow_setCell_below HO.out (a := ⟨k3, 1, none⟩) (by have := HORD.out; show k3 < B0; omega) (.slice A6 (k + 1) c6))
                    have HQ := HQ.put (by have := HORD.out; simp; omega) 1 (.slice A6 (k + 1) c6)
                    refine hK.out _ _ trivial (fun hHeld => ?_)
                    clear hK K
                    (try simp only [Act.put, List.setIfInBounds_toArray, List.set_cons_zero, List.set_cons_succ])
                    refine wpAnyH_done (by kernel_rfl) ?_ _
                    clear hHeld
                    have HEN := Lib.hid (And.intro HQ (And.intro HO.out (show B0 ≤ (w6.setCell ⟨k3, 1, none⟩ (.slice A6 (k + 1) c6)).heap.size by have := HSZ.out; simpa using this)))
                    clear HQ HO
                    go_wp2_with fail
                    go_roundw
                    case rel => exact ⟨k + 1, xs ++ [y], .slice A6 (k + 1) c6, by have := HKN.out; omega, by go_num, by have := HXL.out; simp; omega, fun z hz => (List.mem_append.1 hz).elim (HXX.out z) (fun h => by rw [List.mem_singleton.1 h]; exact HYB.out), HEN.out.1, by have h := HEN.out.2.1; rw [List.map_append]; exact h, HEN.out.2.2⟩
                    case measure => simp [intOf]; have := HKN.out; omega
                  exact AllReadyH.nil
                exact AllReadyH.nil
              exact AllReadyH.nil
            exact AllReadyH.nil
          refine AllReadyH.cons (o := { dst := some 25, op := Op.call { callee := Callee.value (Operand.func 78), args := #[Operand.tmp 21, Operand.tmp 24], argTypes := #[67, 23] }, type := 3, pos := "l15_texture.go:113", after := #[{ on := 2, ground := Ground.data }, { on := 5, ground := Ground.data }, { on := 4, ground := Ground.chain }], guard := none }) rfl (fun K hK => ?_) ?_
          · go_simp
            (with_reducible refine (pick3_any B g kb 0 256 x _ HQ.cur HNE HVB).mono ?_)
            rintro e w9 ⟨y, hy, rfl, hc7, hg7⟩
            have HQ := HQ.grow hc7 hg7
            have HO := Lib.hid (own_keep HO.out hg7 (by have := HORD.out; omega))
            have HSZ := Lib.hid (Nat.le_trans HSZ.out hg7.size)
            have HYB : Hid (0 ≤ y ∧ y ≤ 256) := Lib.hid (by have := HXB.out; omega)
            clear hc7 hg7 hy HVB HNE
            (try go_wp2_with fail)
            refine hK.out _ _ (by (try dsimp only); (try trivial)) (fun hHeld => ?_)
            clear hK K
            (try simp only [Act.put, List.setIfInBounds_toArray, List.set_cons_zero, List.set_cons_succ])
            refine wpAnyH_ready (rs := [1, 7]) (by kernel_rfl) (by simp) ?_
            refine AllReadyH.cons (o := { dst := some 20, op := Op.load 23 (Operand.tmp 19), type := 23, pos := "l15_texture.go:113", after := #[{ on := 0, ground := Ground.data }], guard := none }) rfl (fun K hK => ?_) ?_
            · have c61 := (HQ.box 0).c 1
              go_simp
              refine hK.out _ _ trivial (fun hHeld => ?_)
              clear c61
              clear hK K
              (try simp only [Act.put, List.setIfInBounds_toArray, List.set_cons_zero, List.set_cons_succ])
              refine wpAnyH_ready (rs := [7]) (by kernel_rfl) (by simp) ?_
              refine AllReadyH.cons (o := { dst := some 26, op := Op.buildSlice 23 1 #[(0, Operand.tmp 25)], type := 23, pos := "l15_texture.go:113", after := #[{ on := 6, ground := Ground.data }], guard := none }) rfl (fun K hK => ?_) ?_
              · go_simp
                have HQ := HQ.new #[.int .i64 y] 3
                have HO := Lib.hid (HO.out.alloc (.cells #[.int .i64 y] 3))
                have HSZ := Lib.hid (Nat.le_trans HSZ.out (show w9.heap.size ≤ (w9.alloc (.cells #[.int .i64 y] 3)).heap.size by simp))
                refine hK.out _ _ trivial (fun hHeld => ?_)
                obtain ⟨wA, hwA⟩ : ∃ W, W = w9.alloc (.cells #[.int .i64 y] 3) := ⟨_, rfl⟩
                rw [← hwA] at HQ HO HSZ ⊢
                obtain ⟨kc, hkc⟩ : ∃ k, k = w9.heap.size := ⟨_, rfl⟩
                rw [← hkc] at HQ ⊢
                clear hwA hkc
                have HQ : GD B g w wA ((kc, [.int .i64 y]) :: [(k3, [.int .i64 L, S]), (kr, [.int .i64 0, .slice none 0 0])]) := HQ
                have HVC := HQ.box 0
                have HQ := HQ.tail
                clear hK K
                (try simp only [Act.put, List.setIfInBounds_toArray, List.set_cons_zero, List.set_cons_succ])
                refine wpAnyH_ready (rs := [8]) (by kernel_rfl) (by simp) ?_
                refine AllReadyH.cons (o := { dst := some 27, op := Op.call { callee := Callee.builtin Builtin.append, args := #[Operand.tmp 20, Operand.tmp 26], argTypes := #[23, 23] }, type := 23, pos := "l15_texture.go:113", after := #[{ on := 1, ground := Ground.data }, { on := 7, ground := Ground.data }, { on := 6, ground := Ground.chain }], guard := none }) rfl (fun K hK => ?_) ?_
                · have HR1 : Row I64 wA wA.heap.size (some ⟨kc, 0, none⟩) [y] := fun _ => ⟨kc, 0, rfl, HVC.lt, fun j hj => by obtain rfl : j = 0 := (by simp at hj; omega); exact HVC.c 0⟩
                  refine step_append_at rfl _ _ 23 rfl B0 3 (.int .i64 0) 8 Try.underlying23 infoInt rfl S k (xs.map I64) (by rfl) HO.out _ (some ⟨kc, 0, none⟩) 1 [y] (by rfl) HR1 (by simp) (by unfold maxLen; have := HKN.out; simp; omega) (by have := HKN.out; simp; omega) HSZ.out ?_
                  intro v6 w6 ho6 hg6 hat6
                  obtain ⟨A6, c6, rfl⟩ : ∃ A c, v6 = .slice A (k + 1) c := own_shape ho6
                  have HQ := HQ.grown2 hg6 (fun r e => by have h1 := own_block HO.out r e; have := HORD.out; omega) (fun p hp e => by (have h1 := own_block HO.out p.1 e.symm; have h2 := HORD.out; simp only [List.mem_cons, List.not_mem_nil, or_false] at hp; rcases hp with rfl | rfl <;> dsimp only at h1 <;> omega))
                  have HSZ := Lib.hid (Nat.le_trans HSZ.out hg6.size)
                  have HO := Lib.hid ho6
                  clear ho6 hg6 hat6 HR1 HVC
                  refine hK.out _ _ trivial (fun hHeld => ?_)
                  clear hK K
                  (try simp only [Act.put, List.setIfInBounds_toArray, List.set_cons_zero, List.set_cons_succ])
                  refine wpAnyH_take (i := 9) (oi := { dst := some 28, op := Op.fieldAddr 25 (Operand.tmp 3) 1, type := 0, pos := "l15_texture.go:113", after := #[{ on := 0, ground := Ground.phase }, { on := 1, ground := Ground.phase }, { on := 2, ground := Ground.phase }, { on := 3, ground := Ground.phase }, { on := 4, ground := Ground.phase }, { on := 5, ground := Ground.phase }, { on := 6, ground := Ground.phase }, { on := 7, ground := Ground.phase }, { on := 8, ground := Ground.phase }], guard := none }) (v := ?_) rfl (by kernel_rfl) (by kernel_rfl) (by kernel_rfl) (fun _ _ _ h => h) (Or.inl ⟨by rfl, ?_⟩) (by assumption) ?_
                  rotate_left 1
                  · (intro w hSw; (try dsimp only at hSw); go_simp <;> with_reducible rfl)
                  (try simp only [Act.put, List.setIfInBounds_toArray, List.set_cons_zero, List.set_cons_succ])
                  refine wpAnyH_ready (rs := [10]) (by kernel_rfl) (by simp) ?_
                  refine AllReadyH.cons (o := { dst := none, op := Op.store 23 (Operand.tmp 28) (Operand.tmp 27), type := 0, pos := "l15_texture.go:113", after := #[{ on := 9, ground := Ground.data }, { on := 8, ground := Ground.data }, { on := 8, ground := Ground.chain }, { on := 0, ground := Ground.phase }, { on := 1, ground := Ground.phase }, { on := 2, ground := Ground.phase }, { on := 3, ground := Ground.phase }, { on := 4, ground := Ground.phase }, { on := 5, ground := Ground.phase }, { on := 6, ground := Ground.phase }, { on := 7, ground := Ground.phase }, { on := 8, ground := Ground.phase }], guard := none }) rfl (fun K hK => ?_) ?_
                  · have c61 := (HQ.box 0).c 1
                    have f61 := (HQ.box 0).f 1
                    go_simp
                    clear c61 f61
                    have HO := Lib.hid (ownsRow_setCell_below HO.out (a := ⟨k3, 1, none⟩) (by have := HORD.out; show k3 < B0; omega) (.slice A6 (k + 1) c6))
                    have HQ := HQ.put (by have := HORD.out; simp; omega) 1 (.slice A6 (k + 1) c6)
                    refine hK.out _ _ trivial (fun hHeld => ?_)
                    clear hK K
                    (try simp only [Act.put, List.setIfInBounds_toArray, List.set_cons_zero, List.set_cons_succ])
                    refine wpAnyH_done (by kernel_rfl) ?_ _
                    clear hHeld
                    have HEN := Lib.hid (And.intro HQ (And.intro HO.out (show B0 ≤ (w6.setCell ⟨k3, 1, none⟩ (.slice A6 (k + 1) c6)).heap.size by have := HSZ.out; simpa using this)))
                    clear HQ HO
                    go_wp2_with fail
                    go_roundw
                    case rel => exact ⟨k + 1, xs ++ [y], .slice A6 (k + 1) c6, by have := HKN.out; omega, by go_num, by have := HXL.out; simp; omega, fun z hz => (List.mem_append.1 hz).elim (HXX.out z) (fun h => by rw [List.mem_singleton.1 h]; exact HYB.out), HEN.out.1, by have h := HEN.out.2.1; rw [List.map_append]; exact h, HEN.out.2.2⟩
                    case measure => simp [intOf]; have := HKN.out; omega
                  exact AllReadyH.nil
                exact AllReadyH.nil
              exact AllReadyH.nil
            refine AllReadyH.cons (o := { dst := some 26, op := Op.buildSlice 23 1 #[(0, Operand.tmp 25)], type := 23, pos := "l15_texture.go:113", after := #[{ on := 6, ground := Ground.data }], guard := none }) rfl (fun K hK => ?_) ?_
            · go_simp
              have HQ := HQ.new #[.int .i64 y] 3
              have HO := Lib.hid (HO.out.alloc (.cells #[.int .i64 y] 3))
              have HSZ := Lib.hid (Nat.le_trans HSZ.out (show w9.heap.size ≤ (w9.alloc (.cells #[.int .i64 y] 3)).heap.size by simp))
              refine hK.out _ _ trivial (fun hHeld => ?_)
              obtain ⟨wA, hwA⟩ : ∃ W, W = w9.alloc (.cells #[.int .i64 y] 3) := ⟨_, rfl⟩
              rw [← hwA] at HQ HO HSZ ⊢
              obtain ⟨kc, hkc⟩ : ∃ k, k = w9.heap.size := ⟨_, rfl⟩
              rw [← hkc] at HQ ⊢
              clear hwA hkc
              have HQ : GD B g w wA ((kc, [.int .i64 y]) :: [(k3, [.int .i64 L, S]), (kr, [.int .i64 0, .slice none 0 0])]) := HQ
              have HVC := HQ.box 0
              have HQ := HQ.tail
              clear hK K
              (try simp only [Act.put, List.setIfInBounds_toArray, List.set_cons_zero, List.set_cons_succ])
              refine wpAnyH_ready (rs := [1]) (by kernel_rfl) (by simp) ?_
              refine AllReadyH.cons (o := { dst := some 20, op := Op.load 23 (Operand.tmp 19), type := 23, pos := "l15_texture.go:113", after := #[{ on := 0, ground := Ground.data }], guard := none }) rfl (fun K hK => ?_) ?_
              · have c61 := (HQ.box 0).c 1
                go_simp
                refine hK.out _ _ trivial (fun hHeld => ?_)
                clear c61
                clear hK K
                (try simp only [Act.put, List.setIfInBounds_toArray, List.set_cons_zero, List.set_cons_succ])
                refine wpAnyH_ready (rs := [8]) (by kernel_rfl) (by simp) ?_
                refine AllReadyH.cons (o := { dst := some 27, op := Op.call { callee := Callee.builtin Builtin.append, args := #[Operand.tmp 20, Operand.tmp 26], argTypes := #[23, 23] }, type := 23, pos := "l15_texture.go:113", after := #[{ on := 1, ground := Ground.data }, { on := 7, ground := Ground.data }, { on := 6, ground := Ground.chain }], guard := none }) rfl (fun K hK => ?_) ?_
                · have HR1 : Row I64 wA wA.heap.size (some ⟨kc, 0, none⟩) [y] := fun _ => ⟨kc, 0, rfl, HVC.lt, fun j hj => by obtain rfl : j = 0 := (by simp at hj; omega); exact HVC.c 0⟩
                  refine step_append_at rfl _ _ 23 rfl B0 3 (.int .i64 0) 8 Try.underlying23 infoInt rfl S k (xs.map I64) (by rfl) HO.out _ (some ⟨kc, 0, none⟩) 1 [y] (by rfl) HR1 (by simp) (by unfold maxLen; have := HKN.out; simp; omega) (by have := HKN.out; simp; omega) HSZ.out ?_
                  intro v6 w6 ho6 hg6 hat6
                  obtain ⟨A6, c6, rfl⟩ : ∃ A c, v6 = .slice A (k + 1) c := own_shape ho6
                  have HQ := HQ.grown2 hg6 (fun r e => by have h1 := own_block HO.out r e; have := HORD.out; omega) (fun p hp e => by (have h1 := own_block HO.out p.1 e.symm; have h2 := HORD.out; simp only [List.mem_cons, List.not_mem_nil, or_false] at hp; rcases hp with rfl | rfl <;> dsimp only at h1 <;> omega))
                  have HSZ := Lib.hid (Nat.le_trans HSZ.out hg6.size)
                  have HO := Lib.hid ho6
                  clear ho6 hg6 hat6 HR1 HVC
                  refine hK.out _ _ trivial (fun hHeld => ?_)
                  clear hK K
                  (try simp only [Act.put, List.setIfInBounds_toArray, List.set_cons_zero, List.set_cons_succ])
                  refine wpAnyH_take (i := 9) (oi := { dst := some 28, op := Op.fieldAddr 25 (Operand.tmp 3) 1, type := 0, pos := "l15_texture.go:113", after := #[{ on := 0, ground := Ground.phase }, { on := 1, ground := Ground.phase }, { on := 2, ground := Ground.phase }, { on := 3, ground := Ground.phase }, { on := 4, ground := Ground.phase }, { on := 5, ground := Ground.phase }, { on := 6, ground := Ground.phase }, { on := 7, ground := Ground.phase }, { on := 8, ground := Ground.phase }], guard := none }) (v := ?_) rfl (by kernel_rfl) (by kernel_rfl) (by kernel_rfl) (fun _ _ _ h => h) (Or.inl ⟨by rfl, ?_⟩) (by assumption) ?_
                  rotate_left 1
                  · (intro w hSw; (try dsimp only at hSw); go_simp <;> with_reducible rfl)
                  (try simp only [Act.put, List.setIfInBounds_toArray, List.set_cons_zero, List.set_cons_succ])
                  refine wpAnyH_ready (rs := [10]) (by kernel_rfl) (by simp) ?_
                  refine AllReadyH.cons (o := { dst := none, op := Op.store 23 (Operand.tmp 28) (Operand.tmp 27), type := 0, pos := "l15_texture.go:113", after := #[{ on := 9, ground := Ground.data }, { on := 8, ground := Ground.data }, { on := 8, ground := Ground.chain }, { on := 0, ground := Ground.phase }, { on := 1, ground := Ground.phase }, { on := 2, ground := Ground.phase }, { on := 3, ground := Ground.phase }, { on := 4, ground := Ground.phase }, { on := 5, ground := Ground.phase }, { on := 6, ground := Ground.phase }, { on := 7, ground := Ground.phase }, { on := 8, ground := Ground.phase }], guard := none }) rfl (fun K hK => ?_) ?_
                  · have c61 := (HQ.box 0).c 1
                    have f61 := (HQ.box 0).f 1
                    go_simp
                    clear c61 f61
                    have HO := Lib.hid (ownsRow_setCell_below HO.out (a := ⟨k3, 1, none⟩) (by have := HORD.out; show k3 < B0; omega) (.slice A6 (k + 1) c6))
                    have HQ := HQ.put (by have := HORD.out; simp; omega) 1 (.slice A6 (k + 1) c6)
                    refine hK.out _ _ trivial (fun hHeld => ?_)
                    clear hK K
                    (try simp only [Act.put, List.setIfInBounds_toArray, List.set_cons_zero, List.set_cons_succ])
                    refine wpAnyH_done (by kernel_rfl) ?_ _
                    clear hHeld
                    have HEN := Lib.hid (And.intro HQ (And.intro HO.out (show B0 ≤ (w6.setCell ⟨k3, 1, none⟩ (.slice A6 (k + 1) c6)).heap.size by have := HSZ.out; simpa using this)))
                    clear HQ HO
                    go_wp2_with fail
                    go_roundw
                    case rel => exact ⟨k + 1, xs ++ [y], .slice A6 (k + 1) c6, by have := HKN.out; omega, by go_num, by have := HXL.out; simp; omega, fun z hz => (List.mem_append.1 hz).elim (HXX.out z) (fun h => by rw [List.mem_singleton.1 h]; exact HYB.out), HEN.out.1, by have h := HEN.out.2.1; rw [List.map_append]; exact h, HEN.out.2.2⟩
                    case measure => simp [intOf]; have := HKN.out; omega
                  exact AllReadyH.nil
                exact AllReadyH.nil
              exact AllReadyH.nil
            exact AllReadyH.nil
          exact AllReadyH.nil
        exact AllReadyH.nil
      exact AllReadyH.nil
    · obtain rfl : k = n := by omega
      have hz : (k : Int) - (k : Int) = 0 := by omega
      rw [hz]
      obtain ⟨A, c, rfl⟩ := own_shape hown
      have HXX : Hid (okX L xs = true) := Lib.hid (okX_iff.2 ⟨HOKK.out, by rw [hxl]; exact HN.out.1, hxx⟩)
      subst hxl
      have m0 := (HQ.box 0).c 0
      have m1 := (HQ.box 0).c 1
      have r0 := (HQ.box 1).c 0
      have r1 := (HQ.box 1).c 1
      have o0 := (HQ.box 1).f 0
      have o1 := (HQ.box 1).f 1
      have HQ2 := (HQ.pick (cs := [(kr, [.int .i64 0, .slice none 0 0])]) (by simp)).put (by simp) 0 (.int .i64 L) |>.put (by simp) 1 (.slice A xs.length c)
      have HEN := Lib.hid (And.intro HQ2.cur HQ2.gb)
      have hne : ¬ kr = k3 := by have := HORD.out; omega
      have hne2 : ¬ k3 = kr := by have := HORD.out; omega
      clear hown hk hlt hxx HQ HQ2 hz hsz
      go_wp2_with fail
      have ho1 := ownsRow_setCell_below (ownsRow_setCell_below HO.out (a := ⟨kr, 0, none⟩) (by have := HORD.out; show kr < B0; omega) (.int .i64 L)) (a := ⟨kr, 1, none⟩) (by have := HORD.out; show kr < B0; omega) (.slice A xs.length c)
      exact bodyPost_ret (v := txv L A xs.length c) (by simp [results, Try.results43, go_sem, r0, r1]) rfl ⟨L, xs, A, c, HXX.out, rfl, own_base ho1 (by have := HORD.out; omega), HEN.out.1, HEN.out.2⟩

set_option maxRecDepth 100000 in
set_option maxHeartbeats 4000000 in
theorem makeTex_any (A : Option Addr) (c : Nat) (bs : List Int) (w : World) (hR : Row U8 w w.heap.size A bs) (h8 : ∀ x ∈ bs, 0 ≤ x ∧ x ≤ 255) (hl : bs.length ≤ 1048576) :
    Calls Try.prog 11 #[.slice A bs.length c] w (TexMade w) := by
  have HT : Held w (w.alloc (.cells #[.int .i64 0, .slice none 0 0] 25)) [(w.heap.size, [.int .i64 0, .slice none 0 0])] := by
    have h := (Held.nil w).new #[.int .i64 0, .slice none 0 0] 25
    simpa only [World.size_alloc] using h
  have hR1 := hR.later HT.below
  obtain ⟨W1, hW1⟩ : ∃ W, W = w.alloc (.cells #[.int .i64 0, .slice none 0 0] 25) := ⟨_, rfl⟩
  have hlt : w.heap.size < W1.heap.size := by rw [hW1]; simp
  rw [← hW1] at HT hR1
  have HNC := Lib.hid (new_any A c bs W1 hR1 h8 hl)
  clear hR hR1 h8 hl
  go_enter Try.func11, Try.ntmps11
  go_upto_region 1 with fail
  rw [← hW1]
  clear hW1
  go_wp2_with fail
  refine HNC.out.mono ?_
  rintro e w2 ⟨g, rfl, hc, hb2⟩
  have hge := hc.ge
  have HD := Lib.hid (l15Draw_any W1.heap.size g w2 hc hb2.size)
  have HT := HT.later hb2
  have hW : w.heap.size < W1.heap.size := hlt
  obtain ⟨kr, hkr⟩ : ∃ k, k = w.heap.size := ⟨_, rfl⟩
  rw [← hkr] at HT ⊢
  have HKR := Lib.hid (show kr = w.heap.size ∧ kr < g ∧ kr < w2.heap.size by have := hb2.size; omega)
  clear hb2 hc hge hW hkr hlt
  go_wp2_with fail
  refine HD.out.mono ?_
  rintro e w3 ⟨L, ts, A2, c2, hok, rfl, ho3, hc3, hg3⟩
  have HT := HT.grow hg3 (by have := HKR.out; omega) (by have := HKR.out; simp; omega)
  have HOK := Lib.hid hok
  have HO := Lib.hid ho3
  have r0 := (HT.box 0).c 0
  have r1 := (HT.box 0).c 1
  have o0 := (HT.box 0).f 0
  have o1 := (HT.box 0).f 1
  have HTB := Lib.hid HT.below
  clear hok ho3 hc3 hg3 HT
  go_wp2_with fail
  have hq1 : w.heap.size ≤ kr := by have := HKR.out; omega
  have ho1 := ownsRow_setCell_below (ownsRow_setCell_below HO.out (a := ⟨kr, 0, none⟩) (by have := HKR.out; show kr < w2.heap.size; omega) (.int .i64 L)) (a := ⟨kr, 1, none⟩) (by have := HKR.out; show kr < w2.heap.size; omega) (.slice A2 ts.length c2)
  exact bodyPost_ret (v := txv L A2 ts.length c2) (by simp [results, Try.results11, go_sem, r0, r1]) rfl ⟨L, ts, A2, c2, HOK.out, rfl, own_base ho1 (by have := HKR.out; omega), (HTB.out.setCell (p := ⟨kr, 0, none⟩) hq1 _).setCell (p := ⟨kr, 1, none⟩) hq1 _⟩
end Go.Proofs.Ytaelhbbfddcabaa
