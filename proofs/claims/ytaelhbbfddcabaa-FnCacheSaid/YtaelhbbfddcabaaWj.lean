/- Drawn caches. -/
import Derived.Test.YtaelhbbfddcabaaProg
import Derived.Test.YtaelhbbfddcabaaInts
import Derived.Test.YtaelhbbfddcabaaVbox
import Derived.Test.YtaelhbbfddcabaaHeld
import Derived.Test.YtaelhbbfddcabaaMem
import Derived.Test.YtaelhbbfddcabaaFlat
import Derived.Test.YtaelhbbfddcabaaRowC
import Derived.Test.YtaelhbbfddcabaaKS
import Derived.Test.YtaelhbbfddcabaaStrS
import Derived.Test.YtaelhbbfddcabaaIntS
import Derived.Test.YtaelhbbfddcabaaSS
import Derived.Test.YtaelhbbfddcabaaVi
import Derived.Test.YtaelhbbfddcabaaVa
import Derived.Test.YtaelhbbfddcabaaVb
import Derived.Test.YtaelhbbfddcabaaVc
import Derived.Test.YtaelhbbfddcabaaWa
import Derived.Test.YtaelhbbfddcabaaWb
import Derived.Test.YtaelhbbfddcabaaVd
import Derived.Test.YtaelhbbfddcabaaWc
import Derived.Test.YtaelhbbfddcabaaWd
import Derived.Test.YtaelhbbfddcabaaWf
import Derived.Test.YtaelhbbfddcabaaWg
import Derived.Test.YtaelhbbfddcabaaWi
import Derived.Test.YtaelhbbfddcabaaCur
import Derived.Test.YtaelhbbfddcabaaGd
import Derived.WalkKit
import Derived.WalkSpells
import Derived.WalkLawsBesides
import Derived.Lib.Hide
import Derived.Deep.RegionHeld3
import Derived.Deep.QuietTactic
import Derived.BigQuiet
import Derived.Handy
import Derived.Deep.DeepCutAuto
import Derived.OwnWalk
import Derived.Lib.OwnBridge
import Derived.Laws.OwnMore
namespace Go.Proofs.Ytaelhbbfddcabaa
open Go.RowKit

/-- tiles of small numbers -/
def SmT (ts : List V3) : Prop := ∀ e ∈ ts, (0 ≤ e.1 ∧ e.1 < 9) ∧ (0 ≤ e.2.1 ∧ e.2.1 < 9) ∧ 0 ≤ e.2.2 ∧ e.2.2 < 9
theorem smT_use {R : Int} {ts : List V3} {K x y z : Int} (h : SmT ts) (hx : 0 ≤ x ∧ x ≤ 2 - 1) (hy : 0 ≤ y ∧ y ≤ 3 - 1) (hz : 0 ≤ z ∧ z ≤ 3 - 1) : SmT (useL R ts K (x, y, z)) := fun e he => by
  have h1 : e ∈ ts ∨ e = (x, y, z) := by
    unfold useL at he
    split at he
    · split at he
      · rcases List.mem_append.1 he with h | h
        · exact .inl (List.mem_of_mem_take h)
        · rcases List.mem_append.1 h with h | h
          · exact .inl (List.mem_of_mem_drop h)
          · exact .inr (by simpa using h)
      · have h1 : e ∈ ts ++ [(x, y, z)] := by
          split at he
          · exact List.mem_of_mem_drop he
          · exact he
        rcases List.mem_append.1 h1 with h1 | h1
        · exact .inl h1
        · exact .inr (by simpa using h1)
    · exact .inl he
  rcases h1 with h1 | rfl
  · exact h e h1
  · dsimp only
    omega
/-- a cache that a call draws -/
def CaDrawn (B g : Nat) (w : World) (e : Ending) (w' : World) : Prop :=
  ∃ (R K : Int) (ts : List V3) (A : Option Addr) (c : Nat), (okC R ts K = true ∧ SmT ts) ∧ K ≤ 4 ∧ e = .returned (cav R A ts.length c K) ∧ w'.ownsRow w.heap.size 50 3 (.slice A ts.length c) ts.length (ts.flatMap vg) ∧ Cur w' B g ∧ w.grownBy w' (some g)
/-- a cache that a call makes of bytes -/
def CaMade (w : World) (e : Ending) (w' : World) : Prop :=
  ∃ (R K : Int) (ts : List V3) (A : Option Addr) (c : Nat), (okC R ts K = true ∧ SmT ts) ∧ K ≤ 4 ∧ e = .returned (cav R A ts.length c K) ∧ w'.ownsRow w.heap.size 50 3 (.slice A ts.length c) ts.length (ts.flatMap vg) ∧ Below w.heap.size w w'
theorem own_set3J {w : World} {base : Nat} {e : TypeId} {size n g : Nat} {v : Value} {xs : List Value} (h : w.ownsRow base e size v n xs) (hne : v.ownBlock ≠ some g) (x y z : Value) :
    (((w.setCell ⟨g, 0, none⟩ x).setCell ⟨g, 1, none⟩ y).setCell ⟨g, 2, none⟩ z).ownsRow base e size v n xs := ownsRow_setCell_other (ownsRow_setCell_other (ownsRow_setCell_other h (a := ⟨g, 0, none⟩) hne x) (a := ⟨g, 1, none⟩) hne y) (a := ⟨g, 2, none⟩) hne z

set_option maxRecDepth 100000 in
set_option maxHeartbeats 16000000 in
theorem l16Draw_any (B g : Nat) (w : World) (hC : Cur w B g) (hB : B ≤ w.heap.size) :
    Calls Try.prog 45 #[.pointer (some ⟨g, 0, none⟩)] w (CaDrawn B g w) := by
  have HQ := (GD.start hC hB).new #[.int .i64 0, .slice none 0 0, .int .i64 0] 29
  obtain ⟨W1, hW1⟩ : ∃ W, W = w.alloc (.cells #[.int .i64 0, .slice none 0 0, .int .i64 0] 29) := ⟨_, rfl⟩
  have hs1 : W1.heap.size = w.heap.size + 1 := by rw [hW1]; simp
  rw [← hW1] at HQ
  clear hC hB
  go_enter Try.func45, Try.ntmps45
  go_upto_region 1 with fail
  rw [← hW1]
  obtain ⟨kr, hkr⟩ : ∃ k, k = w.heap.size := ⟨_, rfl⟩
  rw [← hkr] at HQ ⊢
  have HKR := Lib.hid (And.intro hkr hs1)
  clear hW1 hkr hs1
  go_wp2_with fail
  refine (below_any B g 4 _ HQ.cur (by omega) (by omega)).mono ?_
  rintro e w2 ⟨r, r0, r1, rfl, hc2, hg2⟩
  have HQ := HQ.grow hc2 hg2
  have hs2 := hg2.size
  obtain ⟨R, hR⟩ : ∃ R, R = 1 + r := ⟨_, rfl⟩
  have e1 : IntKind.i64.wrap (1 + r) = R := by rw [hR]; exact wrap_v (by omega)
  have hRb : 1 ≤ R ∧ R ≤ 12 := by omega
  have hcl : clampP R 1 12 = R := by
    unfold clampP
    rw [if_neg (by omega), if_neg (by omega)]
  have HNC := Lib.hid (fun W => sNewC_any R W)
  rw [hcl] at HNC
  clear hc2 hg2 hR hcl r0 r1
  go_wp2_with fail
  refine (HNC.out _).mono ?_
  rintro e w3 ⟨A, c, rfl, ho3, hb3⟩
  have hs3 := hb3.size
  have HQ := (HQ.grown2 (gb_of_below hb3 (row := none)) (fun r h => by cases h) (fun p _ => by simp)).new #[.int .i64 R, .slice A 0 c, .int .i64 0] 29
  have hn4 : (Value.slice A ([] : List V3).length c).ownBlock ≠ some w3.heap.size := fun e => by have := (ho3.lt _ e).2; omega
  have ho4 := ho3.alloc (.cells #[.int .i64 R, .slice A 0 c, .int .i64 0] 29)
  have hs4 : (w3.alloc (.cells #[.int .i64 R, .slice A 0 c, .int .i64 0] 29)).heap.size = w3.heap.size + 1 := by simp
  clear hb3 ho3 e1 HNC
  go_upto_region 2 with fail
  obtain ⟨W3, hW3⟩ : ∃ W, W = w3.alloc (.cells #[.int .i64 R, .slice A 0 c, .int .i64 0] 29) := ⟨_, rfl⟩
  obtain ⟨k3, hk3⟩ : ∃ k, k = w3.heap.size := ⟨_, rfl⟩
  obtain ⟨B0, hB0⟩ : ∃ B, B = w2.heap.size := ⟨_, rfl⟩
  rw [← hW3] at HQ ho4 hs4 ⊢
  rw [← hk3] at HQ hn4 hs4 hs3 ⊢
  rw [← hB0] at ho4 hs2 hs3
  have hgl := HQ.glt
  have HORD := Lib.hid (show kr = w.heap.size ∧ kr < k3 ∧ kr < B0 ∧ g < kr ∧ B0 ≤ k3 by have := HKR.out; omega)
  have HRB := Lib.hid hRb
  have HI := Lib.hid (And.intro HQ (And.intro ho4 (And.intro (show B0 ≤ W3.heap.size by omega) hn4)))
  clear hW3 hk3 hB0 hs2 hs3 hs4 hgl hRb ho4 hn4 HKR
  go_wp2_with fail
  refine (below_any B g 5 _ HI.out.1.cur (by omega) (by omega)).mono ?_
  rintro e w4 ⟨n0, n1, n2, rfl, hc7, hg7⟩
  obtain ⟨n, rfl⟩ := Int.eq_ofNat_of_zero_le n1
  have HN := Lib.hid (show n ≤ 4 by omega)
  have HJ := Lib.hid (And.intro (HI.out.1.grow hc7 hg7) (And.intro (own_keep HI.out.2.1 hg7 (by have := HORD.out; omega)) (And.intro (Nat.le_trans HI.out.2.2.1 hg7.size) HI.out.2.2.2)))
  clear HQ HI hc7 hg7 n1 n2
  go_wp2_with fail
  go_loopw [4] (fun v wr => ∃ (k : Nat) (R Q : Int) (ts : List V3) (A : Option Addr) (c : Nat), k ≤ n ∧ v = .int .i64 ((n : Int) - (k : Int)) ∧ (okC R ts Q = true ∧ SmT ts) ∧ Q ≤ (k : Int) ∧ GD B g w wr [(k3, [.int .i64 R, .slice A ts.length c, .int .i64 Q]), (kr, [.int .i64 0, .slice none 0 0, .int .i64 0])] ∧ wr.ownsRow B0 50 3 (.slice A ts.length c) ts.length (ts.flatMap vg) ∧ B0 ≤ wr.heap.size ∧ (Value.slice A ts.length c).ownBlock ≠ some k3) (fun v _ => (intOf v).toNat)
  case atStart => exact ⟨0, R, 0, [], A, c, Nat.zero_le _, by simp, ⟨okC_empty HRB.out.1 HRB.out.2, fun e he => (by cases he)⟩, Int.le_refl _, HJ.out⟩
  case round =>
    clear HJ HRB
    obtain ⟨k, R, Q, ts, A, c, hk, rfl, hok, hkk, HQ, hown, hsz, hnv⟩ := hrel
    have HO := Lib.hid hown
    by_cases hlt : k < n
    · obtain ⟨d, hd⟩ : ∃ d : Int, d = (n : Int) - (k : Int) := ⟨_, rfl⟩
      have hd0 : 0 < d := by omega
      have ed : IntKind.i64.wrap (d - 1) = (n : Int) - ((k + 1 : Nat) : Int) := by rw [wrap_v (by have := HN.out; omega)]; omega
      rw [← hd]
      have HSM := Lib.hid hok.2
      have hok := hok.1
      have hokc := okC_iff.1 hok
      have HKN := Lib.hid (show k < n ∧ n ≤ 4 ∧ d = (n : Int) - (k : Int) ∧ okC R ts Q = true ∧ Q ≤ (k : Int) ∧ ts.length ≤ 12 from ⟨hlt, HN.out, hd, hok, hkk, by have h1 := hokc.1; have h2 := hokc.2.1; omega⟩)
      have HB2 := Lib.hid (fun W (h : Cur W B g) => below_any B g 2 W h (by omega) (by omega))
      have HB3 := Lib.hid (fun W (h : Cur W B g) => below_any B g 3 W h (by omega) (by omega))
      clear hown hk hlt hd hok hkk hokc hnv
      go_upto_region 5 with fail
      have HQ := HQ.drew
      have HO : Hid (wr.drew.ownsRow B0 50 3 (.slice A ts.length c) ts.length (ts.flatMap vg)) := HO
      have HSZ : Hid (B0 ≤ wr.drew.heap.size) := Lib.hid hsz
      clear hsz
      refine wp_region_held_drew (S := fun _ => True) (by kernel_rfl) trivial (fun hHeld => ?_)
      obtain ⟨wd, hwd⟩ : ∃ x, x = wr.drew := ⟨_, rfl⟩
      rw [← hwd] at HQ HO HSZ ⊢
      clear hwd
      refine wpAnyH_take (i := 1) (oi := { dst := some 16, op := Op.move (Operand.tmp 0), type := 67, pos := "l16_cache.go:108", after := #[], guard := none }) (v := ?_) rfl (by kernel_rfl) (by kernel_rfl) (by kernel_rfl) (fun _ _ _ h => h) (Or.inl ⟨by rfl, ?_⟩) (by assumption) ?_
      rotate_left 1
      · (intro w hSw; (try dsimp only at hSw); go_simp <;> with_reducible rfl)
      (try simp only [Act.put, List.setIfInBounds_toArray, List.set_cons_zero, List.set_cons_succ])
      refine wpAnyH_take (i := 3) (oi := { dst := some 18, op := Op.move (Operand.tmp 0), type := 67, pos := "l16_cache.go:108", after := #[], guard := none }) (v := ?_) rfl (by kernel_rfl) (by kernel_rfl) (by kernel_rfl) (fun _ _ _ h => h) (Or.inl ⟨by rfl, ?_⟩) (by assumption) ?_
      rotate_left 1
      · (intro w hSw; (try dsimp only at hSw); go_simp <;> with_reducible rfl)
      (try simp only [Act.put, List.setIfInBounds_toArray, List.set_cons_zero, List.set_cons_succ])
      refine wpAnyH_take (i := 5) (oi := { dst := some 20, op := Op.move (Operand.tmp 0), type := 67, pos := "l16_cache.go:108", after := #[], guard := none }) (v := ?_) rfl (by kernel_rfl) (by kernel_rfl) (by kernel_rfl) (fun _ _ _ h => h) (Or.inl ⟨by rfl, ?_⟩) (by assumption) ?_
      rotate_left 1
      · (intro w hSw; (try dsimp only at hSw); go_simp <;> with_reducible rfl)
      (try simp only [Act.put, List.setIfInBounds_toArray, List.set_cons_zero, List.set_cons_succ])
      refine wpAnyH_ready (rs := [0, 2]) (by kernel_rfl) (by simp) ?_
      refine AllReadyH.cons (o := { dst := some 15, op := Op.load 29 (Operand.tmp 3), type := 29, pos := "l16_cache.go:108", after := #[], guard := none }) rfl (fun K hK => ?_) ?_
      · have c60 := (HQ.box 0).c 0
        have c61 := (HQ.box 0).c 1
        have c62 := (HQ.box 0).c 2
        go_simp
        refine hK.out _ _ trivial (fun hHeld => ?_)
        clear c60 c61 c62
        clear hK K
        (try simp only [Act.put, List.setIfInBounds_toArray, List.set_cons_zero, List.set_cons_succ])
        refine wpAnyH_ready (rs := [2]) (by kernel_rfl) (by simp) ?_
        refine AllReadyH.cons (o := { dst := some 17, op := Op.call { callee := Callee.value (Operand.func 77), args := #[Operand.tmp 16, Operand.const (Value.int IntKind.i64 2)], argTypes := #[67, 3] }, type := 3, pos := "l16_cache.go:108", after := #[{ on := 1, ground := Ground.data }], guard := none }) rfl (fun K hK => ?_) ?_
        · go_simp
          (with_reducible refine (HB2.out _ HQ.cur).mono ?_)
          rintro e w5 ⟨x, x0, x1, rfl, hc7, hg7⟩
          have HQ := HQ.grow hc7 hg7
          have HO := Lib.hid (own_keep HO.out hg7 (by have := HORD.out; omega))
          have HSZ := Lib.hid (Nat.le_trans HSZ.out hg7.size)
          have HB_x := Lib.hid (And.intro x0 x1)
          clear hc7 hg7 x0 x1
          (try go_wp2_with fail)
          refine hK.out _ _ (by (try dsimp only); (try trivial)) (fun hHeld => ?_)
          clear hK K
          (try simp only [Act.put, List.setIfInBounds_toArray, List.set_cons_zero, List.set_cons_succ])
          refine wpAnyH_ready (rs := [4]) (by kernel_rfl) (by simp) ?_
          refine AllReadyH.cons (o := { dst := some 19, op := Op.call { callee := Callee.value (Operand.func 77), args := #[Operand.tmp 18, Operand.const (Value.int IntKind.i64 3)], argTypes := #[67, 3] }, type := 3, pos := "l16_cache.go:108", after := #[{ on := 3, ground := Ground.data }, { on := 2, ground := Ground.chain }], guard := none }) rfl (fun K hK => ?_) ?_
          · go_simp
            (with_reducible refine (HB3.out _ HQ.cur).mono ?_)
            rintro e w6 ⟨y, y0, y1, rfl, hc7, hg7⟩
            have HQ := HQ.grow hc7 hg7
            have HO := Lib.hid (own_keep HO.out hg7 (by have := HORD.out; omega))
            have HSZ := Lib.hid (Nat.le_trans HSZ.out hg7.size)
            have HB_y := Lib.hid (And.intro y0 y1)
            clear hc7 hg7 y0 y1
            (try go_wp2_with fail)
            refine hK.out _ _ (by (try dsimp only); (try trivial)) (fun hHeld => ?_)
            clear hK K
            (try simp only [Act.put, List.setIfInBounds_toArray, List.set_cons_zero, List.set_cons_succ])
            refine wpAnyH_ready (rs := [6]) (by kernel_rfl) (by simp) ?_
            refine AllReadyH.cons (o := { dst := some 21, op := Op.call { callee := Callee.value (Operand.func 77), args := #[Operand.tmp 20, Operand.const (Value.int IntKind.i64 3)], argTypes := #[67, 3] }, type := 3, pos := "l16_cache.go:108", after := #[{ on := 5, ground := Ground.data }, { on := 4, ground := Ground.chain }], guard := none }) rfl (fun K hK => ?_) ?_
            · go_simp
              (with_reducible refine (HB3.out _ HQ.cur).mono ?_)
              rintro e w7 ⟨z, z0, z1, rfl, hc7, hg7⟩
              have HQ := HQ.grow hc7 hg7
              have HO := Lib.hid (own_keep HO.out hg7 (by have := HORD.out; omega))
              have HSZ := Lib.hid (Nat.le_trans HSZ.out hg7.size)
              have HB_z := Lib.hid (And.intro z0 z1)
              clear hc7 hg7 z0 z1
              (try go_wp2_with fail)
              refine hK.out _ _ (by (try dsimp only); (try trivial)) (fun hHeld => ?_)
              clear hK K
              (try simp only [Act.put, List.setIfInBounds_toArray, List.set_cons_zero, List.set_cons_succ])
              refine wpAnyH_take (i := 7) (oi := { dst := some 22, op := Op.build 50 #[(0, Operand.tmp 17), (1, Operand.tmp 19), (2, Operand.tmp 21)], type := 50, pos := "l16_cache.go:108", after := #[{ on := 2, ground := Ground.data }, { on := 4, ground := Ground.data }, { on := 6, ground := Ground.data }], guard := none }) (v := ?_) rfl (by kernel_rfl) (by kernel_rfl) (by kernel_rfl) (fun _ _ _ h => h) (Or.inl ⟨by rfl, ?_⟩) (by assumption) ?_
              rotate_left 1
              · (intro w hSw; (try dsimp only at hSw); go_simp <;> with_reducible rfl)
              (try simp only [Act.put, List.setIfInBounds_toArray, List.set_cons_zero, List.set_cons_succ])
              refine wpAnyH_ready (rs := [8]) (by kernel_rfl) (by simp) ?_
              refine AllReadyH.cons (o := { dst := some 23, op := Op.call { callee := Callee.value (Operand.func 37), args := #[Operand.tmp 15, Operand.tmp 22], argTypes := #[29, 50] }, type := 29, pos := "l16_cache.go:108", after := #[{ on := 0, ground := Ground.data }, { on := 7, ground := Ground.data }, { on := 6, ground := Ground.chain }], guard := none }) rfl (fun K hK => ?_) ?_
              · go_simp
                (with_reducible refine (sUseTile_any R A c ts Q x y z _ (RowC.of_own vg_len HO.out rfl) (by have := HKN.out; omega) (own_capG HO.out)).mono ?_)
                rintro e w8 ⟨A6, c6, rfl, ho6, hb6⟩
                have HNV := Lib.hid (show Value.ownBlock (.slice A6 (useL R ts Q (x, y, z)).length c6) ≠ some k3 from fun e => by have h1 := own_block ho6 k3 e; have h2 := (HQ.box 0).lt; omega)
                have HQ := HQ.grown2 (gb_of_below hb6 (row := none)) (fun r h => by cases h) (fun p _ => by simp)
                have HO := Lib.hid (own_base ho6 HSZ.out)
                have HSZ := Lib.hid (Nat.le_trans HSZ.out hb6.size)
                have HSN := Lib.hid (smT_use (R := R) (K := Q) HSM.out HB_x.out HB_y.out HB_z.out)
                have HN8 := Lib.hid (okC_use (x := (x, y, z)) HKN.out.2.2.2.1 (by have := HKN.out; omega))
                obtain ⟨zs, hzs⟩ : ∃ l, l = useL R ts Q (x, y, z) := ⟨_, rfl⟩
                obtain ⟨J, hJ⟩ : ∃ l, l = useK R ts Q (x, y, z) := ⟨_, rfl⟩
                rw [← hzs] at HO HN8 HNV HSN ⊢
                rw [← hJ] at HN8 ⊢
                clear hzs hJ ho6 hb6
                (try go_wp2_with fail)
                refine hK.out _ _ (by (try dsimp only); (try trivial)) (fun hHeld => ?_)
                clear hK K
                (try simp only [Act.put, List.setIfInBounds_toArray, List.set_cons_zero, List.set_cons_succ])
                refine wpAnyH_ready (rs := [9]) (by kernel_rfl) (by simp) ?_
                refine AllReadyH.cons (o := { dst := none, op := Op.store 29 (Operand.tmp 3) (Operand.tmp 23), type := 0, pos := "l16_cache.go:108", after := #[{ on := 8, ground := Ground.data }, { on := 8, ground := Ground.chain }, { on := 0, ground := Ground.phase }, { on := 1, ground := Ground.phase }, { on := 2, ground := Ground.phase }, { on := 3, ground := Ground.phase }, { on := 4, ground := Ground.phase }, { on := 5, ground := Ground.phase }, { on := 6, ground := Ground.phase }, { on := 7, ground := Ground.phase }, { on := 8, ground := Ground.phase }], guard := none }) rfl (fun K hK => ?_) ?_
                · have c60 := (HQ.box 0).c 0
                  have c61 := (HQ.box 0).c 1
                  have c62 := (HQ.box 0).c 2
                  have f60 := (HQ.box 0).f 0
                  have f61 := (HQ.box 0).f 1
                  have f62 := (HQ.box 0).f 2
                  go_simp
                  clear c60 c61 c62 f60 f61 f62
                  have HO := Lib.hid (own_set3J HO.out HNV.out (.int .i64 R) (.slice A6 zs.length c6) (.int .i64 J))
                  have HQ := ((HQ.put (by have := HORD.out; simp; omega) 0 (.int .i64 R)).put (by have := HORD.out; simp; omega) 1 (.slice A6 zs.length c6)).put (by have := HORD.out; simp; omega) 2 (.int .i64 J)
                  refine hK.out _ _ trivial (fun hHeld => ?_)
                  clear hK K
                  (try simp only [Act.put, List.setIfInBounds_toArray, List.set_cons_zero, List.set_cons_succ])
                  refine wpAnyH_done (by kernel_rfl) ?_ _
                  clear hHeld
                  have HEN := Lib.hid (And.intro HQ (And.intro HO.out (And.intro (show B0 ≤ ((((w8.setCell ⟨k3, 0, none⟩ (.int .i64 R)).setCell ⟨k3, 1, none⟩ (.slice A6 zs.length c6)).setCell ⟨k3, 2, none⟩ (.int .i64 J))).heap.size by have := HSZ.out; simpa using this) HNV.out)))
                  clear HQ HO
                  go_wp2_with fail
                  go_roundw
                  case rel => exact ⟨k + 1, R, J, zs, A6, c6, by have := HKN.out; omega, by go_num, ⟨HN8.out.1, HSN.out⟩, by have h1 := HN8.out.2.2; have h2 := HKN.out.2.2.2.2.1; omega, HEN.out⟩
                  case measure => simp [intOf]; have := HKN.out; omega
                exact AllReadyH.nil
              exact AllReadyH.nil
            exact AllReadyH.nil
          exact AllReadyH.nil
        exact AllReadyH.nil
      refine AllReadyH.cons (o := { dst := some 17, op := Op.call { callee := Callee.value (Operand.func 77), args := #[Operand.tmp 16, Operand.const (Value.int IntKind.i64 2)], argTypes := #[67, 3] }, type := 3, pos := "l16_cache.go:108", after := #[{ on := 1, ground := Ground.data }], guard := none }) rfl (fun K hK => ?_) ?_
      · go_simp
        (with_reducible refine (HB2.out _ HQ.cur).mono ?_)
        rintro e w5 ⟨x, x0, x1, rfl, hc7, hg7⟩
        have HQ := HQ.grow hc7 hg7
        have HO := Lib.hid (own_keep HO.out hg7 (by have := HORD.out; omega))
        have HSZ := Lib.hid (Nat.le_trans HSZ.out hg7.size)
        have HB_x := Lib.hid (And.intro x0 x1)
        clear hc7 hg7 x0 x1
        (try go_wp2_with fail)
        refine hK.out _ _ (by (try dsimp only); (try trivial)) (fun hHeld => ?_)
        clear hK K
        (try simp only [Act.put, List.setIfInBounds_toArray, List.set_cons_zero, List.set_cons_succ])
        refine wpAnyH_ready (rs := [0, 4]) (by kernel_rfl) (by simp) ?_
        refine AllReadyH.cons (o := { dst := some 15, op := Op.load 29 (Operand.tmp 3), type := 29, pos := "l16_cache.go:108", after := #[], guard := none }) rfl (fun K hK => ?_) ?_
        · have c60 := (HQ.box 0).c 0
          have c61 := (HQ.box 0).c 1
          have c62 := (HQ.box 0).c 2
          go_simp
          refine hK.out _ _ trivial (fun hHeld => ?_)
          clear c60 c61 c62
          clear hK K
          (try simp only [Act.put, List.setIfInBounds_toArray, List.set_cons_zero, List.set_cons_succ])
          refine wpAnyH_ready (rs := [4]) (by kernel_rfl) (by simp) ?_
          refine AllReadyH.cons (o := { dst := some 19, op := Op.call { callee := Callee.value (Operand.func 77), args := #[Operand.tmp 18, Operand.const (Value.int IntKind.i64 3)], argTypes := #[67, 3] }, type := 3, pos := "l16_cache.go:108", after := #[{ on := 3, ground := Ground.data }, { on := 2, ground := Ground.chain }], guard := none }) rfl (fun K hK => ?_) ?_
          · go_simp
            (with_reducible refine (HB3.out _ HQ.cur).mono ?_)
            rintro e w6 ⟨y, y0, y1, rfl, hc7, hg7⟩
            have HQ := HQ.grow hc7 hg7
            have HO := Lib.hid (own_keep HO.out hg7 (by have := HORD.out; omega))
            have HSZ := Lib.hid (Nat.le_trans HSZ.out hg7.size)
            have HB_y := Lib.hid (And.intro y0 y1)
            clear hc7 hg7 y0 y1
            (try go_wp2_with fail)
            refine hK.out _ _ (by (try dsimp only); (try trivial)) (fun hHeld => ?_)
            clear hK K
            (try simp only [Act.put, List.setIfInBounds_toArray, List.set_cons_zero, List.set_cons_succ])
            refine wpAnyH_ready (rs := [6]) (by kernel_rfl) (by simp) ?_
            refine AllReadyH.cons (o := { dst := some 21, op := Op.call { callee := Callee.value (Operand.func 77), args := #[Operand.tmp 20, Operand.const (Value.int IntKind.i64 3)], argTypes := #[67, 3] }, type := 3, pos := "l16_cache.go:108", after := #[{ on := 5, ground := Ground.data }, { on := 4, ground := Ground.chain }], guard := none }) rfl (fun K hK => ?_) ?_
            · go_simp
              (with_reducible refine (HB3.out _ HQ.cur).mono ?_)
              rintro e w7 ⟨z, z0, z1, rfl, hc7, hg7⟩
              have HQ := HQ.grow hc7 hg7
              have HO := Lib.hid (own_keep HO.out hg7 (by have := HORD.out; omega))
              have HSZ := Lib.hid (Nat.le_trans HSZ.out hg7.size)
              have HB_z := Lib.hid (And.intro z0 z1)
              clear hc7 hg7 z0 z1
              (try go_wp2_with fail)
              refine hK.out _ _ (by (try dsimp only); (try trivial)) (fun hHeld => ?_)
              clear hK K
              (try simp only [Act.put, List.setIfInBounds_toArray, List.set_cons_zero, List.set_cons_succ])
              refine wpAnyH_take (i := 7) (oi := { dst := some 22, op := Op.build 50 #[(0, Operand.tmp 17), (1, Operand.tmp 19), (2, Operand.tmp 21)], type := 50, pos := "l16_cache.go:108", after := #[{ on := 2, ground := Ground.data }, { on := 4, ground := Ground.data }, { on := 6, ground := Ground.data }], guard := none }) (v := ?_) rfl (by kernel_rfl) (by kernel_rfl) (by kernel_rfl) (fun _ _ _ h => h) (Or.inl ⟨by rfl, ?_⟩) (by assumption) ?_
              rotate_left 1
              · (intro w hSw; (try dsimp only at hSw); go_simp <;> with_reducible rfl)
              (try simp only [Act.put, List.setIfInBounds_toArray, List.set_cons_zero, List.set_cons_succ])
              refine wpAnyH_ready (rs := [8]) (by kernel_rfl) (by simp) ?_
              refine AllReadyH.cons (o := { dst := some 23, op := Op.call { callee := Callee.value (Operand.func 37), args := #[Operand.tmp 15, Operand.tmp 22], argTypes := #[29, 50] }, type := 29, pos := "l16_cache.go:108", after := #[{ on := 0, ground := Ground.data }, { on := 7, ground := Ground.data }, { on := 6, ground := Ground.chain }], guard := none }) rfl (fun K hK => ?_) ?_
              · go_simp
                (with_reducible refine (sUseTile_any R A c ts Q x y z _ (RowC.of_own vg_len HO.out rfl) (by have := HKN.out; omega) (own_capG HO.out)).mono ?_)
                rintro e w8 ⟨A6, c6, rfl, ho6, hb6⟩
                have HNV := Lib.hid (show Value.ownBlock (.slice A6 (useL R ts Q (x, y, z)).length c6) ≠ some k3 from fun e => by have h1 := own_block ho6 k3 e; have h2 := (HQ.box 0).lt; omega)
                have HQ := HQ.grown2 (gb_of_below hb6 (row := none)) (fun r h => by cases h) (fun p _ => by simp)
                have HO := Lib.hid (own_base ho6 HSZ.out)
                have HSZ := Lib.hid (Nat.le_trans HSZ.out hb6.size)
                have HSN := Lib.hid (smT_use (R := R) (K := Q) HSM.out HB_x.out HB_y.out HB_z.out)
                have HN8 := Lib.hid (okC_use (x := (x, y, z)) HKN.out.2.2.2.1 (by have := HKN.out; omega))
                obtain ⟨zs, hzs⟩ : ∃ l, l = useL R ts Q (x, y, z) := ⟨_, rfl⟩
                obtain ⟨J, hJ⟩ : ∃ l, l = useK R ts Q (x, y, z) := ⟨_, rfl⟩
                rw [← hzs] at HO HN8 HNV HSN ⊢
                rw [← hJ] at HN8 ⊢
                clear hzs hJ ho6 hb6
                (try go_wp2_with fail)
                refine hK.out _ _ (by (try dsimp only); (try trivial)) (fun hHeld => ?_)
                clear hK K
                (try simp only [Act.put, List.setIfInBounds_toArray, List.set_cons_zero, List.set_cons_succ])
                refine wpAnyH_ready (rs := [9]) (by kernel_rfl) (by simp) ?_
                refine AllReadyH.cons (o := { dst := none, op := Op.store 29 (Operand.tmp 3) (Operand.tmp 23), type := 0, pos := "l16_cache.go:108", after := #[{ on := 8, ground := Ground.data }, { on := 8, ground := Ground.chain }, { on := 0, ground := Ground.phase }, { on := 1, ground := Ground.phase }, { on := 2, ground := Ground.phase }, { on := 3, ground := Ground.phase }, { on := 4, ground := Ground.phase }, { on := 5, ground := Ground.phase }, { on := 6, ground := Ground.phase }, { on := 7, ground := Ground.phase }, { on := 8, ground := Ground.phase }], guard := none }) rfl (fun K hK => ?_) ?_
                · have c60 := (HQ.box 0).c 0
                  have c61 := (HQ.box 0).c 1
                  have c62 := (HQ.box 0).c 2
                  have f60 := (HQ.box 0).f 0
                  have f61 := (HQ.box 0).f 1
                  have f62 := (HQ.box 0).f 2
                  go_simp
                  clear c60 c61 c62 f60 f61 f62
                  have HO := Lib.hid (own_set3J HO.out HNV.out (.int .i64 R) (.slice A6 zs.length c6) (.int .i64 J))
                  have HQ := ((HQ.put (by have := HORD.out; simp; omega) 0 (.int .i64 R)).put (by have := HORD.out; simp; omega) 1 (.slice A6 zs.length c6)).put (by have := HORD.out; simp; omega) 2 (.int .i64 J)
                  refine hK.out _ _ trivial (fun hHeld => ?_)
                  clear hK K
                  (try simp only [Act.put, List.setIfInBounds_toArray, List.set_cons_zero, List.set_cons_succ])
                  refine wpAnyH_done (by kernel_rfl) ?_ _
                  clear hHeld
                  have HEN := Lib.hid (And.intro HQ (And.intro HO.out (And.intro (show B0 ≤ ((((w8.setCell ⟨k3, 0, none⟩ (.int .i64 R)).setCell ⟨k3, 1, none⟩ (.slice A6 zs.length c6)).setCell ⟨k3, 2, none⟩ (.int .i64 J))).heap.size by have := HSZ.out; simpa using this) HNV.out)))
                  clear HQ HO
                  go_wp2_with fail
                  go_roundw
                  case rel => exact ⟨k + 1, R, J, zs, A6, c6, by have := HKN.out; omega, by go_num, ⟨HN8.out.1, HSN.out⟩, by have h1 := HN8.out.2.2; have h2 := HKN.out.2.2.2.2.1; omega, HEN.out⟩
                  case measure => simp [intOf]; have := HKN.out; omega
                exact AllReadyH.nil
              exact AllReadyH.nil
            exact AllReadyH.nil
          exact AllReadyH.nil
        refine AllReadyH.cons (o := { dst := some 19, op := Op.call { callee := Callee.value (Operand.func 77), args := #[Operand.tmp 18, Operand.const (Value.int IntKind.i64 3)], argTypes := #[67, 3] }, type := 3, pos := "l16_cache.go:108", after := #[{ on := 3, ground := Ground.data }, { on := 2, ground := Ground.chain }], guard := none }) rfl (fun K hK => ?_) ?_
        · go_simp
          (with_reducible refine (HB3.out _ HQ.cur).mono ?_)
          rintro e w6 ⟨y, y0, y1, rfl, hc7, hg7⟩
          have HQ := HQ.grow hc7 hg7
          have HO := Lib.hid (own_keep HO.out hg7 (by have := HORD.out; omega))
          have HSZ := Lib.hid (Nat.le_trans HSZ.out hg7.size)
          have HB_y := Lib.hid (And.intro y0 y1)
          clear hc7 hg7 y0 y1
          (try go_wp2_with fail)
          refine hK.out _ _ (by (try dsimp only); (try trivial)) (fun hHeld => ?_)
          clear hK K
          (try simp only [Act.put, List.setIfInBounds_toArray, List.set_cons_zero, List.set_cons_succ])
          refine wpAnyH_ready (rs := [0, 6]) (by kernel_rfl) (by simp) ?_
          refine AllReadyH.cons (o := { dst := some 15, op := Op.load 29 (Operand.tmp 3), type := 29, pos := "l16_cache.go:108", after := #[], guard := none }) rfl (fun K hK => ?_) ?_
          · have c60 := (HQ.box 0).c 0
            have c61 := (HQ.box 0).c 1
            have c62 := (HQ.box 0).c 2
            go_simp
            refine hK.out _ _ trivial (fun hHeld => ?_)
            clear c60 c61 c62
            clear hK K
            (try simp only [Act.put, List.setIfInBounds_toArray, List.set_cons_zero, List.set_cons_succ])
            refine wpAnyH_ready (rs := [6]) (by kernel_rfl) (by simp) ?_
            refine AllReadyH.cons (o := { dst := some 21, op := Op.call { callee := Callee.value (Operand.func 77), args := #[Operand.tmp 20, Operand.const (Value.int IntKind.i64 3)], argTypes := #[67, 3] }, type := 3, pos := "l16_cache.go:108", after := #[{ on := 5, ground := Ground.data }, { on := 4, ground := Ground.chain }], guard := none }) rfl (fun K hK => ?_) ?_
            · go_simp
              (with_reducible refine (HB3.out _ HQ.cur).mono ?_)
              rintro e w7 ⟨z, z0, z1, rfl, hc7, hg7⟩
              have HQ := HQ.grow hc7 hg7
              have HO := Lib.hid (own_keep HO.out hg7 (by have := HORD.out; omega))
              have HSZ := Lib.hid (Nat.le_trans HSZ.out hg7.size)
              have HB_z := Lib.hid (And.intro z0 z1)
              clear hc7 hg7 z0 z1
              (try go_wp2_with fail)
              refine hK.out _ _ (by (try dsimp only); (try trivial)) (fun hHeld => ?_)
              clear hK K
              (try simp only [Act.put, List.setIfInBounds_toArray, List.set_cons_zero, List.set_cons_succ])
              refine wpAnyH_take (i := 7) (oi := { dst := some 22, op := Op.build 50 #[(0, Operand.tmp 17), (1, Operand.tmp 19), (2, Operand.tmp 21)], type := 50, pos := "l16_cache.go:108", after := #[{ on := 2, ground := Ground.data }, { on := 4, ground := Ground.data }, { on := 6, ground := Ground.data }], guard := none }) (v := ?_) rfl (by kernel_rfl) (by kernel_rfl) (by kernel_rfl) (fun _ _ _ h => h) (Or.inl ⟨by rfl, ?_⟩) (by assumption) ?_
              rotate_left 1
              · (intro w hSw; (try dsimp only at hSw); go_simp <;> with_reducible rfl)
              (try simp only [Act.put, List.setIfInBounds_toArray, List.set_cons_zero, List.set_cons_succ])
              refine wpAnyH_ready (rs := [8]) (by kernel_rfl) (by simp) ?_
              refine AllReadyH.cons (o := { dst := some 23, op := Op.call { callee := Callee.value (Operand.func 37), args := #[Operand.tmp 15, Operand.tmp 22], argTypes := #[29, 50] }, type := 29, pos := "l16_cache.go:108", after := #[{ on := 0, ground := Ground.data }, { on := 7, ground := Ground.data }, { on := 6, ground := Ground.chain }], guard := none }) rfl (fun K hK => ?_) ?_
              · go_simp
                (with_reducible refine (sUseTile_any R A c ts Q x y z _ (RowC.of_own vg_len HO.out rfl) (by have := HKN.out; omega) (own_capG HO.out)).mono ?_)
                rintro e w8 ⟨A6, c6, rfl, ho6, hb6⟩
                have HNV := Lib.hid (show Value.ownBlock (.slice A6 (useL R ts Q (x, y, z)).length c6) ≠ some k3 from fun e => by have h1 := own_block ho6 k3 e; have h2 := (HQ.box 0).lt; omega)
                have HQ := HQ.grown2 (gb_of_below hb6 (row := none)) (fun r h => by cases h) (fun p _ => by simp)
                have HO := Lib.hid (own_base ho6 HSZ.out)
                have HSZ := Lib.hid (Nat.le_trans HSZ.out hb6.size)
                have HSN := Lib.hid (smT_use (R := R) (K := Q) HSM.out HB_x.out HB_y.out HB_z.out)
                have HN8 := Lib.hid (okC_use (x := (x, y, z)) HKN.out.2.2.2.1 (by have := HKN.out; omega))
                obtain ⟨zs, hzs⟩ : ∃ l, l = useL R ts Q (x, y, z) := ⟨_, rfl⟩
                obtain ⟨J, hJ⟩ : ∃ l, l = useK R ts Q (x, y, z) := ⟨_, rfl⟩
                rw [← hzs] at HO HN8 HNV HSN ⊢
                rw [← hJ] at HN8 ⊢
                clear hzs hJ ho6 hb6
                (try go_wp2_with fail)
                refine hK.out _ _ (by (try dsimp only); (try trivial)) (fun hHeld => ?_)
                clear hK K
                (try simp only [Act.put, List.setIfInBounds_toArray, List.set_cons_zero, List.set_cons_succ])
                refine wpAnyH_ready (rs := [9]) (by kernel_rfl) (by simp) ?_
                refine AllReadyH.cons (o := { dst := none, op := Op.store 29 (Operand.tmp 3) (Operand.tmp 23), type := 0, pos := "l16_cache.go:108", after := #[{ on := 8, ground := Ground.data }, { on := 8, ground := Ground.chain }, { on := 0, ground := Ground.phase }, { on := 1, ground := Ground.phase }, { on := 2, ground := Ground.phase }, { on := 3, ground := Ground.phase }, { on := 4, ground := Ground.phase }, { on := 5, ground := Ground.phase }, { on := 6, ground := Ground.phase }, { on := 7, ground := Ground.phase }, { on := 8, ground := Ground.phase }], guard := none }) rfl (fun K hK => ?_) ?_
                · have c60 := (HQ.box 0).c 0
                  have c61 := (HQ.box 0).c 1
                  have c62 := (HQ.box 0).c 2
                  have f60 := (HQ.box 0).f 0
                  have f61 := (HQ.box 0).f 1
                  have f62 := (HQ.box 0).f 2
                  go_simp
                  clear c60 c61 c62 f60 f61 f62
                  have HO := Lib.hid (own_set3J HO.out HNV.out (.int .i64 R) (.slice A6 zs.length c6) (.int .i64 J))
                  have HQ := ((HQ.put (by have := HORD.out; simp; omega) 0 (.int .i64 R)).put (by have := HORD.out; simp; omega) 1 (.slice A6 zs.length c6)).put (by have := HORD.out; simp; omega) 2 (.int .i64 J)
                  refine hK.out _ _ trivial (fun hHeld => ?_)
                  clear hK K
                  (try simp only [Act.put, List.setIfInBounds_toArray, List.set_cons_zero, List.set_cons_succ])
                  refine wpAnyH_done (by kernel_rfl) ?_ _
                  clear hHeld
                  have HEN := Lib.hid (And.intro HQ (And.intro HO.out (And.intro (show B0 ≤ ((((w8.setCell ⟨k3, 0, none⟩ (.int .i64 R)).setCell ⟨k3, 1, none⟩ (.slice A6 zs.length c6)).setCell ⟨k3, 2, none⟩ (.int .i64 J))).heap.size by have := HSZ.out; simpa using this) HNV.out)))
                  clear HQ HO
                  go_wp2_with fail
                  go_roundw
                  case rel => exact ⟨k + 1, R, J, zs, A6, c6, by have := HKN.out; omega, by go_num, ⟨HN8.out.1, HSN.out⟩, by have h1 := HN8.out.2.2; have h2 := HKN.out.2.2.2.2.1; omega, HEN.out⟩
                  case measure => simp [intOf]; have := HKN.out; omega
                exact AllReadyH.nil
              exact AllReadyH.nil
            exact AllReadyH.nil
          refine AllReadyH.cons (o := { dst := some 21, op := Op.call { callee := Callee.value (Operand.func 77), args := #[Operand.tmp 20, Operand.const (Value.int IntKind.i64 3)], argTypes := #[67, 3] }, type := 3, pos := "l16_cache.go:108", after := #[{ on := 5, ground := Ground.data }, { on := 4, ground := Ground.chain }], guard := none }) rfl (fun K hK => ?_) ?_
          · go_simp
            (with_reducible refine (HB3.out _ HQ.cur).mono ?_)
            rintro e w7 ⟨z, z0, z1, rfl, hc7, hg7⟩
            have HQ := HQ.grow hc7 hg7
            have HO := Lib.hid (own_keep HO.out hg7 (by have := HORD.out; omega))
            have HSZ := Lib.hid (Nat.le_trans HSZ.out hg7.size)
            have HB_z := Lib.hid (And.intro z0 z1)
            clear hc7 hg7 z0 z1
            (try go_wp2_with fail)
            refine hK.out _ _ (by (try dsimp only); (try trivial)) (fun hHeld => ?_)
            clear hK K
            (try simp only [Act.put, List.setIfInBounds_toArray, List.set_cons_zero, List.set_cons_succ])
            refine wpAnyH_take (i := 7) (oi := { dst := some 22, op := Op.build 50 #[(0, Operand.tmp 17), (1, Operand.tmp 19), (2, Operand.tmp 21)], type := 50, pos := "l16_cache.go:108", after := #[{ on := 2, ground := Ground.data }, { on := 4, ground := Ground.data }, { on := 6, ground := Ground.data }], guard := none }) (v := ?_) rfl (by kernel_rfl) (by kernel_rfl) (by kernel_rfl) (fun _ _ _ h => h) (Or.inl ⟨by rfl, ?_⟩) (by assumption) ?_
            rotate_left 1
            · (intro w hSw; (try dsimp only at hSw); go_simp <;> with_reducible rfl)
            (try simp only [Act.put, List.setIfInBounds_toArray, List.set_cons_zero, List.set_cons_succ])
            refine wpAnyH_ready (rs := [0]) (by kernel_rfl) (by simp) ?_
            refine AllReadyH.cons (o := { dst := some 15, op := Op.load 29 (Operand.tmp 3), type := 29, pos := "l16_cache.go:108", after := #[], guard := none }) rfl (fun K hK => ?_) ?_
            · have c60 := (HQ.box 0).c 0
              have c61 := (HQ.box 0).c 1
              have c62 := (HQ.box 0).c 2
              go_simp
              refine hK.out _ _ trivial (fun hHeld => ?_)
              clear c60 c61 c62
              clear hK K
              (try simp only [Act.put, List.setIfInBounds_toArray, List.set_cons_zero, List.set_cons_succ])
              refine wpAnyH_ready (rs := [8]) (by kernel_rfl) (by simp) ?_
              refine AllReadyH.cons (o := { dst := some 23, op := Op.call { callee := Callee.value (Operand.func 37), args := #[Operand.tmp 15, Operand.tmp 22], argTypes := #[29, 50] }, type := 29, pos := "l16_cache.go:108", after := #[{ on := 0, ground := Ground.data }, { on := 7, ground := Ground.data }, { on := 6, ground := Ground.chain }], guard := none }) rfl (fun K hK => ?_) ?_
              · go_simp
                (with_reducible refine (sUseTile_any R A c ts Q x y z _ (RowC.of_own vg_len HO.out rfl) (by have := HKN.out; omega) (own_capG HO.out)).mono ?_)
                rintro e w8 ⟨A6, c6, rfl, ho6, hb6⟩
                have HNV := Lib.hid (show Value.ownBlock (.slice A6 (useL R ts Q (x, y, z)).length c6) ≠ some k3 from fun e => by have h1 := own_block ho6 k3 e; have h2 := (HQ.box 0).lt; omega)
                have HQ := HQ.grown2 (gb_of_below hb6 (row := none)) (fun r h => by cases h) (fun p _ => by simp)
                have HO := Lib.hid (own_base ho6 HSZ.out)
                have HSZ := Lib.hid (Nat.le_trans HSZ.out hb6.size)
                have HSN := Lib.hid (smT_use (R := R) (K := Q) HSM.out HB_x.out HB_y.out HB_z.out)
                have HN8 := Lib.hid (okC_use (x := (x, y, z)) HKN.out.2.2.2.1 (by have := HKN.out; omega))
                obtain ⟨zs, hzs⟩ : ∃ l, l = useL R ts Q (x, y, z) := ⟨_, rfl⟩
                obtain ⟨J, hJ⟩ : ∃ l, l = useK R ts Q (x, y, z) := ⟨_, rfl⟩
                rw [← hzs] at HO HN8 HNV HSN ⊢
                rw [← hJ] at HN8 ⊢
                clear hzs hJ ho6 hb6
                (try go_wp2_with fail)
                refine hK.out _ _ (by (try dsimp only); (try trivial)) (fun hHeld => ?_)
                clear hK K
                (try simp only [Act.put, List.setIfInBounds_toArray, List.set_cons_zero, List.set_cons_succ])
                refine wpAnyH_ready (rs := [9]) (by kernel_rfl) (by simp) ?_
                refine AllReadyH.cons (o := { dst := none, op := Op.store 29 (Operand.tmp 3) (Operand.tmp 23), type := 0, pos := "l16_cache.go:108", after := #[{ on := 8, ground := Ground.data }, { on := 8, ground := Ground.chain }, { on := 0, ground := Ground.phase }, { on := 1, ground := Ground.phase }, { on := 2, ground := Ground.phase }, { on := 3, ground := Ground.phase }, { on := 4, ground := Ground.phase }, { on := 5, ground := Ground.phase }, { on := 6, ground := Ground.phase }, { on := 7, ground := Ground.phase }, { on := 8, ground := Ground.phase }], guard := none }) rfl (fun K hK => ?_) ?_
                · have c60 := (HQ.box 0).c 0
                  have c61 := (HQ.box 0).c 1
                  have c62 := (HQ.box 0).c 2
                  have f60 := (HQ.box 0).f 0
                  have f61 := (HQ.box 0).f 1
                  have f62 := (HQ.box 0).f 2
                  go_simp
                  clear c60 c61 c62 f60 f61 f62
                  have HO := Lib.hid (own_set3J HO.out HNV.out (.int .i64 R) (.slice A6 zs.length c6) (.int .i64 J))
                  have HQ := ((HQ.put (by have := HORD.out; simp; omega) 0 (.int .i64 R)).put (by have := HORD.out; simp; omega) 1 (.slice A6 zs.length c6)).put (by have := HORD.out; simp; omega) 2 (.int .i64 J)
                  refine hK.out _ _ trivial (fun hHeld => ?_)
                  clear hK K
                  (try simp only [Act.put, List.setIfInBounds_toArray, List.set_cons_zero, List.set_cons_succ])
                  refine wpAnyH_done (by kernel_rfl) ?_ _
                  clear hHeld
                  have HEN := Lib.hid (And.intro HQ (And.intro HO.out (And.intro (show B0 ≤ ((((w8.setCell ⟨k3, 0, none⟩ (.int .i64 R)).setCell ⟨k3, 1, none⟩ (.slice A6 zs.length c6)).setCell ⟨k3, 2, none⟩ (.int .i64 J))).heap.size by have := HSZ.out; simpa using this) HNV.out)))
                  clear HQ HO
                  go_wp2_with fail
                  go_roundw
                  case rel => exact ⟨k + 1, R, J, zs, A6, c6, by have := HKN.out; omega, by go_num, ⟨HN8.out.1, HSN.out⟩, by have h1 := HN8.out.2.2; have h2 := HKN.out.2.2.2.2.1; omega, HEN.out⟩
                  case measure => simp [intOf]; have := HKN.out; omega
                exact AllReadyH.nil
              exact AllReadyH.nil
            exact AllReadyH.nil
          exact AllReadyH.nil
        exact AllReadyH.nil
      exact AllReadyH.nil
    · obtain rfl : k = n := by omega
      have hz : (k : Int) - (k : Int) = 0 := by omega
      rw [hz]
      have HXX := Lib.hid (And.intro hok (show Q ≤ 4 by have := HN.out; omega))
      have m0 := (HQ.box 0).c 0
      have m1 := (HQ.box 0).c 1
      have m2 := (HQ.box 0).c 2
      have r0 := (HQ.box 1).c 0
      have r1 := (HQ.box 1).c 1
      have r2 := (HQ.box 1).c 2
      have o0 := (HQ.box 1).f 0
      have o1 := (HQ.box 1).f 1
      have o2 := (HQ.box 1).f 2
      have HQ2 := (((HQ.pick (cs := [(kr, [.int .i64 0, .slice none 0 0, .int .i64 0])]) (by simp)).put (by simp) 0 (.int .i64 R)).put (by simp) 1 (.slice A ts.length c)).put (by simp) 2 (.int .i64 Q)
      have HEN := Lib.hid (And.intro HQ2.cur HQ2.gb)
      have hne : ¬ kr = k3 := by have := HORD.out; omega
      have hne2 : ¬ k3 = kr := by have := HORD.out; omega
      clear hown hk hlt hok hkk HQ HQ2 hz hsz hnv
      go_wp2_with fail
      have ho1 := ownsRow_setCell_below (ownsRow_setCell_below (ownsRow_setCell_below HO.out (a := ⟨kr, 0, none⟩) (by have := HORD.out; show kr < B0; omega) (.int .i64 R)) (a := ⟨kr, 1, none⟩) (by have := HORD.out; show kr < B0; omega) (.slice A ts.length c)) (a := ⟨kr, 2, none⟩) (by have := HORD.out; show kr < B0; omega) (.int .i64 Q)
      exact bodyPost_ret (v := cav R A ts.length c Q) (by simp [results, Try.results45, go_sem, r0, r1, r2]) rfl ⟨R, Q, ts, A, c, HXX.out.1, HXX.out.2, rfl, own_base ho1 (by have := HORD.out; omega), HEN.out.1, HEN.out.2⟩

set_option maxRecDepth 100000 in
set_option maxHeartbeats 4000000 in
theorem makeCache_any (A : Option Addr) (c : Nat) (bs : List Int) (w : World) (hR : Row U8 w w.heap.size A bs) (h8 : ∀ x ∈ bs, 0 ≤ x ∧ x ≤ 255) (hl : bs.length ≤ 1048576) :
    Calls Try.prog 12 #[.slice A bs.length c] w (CaMade w) := by
  have HT : Held w (w.alloc (.cells #[.int .i64 0, .slice none 0 0, .int .i64 0] 29)) [(w.heap.size, [.int .i64 0, .slice none 0 0, .int .i64 0])] := by
    have h := (Held.nil w).new #[.int .i64 0, .slice none 0 0, .int .i64 0] 29
    simpa only [World.size_alloc] using h
  have hR1 := hR.later HT.below
  obtain ⟨W1, hW1⟩ : ∃ W, W = w.alloc (.cells #[.int .i64 0, .slice none 0 0, .int .i64 0] 29) := ⟨_, rfl⟩
  have hlt : w.heap.size < W1.heap.size := by rw [hW1]; simp
  rw [← hW1] at HT hR1
  have HNC := Lib.hid (new32_any A c bs 3 W1 hR1 h8 hl (by omega) (by omega))
  clear hR hR1 h8 hl
  go_enter Try.func12, Try.ntmps12
  go_upto_region 1 with fail
  rw [← hW1]
  clear hW1
  go_wp2_with fail
  refine HNC.out.mono ?_
  rintro e w2 ⟨g, rfl, hc, hb2⟩
  have hge := hc.ge
  have HD := Lib.hid (l16Draw_any W1.heap.size g w2 hc hb2.size)
  have HT := HT.later hb2
  have hW : w.heap.size < W1.heap.size := hlt
  obtain ⟨kr, hkr⟩ : ∃ k, k = w.heap.size := ⟨_, rfl⟩
  rw [← hkr] at HT ⊢
  have HKR := Lib.hid (show kr = w.heap.size ∧ kr < g ∧ kr < w2.heap.size by have := hb2.size; omega)
  clear hb2 hc hge hW hkr hlt
  go_wp2_with fail
  refine HD.out.mono ?_
  rintro e w3 ⟨R, Q, ts, A2, c2, hok, hq, rfl, ho3, hc3, hg3⟩
  have HT := HT.grow hg3 (by have := HKR.out; omega) (by have := HKR.out; simp; omega)
  have HOK := Lib.hid (And.intro hok hq)
  have HO := Lib.hid ho3
  have r0 := (HT.box 0).c 0
  have r1 := (HT.box 0).c 1
  have r2 := (HT.box 0).c 2
  have o0 := (HT.box 0).f 0
  have o1 := (HT.box 0).f 1
  have o2 := (HT.box 0).f 2
  have HTB := Lib.hid HT.below
  clear hok hq ho3 hc3 hg3 HT
  go_wp2_with fail
  have hq1 : w.heap.size ≤ kr := by have := HKR.out; omega
  have ho1 := ownsRow_setCell_below (ownsRow_setCell_below (ownsRow_setCell_below HO.out (a := ⟨kr, 0, none⟩) (by have := HKR.out; show kr < w2.heap.size; omega) (.int .i64 R)) (a := ⟨kr, 1, none⟩) (by have := HKR.out; show kr < w2.heap.size; omega) (.slice A2 ts.length c2)) (a := ⟨kr, 2, none⟩) (by have := HKR.out; show kr < w2.heap.size; omega) (.int .i64 Q)
  exact bodyPost_ret (v := cav R A2 ts.length c2 Q) (by simp [results, Try.results12, go_sem, r0, r1, r2]) rfl ⟨R, Q, ts, A2, c2, HOK.out.1, HOK.out.2, rfl, own_base ho1 (by have := HKR.out; omega), ((HTB.out.setCell (p := ⟨kr, 0, none⟩) hq1 _).setCell (p := ⟨kr, 1, none⟩) hq1 _).setCell (p := ⟨kr, 2, none⟩) hq1 _⟩
end Go.Proofs.Ytaelhbbfddcabaa
