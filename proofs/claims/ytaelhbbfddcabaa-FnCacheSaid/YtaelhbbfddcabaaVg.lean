/- Textures of the model: Lookup. -/
import Derived.Test.YtaelhbbfddcabaaProg
import Derived.Test.YtaelhbbfddcabaaInts
import Derived.Test.YtaelhbbfddcabaaVbox
import Derived.Test.YtaelhbbfddcabaaHeld
import Derived.Test.YtaelhbbfddcabaaMem
import Derived.Test.YtaelhbbfddcabaaFlat
import Derived.Test.YtaelhbbfddcabaaRowC
import Derived.Test.YtaelhbbfddcabaaKS
import Derived.Test.YtaelhbbfddcabaaStrS
import Derived.Test.YtaelhbbfddcabaaIntS
import Derived.Test.YtaelhbbfddcabaaSS
import Derived.Test.YtaelhbbfddcabaaVi
import Derived.Test.YtaelhbbfddcabaaVa
import Derived.Test.YtaelhbbfddcabaaVb
import Derived.Test.YtaelhbbfddcabaaVc
import Derived.Test.YtaelhbbfddcabaaVd
import Derived.Test.YtaelhbbfddcabaaVe
import Derived.Test.YtaelhbbfddcabaaVf
import Derived.WalkKit
import Derived.WalkSpells
import Derived.WalkLawsBesides
import Derived.Lib.Hide
import Derived.Deep.RegionHeld3
import Derived.Deep.QuietTactic
import Derived.BigQuiet
import Derived.Handy
import Derived.Deep.DeepCutAuto
import Derived.OwnWalk
namespace Go.Proofs.Ytaelhbbfddcabaa
open Go.RowKit

def ccT (n : Int) : Int := clampP n (-1000000) 1000000
theorem ccT_bd (n : Int) : -1000000 ≤ ccT n ∧ ccT n ≤ 1000000 := clampP_bd n _ _ (by omega)
theorem mul_bdT {a b A B : Int} (ha : 0 ≤ a ∧ a ≤ A) (hb : 0 ≤ b ∧ b ≤ B) : 0 ≤ a * b ∧ a * b ≤ A * B :=
  ⟨Int.mul_nonneg ha.1 hb.1, Int.le_trans (Int.mul_le_mul_of_nonneg_right ha.2 hb.1) (Int.mul_le_mul_of_nonneg_left hb.2 (by omega))⟩
/-- one row of an interpolation -/
def itT (a b f : Int) : Int := a * (256 - f) + b * f
theorem itT_bd {a b f A : Int} (ha : 0 ≤ a ∧ a ≤ A) (hb : 0 ≤ b ∧ b ≤ A) (hf : 0 ≤ f ∧ f ≤ 255) : 0 ≤ itT a b f ∧ itT a b f ≤ A * 256 := by
  have h1 := mul_bdT ha (b := 256 - f) (B := 256 - f) (by omega)
  have h2 := mul_bdT hb (b := f) (B := f) (by omega)
  unfold itT
  have h3 : A * (256 - f) + A * f = A * 256 := by rw [← Int.mul_add]; congr 1; omega
  omega
/-- what Lookup answers at a level of a valid texture -/
def lkL (L : Int) (M : List Int) (u v : Int) : Int :=
  let s := ccT u * (sd L : Int) - 128
  let r := ccT v * (sd L : Int) - 128
  fdivP (itT (itT (txl L M (s / 256) (r / 256)) (txl L M (s / 256 + 1) (r / 256)) (s - 256 * (s / 256))) (itT (txl L M (s / 256) (r / 256 + 1)) (txl L M (s / 256 + 1) (r / 256 + 1)) (s - 256 * (s / 256))) (r - 256 * (r / 256))) 65536
def lkP (L : Int) (ts : List Int) (u v lv : Int) : Int := if okX L ts = true then lkL (L - clampP lv 0 L) (mipL L ts (clampP lv 0 L).toNat) u v else 0
theorem pos_bd {c : Int} {n : Nat} (hc : -1000000 ≤ c ∧ c ≤ 1000000) (hn : n ≤ 16) : -16000000 ≤ c * (n : Int) ∧ c * (n : Int) ≤ 16000000 := by
  have h1 : -1000000 * (n : Int) ≤ c * n := Int.mul_le_mul_of_nonneg_right hc.1 (by omega)
  have h2 : c * n ≤ 1000000 * (n : Int) := Int.mul_le_mul_of_nonneg_right hc.2 (by omega)
  omega

theorem sN_T (n : Int) (w : World) : Calls Try.prog 70 #[.int .i64 n] w fun e w' => e = .returned (.int .i64 (ccT n)) ∧ w = w' := by
  go_enter Try.func70, Try.ntmps70
  go_wp2_with (go_at_call 57; refine (sClamp_any _ _ _ _).mono ?_; rintro e w' ⟨rfl, rfl⟩)
  go_ret
  exact ⟨rfl, rfl⟩

set_option maxRecDepth 100000 in
set_option maxHeartbeats 32000000 in
theorem sLookup_any (L : Int) (A : Option Addr) (c : Nat) (ts : List Int) (u v lv : Int) (w : World) (hR : Row I64 w w.heap.size A ts) (hl : ts.length ≤ 1048576) :
    Calls Try.prog 75 #[txv L A ts.length c, .int .i64 u, .int .i64 v, .int .i64 lv] w fun e w' => e = .returned (.int .i64 (lkP L ts u v lv)) ∧ Below w.heap.size w w' := by
  have HR0 := Lib.hid (fun W (h : Below w.heap.size w W) => hR.later h)
  have M := Mbox.new w #[.int .i64 L, .slice A ts.length c] 25
  have hB : Below w.heap.size w (w.alloc (.cells #[.int .i64 L, .slice A ts.length c] 25)) := by go_grown
  obtain ⟨W1, hW1⟩ : ∃ W, W = w.alloc (.cells #[.int .i64 L, .slice A ts.length c] 25) := ⟨_, rfl⟩
  have hR1 := hR.later hB
  rw [← hW1] at M hB hR1
  have HM := Lib.hid M
  have HB := Lib.hid hB
  have HR := Lib.hid hR1
  have m0 := M.c 0
  have m1 := M.c 1
  clear M hB hR1 hR
  have HV := Lib.hid (sIsValidT_any L A c ts W1 HR.out hl)
  cases hok : okX L ts with
  | false =>
    have HP : Hid (lkP L ts u v lv = 0) := Lib.hid (by unfold lkP; rw [hok]; rfl)
    rw [hok] at HV
    clear hok
    go_enter Try.func75, Try.ntmps75
    go_upto_region 1 with fail
    rw [← hW1]
    clear hW1
    go_wp2_with fail
    refine HV.out.mono ?_
    rintro e w2 ⟨rfl, hb2⟩
    have HB2 := Lib.hid (HB.out.trans (hb2.mono HB.out.size))
    clear hb2 m0 m1
    go_wp2_with fail
    go_ret
    exact ⟨by rw [HP.out]; rfl, HB2.out⟩
  | true =>
    have hokT := okX_iff.1 hok
    obtain ⟨l, hlv⟩ : ∃ l, l = clampP lv 0 L := ⟨_, rfl⟩
    have hlb : 0 ≤ l ∧ l ≤ L := by rw [hlv]; exact clampP_bd lv 0 L hokT.1.1
    obtain ⟨M, hM⟩ : ∃ M, M = mipL L ts l.toNat := ⟨_, rfl⟩
    obtain ⟨Lm, hLm⟩ : ∃ x, x = L - l := ⟨_, rfl⟩
    have hokM : okTx Lm M := by
      have h1 := mip_ok l.toNat L ts hokT (by omega)
      rw [show ((l.toNat : Nat) : Int) = l by omega] at h1
      rw [hM, hLm]
      exact h1
    have HP : Hid (lkP L ts u v lv = lkL Lm M u v) := Lib.hid (by unfold lkP; rw [hok, hLm, hM, hlv]; rfl)
    have hyes : okM L ts l = true := by
      unfold okM
      rw [hok, (inV_iff ..).2 hlb]
      rfl
    have HCL := Lib.hid (fun W => sClamp_any lv 0 L W)
    rw [← hlv] at HCL
    have HMP := Lib.hid (fun W (h : Below w.heap.size w W) => sMip_yes L A c ts l W (HR0.out W h) hl hyes)
    rw [← hLm, ← hM] at HMP
    have HOKM := Lib.hid hokM
    rw [hok] at HV
    clear hok hokT hlv hlb hM hLm hokM hyes
    go_enter Try.func75, Try.ntmps75
    go_upto_region 1 with fail
    rw [← hW1]
    clear hW1
    go_wp2_with fail
    refine HV.out.mono ?_
    rintro e w2 ⟨rfl, hb2⟩
    have HB2 := Lib.hid (HB.out.trans (hb2.mono HB.out.size))
    have hM2 := HM.out.later hb2
    have hs2 : w.heap.size < w2.heap.size := hM2.lt
    obtain ⟨k0, hk0⟩ : ∃ k, k = w.heap.size := ⟨_, rfl⟩
    rw [← hk0] at hM2 ⊢
    have HQ : Held w w2 [(k0, [.int .i64 L, .slice A ts.length c])] := ⟨HB2.out, ((Held.nil w2).cons hM2).2⟩
    have HKK := Lib.hid hk0
    have m0 := hM2.c 0
    have m1 := hM2.c 1
    clear hb2 hM2 m0 m1
    obtain ⟨B1, hB1⟩ : ∃ B, B = w2.heap.size := ⟨_, rfl⟩
    have HORD := Lib.hid (show k0 < B1 ∧ w.heap.size < B1 ∧ k0 = w.heap.size by omega)
    have HBB := Lib.hid hB1
    have HC : ∀ W', Held w W' [(k0, [.int .i64 L, .slice A ts.length c])] → W'.cell? ⟨k0, 0, none⟩ = some (.int .i64 L) ∧ W'.cell? ⟨k0, 1, none⟩ = some (.slice A ts.length c) := fun W' h => ⟨(h.box 0).c 0, (h.box 0).c 1⟩
    clear hk0 hB1 hs2
    go_upto_region 3 with fail
    go_cut [9] (fun y wx => ∃ g A6 c6, y = .pointer (some ⟨g, 0, none⟩) ∧ Held w wx [(g, [.int .i64 Lm, .slice A6 M.length c6]), (k0, [.int .i64 L, .slice A ts.length c])] ∧ Row I64 wx wx.heap.size A6 M)
    case first =>
      have HQ := HQ.drew
      refine wp_region_held_drew (S := fun W' => W'.cell? ⟨k0, 0, none⟩ = some (.int .i64 L) ∧ W'.cell? ⟨k0, 1, none⟩ = some (.slice A ts.length c)) (by kernel_rfl) (HC _ HQ) (fun hHeld => ?_)
      obtain ⟨wd, hwd⟩ : ∃ x, x = w2.drew := ⟨_, rfl⟩
      have hwB : wd.heap.size = B1 := by rw [hwd]; exact HBB.out.symm
      rw [← hwd] at HQ hHeld ⊢
      clear hwd
      refine wpAnyH_take (i := 0) (oi := { dst := some 24, op := Op.load 25 (Operand.tmp 4), type := 25, pos := "l15_texture.go:75", after := #[], guard := none }) (v := ?_) rfl (by kernel_rfl) (by kernel_rfl) (by kernel_rfl) (fun _ _ _ h => h) (Or.inl ⟨by rfl, ?_⟩) (by assumption) ?_
      rotate_left 1
      · (intro w hSw; (try dsimp only at hSw); go_simp <;> with_reducible rfl)
      (try simp only [Act.put, List.setIfInBounds_toArray, List.set_cons_zero, List.set_cons_succ])
      refine wpAnyH_take (i := 1) (oi := { dst := some 25, op := Op.move (Operand.tmp 3), type := 3, pos := "l15_texture.go:75", after := #[], guard := none }) (v := ?_) rfl (by kernel_rfl) (by kernel_rfl) (by kernel_rfl) (fun _ _ _ h => h) (Or.inl ⟨by rfl, ?_⟩) (by assumption) ?_
      rotate_left 1
      · (intro w hSw; (try dsimp only at hSw); go_simp <;> with_reducible rfl)
      (try simp only [Act.put, List.setIfInBounds_toArray, List.set_cons_zero, List.set_cons_succ])
      refine wpAnyH_take (i := 2) (oi := { dst := some 26, op := Op.fieldAddr 25 (Operand.tmp 4) 0, type := 0, pos := "l15_texture.go:75", after := #[], guard := none }) (v := ?_) rfl (by kernel_rfl) (by kernel_rfl) (by kernel_rfl) (fun _ _ _ h => h) (Or.inl ⟨by rfl, ?_⟩) (by assumption) ?_
      rotate_left 1
      · (intro w hSw; (try dsimp only at hSw); go_simp <;> with_reducible rfl)
      (try simp only [Act.put, List.setIfInBounds_toArray, List.set_cons_zero, List.set_cons_succ])
      refine wpAnyH_take (i := 3) (oi := { dst := some 27, op := Op.load 3 (Operand.tmp 26), type := 3, pos := "l15_texture.go:75", after := #[{ on := 2, ground := Ground.data }], guard := none }) (v := ?_) rfl (by kernel_rfl) (by kernel_rfl) (by kernel_rfl) (fun _ _ _ h => h) (Or.inl ⟨by rfl, ?_⟩) (by assumption) ?_
      rotate_left 1
      · (intro w hSw; (try dsimp only at hSw); go_simp <;> with_reducible rfl)
      (try simp only [Act.put, List.setIfInBounds_toArray, List.set_cons_zero, List.set_cons_succ])
      refine wpAnyH_ready (rs := [4, 9]) (by kernel_rfl) (by simp) ?_
      refine AllReadyH.cons (o := { dst := some 28, op := Op.call { callee := Callee.value (Operand.func 57), args := #[Operand.tmp 25, Operand.const (Value.int IntKind.i64 0), Operand.tmp 27], argTypes := #[3, 3, 3] }, type := 3, pos := "l15_texture.go:75", after := #[{ on := 1, ground := Ground.data }, { on := 3, ground := Ground.data }], guard := none }) rfl (fun K hK => ?_) ?_
      · go_simp
        (with_reducible refine (HCL.out _).mono ?_)
        rintro e w7 ⟨rfl, rfl⟩
        (try go_wp2_with fail)
        refine hK.out _ _ (by (try dsimp only); (first | with_reducible exact HC _ HQ | with_reducible exact HC _ HQ.tail)) (fun hHeld => ?_)
        clear hK K
        (try simp only [Act.put, List.setIfInBounds_toArray, List.set_cons_zero, List.set_cons_succ])
        refine wpAnyH_ready (rs := [5, 9]) (by kernel_rfl) (by simp) ?_
        refine AllReadyH.cons (o := { dst := some 29, op := Op.call { callee := Callee.value (Operand.func 63), args := #[Operand.tmp 24, Operand.tmp 28], argTypes := #[25, 3] }, type := 74, pos := "l15_texture.go:75", after := #[{ on := 0, ground := Ground.data }, { on := 4, ground := Ground.data }, { on := 4, ground := Ground.chain }], guard := none }) rfl (fun K hK => ?_) ?_
        · go_simp
          (with_reducible refine (HMP.out _ (by first | with_reducible exact HQ.below)).mono ?_)
          rintro e w7 ⟨A6, c6, rfl, ho6, hb7⟩
          have hb8 := fun b hb => own_block ho6 b hb
          (try simp only [World.size_alloc] at hb8)
          (try simp only [hwB] at hb8)
          have hs8 := hb7.size
          (try simp only [World.size_alloc] at hs8)
          (try simp only [hwB] at hs8)
          have HAT := Lib.hid (And.intro hb8 (fun b hb => (ho6.lt b hb).2))
          have HO := Lib.hid (own_base ho6 (base' := 0) (Nat.zero_le _))
          have HQ := HQ.later hb7
          clear hb7 hb8 ho6
          (try go_wp2_with fail)
          refine hK.out _ _ (by (try dsimp only); (first | with_reducible exact HC _ HQ | with_reducible exact HC _ HQ.tail)) (fun hHeld => ?_)
          clear hK K
          (try simp only [Act.put, List.setIfInBounds_toArray, List.set_cons_zero, List.set_cons_succ])
          refine wpAnyH_take (i := 6) (oi := { dst := some 23, op := Op.move (Operand.tmp 29), type := 74, pos := "l15_texture.go:75", after := #[{ on := 5, ground := Ground.data }], guard := none }) (v := ?_) rfl (by kernel_rfl) (by kernel_rfl) (by kernel_rfl) (fun _ _ _ h => h) (Or.inl ⟨by rfl, ?_⟩) (by assumption) ?_
          rotate_left 1
          · (intro w hSw; (try dsimp only at hSw); go_simp <;> with_reducible rfl)
          (try simp only [Act.put, List.setIfInBounds_toArray, List.set_cons_zero, List.set_cons_succ])
          refine wpAnyH_take (i := 7) (oi := { dst := some 30, op := Op.extract (Operand.tmp 23) 0, type := 25, pos := "l15_texture.go:75", after := #[{ on := 6, ground := Ground.data }], guard := none }) (v := ?_) rfl (by kernel_rfl) (by kernel_rfl) (by kernel_rfl) (fun _ _ _ h => h) (Or.inl ⟨by rfl, ?_⟩) (by assumption) ?_
          rotate_left 1
          · (intro w hSw; (try dsimp only at hSw); go_simp <;> with_reducible rfl)
          (try simp only [Act.put, List.setIfInBounds_toArray, List.set_cons_zero, List.set_cons_succ])
          refine wpAnyH_take (i := 8) (oi := { dst := some 31, op := Op.extract (Operand.tmp 23) 1, type := 4, pos := "l15_texture.go:75", after := #[{ on := 6, ground := Ground.data }, { on := 10, ground := Ground.gcOnly Departure.lateStores }], guard := none }) (v := ?_) rfl (by kernel_rfl) (by kernel_rfl) (by kernel_rfl) (fun _ _ _ h => h) (Or.inl ⟨by rfl, ?_⟩) (by assumption) ?_
          rotate_left 1
          · (intro w hSw; (try dsimp only at hSw); go_simp <;> with_reducible rfl)
          (try simp only [Act.put, List.setIfInBounds_toArray, List.set_cons_zero, List.set_cons_succ])
          refine wpAnyH_ready (rs := [9]) (by kernel_rfl) (by simp) ?_
          refine AllReadyH.cons (o := { dst := some 9, op := Op.alloc 25, type := 0, pos := "l15_texture.go:75", after := #[], guard := none }) rfl (fun K hK => ?_) ?_
          · go_simp
            have HPre := HQ
            (try have HOP := HO)
            (try have HO := Lib.hid (HO.out.alloc (.cells #[.int .i64 0, .slice none 0 0] 25)))
            have HQ := HQ.new #[.int .i64 0, .slice none 0 0] 25
            (try rw [World.size_alloc] at HQ)
            (try rw [hwB] at HQ)
            refine hK.out _ _ (by (try dsimp only); (first | with_reducible exact HC _ HQ | with_reducible exact HC _ HQ.tail)) (fun hHeld => ?_)
            clear hK K
            (try simp only [Act.put, List.setIfInBounds_toArray, List.set_cons_zero, List.set_cons_succ])
            refine wpAnyH_ready (rs := [10]) (by kernel_rfl) (by simp) ?_
            refine AllReadyH.cons (o := { dst := none, op := Op.store 25 (Operand.tmp 9) (Operand.tmp 30), type := 0, pos := "l15_texture.go:75", after := #[{ on := 9, ground := Ground.data }, { on := 7, ground := Ground.data }, { on := 5, ground := Ground.chain }, { on := 0, ground := Ground.phase }, { on := 1, ground := Ground.phase }, { on := 2, ground := Ground.phase }, { on := 3, ground := Ground.phase }, { on := 4, ground := Ground.phase }, { on := 5, ground := Ground.phase }, { on := 6, ground := Ground.phase }, { on := 7, ground := Ground.phase }, { on := 8, ground := Ground.textOnly Departure.lateStores }, { on := 9, ground := Ground.phase }], guard := none }) rfl (fun K hK => ?_) ?_
            · have c60 := (HQ.box 0).c 0
              have c61 := (HQ.box 0).c 1
              have f60 := (HQ.box 0).f 0
              have f61 := (HQ.box 0).f 1
              go_simp
              clear c60 c61 f60 f61
              first | (have HX := (HQ.put (by have := HORD.out; omega) (fun p hp => by (have h1 := HORD.out; simp only [List.mem_cons, List.not_mem_nil, or_false] at hp; rcases hp with rfl; (show _ ≠ _); omega)) 0 (.int .i64 Lm)).put (by have := HORD.out; omega) (fun p hp => by (have h1 := HORD.out; simp only [List.mem_cons, List.not_mem_nil, or_false] at hp; rcases hp with rfl; (show _ ≠ _); omega)) 1 (.slice A6 M.length c6); refine hK.out _ _ (by (try dsimp only); exact HC _ HX.tail) (fun hHeld => ?_); have HO := Lib.hid (own_set2 HO.out HQ (by intro e; have h1 := HAT.out.1 _ e; have h2 := HAT.out.2 _ e; omega) (.int .i64 Lm) (.slice A6 M.length c6)); have HQ := HX) | (have HQ := HPre.new #[.int .i64 Lm, .slice A6 M.length c6] 25; refine hK.out _ _ (by (try dsimp only); exact HC _ HQ.tail) (fun hHeld => ?_); have HO := Lib.hid (HOP.out.alloc (.cells #[.int .i64 Lm, .slice A6 M.length c6] 25)))
              clear hK K
              (try simp only [Act.put, List.setIfInBounds_toArray, List.set_cons_zero, List.set_cons_succ])
              refine wpAnyH_take (i := 11) (oi := { dst := some 10, op := Op.assign (Operand.tmp 31), type := 4, pos := "l15_texture.go:75", after := #[{ on := 8, ground := Ground.data }, { on := 10, ground := Ground.chain }, { on := 0, ground := Ground.phase }, { on := 1, ground := Ground.phase }, { on := 2, ground := Ground.phase }, { on := 3, ground := Ground.phase }, { on := 4, ground := Ground.phase }, { on := 5, ground := Ground.phase }, { on := 6, ground := Ground.phase }, { on := 7, ground := Ground.phase }, { on := 8, ground := Ground.phase }, { on := 9, ground := Ground.phase }, { on := 10, ground := Ground.phase }], guard := none }) (v := ?_) rfl (by kernel_rfl) (by kernel_rfl) (by kernel_rfl) (fun _ _ _ h => h) (Or.inl ⟨by rfl, ?_⟩) (by assumption) ?_
              rotate_left 1
              · (intro w hSw; (try dsimp only at hSw); go_simp <;> with_reducible rfl)
              (try simp only [Act.put, List.setIfInBounds_toArray, List.set_cons_zero, List.set_cons_succ])
              refine wpAnyH_done (by kernel_rfl) ?_ _
              clear hHeld
              go_wp2
              go_meet
              exact ⟨_, A6, c6, rfl, HQ, Row.of_own HO.out⟩
            exact AllReadyH.nil
          exact AllReadyH.nil
        refine AllReadyH.cons (o := { dst := some 9, op := Op.alloc 25, type := 0, pos := "l15_texture.go:75", after := #[], guard := none }) rfl (fun K hK => ?_) ?_
        · go_simp
          have HPre := HQ
          (try have HOP := HO)
          (try have HO := Lib.hid (HO.out.alloc (.cells #[.int .i64 0, .slice none 0 0] 25)))
          have HQ := HQ.new #[.int .i64 0, .slice none 0 0] 25
          (try rw [World.size_alloc] at HQ)
          (try rw [hwB] at HQ)
          refine hK.out _ _ (by (try dsimp only); (first | with_reducible exact HC _ HQ | with_reducible exact HC _ HQ.tail)) (fun hHeld => ?_)
          clear hK K
          (try simp only [Act.put, List.setIfInBounds_toArray, List.set_cons_zero, List.set_cons_succ])
          refine wpAnyH_ready (rs := [5]) (by kernel_rfl) (by simp) ?_
          refine AllReadyH.cons (o := { dst := some 29, op := Op.call { callee := Callee.value (Operand.func 63), args := #[Operand.tmp 24, Operand.tmp 28], argTypes := #[25, 3] }, type := 74, pos := "l15_texture.go:75", after := #[{ on := 0, ground := Ground.data }, { on := 4, ground := Ground.data }, { on := 4, ground := Ground.chain }], guard := none }) rfl (fun K hK => ?_) ?_
          · go_simp
            (with_reducible refine (HMP.out _ (by first | with_reducible exact HQ.below)).mono ?_)
            rintro e w7 ⟨A6, c6, rfl, ho6, hb7⟩
            have hb8 := fun b hb => own_block ho6 b hb
            (try simp only [World.size_alloc] at hb8)
            (try simp only [hwB] at hb8)
            have hs8 := hb7.size
            (try simp only [World.size_alloc] at hs8)
            (try simp only [hwB] at hs8)
            have HAT := Lib.hid (And.intro hb8 (fun b hb => (ho6.lt b hb).2))
            have HO := Lib.hid (own_base ho6 (base' := 0) (Nat.zero_le _))
            have HQ := HQ.later hb7
            clear hb7 hb8 ho6
            (try go_wp2_with fail)
            refine hK.out _ _ (by (try dsimp only); (first | with_reducible exact HC _ HQ | with_reducible exact HC _ HQ.tail)) (fun hHeld => ?_)
            clear hK K
            (try simp only [Act.put, List.setIfInBounds_toArray, List.set_cons_zero, List.set_cons_succ])
            refine wpAnyH_take (i := 6) (oi := { dst := some 23, op := Op.move (Operand.tmp 29), type := 74, pos := "l15_texture.go:75", after := #[{ on := 5, ground := Ground.data }], guard := none }) (v := ?_) rfl (by kernel_rfl) (by kernel_rfl) (by kernel_rfl) (fun _ _ _ h => h) (Or.inl ⟨by rfl, ?_⟩) (by assumption) ?_
            rotate_left 1
            · (intro w hSw; (try dsimp only at hSw); go_simp <;> with_reducible rfl)
            (try simp only [Act.put, List.setIfInBounds_toArray, List.set_cons_zero, List.set_cons_succ])
            refine wpAnyH_take (i := 7) (oi := { dst := some 30, op := Op.extract (Operand.tmp 23) 0, type := 25, pos := "l15_texture.go:75", after := #[{ on := 6, ground := Ground.data }], guard := none }) (v := ?_) rfl (by kernel_rfl) (by kernel_rfl) (by kernel_rfl) (fun _ _ _ h => h) (Or.inl ⟨by rfl, ?_⟩) (by assumption) ?_
            rotate_left 1
            · (intro w hSw; (try dsimp only at hSw); go_simp <;> with_reducible rfl)
            (try simp only [Act.put, List.setIfInBounds_toArray, List.set_cons_zero, List.set_cons_succ])
            refine wpAnyH_take (i := 8) (oi := { dst := some 31, op := Op.extract (Operand.tmp 23) 1, type := 4, pos := "l15_texture.go:75", after := #[{ on := 6, ground := Ground.data }, { on := 10, ground := Ground.gcOnly Departure.lateStores }], guard := none }) (v := ?_) rfl (by kernel_rfl) (by kernel_rfl) (by kernel_rfl) (fun _ _ _ h => h) (Or.inl ⟨by rfl, ?_⟩) (by assumption) ?_
            rotate_left 1
            · (intro w hSw; (try dsimp only at hSw); go_simp <;> with_reducible rfl)
            (try simp only [Act.put, List.setIfInBounds_toArray, List.set_cons_zero, List.set_cons_succ])
            refine wpAnyH_ready (rs := [10]) (by kernel_rfl) (by simp) ?_
            refine AllReadyH.cons (o := { dst := none, op := Op.store 25 (Operand.tmp 9) (Operand.tmp 30), type := 0, pos := "l15_texture.go:75", after := #[{ on := 9, ground := Ground.data }, { on := 7, ground := Ground.data }, { on := 5, ground := Ground.chain }, { on := 0, ground := Ground.phase }, { on := 1, ground := Ground.phase }, { on := 2, ground := Ground.phase }, { on := 3, ground := Ground.phase }, { on := 4, ground := Ground.phase }, { on := 5, ground := Ground.phase }, { on := 6, ground := Ground.phase }, { on := 7, ground := Ground.phase }, { on := 8, ground := Ground.textOnly Departure.lateStores }, { on := 9, ground := Ground.phase }], guard := none }) rfl (fun K hK => ?_) ?_
            · have c60 := (HQ.box 0).c 0
              have c61 := (HQ.box 0).c 1
              have f60 := (HQ.box 0).f 0
              have f61 := (HQ.box 0).f 1
              go_simp
              clear c60 c61 f60 f61
              first | (have HX := (HQ.put (by have := HORD.out; omega) (fun p hp => by (have h1 := HORD.out; simp only [List.mem_cons, List.not_mem_nil, or_false] at hp; rcases hp with rfl; (show _ ≠ _); omega)) 0 (.int .i64 Lm)).put (by have := HORD.out; omega) (fun p hp => by (have h1 := HORD.out; simp only [List.mem_cons, List.not_mem_nil, or_false] at hp; rcases hp with rfl; (show _ ≠ _); omega)) 1 (.slice A6 M.length c6); refine hK.out _ _ (by (try dsimp only); exact HC _ HX.tail) (fun hHeld => ?_); have HO := Lib.hid (own_set2 HO.out HQ (by intro e; have h1 := HAT.out.1 _ e; have h2 := HAT.out.2 _ e; omega) (.int .i64 Lm) (.slice A6 M.length c6)); have HQ := HX) | (have HQ := HPre.new #[.int .i64 Lm, .slice A6 M.length c6] 25; refine hK.out _ _ (by (try dsimp only); exact HC _ HQ.tail) (fun hHeld => ?_); have HO := Lib.hid (HOP.out.alloc (.cells #[.int .i64 Lm, .slice A6 M.length c6] 25)))
              clear hK K
              (try simp only [Act.put, List.setIfInBounds_toArray, List.set_cons_zero, List.set_cons_succ])
              refine wpAnyH_take (i := 11) (oi := { dst := some 10, op := Op.assign (Operand.tmp 31), type := 4, pos := "l15_texture.go:75", after := #[{ on := 8, ground := Ground.data }, { on := 10, ground := Ground.chain }, { on := 0, ground := Ground.phase }, { on := 1, ground := Ground.phase }, { on := 2, ground := Ground.phase }, { on := 3, ground := Ground.phase }, { on := 4, ground := Ground.phase }, { on := 5, ground := Ground.phase }, { on := 6, ground := Ground.phase }, { on := 7, ground := Ground.phase }, { on := 8, ground := Ground.phase }, { on := 9, ground := Ground.phase }, { on := 10, ground := Ground.phase }], guard := none }) (v := ?_) rfl (by kernel_rfl) (by kernel_rfl) (by kernel_rfl) (fun _ _ _ h => h) (Or.inl ⟨by rfl, ?_⟩) (by assumption) ?_
              rotate_left 1
              · (intro w hSw; (try dsimp only at hSw); go_simp <;> with_reducible rfl)
              (try simp only [Act.put, List.setIfInBounds_toArray, List.set_cons_zero, List.set_cons_succ])
              refine wpAnyH_done (by kernel_rfl) ?_ _
              clear hHeld
              go_wp2
              go_meet
              exact ⟨_, A6, c6, rfl, HQ, Row.of_own HO.out⟩
            exact AllReadyH.nil
          exact AllReadyH.nil
        exact AllReadyH.nil
      refine AllReadyH.cons (o := { dst := some 9, op := Op.alloc 25, type := 0, pos := "l15_texture.go:75", after := #[], guard := none }) rfl (fun K hK => ?_) ?_
      · go_simp
        have HPre := HQ
        (try have HOP := HO)
        (try have HO := Lib.hid (HO.out.alloc (.cells #[.int .i64 0, .slice none 0 0] 25)))
        have HQ := HQ.new #[.int .i64 0, .slice none 0 0] 25
        (try rw [World.size_alloc] at HQ)
        (try rw [hwB] at HQ)
        refine hK.out _ _ (by (try dsimp only); (first | with_reducible exact HC _ HQ | with_reducible exact HC _ HQ.tail)) (fun hHeld => ?_)
        clear hK K
        (try simp only [Act.put, List.setIfInBounds_toArray, List.set_cons_zero, List.set_cons_succ])
        refine wpAnyH_ready (rs := [4]) (by kernel_rfl) (by simp) ?_
        refine AllReadyH.cons (o := { dst := some 28, op := Op.call { callee := Callee.value (Operand.func 57), args := #[Operand.tmp 25, Operand.const (Value.int IntKind.i64 0), Operand.tmp 27], argTypes := #[3, 3, 3] }, type := 3, pos := "l15_texture.go:75", after := #[{ on := 1, ground := Ground.data }, { on := 3, ground := Ground.data }], guard := none }) rfl (fun K hK => ?_) ?_
        · go_simp
          (with_reducible refine (HCL.out _).mono ?_)
          rintro e w7 ⟨rfl, rfl⟩
          (try go_wp2_with fail)
          refine hK.out _ _ (by (try dsimp only); (first | with_reducible exact HC _ HQ | with_reducible exact HC _ HQ.tail)) (fun hHeld => ?_)
          clear hK K
          (try simp only [Act.put, List.setIfInBounds_toArray, List.set_cons_zero, List.set_cons_succ])
          refine wpAnyH_ready (rs := [5]) (by kernel_rfl) (by simp) ?_
          refine AllReadyH.cons (o := { dst := some 29, op := Op.call { callee := Callee.value (Operand.func 63), args := #[Operand.tmp 24, Operand.tmp 28], argTypes := #[25, 3] }, type := 74, pos := "l15_texture.go:75", after := #[{ on := 0, ground := Ground.data }, { on := 4, ground := Ground.data }, { on := 4, ground := Ground.chain }], guard := none }) rfl (fun K hK => ?_) ?_
          · go_simp
            (with_reducible refine (HMP.out _ (by first | with_reducible exact HQ.below)).mono ?_)
            rintro e w7 ⟨A6, c6, rfl, ho6, hb7⟩
            have hb8 := fun b hb => own_block ho6 b hb
            (try simp only [World.size_alloc] at hb8)
            (try simp only [hwB] at hb8)
            have hs8 := hb7.size
            (try simp only [World.size_alloc] at hs8)
            (try simp only [hwB] at hs8)
            have HAT := Lib.hid (And.intro hb8 (fun b hb => (ho6.lt b hb).2))
            have HO := Lib.hid (own_base ho6 (base' := 0) (Nat.zero_le _))
            have HQ := HQ.later hb7
            clear hb7 hb8 ho6
            (try go_wp2_with fail)
            refine hK.out _ _ (by (try dsimp only); (first | with_reducible exact HC _ HQ | with_reducible exact HC _ HQ.tail)) (fun hHeld => ?_)
            clear hK K
            (try simp only [Act.put, List.setIfInBounds_toArray, List.set_cons_zero, List.set_cons_succ])
            refine wpAnyH_take (i := 6) (oi := { dst := some 23, op := Op.move (Operand.tmp 29), type := 74, pos := "l15_texture.go:75", after := #[{ on := 5, ground := Ground.data }], guard := none }) (v := ?_) rfl (by kernel_rfl) (by kernel_rfl) (by kernel_rfl) (fun _ _ _ h => h) (Or.inl ⟨by rfl, ?_⟩) (by assumption) ?_
            rotate_left 1
            · (intro w hSw; (try dsimp only at hSw); go_simp <;> with_reducible rfl)
            (try simp only [Act.put, List.setIfInBounds_toArray, List.set_cons_zero, List.set_cons_succ])
            refine wpAnyH_take (i := 7) (oi := { dst := some 30, op := Op.extract (Operand.tmp 23) 0, type := 25, pos := "l15_texture.go:75", after := #[{ on := 6, ground := Ground.data }], guard := none }) (v := ?_) rfl (by kernel_rfl) (by kernel_rfl) (by kernel_rfl) (fun _ _ _ h => h) (Or.inl ⟨by rfl, ?_⟩) (by assumption) ?_
            rotate_left 1
            · (intro w hSw; (try dsimp only at hSw); go_simp <;> with_reducible rfl)
            (try simp only [Act.put, List.setIfInBounds_toArray, List.set_cons_zero, List.set_cons_succ])
            refine wpAnyH_take (i := 8) (oi := { dst := some 31, op := Op.extract (Operand.tmp 23) 1, type := 4, pos := "l15_texture.go:75", after := #[{ on := 6, ground := Ground.data }, { on := 10, ground := Ground.gcOnly Departure.lateStores }], guard := none }) (v := ?_) rfl (by kernel_rfl) (by kernel_rfl) (by kernel_rfl) (fun _ _ _ h => h) (Or.inl ⟨by rfl, ?_⟩) (by assumption) ?_
            rotate_left 1
            · (intro w hSw; (try dsimp only at hSw); go_simp <;> with_reducible rfl)
            (try simp only [Act.put, List.setIfInBounds_toArray, List.set_cons_zero, List.set_cons_succ])
            refine wpAnyH_ready (rs := [10]) (by kernel_rfl) (by simp) ?_
            refine AllReadyH.cons (o := { dst := none, op := Op.store 25 (Operand.tmp 9) (Operand.tmp 30), type := 0, pos := "l15_texture.go:75", after := #[{ on := 9, ground := Ground.data }, { on := 7, ground := Ground.data }, { on := 5, ground := Ground.chain }, { on := 0, ground := Ground.phase }, { on := 1, ground := Ground.phase }, { on := 2, ground := Ground.phase }, { on := 3, ground := Ground.phase }, { on := 4, ground := Ground.phase }, { on := 5, ground := Ground.phase }, { on := 6, ground := Ground.phase }, { on := 7, ground := Ground.phase }, { on := 8, ground := Ground.textOnly Departure.lateStores }, { on := 9, ground := Ground.phase }], guard := none }) rfl (fun K hK => ?_) ?_
            · have c60 := (HQ.box 0).c 0
              have c61 := (HQ.box 0).c 1
              have f60 := (HQ.box 0).f 0
              have f61 := (HQ.box 0).f 1
              go_simp
              clear c60 c61 f60 f61
              first | (have HX := (HQ.put (by have := HORD.out; omega) (fun p hp => by (have h1 := HORD.out; simp only [List.mem_cons, List.not_mem_nil, or_false] at hp; rcases hp with rfl; (show _ ≠ _); omega)) 0 (.int .i64 Lm)).put (by have := HORD.out; omega) (fun p hp => by (have h1 := HORD.out; simp only [List.mem_cons, List.not_mem_nil, or_false] at hp; rcases hp with rfl; (show _ ≠ _); omega)) 1 (.slice A6 M.length c6); refine hK.out _ _ (by (try dsimp only); exact HC _ HX.tail) (fun hHeld => ?_); have HO := Lib.hid (own_set2 HO.out HQ (by intro e; have h1 := HAT.out.1 _ e; have h2 := HAT.out.2 _ e; omega) (.int .i64 Lm) (.slice A6 M.length c6)); have HQ := HX) | (have HQ := HPre.new #[.int .i64 Lm, .slice A6 M.length c6] 25; refine hK.out _ _ (by (try dsimp only); exact HC _ HQ.tail) (fun hHeld => ?_); have HO := Lib.hid (HOP.out.alloc (.cells #[.int .i64 Lm, .slice A6 M.length c6] 25)))
              clear hK K
              (try simp only [Act.put, List.setIfInBounds_toArray, List.set_cons_zero, List.set_cons_succ])
              refine wpAnyH_take (i := 11) (oi := { dst := some 10, op := Op.assign (Operand.tmp 31), type := 4, pos := "l15_texture.go:75", after := #[{ on := 8, ground := Ground.data }, { on := 10, ground := Ground.chain }, { on := 0, ground := Ground.phase }, { on := 1, ground := Ground.phase }, { on := 2, ground := Ground.phase }, { on := 3, ground := Ground.phase }, { on := 4, ground := Ground.phase }, { on := 5, ground := Ground.phase }, { on := 6, ground := Ground.phase }, { on := 7, ground := Ground.phase }, { on := 8, ground := Ground.phase }, { on := 9, ground := Ground.phase }, { on := 10, ground := Ground.phase }], guard := none }) (v := ?_) rfl (by kernel_rfl) (by kernel_rfl) (by kernel_rfl) (fun _ _ _ h => h) (Or.inl ⟨by rfl, ?_⟩) (by assumption) ?_
              rotate_left 1
              · (intro w hSw; (try dsimp only at hSw); go_simp <;> with_reducible rfl)
              (try simp only [Act.put, List.setIfInBounds_toArray, List.set_cons_zero, List.set_cons_succ])
              refine wpAnyH_done (by kernel_rfl) ?_ _
              clear hHeld
              go_wp2
              go_meet
              exact ⟨_, A6, c6, rfl, HQ, Row.of_own HO.out⟩
            exact AllReadyH.nil
          exact AllReadyH.nil
        exact AllReadyH.nil
      exact AllReadyH.nil
    case rest =>
      clear HC HQ HCL HMP
      obtain ⟨g, A6, c6, rfl, HT, hrw⟩ := hcut
      have hokM := HOKM.out
      obtain ⟨n, hn⟩ : ∃ n, n = sd Lm := ⟨_, rfl⟩
      have hn16 : n ≤ 16 := by rw [hn]; exact sd_le hokM.1
      have hcu := ccT_bd u
      have hcv := ccT_bd v
      obtain ⟨cu, hcu'⟩ : ∃ x, x = ccT u := ⟨_, rfl⟩
      obtain ⟨cv, hcv'⟩ : ∃ x, x = ccT v := ⟨_, rfl⟩
      have HNU := Lib.hid (fun W => sN_T u W)
      have HNV := Lib.hid (fun W => sN_T v W)
      have HSZ := Lib.hid (fun W => sSize_any Lm W hokM.1)
      rw [← hcu'] at hcu HNU
      rw [← hcv'] at hcv HNV
      rw [← hn] at HSZ
      have hpu := pos_bd hcu hn16
      have hpv := pos_bd hcv hn16
      obtain ⟨s, hs⟩ : ∃ s, s = cu * (n : Int) - 128 := ⟨_, rfl⟩
      obtain ⟨r, hr⟩ : ∃ r, r = cv * (n : Int) - 128 := ⟨_, rfl⟩
      have e1 : IntKind.i64.wrap (cu * (n : Int)) = cu * (n : Int) := wrap_v (by omega)
      have e2 : IntKind.i64.wrap (cu * (n : Int) - 128) = s := by rw [← hs]; exact wrap_v (by omega)
      have e3 : IntKind.i64.wrap (cv * (n : Int)) = cv * (n : Int) := wrap_v (by omega)
      have e4 : IntKind.i64.wrap (cv * (n : Int) - 128) = r := by rw [← hr]; exact wrap_v (by omega)
      have hsb : -16000128 ≤ s ∧ s ≤ 16000000 := by omega
      have hrb : -16000128 ≤ r ∧ r ≤ 16000000 := by omega
      obtain ⟨x, hx⟩ : ∃ x, x = s / 256 := ⟨_, rfl⟩
      obtain ⟨y, hy⟩ : ∃ y, y = r / 256 := ⟨_, rfl⟩
      have hfx : 0 ≤ s - 256 * x ∧ s - 256 * x ≤ 255 ∧ -70000 ≤ x ∧ x ≤ 70000 := by omega
      have hfy : 0 ≤ r - 256 * y ∧ r - 256 * y ≤ 255 ∧ -70000 ≤ y ∧ y ≤ 70000 := by omega
      have HFS := Lib.hid (fun W => sFloorDiv_any s 256 W (by omega) (by omega))
      have HFR := Lib.hid (fun W => sFloorDiv_any r 256 W (by omega) (by omega))
      rw [show fdivP s 256 = x by unfold fdivP; rw [if_neg (by omega)]; exact hx.symm] at HFS
      rw [show fdivP r 256 = y by unfold fdivP; rw [if_neg (by omega)]; exact hy.symm] at HFR
      obtain ⟨fx, hfx'⟩ : ∃ f, f = s - 256 * x := ⟨_, rfl⟩
      obtain ⟨fy, hfy'⟩ : ∃ f, f = r - 256 * y := ⟨_, rfl⟩
      have e5 : IntKind.i64.wrap (256 * x) = 256 * x := wrap_v (by omega)
      have e6 : IntKind.i64.wrap (s - 256 * x) = fx := by rw [← hfx']; exact wrap_v (by omega)
      have e7 : IntKind.i64.wrap (256 * y) = 256 * y := wrap_v (by omega)
      have e8 : IntKind.i64.wrap (r - 256 * y) = fy := by rw [← hfy']; exact wrap_v (by omega)
      rw [← hfx'] at hfx
      rw [← hfy'] at hfy
      have HT9 : Held wc wc [(g, [.int .i64 Lm, .slice A6 M.length c6])] := ((Held.nil wc).cons (HT.box 0))
      have HTW := Lib.hid HT.below
      have HRw := Lib.hid (fun W (h : Below wc.heap.size wc W) => hrw.later h)
      have HTX := Lib.hid (fun (x y : Int) W (h : Below wc.heap.size wc W) => sTxl_any Lm A6 c6 M x y W (HRw.out W h) hokM)
      obtain ⟨a0, ha0⟩ : ∃ a, a = txl Lm M x y := ⟨_, rfl⟩
      obtain ⟨a1, ha1⟩ : ∃ a, a = txl Lm M (x + 1) y := ⟨_, rfl⟩
      obtain ⟨a2, ha2⟩ : ∃ a, a = txl Lm M x (y + 1) := ⟨_, rfl⟩
      obtain ⟨a3, ha3⟩ : ∃ a, a = txl Lm M (x + 1) (y + 1) := ⟨_, rfl⟩
      have hb0 := txl_bd hokM x y
      have hb1 := txl_bd hokM (x + 1) y
      have hb2 := txl_bd hokM x (y + 1)
      have hb3 := txl_bd hokM (x + 1) (y + 1)
      have HX0 := Lib.hid (HTX.out x y)
      have HX1 := Lib.hid (HTX.out (x + 1) y)
      have HX2 := Lib.hid (HTX.out x (y + 1))
      have HX3 := Lib.hid (HTX.out (x + 1) (y + 1))
      rw [← ha0] at hb0 HX0
      rw [← ha1] at hb1 HX1
      rw [← ha2] at hb2 HX2
      rw [← ha3] at hb3 HX3
      obtain ⟨T, hT⟩ : ∃ T, T = itT a0 a1 fx := ⟨_, rfl⟩
      obtain ⟨U, hU⟩ : ∃ U, U = itT a2 a3 fx := ⟨_, rfl⟩
      have hTb : 0 ≤ T ∧ T ≤ 65536 := by rw [hT]; exact itT_bd hb0 hb1 ⟨hfx.1, hfx.2.1⟩
      have hUb : 0 ≤ U ∧ U ≤ 65536 := by rw [hU]; exact itT_bd hb2 hb3 ⟨hfx.1, hfx.2.1⟩
      have q0 := mul_bdT hb0 (b := 256 - fx) (B := 256) (by omega)
      have q1 := mul_bdT hb1 (b := fx) (B := 256) (by omega)
      have q2 := mul_bdT hb2 (b := 256 - fx) (B := 256) (by omega)
      have q3 := mul_bdT hb3 (b := fx) (B := 256) (by omega)
      have q4 := mul_bdT hTb (b := 256 - fy) (B := 256) (by omega)
      have q5 := mul_bdT hUb (b := fy) (B := 256) (by omega)
      have e9 : IntKind.i64.wrap (256 - fx) = 256 - fx := wrap_v (by omega)
      have e10 : IntKind.i64.wrap (a0 * (256 - fx)) = a0 * (256 - fx) := wrap_v (by omega)
      have e11 : IntKind.i64.wrap (a1 * fx) = a1 * fx := wrap_v (by omega)
      have e12 : IntKind.i64.wrap (a0 * (256 - fx) + a1 * fx) = T := by rw [hT]; unfold itT; exact wrap_v (by omega)
      have e13 : IntKind.i64.wrap (a2 * (256 - fx)) = a2 * (256 - fx) := wrap_v (by omega)
      have e14 : IntKind.i64.wrap (a3 * fx) = a3 * fx := wrap_v (by omega)
      have e15 : IntKind.i64.wrap (a2 * (256 - fx) + a3 * fx) = U := by rw [hU]; unfold itT; exact wrap_v (by omega)
      have e16 : IntKind.i64.wrap (x + 1) = x + 1 := wrap_v (by omega)
      have e17 : IntKind.i64.wrap (y + 1) = y + 1 := wrap_v (by omega)
      have e18 : IntKind.i64.wrap (256 - fy) = 256 - fy := wrap_v (by omega)
      have e19 : IntKind.i64.wrap (T * (256 - fy)) = T * (256 - fy) := wrap_v (by omega)
      have e20 : IntKind.i64.wrap (U * fy) = U * fy := wrap_v (by omega)
      obtain ⟨Z, hZ⟩ : ∃ Z, Z = itT T U fy := ⟨_, rfl⟩
      have e21 : IntKind.i64.wrap (T * (256 - fy) + U * fy) = Z := by rw [hZ]; unfold itT; exact wrap_v (by omega)
      have HFZ := Lib.hid (fun W => sFloorDiv_any Z 65536 W (by rw [hZ]; unfold itT; omega) (by rw [hZ]; unfold itT; omega))
      have HLK : Hid (lkL Lm M u v = fdivP Z 65536) := Lib.hid (by
        unfold lkL
        dsimp only
        rw [← hn, ← hcu', ← hcv', ← hs, ← hr, ← hx, ← hy, ← hfx', ← hfy', ← ha0, ← ha1, ← ha2, ← ha3, ← hT, ← hU, ← hZ])
      have HC : ∀ W', Held wc W' [(g, [.int .i64 Lm, .slice A6 M.length c6])] → W'.cell? ⟨g, 0, none⟩ = some (.int .i64 Lm) ∧ W'.cell? ⟨g, 1, none⟩ = some (.slice A6 M.length c6) := fun W' h => ⟨(h.box 0).c 0, (h.box 0).c 1⟩
      have n0 := (HT.box 0).c 0
      have n1 := (HT.box 0).c 1
      obtain ⟨w9, hw9⟩ : ∃ x, x = wc := ⟨_, rfl⟩
      rw [← hw9] at HT9 HTW HX0 HX1 HX2 HX3 HC n0 n1 ⊢
      have HT := HT9
      clear HT9 hw9 hrw HRw HTX hokM hcu hcv hcu' hcv' hpu hpv hs hr hsb hrb hx hy hfx hfy hfx' hfy' ha0 ha1 ha2 ha3 hb0 hb1 hb2 hb3 hT hU hTb hUb q0 q1 q2 q3 q4 q5 hZ hn hn16
      go_wp2_with fail
      refine (HSZ.out _).mono ?_
      rintro e w3 ⟨rfl, rfl⟩
      go_wp2_with fail
      refine (HNU.out _).mono ?_
      rintro e w4 ⟨rfl, rfl⟩
      go_wp2_with fail
      refine (HNV.out _).mono ?_
      rintro e w4 ⟨rfl, rfl⟩
      go_wp2_with fail
      refine (HFS.out _).mono ?_
      rintro e w4 ⟨rfl, rfl⟩
      go_wp2_with fail
      refine (HFR.out _).mono ?_
      rintro e w4 ⟨rfl, rfl⟩
      clear n0 n1
      go_upto_region 11 with fail
      go_cut [18] (fun y wx => y = .int .i64 T ∧ Held w3 wx [(g, [.int .i64 Lm, .slice A6 M.length c6])])
      case first =>
        go_region_held3 (fun W' => W'.cell? ⟨g, 0, none⟩ = some (.int .i64 Lm) ∧ W'.cell? ⟨g, 1, none⟩ = some (.slice A6 M.length c6))
          (first | (with_reducible exact HC _ HT) | (with_reducible exact HC _ HT.drew))
          ((first | (go_at_call 94; (with_reducible refine (HX0.out _ (by first | with_reducible exact HT.below | with_reducible exact HT.drew.below)).mono ?_); rintro e w7 ⟨rfl, hb7⟩; (first | (have HT := HT.later hb7) | (have HT := HT.drew.later hb7))) | (go_at_call 94; (with_reducible refine (HX1.out _ (by first | with_reducible exact HT.below | with_reducible exact HT.drew.below)).mono ?_); rintro e w7 ⟨rfl, hb7⟩; (first | (have HT := HT.later hb7) | (have HT := HT.drew.later hb7)))))
        all_goals (go_wp2_with fail; go_meet)
        all_goals (first | exact ⟨rfl, HT⟩ | exact ⟨rfl, HT.drew⟩)
      case rest =>
        clear HX0 HX1 e10 e11 e12
        obtain ⟨rfl, HT⟩ := hcut
        go_upto_region 12 with fail
        go_cut [19] (fun y wx => y = .int .i64 U ∧ Held w3 wx [(g, [.int .i64 Lm, .slice A6 M.length c6])])
        case first =>
          go_region_held3 (fun W' => W'.cell? ⟨g, 0, none⟩ = some (.int .i64 Lm) ∧ W'.cell? ⟨g, 1, none⟩ = some (.slice A6 M.length c6))
            (first | (with_reducible exact HC _ HT) | (with_reducible exact HC _ HT.drew))
            ((first | (go_at_call 94; (with_reducible refine (HX2.out _ (by first | with_reducible exact HT.below | with_reducible exact HT.drew.below)).mono ?_); rintro e w7 ⟨rfl, hb7⟩; (first | (have HT := HT.later hb7) | (have HT := HT.drew.later hb7))) | (go_at_call 94; (with_reducible refine (HX3.out _ (by first | with_reducible exact HT.below | with_reducible exact HT.drew.below)).mono ?_); rintro e w7 ⟨rfl, hb7⟩; (first | (have HT := HT.later hb7) | (have HT := HT.drew.later hb7)))))
          all_goals (go_wp2_with fail; go_meet)
          all_goals (first | exact ⟨rfl, HT⟩ | exact ⟨rfl, HT.drew⟩)
        case rest =>
          clear HX2 HX3 HC e13 e14 e15 e16 e17
          obtain ⟨rfl, HT⟩ := hcut
          have HBF := Lib.hid (HTW.out.trans (HT.below.mono HTW.out.size))
          clear HT
          go_wp2_with fail
          refine (HFZ.out _).mono ?_
          rintro e w5 ⟨rfl, rfl⟩
          go_wp2_with fail
          go_ret
          exact ⟨by rw [HP.out, HLK.out]; rfl, HBF.out⟩
end Go.Proofs.Ytaelhbbfddcabaa
