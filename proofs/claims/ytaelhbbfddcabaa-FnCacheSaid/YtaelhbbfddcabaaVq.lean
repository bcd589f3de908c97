/- Textures of the program: Lookup. -/
import Derived.Test.YtaelhbbfddcabaaProg
import Derived.Test.YtaelhbbfddcabaaInts
import Derived.Test.YtaelhbbfddcabaaVbox
import Derived.Test.YtaelhbbfddcabaaHeld
import Derived.Test.YtaelhbbfddcabaaMem
import Derived.Test.YtaelhbbfddcabaaFlat
import Derived.Test.YtaelhbbfddcabaaRowC
import Derived.Test.YtaelhbbfddcabaaKS
import Derived.Test.YtaelhbbfddcabaaStrS
import Derived.Test.YtaelhbbfddcabaaIntS
import Derived.Test.YtaelhbbfddcabaaSS
import Derived.Test.YtaelhbbfddcabaaVi
import Derived.Test.YtaelhbbfddcabaaVa
import Derived.Test.YtaelhbbfddcabaaVb
import Derived.Test.YtaelhbbfddcabaaVc
import Derived.Test.YtaelhbbfddcabaaVd
import Derived.Test.YtaelhbbfddcabaaVe
import Derived.Test.YtaelhbbfddcabaaVf
import Derived.Test.YtaelhbbfddcabaaVg
import Derived.Test.YtaelhbbfddcabaaVh
import Derived.Test.YtaelhbbfddcabaaVl
import Derived.Test.YtaelhbbfddcabaaVm
import Derived.Test.YtaelhbbfddcabaaVn
import Derived.Test.YtaelhbbfddcabaaVo
import Derived.Test.YtaelhbbfddcabaaVp
import Derived.WalkKit
import Derived.WalkSpells
import Derived.WalkLawsBesides
import Derived.Lib.Hide
import Derived.Deep.RegionHeld3
import Derived.Deep.QuietTactic
import Derived.BigQuiet
import Derived.Handy
import Derived.Deep.DeepCutAuto
import Derived.OwnWalk
namespace Go.Proofs.Ytaelhbbfddcabaa
open Go.RowKit

theorem blend_any (a b f : Int) (w : World) (ha : 0 ≤ a ∧ a ≤ 65536) (hb : 0 ≤ b ∧ b ≤ 65536) (hf : 0 ≤ f ∧ f ≤ 255) :
    Calls Try.prog 53 #[.int .i64 a, .int .i64 b, .int .i64 f] w fun e w' => e = .returned (.int .i64 (itT a b f)) ∧ w = w' := by
  have q0 := mul_bdT ha (b := 256 - f) (B := 256) (by omega)
  have q1 := mul_bdT hb (b := f) (B := 256) (by omega)
  have e1 : IntKind.i64.wrap (256 - f) = 256 - f := wrap_v (by omega)
  have e2 : IntKind.i64.wrap (a * (256 - f)) = a * (256 - f) := wrap_v (by omega)
  have e3 : IntKind.i64.wrap (b * f) = b * f := wrap_v (by omega)
  obtain ⟨z, hz⟩ : ∃ z, z = itT a b f := ⟨_, rfl⟩
  have e4 : IntKind.i64.wrap (a * (256 - f) + b * f) = z := by rw [hz]; unfold itT; exact wrap_v (by omega)
  rw [← hz]
  clear q0 q1 ha hb hf hz
  go_enter Try.func53, Try.ntmps53
  go_wp2_with fail
  go_ret
  exact ⟨rfl, rfl⟩

set_option maxRecDepth 100000 in
set_option maxHeartbeats 8000000 in
theorem placeIn_any (L : Int) (A : Option Addr) (n c : Nat) (u s : Int) (w : World) (hL : 0 ≤ L ∧ L ≤ 4) (hs : s = ccT u * (sd L : Int) - 128) :
    Calls Try.prog 52 #[txv L A n c, .int .i64 u] w fun e w' => e = .returned (.tuple #[.int .i64 (s / 256), .int .i64 (s - 256 * (s / 256))]) ∧ Below w.heap.size w w' := by
  have HS := Lib.hid (fun W => sideOf_any L A n c W hL)
  have hm16 := sd_le hL
  have hcu := ccT_bd u
  have HC := Lib.hid (fun W => clamp_any u (-1000000) 1000000 W)
  rw [show clampP u (-1000000) 1000000 = ccT u from rfl] at HC
  obtain ⟨m, hm⟩ : ∃ m, m = sd L := ⟨_, rfl⟩
  rw [← hm] at HS hm16 hs
  obtain ⟨cu, hcu'⟩ : ∃ x, x = ccT u := ⟨_, rfl⟩
  rw [← hcu'] at hcu HC hs
  have hpu := pos_bd hcu hm16
  have e1 : IntKind.i64.wrap (cu * (m : Int)) = cu * (m : Int) := wrap_v (by omega)
  have e2 : IntKind.i64.wrap (cu * (m : Int) - 128) = s := by rw [hs]; exact wrap_v (by omega)
  have HF := Lib.hid (fun W => floorDiv_any s 256 W (by omega) (by omega))
  have HM := Lib.hid (fun W => floorMod_any s 256 W (by omega) (by omega) (by omega) (by omega))
  rw [show fdivP s 256 = s / 256 by unfold fdivP; rw [if_neg (by omega)]] at HF
  rw [show s % 256 = s - 256 * (s / 256) by omega] at HM
  obtain ⟨x, hx⟩ : ∃ x, x = s / 256 := ⟨_, rfl⟩
  rw [← hx] at HF HM ⊢
  obtain ⟨f, hf⟩ : ∃ f, f = s - 256 * x := ⟨_, rfl⟩
  rw [← hf] at HM ⊢
  have HT : Held w (w.alloc (.cells #[.int .i64 L, .slice A n c] 25)) [(w.heap.size, [.int .i64 L, .slice A n c])] := by
    have h := (Held.nil w).new #[.int .i64 L, .slice A n c] 25
    simpa only [World.size_alloc] using h
  obtain ⟨W1, hW1⟩ : ∃ W, W = w.alloc (.cells #[.int .i64 L, .slice A n c] 25) := ⟨_, rfl⟩
  rw [← hW1] at HT
  clear hL hm16 hcu hm hcu' hpu hs hx hf
  go_enter Try.func52, Try.ntmps52
  go_upto_region 1 with fail
  rw [← hW1]
  clear hW1
  have HK : ∀ W', Held w W' [(w.heap.size, [.int .i64 L, .slice A n c])] → W'.cell? ⟨w.heap.size, 0, none⟩ = some (.int .i64 L) ∧ W'.cell? ⟨w.heap.size, 1, none⟩ = some (.slice A n c) := fun W' h => ⟨(h.box 0).c 0, (h.box 0).c 1⟩
  go_cut [6] (fun y wx => y = .int .i64 s ∧ Below w.heap.size w wx)
  case first =>
    go_region_held3 (fun W' => W'.cell? ⟨w.heap.size, 0, none⟩ = some (.int .i64 L) ∧ W'.cell? ⟨w.heap.size, 1, none⟩ = some (.slice A n c))
      (first | (with_reducible exact HK _ HT) | (with_reducible exact HK _ HT.drew))
      (first | (go_at_call 51; (with_reducible refine (HC.out _).mono ?_); rintro e w7 ⟨rfl, rfl⟩) | (go_at_call 79; (with_reducible refine (HS.out _).mono ?_); rintro e w7 ⟨rfl, hb7⟩; (first | (have HT := HT.later hb7) | (have HT := HT.drew.later hb7))))
    all_goals (go_wp2_with fail; go_meet)
    all_goals (first | exact ⟨rfl, HT.below⟩ | exact ⟨rfl, HT.drew.below⟩)
  case rest =>
    obtain ⟨rfl, hbw⟩ := hcut
    have HB := Lib.hid hbw
    clear hbw HT HK HC HS e1 e2
    go_wp2_with fail
    refine (HF.out _).mono ?_
    rintro e w4 ⟨rfl, rfl⟩
    go_wp2_with fail
    refine (HM.out _).mono ?_
    rintro e w4 ⟨rfl, rfl⟩
    go_wp2_with fail
    exact bodyPost_ret (v := .tuple #[.int .i64 x, .int .i64 f]) (by simp [results, Try.results52, go_sem]) rfl ⟨rfl, HB.out⟩

theorem mip_out (L : Int) (A : Option Addr) (c : Nat) (ts : List Int) (k : Int) (w : World) (hR : Row I64 w w.heap.size A ts) (hl : ts.length ≤ 1048576) (hc : ts.length ≤ c) (hyes : okM L ts k = true) :
    Calls Try.prog 50 #[txv L A ts.length c, .int .i64 k] w (TxOut (L - k) (mipL L ts k.toNat) true w) := (mip_yes L A c ts k w hR hl hc hyes).mono fun _ _ h => h.out
theorem mip_out0 (L : Int) (A : Option Addr) (c : Nat) (ts : List Int) (k : Int) (w : World) (hR : Row I64 w w.heap.size A ts) (hl : ts.length ≤ 1048576) (hno : okM L ts k = false) :
    Calls Try.prog 50 #[txv L A ts.length c, .int .i64 k] w (TxOut 0 [] false w) := (mip_no L A c ts k w hR hl hno).mono fun _ _ h => h.out
theorem look_key (L : Int) (A : Option Addr) (c : Nat) (ts : List Int) (u v lv : Int) (w : World) (hR : Row I64 w w.heap.size A ts) (hl : ts.length ≤ 1048576) (hc : ts.length ≤ c) :
    ∃ (Lm : Int) (M : List Int) (fl : Bool), (∀ W, Below w.heap.size w W → Calls Try.prog 50 #[txv L A ts.length c, .int .i64 (clampP lv 0 L)] W (TxOut Lm M fl W)) ∧ (fl = false → lkP L ts u v lv = 0) ∧ (fl = true → okTx Lm M ∧ lkP L ts u v lv = lkL Lm M u v) := by
  cases hok : okX L ts with
  | false => exact ⟨0, [], false, fun W h => mip_out0 L A c ts _ W (hR.later h) hl (by unfold okM; rw [hok]; rfl), fun _ => by unfold lkP; rw [hok]; rfl, fun h => by cases h⟩
  | true =>
    have hokT := okX_iff.1 hok
    obtain ⟨l, hlv⟩ : ∃ l, l = clampP lv 0 L := ⟨_, rfl⟩
    have hlb : 0 ≤ l ∧ l ≤ L := by rw [hlv]; exact clampP_bd lv 0 L hokT.1.1
    have hokM : okTx (L - l) (mipL L ts l.toNat) := by
      have h1 := mip_ok l.toNat L ts hokT (by omega)
      rw [show ((l.toNat : Nat) : Int) = l by omega] at h1
      exact h1
    have hyes : okM L ts l = true := by
      unfold okM
      rw [hok, (inV_iff ..).2 hlb]
      rfl
    exact ⟨L - l, mipL L ts l.toNat, true, fun W h => by rw [← hlv]; exact mip_out L A c ts l W (hR.later h) hl hc hyes, (fun h => by cases h), fun _ => ⟨hokM, by unfold lkP; rw [hok, hlv]; rfl⟩⟩
set_option maxRecDepth 100000 in
set_option maxHeartbeats 32000000 in
theorem lookup_any (L : Int) (A : Option Addr) (c : Nat) (ts : List Int) (u v lv : Int) (w : World) (hR : Row I64 w w.heap.size A ts) (hl : ts.length ≤ 1048576) (hc : ts.length ≤ c) :
    Calls Try.prog 15 #[txv L A ts.length c, .int .i64 u, .int .i64 v, .int .i64 lv] w fun e w' => e = .returned (.int .i64 (lkP L ts u v lv)) ∧ Below w.heap.size w w' := by
  obtain ⟨Lm, M, fl, hmp, hno, hyes⟩ := look_key L A c ts u v lv w hR hl hc
  have HMP := Lib.hid hmp
  have HCL := Lib.hid (fun W => clamp_any lv 0 L W)
  obtain ⟨l, hlv⟩ : ∃ l, l = clampP lv 0 L := ⟨_, rfl⟩
  rw [← hlv] at HCL HMP
  have HNO := Lib.hid hno
  have HYS := Lib.hid hyes
  clear hmp hno hyes hlv
  have M := Mbox.new w #[.int .i64 L, .slice A ts.length c] 25
  have hB : Below w.heap.size w (w.alloc (.cells #[.int .i64 L, .slice A ts.length c] 25)) := by go_grown
  obtain ⟨W1, hW1⟩ : ∃ W, W = w.alloc (.cells #[.int .i64 L, .slice A ts.length c] 25) := ⟨_, rfl⟩
  have hR1 := hR.later hB
  rw [← hW1] at M hB hR1
  have HM := Lib.hid M
  have HB := Lib.hid hB
  have HR := Lib.hid hR1
  have m0 := M.c 0
  have m1 := M.c 1
  clear M hB hR1 hR
  go_enter Try.func15, Try.ntmps15
  go_upto_region 1 with fail
  rw [← hW1]
  have hM2 := HM.out
  have hs2 : w.heap.size < W1.heap.size := hM2.lt
  obtain ⟨k0, hk0⟩ : ∃ k, k = w.heap.size := ⟨_, rfl⟩
  rw [← hk0] at hM2 ⊢
  have HQ : Held w W1 [(k0, [.int .i64 L, .slice A ts.length c])] := ⟨HB.out, ((Held.nil W1).cons hM2).2⟩
  clear hW1 hM2 m0 m1
  obtain ⟨B1, hB1⟩ : ∃ B, B = W1.heap.size := ⟨_, rfl⟩
  have HORD := Lib.hid (show k0 < B1 ∧ w.heap.size < B1 ∧ k0 = w.heap.size by omega)
  have HBB := Lib.hid hB1
  have HC : ∀ W', Held w W' [(k0, [.int .i64 L, .slice A ts.length c])] → W'.cell? ⟨k0, 0, none⟩ = some (.int .i64 L) ∧ W'.cell? ⟨k0, 1, none⟩ = some (.slice A ts.length c) := fun W' h => ⟨(h.box 0).c 0, (h.box 0).c 1⟩
  clear hk0 hB1 hs2
  go_cut [9, 10] (fun y fv wx => ∃ g A6 c6, y = .pointer (some ⟨g, 0, none⟩) ∧ fv = .bool fl ∧ Held w wx [(g, [.int .i64 Lm, .slice A6 M.length c6]), (k0, [.int .i64 L, .slice A ts.length c])] ∧ Row I64 wx wx.heap.size A6 M ∧ M.length ≤ c6)
  case first =>
    have HQ := HQ.drew
    refine wp_region_held_drew (S := fun W' => W'.cell? ⟨k0, 0, none⟩ = some (.int .i64 L) ∧ W'.cell? ⟨k0, 1, none⟩ = some (.slice A ts.length c)) (by kernel_rfl) (HC _ HQ) (fun hHeld => ?_)
    obtain ⟨wd, hwd⟩ : ∃ x, x = W1.drew := ⟨_, rfl⟩
    have hwB : wd.heap.size = B1 := by rw [hwd]; exact HBB.out.symm
    rw [← hwd] at HQ hHeld ⊢
    clear hwd
    refine wpAnyH_take (i := 0) (oi := { dst := some 18, op := Op.load 25 (Operand.tmp 4), type := 25, pos := "l15_texture.go:90", after := #[], guard := none }) (v := ?_) rfl (by kernel_rfl) (by kernel_rfl) (by kernel_rfl) (fun _ _ _ h => h) (Or.inl ⟨by rfl, ?_⟩) (by assumption) ?_
    rotate_left 1
    · (intro w hSw; (try dsimp only at hSw); go_simp <;> with_reducible rfl)
    (try simp only [Act.put, List.setIfInBounds_toArray, List.set_cons_zero, List.set_cons_succ])
    refine wpAnyH_take (i := 1) (oi := { dst := some 19, op := Op.move (Operand.tmp 3), type := 3, pos := "l15_texture.go:90", after := #[], guard := none }) (v := ?_) rfl (by kernel_rfl) (by kernel_rfl) (by kernel_rfl) (fun _ _ _ h => h) (Or.inl ⟨by rfl, ?_⟩) (by assumption) ?_
    rotate_left 1
    · (intro w hSw; (try dsimp only at hSw); go_simp <;> with_reducible rfl)
    (try simp only [Act.put, List.setIfInBounds_toArray, List.set_cons_zero, List.set_cons_succ])
    refine wpAnyH_take (i := 2) (oi := { dst := some 20, op := Op.fieldAddr 25 (Operand.tmp 4) 0, type := 0, pos := "l15_texture.go:90", after := #[], guard := none }) (v := ?_) rfl (by kernel_rfl) (by kernel_rfl) (by kernel_rfl) (fun _ _ _ h => h) (Or.inl ⟨by rfl, ?_⟩) (by assumption) ?_
    rotate_left 1
    · (intro w hSw; (try dsimp only at hSw); go_simp <;> with_reducible rfl)
    (try simp only [Act.put, List.setIfInBounds_toArray, List.set_cons_zero, List.set_cons_succ])
    refine wpAnyH_take (i := 3) (oi := { dst := some 21, op := Op.load 3 (Operand.tmp 20), type := 3, pos := "l15_texture.go:90", after := #[{ on := 2, ground := Ground.data }], guard := none }) (v := ?_) rfl (by kernel_rfl) (by kernel_rfl) (by kernel_rfl) (fun _ _ _ h => h) (Or.inl ⟨by rfl, ?_⟩) (by assumption) ?_
    rotate_left 1
    · (intro w hSw; (try dsimp only at hSw); go_simp <;> with_reducible rfl)
    (try simp only [Act.put, List.setIfInBounds_toArray, List.set_cons_zero, List.set_cons_succ])
    refine wpAnyH_ready (rs := [4, 9]) (by kernel_rfl) (by simp) ?_
    refine AllReadyH.cons (o := { dst := some 22, op := Op.call { callee := Callee.value (Operand.func 51), args := #[Operand.tmp 19, Operand.const (Value.int IntKind.i64 0), Operand.tmp 21], argTypes := #[3, 3, 3] }, type := 3, pos := "l15_texture.go:90", after := #[{ on := 1, ground := Ground.data }, { on := 3, ground := Ground.data }], guard := none }) rfl (fun K hK => ?_) ?_
    · go_simp
      (with_reducible refine (HCL.out _).mono ?_)
      rintro e w7 ⟨rfl, rfl⟩
      (try go_wp2_with fail)
      refine hK.out _ _ (by (try dsimp only); (first | with_reducible exact HC _ HQ | with_reducible exact HC _ HQ.tail)) (fun hHeld => ?_)
      clear hK K
      (try simp only [Act.put, List.setIfInBounds_toArray, List.set_cons_zero, List.set_cons_succ])
      refine wpAnyH_ready (rs := [5, 9]) (by kernel_rfl) (by simp) ?_
      refine AllReadyH.cons (o := { dst := some 23, op := Op.call { callee := Callee.value (Operand.func 50), args := #[Operand.tmp 18, Operand.tmp 22], argTypes := #[25, 3] }, type := 74, pos := "l15_texture.go:90", after := #[{ on := 0, ground := Ground.data }, { on := 4, ground := Ground.data }, { on := 4, ground := Ground.chain }], guard := none }) rfl (fun K hK => ?_) ?_
      · go_simp
        (with_reducible refine (HMP.out _ (by first | with_reducible exact HQ.below)).mono ?_)
        rintro e w7 ⟨A6, c6, rfl, ho6, hb7⟩
        have HCAP := Lib.hid (own_capT ho6)
        have hb8 := fun b hb => own_block ho6 b hb
        (try simp only [World.size_alloc] at hb8)
        (try simp only [hwB] at hb8)
        have hs8 := hb7.size
        (try simp only [World.size_alloc] at hs8)
        (try simp only [hwB] at hs8)
        have HAT := Lib.hid (And.intro hb8 (fun b hb => (ho6.lt b hb).2))
        have HO := Lib.hid (own_base ho6 (base' := 0) (Nat.zero_le _))
        have HQ := HQ.later hb7
        clear hb7 hb8 ho6
        (try go_wp2_with fail)
        refine hK.out _ _ (by (try dsimp only); (first | with_reducible exact HC _ HQ | with_reducible exact HC _ HQ.tail)) (fun hHeld => ?_)
        clear hK K
        (try simp only [Act.put, List.setIfInBounds_toArray, List.set_cons_zero, List.set_cons_succ])
        refine wpAnyH_take (i := 6) (oi := { dst := some 17, op := Op.move (Operand.tmp 23), type := 74, pos := "l15_texture.go:90", after := #[{ on := 5, ground := Ground.data }], guard := none }) (v := ?_) rfl (by kernel_rfl) (by kernel_rfl) (by kernel_rfl) (fun _ _ _ h => h) (Or.inl ⟨by rfl, ?_⟩) (by assumption) ?_
        rotate_left 1
        · (intro w hSw; (try dsimp only at hSw); go_simp <;> with_reducible rfl)
        (try simp only [Act.put, List.setIfInBounds_toArray, List.set_cons_zero, List.set_cons_succ])
        refine wpAnyH_take (i := 7) (oi := { dst := some 24, op := Op.extract (Operand.tmp 17) 0, type := 25, pos := "l15_texture.go:90", after := #[{ on := 6, ground := Ground.data }], guard := none }) (v := ?_) rfl (by kernel_rfl) (by kernel_rfl) (by kernel_rfl) (fun _ _ _ h => h) (Or.inl ⟨by rfl, ?_⟩) (by assumption) ?_
        rotate_left 1
        · (intro w hSw; (try dsimp only at hSw); go_simp <;> with_reducible rfl)
        (try simp only [Act.put, List.setIfInBounds_toArray, List.set_cons_zero, List.set_cons_succ])
        refine wpAnyH_take (i := 8) (oi := { dst := some 25, op := Op.extract (Operand.tmp 17) 1, type := 4, pos := "l15_texture.go:90", after := #[{ on := 6, ground := Ground.data }, { on := 10, ground := Ground.gcOnly Departure.lateStores }], guard := none }) (v := ?_) rfl (by kernel_rfl) (by kernel_rfl) (by kernel_rfl) (fun _ _ _ h => h) (Or.inl ⟨by rfl, ?_⟩) (by assumption) ?_
        rotate_left 1
        · (intro w hSw; (try dsimp only at hSw); go_simp <;> with_reducible rfl)
        (try simp only [Act.put, List.setIfInBounds_toArray, List.set_cons_zero, List.set_cons_succ])
        refine wpAnyH_ready (rs := [9]) (by kernel_rfl) (by simp) ?_
        refine AllReadyH.cons (o := { dst := some 9, op := Op.alloc 25, type := 0, pos := "l15_texture.go:90", after := #[], guard := none }) rfl (fun K hK => ?_) ?_
        · go_simp
          have HPre := HQ
          (try have HOP := HO)
          (try have HO := Lib.hid (HO.out.alloc (.cells #[.int .i64 0, .slice none 0 0] 25)))
          have HQ := HQ.new #[.int .i64 0, .slice none 0 0] 25
          (try rw [World.size_alloc] at HQ)
          (try rw [hwB] at HQ)
          refine hK.out _ _ (by (try dsimp only); (first | with_reducible exact HC _ HQ | with_reducible exact HC _ HQ.tail)) (fun hHeld => ?_)
          clear hK K
          (try simp only [Act.put, List.setIfInBounds_toArray, List.set_cons_zero, List.set_cons_succ])
          refine wpAnyH_ready (rs := [10]) (by kernel_rfl) (by simp) ?_
          refine AllReadyH.cons (o := { dst := none, op := Op.store 25 (Operand.tmp 9) (Operand.tmp 24), type := 0, pos := "l15_texture.go:90", after := #[{ on := 9, ground := Ground.data }, { on := 7, ground := Ground.data }, { on := 5, ground := Ground.chain }, { on := 0, ground := Ground.phase }, { on := 1, ground := Ground.phase }, { on := 2, ground := Ground.phase }, { on := 3, ground := Ground.phase }, { on := 4, ground := Ground.phase }, { on := 5, ground := Ground.phase }, { on := 6, ground := Ground.phase }, { on := 7, ground := Ground.phase }, { on := 8, ground := Ground.textOnly Departure.lateStores }, { on := 9, ground := Ground.phase }], guard := none }) rfl (fun K hK => ?_) ?_
          · have c60 := (HQ.box 0).c 0
            have c61 := (HQ.box 0).c 1
            have f60 := (HQ.box 0).f 0
            have f61 := (HQ.box 0).f 1
            go_simp
            clear c60 c61 f60 f61
            first | (have HX := (HQ.put (by have := HORD.out; omega) (fun p hp => by (have h1 := HORD.out; simp only [List.mem_cons, List.not_mem_nil, or_false] at hp; rcases hp with rfl; (show _ ≠ _); omega)) 0 (.int .i64 Lm)).put (by have := HORD.out; omega) (fun p hp => by (have h1 := HORD.out; simp only [List.mem_cons, List.not_mem_nil, or_false] at hp; rcases hp with rfl; (show _ ≠ _); omega)) 1 (.slice A6 M.length c6); refine hK.out _ _ (by (try dsimp only); exact HC _ HX.tail) (fun hHeld => ?_); have HO := Lib.hid (own_set2 HO.out HQ (by intro e; have h1 := HAT.out.1 _ e; have h2 := HAT.out.2 _ e; omega) (.int .i64 Lm) (.slice A6 M.length c6)); have HQ := HX) | (have HQ := HPre.new #[.int .i64 Lm, .slice A6 M.length c6] 25; refine hK.out _ _ (by (try dsimp only); exact HC _ HQ.tail) (fun hHeld => ?_); have HO := Lib.hid (HOP.out.alloc (.cells #[.int .i64 Lm, .slice A6 M.length c6] 25)))
            clear hK K
            (try simp only [Act.put, List.setIfInBounds_toArray, List.set_cons_zero, List.set_cons_succ])
            refine wpAnyH_take (i := 11) (oi := { dst := some 10, op := Op.assign (Operand.tmp 25), type := 4, pos := "l15_texture.go:90", after := #[{ on := 8, ground := Ground.data }, { on := 10, ground := Ground.chain }, { on := 0, ground := Ground.phase }, { on := 1, ground := Ground.phase }, { on := 2, ground := Ground.phase }, { on := 3, ground := Ground.phase }, { on := 4, ground := Ground.phase }, { on := 5, ground := Ground.phase }, { on := 6, ground := Ground.phase }, { on := 7, ground := Ground.phase }, { on := 8, ground := Ground.phase }, { on := 9, ground := Ground.phase }, { on := 10, ground := Ground.phase }], guard := none }) (v := ?_) rfl (by kernel_rfl) (by kernel_rfl) (by kernel_rfl) (fun _ _ _ h => h) (Or.inl ⟨by rfl, ?_⟩) (by assumption) ?_
            rotate_left 1
            · (intro w hSw; (try dsimp only at hSw); go_simp <;> with_reducible rfl)
            (try simp only [Act.put, List.setIfInBounds_toArray, List.set_cons_zero, List.set_cons_succ])
            refine wpAnyH_done (by kernel_rfl) ?_ _
            clear hHeld
            go_wp2
            go_meet
            exact ⟨_, A6, c6, rfl, rfl, HQ, Row.of_own HO.out, HCAP.out⟩
          exact AllReadyH.nil
        exact AllReadyH.nil
      refine AllReadyH.cons (o := { dst := some 9, op := Op.alloc 25, type := 0, pos := "l15_texture.go:90", after := #[], guard := none }) rfl (fun K hK => ?_) ?_
      · go_simp
        have HPre := HQ
        (try have HOP := HO)
        (try have HO := Lib.hid (HO.out.alloc (.cells #[.int .i64 0, .slice none 0 0] 25)))
        have HQ := HQ.new #[.int .i64 0, .slice none 0 0] 25
        (try rw [World.size_alloc] at HQ)
        (try rw [hwB] at HQ)
        refine hK.out _ _ (by (try dsimp only); (first | with_reducible exact HC _ HQ | with_reducible exact HC _ HQ.tail)) (fun hHeld => ?_)
        clear hK K
        (try simp only [Act.put, List.setIfInBounds_toArray, List.set_cons_zero, List.set_cons_succ])
        refine wpAnyH_ready (rs := [5]) (by kernel_rfl) (by simp) ?_
        refine AllReadyH.cons (o := { dst := some 23, op := Op.call { callee := Callee.value (Operand.func 50), args := #[Operand.tmp 18, Operand.tmp 22], argTypes := #[25, 3] }, type := 74, pos := "l15_texture.go:90", after := #[{ on := 0, ground := Ground.data }, { on := 4, ground := Ground.data }, { on := 4, ground := Ground.chain }], guard := none }) rfl (fun K hK => ?_) ?_
        · go_simp
          (with_reducible refine (HMP.out _ (by first | with_reducible exact HQ.below)).mono ?_)
          rintro e w7 ⟨A6, c6, rfl, ho6, hb7⟩
          have HCAP := Lib.hid (own_capT ho6)
          have hb8 := fun b hb => own_block ho6 b hb
          (try simp only [World.size_alloc] at hb8)
          (try simp only [hwB] at hb8)
          have hs8 := hb7.size
          (try simp only [World.size_alloc] at hs8)
          (try simp only [hwB] at hs8)
          have HAT := Lib.hid (And.intro hb8 (fun b hb => (ho6.lt b hb).2))
          have HO := Lib.hid (own_base ho6 (base' := 0) (Nat.zero_le _))
          have HQ := HQ.later hb7
          clear hb7 hb8 ho6
          (try go_wp2_with fail)
          refine hK.out _ _ (by (try dsimp only); (first | with_reducible exact HC _ HQ | with_reducible exact HC _ HQ.tail)) (fun hHeld => ?_)
          clear hK K
          (try simp only [Act.put, List.setIfInBounds_toArray, List.set_cons_zero, List.set_cons_succ])
          refine wpAnyH_take (i := 6) (oi := { dst := some 17, op := Op.move (Operand.tmp 23), type := 74, pos := "l15_texture.go:90", after := #[{ on := 5, ground := Ground.data }], guard := none }) (v := ?_) rfl (by kernel_rfl) (by kernel_rfl) (by kernel_rfl) (fun _ _ _ h => h) (Or.inl ⟨by rfl, ?_⟩) (by assumption) ?_
          rotate_left 1
          · (intro w hSw; (try dsimp only at hSw); go_simp <;> with_reducible rfl)
          (try simp only [Act.put, List.setIfInBounds_toArray, List.set_cons_zero, List.set_cons_succ])
          refine wpAnyH_take (i := 7) (oi := { dst := some 24, op := Op.extract (Operand.tmp 17) 0, type := 25, pos := "l15_texture.go:90", after := #[{ on := 6, ground := Ground.data }], guard := none }) (v := ?_) rfl (by kernel_rfl) (by kernel_rfl) (by kernel_rfl) (fun _ _ _ h => h) (Or.inl ⟨by rfl, ?_⟩) (by assumption) ?_
          rotate_left 1
          · (intro w hSw; (try dsimp only at hSw); go_simp <;> with_reducible rfl)
          (try simp only [Act.put, List.setIfInBounds_toArray, List.set_cons_zero, List.set_cons_succ])
          refine wpAnyH_take (i := 8) (oi := { dst := some 25, op := Op.extract (Operand.tmp 17) 1, type := 4, pos := "l15_texture.go:90", after := #[{ on := 6, ground := Ground.data }, { on := 10, ground := Ground.gcOnly Departure.lateStores }], guard := none }) (v := ?_) rfl (by kernel_rfl) (by kernel_rfl) (by kernel_rfl) (fun _ _ _ h => h) (Or.inl ⟨by rfl, ?_⟩) (by assumption) ?_
          rotate_left 1
          · (intro w hSw; (try dsimp only at hSw); go_simp <;> with_reducible rfl)
          (try simp only [Act.put, List.setIfInBounds_toArray, List.set_cons_zero, List.set_cons_succ])
          refine wpAnyH_ready (rs := [10]) (by kernel_rfl) (by simp) ?_
          refine AllReadyH.cons (o := { dst := none, op := Op.store 25 (Operand.tmp 9) (Operand.tmp 24), type := 0, pos := "l15_texture.go:90", after := #[{ on := 9, ground := Ground.data }, { on := 7, ground := Ground.data }, { on := 5, ground := Ground.chain }, { on := 0, ground := Ground.phase }, { on := 1, ground := Ground.phase }, { on := 2, ground := Ground.phase }, { on := 3, ground := Ground.phase }, { on := 4, ground := Ground.phase }, { on := 5, ground := Ground.phase }, { on := 6, ground := Ground.phase }, { on := 7, ground := Ground.phase }, { on := 8, ground := Ground.textOnly Departure.lateStores }, { on := 9, ground := Ground.phase }], guard := none }) rfl (fun K hK => ?_) ?_
          · have c60 := (HQ.box 0).c 0
            have c61 := (HQ.box 0).c 1
            have f60 := (HQ.box 0).f 0
            have f61 := (HQ.box 0).f 1
            go_simp
            clear c60 c61 f60 f61
            first | (have HX := (HQ.put (by have := HORD.out; omega) (fun p hp => by (have h1 := HORD.out; simp only [List.mem_cons, List.not_mem_nil, or_false] at hp; rcases hp with rfl; (show _ ≠ _); omega)) 0 (.int .i64 Lm)).put (by have := HORD.out; omega) (fun p hp => by (have h1 := HORD.out; simp only [List.mem_cons, List.not_mem_nil, or_false] at hp; rcases hp with rfl; (show _ ≠ _); omega)) 1 (.slice A6 M.length c6); refine hK.out _ _ (by (try dsimp only); exact HC _ HX.tail) (fun hHeld => ?_); have HO := Lib.hid (own_set2 HO.out HQ (by intro e; have h1 := HAT.out.1 _ e; have h2 := HAT.out.2 _ e; omega) (.int .i64 Lm) (.slice A6 M.length c6)); have HQ := HX) | (have HQ := HPre.new #[.int .i64 Lm, .slice A6 M.length c6] 25; refine hK.out _ _ (by (try dsimp only); exact HC _ HQ.tail) (fun hHeld => ?_); have HO := Lib.hid (HOP.out.alloc (.cells #[.int .i64 Lm, .slice A6 M.length c6] 25)))
            clear hK K
            (try simp only [Act.put, List.setIfInBounds_toArray, List.set_cons_zero, List.set_cons_succ])
            refine wpAnyH_take (i := 11) (oi := { dst := some 10, op := Op.assign (Operand.tmp 25), type := 4, pos := "l15_texture.go:90", after := #[{ on := 8, ground := Ground.data }, { on := 10, ground := Ground.chain }, { on := 0, ground := Ground.phase }, { on := 1, ground := Ground.phase }, { on := 2, ground := Ground.phase }, { on := 3, ground := Ground.phase }, { on := 4, ground := Ground.phase }, { on := 5, ground := Ground.phase }, { on := 6, ground := Ground.phase }, { on := 7, ground := Ground.phase }, { on := 8, ground := Ground.phase }, { on := 9, ground := Ground.phase }, { on := 10, ground := Ground.phase }], guard := none }) (v := ?_) rfl (by kernel_rfl) (by kernel_rfl) (by kernel_rfl) (fun _ _ _ h => h) (Or.inl ⟨by rfl, ?_⟩) (by assumption) ?_
            rotate_left 1
            · (intro w hSw; (try dsimp only at hSw); go_simp <;> with_reducible rfl)
            (try simp only [Act.put, List.setIfInBounds_toArray, List.set_cons_zero, List.set_cons_succ])
            refine wpAnyH_done (by kernel_rfl) ?_ _
            clear hHeld
            go_wp2
            go_meet
            exact ⟨_, A6, c6, rfl, rfl, HQ, Row.of_own HO.out, HCAP.out⟩
          exact AllReadyH.nil
        exact AllReadyH.nil
      exact AllReadyH.nil
    refine AllReadyH.cons (o := { dst := some 9, op := Op.alloc 25, type := 0, pos := "l15_texture.go:90", after := #[], guard := none }) rfl (fun K hK => ?_) ?_
    · go_simp
      have HPre := HQ
      (try have HOP := HO)
      (try have HO := Lib.hid (HO.out.alloc (.cells #[.int .i64 0, .slice none 0 0] 25)))
      have HQ := HQ.new #[.int .i64 0, .slice none 0 0] 25
      (try rw [World.size_alloc] at HQ)
      (try rw [hwB] at HQ)
      refine hK.out _ _ (by (try dsimp only); (first | with_reducible exact HC _ HQ | with_reducible exact HC _ HQ.tail)) (fun hHeld => ?_)
      clear hK K
      (try simp only [Act.put, List.setIfInBounds_toArray, List.set_cons_zero, List.set_cons_succ])
      refine wpAnyH_ready (rs := [4]) (by kernel_rfl) (by simp) ?_
      refine AllReadyH.cons (o := { dst := some 22, op := Op.call { callee := Callee.value (Operand.func 51), args := #[Operand.tmp 19, Operand.const (Value.int IntKind.i64 0), Operand.tmp 21], argTypes := #[3, 3, 3] }, type := 3, pos := "l15_texture.go:90", after := #[{ on := 1, ground := Ground.data }, { on := 3, ground := Ground.data }], guard := none }) rfl (fun K hK => ?_) ?_
      · go_simp
        (with_reducible refine (HCL.out _).mono ?_)
        rintro e w7 ⟨rfl, rfl⟩
        (try go_wp2_with fail)
        refine hK.out _ _ (by (try dsimp only); (first | with_reducible exact HC _ HQ | with_reducible exact HC _ HQ.tail)) (fun hHeld => ?_)
        clear hK K
        (try simp only [Act.put, List.setIfInBounds_toArray, List.set_cons_zero, List.set_cons_succ])
        refine wpAnyH_ready (rs := [5]) (by kernel_rfl) (by simp) ?_
        refine AllReadyH.cons (o := { dst := some 23, op := Op.call { callee := Callee.value (Operand.func 50), args := #[Operand.tmp 18, Operand.tmp 22], argTypes := #[25, 3] }, type := 74, pos := "l15_texture.go:90", after := #[{ on := 0, ground := Ground.data }, { on := 4, ground := Ground.data }, { on := 4, ground := Ground.chain }], guard := none }) rfl (fun K hK => ?_) ?_
        · go_simp
          (with_reducible refine (HMP.out _ (by first | with_reducible exact HQ.below)).mono ?_)
          rintro e w7 ⟨A6, c6, rfl, ho6, hb7⟩
          have HCAP := Lib.hid (own_capT ho6)
          have hb8 := fun b hb => own_block ho6 b hb
          (try simp only [World.size_alloc] at hb8)
          (try simp only [hwB] at hb8)
          have hs8 := hb7.size
          (try simp only [World.size_alloc] at hs8)
          (try simp only [hwB] at hs8)
          have HAT := Lib.hid (And.intro hb8 (fun b hb => (ho6.lt b hb).2))
          have HO := Lib.hid (own_base ho6 (base' := 0) (Nat.zero_le _))
          have HQ := HQ.later hb7
          clear hb7 hb8 ho6
          (try go_wp2_with fail)
          refine hK.out _ _ (by (try dsimp only); (first | with_reducible exact HC _ HQ | with_reducible exact HC _ HQ.tail)) (fun hHeld => ?_)
          clear hK K
          (try simp only [Act.put, List.setIfInBounds_toArray, List.set_cons_zero, List.set_cons_succ])
          refine wpAnyH_take (i := 6) (oi := { dst := some 17, op := Op.move (Operand.tmp 23), type := 74, pos := "l15_texture.go:90", after := #[{ on := 5, ground := Ground.data }], guard := none }) (v := ?_) rfl (by kernel_rfl) (by kernel_rfl) (by kernel_rfl) (fun _ _ _ h => h) (Or.inl ⟨by rfl, ?_⟩) (by assumption) ?_
          rotate_left 1
          · (intro w hSw; (try dsimp only at hSw); go_simp <;> with_reducible rfl)
          (try simp only [Act.put, List.setIfInBounds_toArray, List.set_cons_zero, List.set_cons_succ])
          refine wpAnyH_take (i := 7) (oi := { dst := some 24, op := Op.extract (Operand.tmp 17) 0, type := 25, pos := "l15_texture.go:90", after := #[{ on := 6, ground := Ground.data }], guard := none }) (v := ?_) rfl (by kernel_rfl) (by kernel_rfl) (by kernel_rfl) (fun _ _ _ h => h) (Or.inl ⟨by rfl, ?_⟩) (by assumption) ?_
          rotate_left 1
          · (intro w hSw; (try dsimp only at hSw); go_simp <;> with_reducible rfl)
          (try simp only [Act.put, List.setIfInBounds_toArray, List.set_cons_zero, List.set_cons_succ])
          refine wpAnyH_take (i := 8) (oi := { dst := some 25, op := Op.extract (Operand.tmp 17) 1, type := 4, pos := "l15_texture.go:90", after := #[{ on := 6, ground := Ground.data }, { on := 10, ground := Ground.gcOnly Departure.lateStores }], guard := none }) (v := ?_) rfl (by kernel_rfl) (by kernel_rfl) (by kernel_rfl) (fun _ _ _ h => h) (Or.inl ⟨by rfl, ?_⟩) (by assumption) ?_
          rotate_left 1
          · (intro w hSw; (try dsimp only at hSw); go_simp <;> with_reducible rfl)
          (try simp only [Act.put, List.setIfInBounds_toArray, List.set_cons_zero, List.set_cons_succ])
          refine wpAnyH_ready (rs := [10]) (by kernel_rfl) (by simp) ?_
          refine AllReadyH.cons (o := { dst := none, op := Op.store 25 (Operand.tmp 9) (Operand.tmp 24), type := 0, pos := "l15_texture.go:90", after := #[{ on := 9, ground := Ground.data }, { on := 7, ground := Ground.data }, { on := 5, ground := Ground.chain }, { on := 0, ground := Ground.phase }, { on := 1, ground := Ground.phase }, { on := 2, ground := Ground.phase }, { on := 3, ground := Ground.phase }, { on := 4, ground := Ground.phase }, { on := 5, ground := Ground.phase }, { on := 6, ground := Ground.phase }, { on := 7, ground := Ground.phase }, { on := 8, ground := Ground.textOnly Departure.lateStores }, { on := 9, ground := Ground.phase }], guard := none }) rfl (fun K hK => ?_) ?_
          · have c60 := (HQ.box 0).c 0
            have c61 := (HQ.box 0).c 1
            have f60 := (HQ.box 0).f 0
            have f61 := (HQ.box 0).f 1
            go_simp
            clear c60 c61 f60 f61
            first | (have HX := (HQ.put (by have := HORD.out; omega) (fun p hp => by (have h1 := HORD.out; simp only [List.mem_cons, List.not_mem_nil, or_false] at hp; rcases hp with rfl; (show _ ≠ _); omega)) 0 (.int .i64 Lm)).put (by have := HORD.out; omega) (fun p hp => by (have h1 := HORD.out; simp only [List.mem_cons, List.not_mem_nil, or_false] at hp; rcases hp with rfl; (show _ ≠ _); omega)) 1 (.slice A6 M.length c6); refine hK.out _ _ (by (try dsimp only); exact HC _ HX.tail) (fun hHeld => ?_); have HO := Lib.hid (own_set2 HO.out HQ (by intro e; have h1 := HAT.out.1 _ e; have h2 := HAT.out.2 _ e; omega) (.int .i64 Lm) (.slice A6 M.length c6)); have HQ := HX) | (have HQ := HPre.new #[.int .i64 Lm, .slice A6 M.length c6] 25; refine hK.out _ _ (by (try dsimp only); exact HC _ HQ.tail) (fun hHeld => ?_); have HO := Lib.hid (HOP.out.alloc (.cells #[.int .i64 Lm, .slice A6 M.length c6] 25)))
            clear hK K
            (try simp only [Act.put, List.setIfInBounds_toArray, List.set_cons_zero, List.set_cons_succ])
            refine wpAnyH_take (i := 11) (oi := { dst := some 10, op := Op.assign (Operand.tmp 25), type := 4, pos := "l15_texture.go:90", after := #[{ on := 8, ground := Ground.data }, { on := 10, ground := Ground.chain }, { on := 0, ground := Ground.phase }, { on := 1, ground := Ground.phase }, { on := 2, ground := Ground.phase }, { on := 3, ground := Ground.phase }, { on := 4, ground := Ground.phase }, { on := 5, ground := Ground.phase }, { on := 6, ground := Ground.phase }, { on := 7, ground := Ground.phase }, { on := 8, ground := Ground.phase }, { on := 9, ground := Ground.phase }, { on := 10, ground := Ground.phase }], guard := none }) (v := ?_) rfl (by kernel_rfl) (by kernel_rfl) (by kernel_rfl) (fun _ _ _ h => h) (Or.inl ⟨by rfl, ?_⟩) (by assumption) ?_
            rotate_left 1
            · (intro w hSw; (try dsimp only at hSw); go_simp <;> with_reducible rfl)
            (try simp only [Act.put, List.setIfInBounds_toArray, List.set_cons_zero, List.set_cons_succ])
            refine wpAnyH_done (by kernel_rfl) ?_ _
            clear hHeld
            go_wp2
            go_meet
            exact ⟨_, A6, c6, rfl, rfl, HQ, Row.of_own HO.out, HCAP.out⟩
          exact AllReadyH.nil
        exact AllReadyH.nil
      exact AllReadyH.nil
    exact AllReadyH.nil
  case rest =>
    clear HC HQ HCL HMP
    obtain ⟨g, A6, c6, rfl, rfl, HT, hrw, hcap⟩ := hcut
    have HCAP := Lib.hid hcap
    clear hcap
    cases fl with
    | false =>
      have HP := Lib.hid (HNO.out rfl)
      have HBB2 := Lib.hid HT.below
      clear HT hrw
      go_wp2_with fail
      go_ret
      exact ⟨by rw [HP.out]; rfl, HBB2.out⟩
    | true =>
      have HYES := Lib.hid (HYS.out rfl)
      have hokM := HYES.out.1
      have hlk := HYES.out.2
      have hcap := HCAP.out
      have HLK0 := Lib.hid hlk
      clear hlk
      obtain ⟨n, hn⟩ : ∃ n, n = sd Lm := ⟨_, rfl⟩
      have hn16 : n ≤ 16 := by rw [hn]; exact sd_le hokM.1
      have hcu := ccT_bd u
      have hcv := ccT_bd v
      obtain ⟨s, hs⟩ : ∃ s, s = ccT u * (sd Lm : Int) - 128 := ⟨_, rfl⟩
      obtain ⟨r, hr⟩ : ∃ r, r = ccT v * (sd Lm : Int) - 128 := ⟨_, rfl⟩
      have HPU := Lib.hid (fun W => placeIn_any Lm A6 M.length c6 u s W hokM.1 hs)
      have HPV := Lib.hid (fun W => placeIn_any Lm A6 M.length c6 v r W hokM.1 hr)
      have hpu := pos_bd hcu hn16
      have hpv := pos_bd hcv hn16
      rw [hn] at hpu hpv
      have hsb : -16000128 ≤ s ∧ s ≤ 16000000 := by omega
      have hrb : -16000128 ≤ r ∧ r ≤ 16000000 := by omega
      obtain ⟨x, hx⟩ : ∃ x, x = s / 256 := ⟨_, rfl⟩
      obtain ⟨y, hy⟩ : ∃ y, y = r / 256 := ⟨_, rfl⟩
      have hfx : 0 ≤ s - 256 * x ∧ s - 256 * x ≤ 255 ∧ -70000 ≤ x ∧ x ≤ 70000 := by omega
      have hfy : 0 ≤ r - 256 * y ∧ r - 256 * y ≤ 255 ∧ -70000 ≤ y ∧ y ≤ 70000 := by omega
      rw [← hx] at HPU
      rw [← hy] at HPV
      obtain ⟨fx, hfx'⟩ : ∃ f, f = s - 256 * x := ⟨_, rfl⟩
      obtain ⟨fy, hfy'⟩ : ∃ f, f = r - 256 * y := ⟨_, rfl⟩
      rw [← hfx'] at hfx HPU
      rw [← hfy'] at hfy HPV
      have HT9 : Held wc wc [(g, [.int .i64 Lm, .slice A6 M.length c6])] := ((Held.nil wc).cons (HT.box 0))
      have HTW := Lib.hid HT.below
      have HRw := Lib.hid (fun W (h : Below wc.heap.size wc W) => hrw.later h)
      have HTX := Lib.hid (fun (x y : Int) (hx0 : -80000 ≤ x ∧ x ≤ 80000) (hy0 : -80000 ≤ y ∧ y ≤ 80000) W (h : Below wc.heap.size wc W) => texelAt_any Lm A6 c6 M x y W (HRw.out W h) hcap hokM (by omega) (by omega) (by omega) (by omega))
      obtain ⟨a0, ha0⟩ : ∃ a, a = txl Lm M x y := ⟨_, rfl⟩
      obtain ⟨a1, ha1⟩ : ∃ a, a = txl Lm M (x + 1) y := ⟨_, rfl⟩
      obtain ⟨a2, ha2⟩ : ∃ a, a = txl Lm M x (y + 1) := ⟨_, rfl⟩
      obtain ⟨a3, ha3⟩ : ∃ a, a = txl Lm M (x + 1) (y + 1) := ⟨_, rfl⟩
      have hb0 := txl_bd hokM x y
      have hb1 := txl_bd hokM (x + 1) y
      have hb2 := txl_bd hokM x (y + 1)
      have hb3 := txl_bd hokM (x + 1) (y + 1)
      have HX0 := Lib.hid (HTX.out x y (by omega) (by omega))
      have HX1 := Lib.hid (HTX.out (x + 1) y (by omega) (by omega))
      have HX2 := Lib.hid (HTX.out x (y + 1) (by omega) (by omega))
      have HX3 := Lib.hid (HTX.out (x + 1) (y + 1) (by omega) (by omega))
      rw [← ha0] at hb0 HX0
      rw [← ha1] at hb1 HX1
      rw [← ha2] at hb2 HX2
      rw [← ha3] at hb3 HX3
      obtain ⟨T, hT⟩ : ∃ T, T = itT a0 a1 fx := ⟨_, rfl⟩
      obtain ⟨U, hU⟩ : ∃ U, U = itT a2 a3 fx := ⟨_, rfl⟩
      have hTb : 0 ≤ T ∧ T ≤ 65536 := by rw [hT]; exact itT_bd hb0 hb1 ⟨hfx.1, hfx.2.1⟩
      have hUb : 0 ≤ U ∧ U ≤ 65536 := by rw [hU]; exact itT_bd hb2 hb3 ⟨hfx.1, hfx.2.1⟩
      have HB1 := Lib.hid (fun W => blend_any a0 a1 fx W (by omega) (by omega) ⟨hfx.1, hfx.2.1⟩)
      have HB2 := Lib.hid (fun W => blend_any a2 a3 fx W (by omega) (by omega) ⟨hfx.1, hfx.2.1⟩)
      have HB3 := Lib.hid (fun W => blend_any T U fy W hTb hUb ⟨hfy.1, hfy.2.1⟩)
      rw [← hT] at HB1
      rw [← hU] at HB2
      have e16 : IntKind.i64.wrap (x + 1) = x + 1 := wrap_v (by omega)
      have e17 : IntKind.i64.wrap (y + 1) = y + 1 := wrap_v (by omega)
      obtain ⟨Z, hZ⟩ : ∃ Z, Z = itT T U fy := ⟨_, rfl⟩
      have hZb : 0 ≤ Z ∧ Z ≤ 16777216 := by rw [hZ]; exact itT_bd hTb hUb ⟨hfy.1, hfy.2.1⟩
      rw [← hZ] at HB3
      obtain ⟨q, hq⟩ : ∃ q, q = fdivP Z 65536 := ⟨_, rfl⟩
      have hqz : q = Z / 65536 := by rw [hq]; unfold fdivP; rw [if_neg (by omega)]
      have e21 : Z.tdiv 65536 = q := by rw [Int.tdiv_eq_ediv_of_nonneg (by omega), hqz]
      have e22 : IntKind.i64.wrap q = q := wrap_v (by omega)
      have HLK : Hid (lkP L ts u v lv = q) := Lib.hid (by
        rw [HLK0.out, hq]
        unfold lkL
        dsimp only
        rw [← hs, ← hr, ← hx, ← hy, ← hfx', ← hfy', ← ha0, ← ha1, ← ha2, ← ha3, ← hT, ← hU, ← hZ])
      have HC : ∀ W', Held wc W' [(g, [.int .i64 Lm, .slice A6 M.length c6])] → W'.cell? ⟨g, 0, none⟩ = some (.int .i64 Lm) ∧ W'.cell? ⟨g, 1, none⟩ = some (.slice A6 M.length c6) := fun W' h => ⟨(h.box 0).c 0, (h.box 0).c 1⟩
      have n0 := (HT.box 0).c 0
      have n1 := (HT.box 0).c 1
      obtain ⟨w9, hw9⟩ : ∃ x, x = wc := ⟨_, rfl⟩
      rw [← hw9] at HT9 HTW HX0 HX1 HX2 HX3 HC n0 n1 ⊢
      have HT := HT9
      clear HT9 hw9 hrw HRw HTX hokM hcap hcu hcv hpu hpv hs hr hsb hrb hx hy hfx hfy hfx' hfy' ha0 ha1 ha2 ha3 hb0 hb1 hb2 hb3 hT hU hTb hUb hZ hZb hq hqz hn hn16
      go_wp2_with fail
      refine (HPU.out _).mono ?_
      rintro e w3 ⟨rfl, hb3⟩
      have HT := HT.later hb3
      have n0 := (HT.box 0).c 0
      have n1 := (HT.box 0).c 1
      clear hb3
      go_wp2_with fail
      refine (HPV.out _).mono ?_
      rintro e w4 ⟨rfl, hb4⟩
      have HT := HT.later hb4
      clear n0 n1 hb4
      go_upto_region 6 with fail
      go_cut [15] (fun y wx => y = .int .i64 T ∧ Held w9 wx [(g, [.int .i64 Lm, .slice A6 M.length c6])])
      case first =>
        go_region_held3 (fun W' => W'.cell? ⟨g, 0, none⟩ = some (.int .i64 Lm) ∧ W'.cell? ⟨g, 1, none⟩ = some (.slice A6 M.length c6))
          (first | (with_reducible exact HC _ HT) | (with_reducible exact HC _ HT.drew))
          ((first | (go_at_call 54; (with_reducible refine (HX0.out _ (by first | with_reducible exact HT.below | with_reducible exact HT.drew.below)).mono ?_); rintro e w7 ⟨rfl, hb7⟩; (first | (have HT := HT.later hb7) | (have HT := HT.drew.later hb7))) | (go_at_call 54; (with_reducible refine (HX1.out _ (by first | with_reducible exact HT.below | with_reducible exact HT.drew.below)).mono ?_); rintro e w7 ⟨rfl, hb7⟩; (first | (have HT := HT.later hb7) | (have HT := HT.drew.later hb7))) | (go_at_call 53; (with_reducible refine (HB1.out _).mono ?_); rintro e w7 ⟨rfl, rfl⟩)))
        all_goals (go_wp2_with fail; go_meet)
        all_goals (first | exact ⟨rfl, HT⟩ | exact ⟨rfl, HT.drew⟩)
      case rest =>
        clear HX0 HX1
        obtain ⟨rfl, HT⟩ := hcut
        go_upto_region 7 with fail
        go_cut [16] (fun y wx => y = .int .i64 U ∧ Held w9 wx [(g, [.int .i64 Lm, .slice A6 M.length c6])])
        case first =>
          go_region_held3 (fun W' => W'.cell? ⟨g, 0, none⟩ = some (.int .i64 Lm) ∧ W'.cell? ⟨g, 1, none⟩ = some (.slice A6 M.length c6))
            (first | (with_reducible exact HC _ HT) | (with_reducible exact HC _ HT.drew))
            ((first | (go_at_call 54; (with_reducible refine (HX2.out _ (by first | with_reducible exact HT.below | with_reducible exact HT.drew.below)).mono ?_); rintro e w7 ⟨rfl, hb7⟩; (first | (have HT := HT.later hb7) | (have HT := HT.drew.later hb7))) | (go_at_call 54; (with_reducible refine (HX3.out _ (by first | with_reducible exact HT.below | with_reducible exact HT.drew.below)).mono ?_); rintro e w7 ⟨rfl, hb7⟩; (first | (have HT := HT.later hb7) | (have HT := HT.drew.later hb7))) | (go_at_call 53; (with_reducible refine (HB2.out _).mono ?_); rintro e w7 ⟨rfl, rfl⟩)))
          all_goals (go_wp2_with fail; go_meet)
          all_goals (first | exact ⟨rfl, HT⟩ | exact ⟨rfl, HT.drew⟩)
        case rest =>
          clear HX2 HX3 HC e16 e17
          obtain ⟨rfl, HT⟩ := hcut
          have HBF := Lib.hid (HTW.out.trans (HT.below.mono HTW.out.size))
          clear HT
          go_wp2_with fail
          refine (HB3.out _).mono ?_
          rintro e w5 ⟨rfl, rfl⟩
          go_wp2_with fail
          go_ret
          exact ⟨by rw [HLK.out]; rfl, HBF.out⟩
end Go.Proofs.Ytaelhbbfddcabaa
