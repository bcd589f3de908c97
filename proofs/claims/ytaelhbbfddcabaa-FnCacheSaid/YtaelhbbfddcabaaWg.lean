/- CachedLookup of the model. -/
import Derived.Test.YtaelhbbfddcabaaProg
import Derived.Test.YtaelhbbfddcabaaInts
import Derived.Test.YtaelhbbfddcabaaVbox
import Derived.Test.YtaelhbbfddcabaaHeld
import Derived.Test.YtaelhbbfddcabaaMem
import Derived.Test.YtaelhbbfddcabaaFlat
import Derived.Test.YtaelhbbfddcabaaRowC
import Derived.Test.YtaelhbbfddcabaaKS
import Derived.Test.YtaelhbbfddcabaaStrS
import Derived.Test.YtaelhbbfddcabaaIntS
import Derived.Test.YtaelhbbfddcabaaSS
import Derived.Test.YtaelhbbfddcabaaVi
import Derived.Test.YtaelhbbfddcabaaVa
import Derived.Test.YtaelhbbfddcabaaVb
import Derived.Test.YtaelhbbfddcabaaVc
import Derived.Test.YtaelhbbfddcabaaWa
import Derived.Test.YtaelhbbfddcabaaWb
import Derived.Test.YtaelhbbfddcabaaVd
import Derived.Test.YtaelhbbfddcabaaVe
import Derived.Test.YtaelhbbfddcabaaVf
import Derived.Test.YtaelhbbfddcabaaVg
import Derived.Test.YtaelhbbfddcabaaVh
import Derived.Test.YtaelhbbfddcabaaWc
import Derived.Test.YtaelhbbfddcabaaWd
import Derived.Test.YtaelhbbfddcabaaWe
import Derived.Test.YtaelhbbfddcabaaWf
import Derived.WalkKit
import Derived.WalkSpells
import Derived.WalkLawsBesides
import Derived.Lib.Hide
import Derived.Deep.RegionHeld3
import Derived.Deep.QuietTactic
import Derived.BigQuiet
import Derived.Handy
import Derived.Deep.DeepCutAuto
import Derived.OwnWalk
import Derived.Lib.OwnBridge
namespace Go.Proofs.Ytaelhbbfddcabaa
open Go.RowKit

/-- a value and a cache that a call answers -/
def ClOut (val R : Int) (zs : List V3) (K : Int) (w : World) (e : Ending) (w' : World) : Prop :=
  ∃ (A : Option Addr) (c : Nat), e = .returned (.tuple #[.int .i64 val, cav R A zs.length c K]) ∧ w'.ownsRow w.heap.size 50 3 (.slice A zs.length c) zs.length (zs.flatMap vg) ∧ Below w.heap.size w w'
def clV (L : Int) (ts : List Int) (R : Int) (gs : List V3) (Q u v lv : Int) : Int := if okX L ts = true ∧ okC R gs Q = true then lkP L ts u v lv else 0
def clC (L : Int) (ts : List Int) (R : Int) (gs : List V3) (Q u v lv : Int) : List V3 × Int := if okX L ts = true ∧ okC R gs Q = true then useA R (tilesP L ts u v lv) (gs, Q) else (gs, Q)
theorem clC_no {L : Int} {ts : List Int} {R : Int} {gs : List V3} {Q u v lv : Int} (h : ¬ (okX L ts = true ∧ okC R gs Q = true)) : clV L ts R gs Q u v lv = 0 ∧ clC L ts R gs Q u v lv = (gs, Q) := ⟨if_neg h, if_neg h⟩
theorem clC_yes {L : Int} {ts : List Int} {R : Int} {gs : List V3} {Q u v lv : Int} (h : okX L ts = true ∧ okC R gs Q = true) : clV L ts R gs Q u v lv = lkP L ts u v lv ∧ clC L ts R gs Q u v lv = useA R (tilesP L ts u v lv) (gs, Q) := ⟨if_pos h, if_pos h⟩
theorem useA_take {R : Int} {xs : List V3} {s : List V3 × Int} {k : Nat} (hk : k < xs.length) : useA R (xs.take (k + 1)) s = (useL R (useA R (xs.take k) s).1 (useA R (xs.take k) s).2 xs[k], useK R (useA R (xs.take k) s).1 (useA R (xs.take k) s).2 xs[k]) := by
  rw [List.take_succ_eq_append_getElem hk, useA_snoc]

set_option maxRecDepth 100000 in
set_option maxHeartbeats 32000000 in
theorem sCachedL_any (L : Int) (A : Option Addr) (c : Nat) (ts : List Int) (R : Int) (D : Option Addr) (d : Nat) (gs : List V3) (Q u v lv : Int) (w : World) (hR : Row I64 w w.heap.size A ts) (hD : RowC 3 vg w w.heap.size D gs) (hl : ts.length ≤ 1048576) (hg : gs.length ≤ 1048576) (hd : gs.length ≤ d) :
    Calls Try.prog 40 #[txv L A ts.length c, cav R D gs.length d Q, .int .i64 u, .int .i64 v, .int .i64 lv] w (ClOut (clV L ts R gs Q u v lv) R (clC L ts R gs Q u v lv).1 (clC L ts R gs Q u v lv).2 w) := by
  have HT : Held w (((w.alloc (.cells #[.int .i64 L, .slice A ts.length c] 25)).alloc (.cells #[.int .i64 R, .slice D gs.length d, .int .i64 Q] 29)).alloc (.cells #[.int .i64 0, .slice none 0 0, .int .i64 0] 29)) [(w.heap.size + 1 + 1, [.int .i64 0, .slice none 0 0, .int .i64 0]), (w.heap.size + 1, [.int .i64 R, .slice D gs.length d, .int .i64 Q]), (w.heap.size, [.int .i64 L, .slice A ts.length c])] := by
    have h := (((Held.nil w).new #[.int .i64 L, .slice A ts.length c] 25).new #[.int .i64 R, .slice D gs.length d, .int .i64 Q] 29).new #[.int .i64 0, .slice none 0 0, .int .i64 0] 29
    simpa only [World.size_alloc] using h
  obtain ⟨W1, hW1⟩ : ∃ W, W = ((w.alloc (.cells #[.int .i64 L, .slice A ts.length c] 25)).alloc (.cells #[.int .i64 R, .slice D gs.length d, .int .i64 Q] 29)).alloc (.cells #[.int .i64 0, .slice none 0 0, .int .i64 0] 29) := ⟨_, rfl⟩
  rw [← hW1] at HT
  have hsz : W1.heap.size = w.heap.size + 3 := by rw [hW1]; simp
  have HR0 := Lib.hid (fun W (h : Below w.heap.size w W) => hD.later h)
  have HRX := Lib.hid (fun W (h : Below w.heap.size w W) => hR.later h)
  have HLEN := Lib.hid (show gs.length ≤ 1048576 by omega)
  have HLN := Lib.hid (And.intro hl (And.intro hg hd))
  clear hR hD hl hg hd
  go_enter Try.func40, Try.ntmps40
  go_upto_region 1 with fail
  rw [← hW1]
  generalize g2 : w.heap.size + 1 + 1 = k2 at HT ⊢
  generalize g1 : w.heap.size + 1 = k1 at HT ⊢
  generalize g0 : w.heap.size = k0 at HT ⊢
  obtain ⟨B1, hB1⟩ : ∃ B, B = W1.heap.size := ⟨_, rfl⟩
  have HORD := Lib.hid (show k0 = w.heap.size ∧ k0 < k1 ∧ k1 < k2 ∧ k2 < B1 by omega)
  have HBB := Lib.hid hB1
  have HQ := HT
  have HC : ∀ W', Held w W' [(k2, [.int .i64 0, .slice none 0 0, .int .i64 0]), (k1, [.int .i64 R, .slice D gs.length d, .int .i64 Q]), (k0, [.int .i64 L, .slice A ts.length c])] → W'.cell? ⟨k1, 0, none⟩ = some (.int .i64 R) ∧ W'.cell? ⟨k1, 1, none⟩ = some (.slice D gs.length d) ∧ W'.cell? ⟨k1, 2, none⟩ = some (.int .i64 Q) := fun W' h => ⟨(h.box 1).c 0, (h.box 1).c 1, (h.box 1).c 2⟩
  clear hW1 g0 g1 g2 hsz hB1 HT
  go_cut [12] (fun yv wx => ∃ g A6 c6, yv = .pointer (some ⟨g, 0, none⟩) ∧ Held w wx ((g, [.int .i64 R, .slice A6 gs.length c6, .int .i64 Q]) :: [(k2, [.int .i64 0, .slice none 0 0, .int .i64 0]), (k1, [.int .i64 R, .slice D gs.length d, .int .i64 Q]), (k0, [.int .i64 L, .slice A ts.length c])]) ∧ wx.ownsRow B1 50 3 (.slice A6 gs.length c6) gs.length (gs.flatMap vg) ∧ B1 ≤ g ∧ (Value.slice A6 gs.length c6).ownBlock ≠ some g)
  case first =>
    have HQ := HQ.drew
    refine wp_region_held_drew (S := fun W' => W'.cell? ⟨k1, 0, none⟩ = some (.int .i64 R) ∧ W'.cell? ⟨k1, 1, none⟩ = some (.slice D gs.length d) ∧ W'.cell? ⟨k1, 2, none⟩ = some (.int .i64 Q)) (by kernel_rfl) (HC _ HQ) (fun hHeld => ?_)
    obtain ⟨wd, hwd⟩ : ∃ x, x = W1.drew := ⟨_, rfl⟩
    have hwB : wd.heap.size = B1 := by rw [hwd]; exact HBB.out.symm
    rw [← hwd] at HQ hHeld ⊢
    clear hwd
    refine wpAnyH_take (i := 0) (oi := { dst := some 15, op := Op.fieldAddr 29 (Operand.tmp 6) 0, type := 0, pos := "l16_cache.go:80", after := #[], guard := none }) (v := ?_) rfl (by kernel_rfl) (by kernel_rfl) (by kernel_rfl) (fun _ _ _ h => h) (Or.inl ⟨by rfl, ?_⟩) (by assumption) ?_
    rotate_left 1
    · (intro w hSw; (try dsimp only at hSw); go_simp <;> with_reducible rfl)
    (try simp only [Act.put, List.setIfInBounds_toArray, List.set_cons_zero, List.set_cons_succ])
    refine wpAnyH_take (i := 1) (oi := { dst := some 16, op := Op.load 3 (Operand.tmp 15), type := 3, pos := "l16_cache.go:80", after := #[{ on := 0, ground := Ground.data }], guard := none }) (v := ?_) rfl (by kernel_rfl) (by kernel_rfl) (by kernel_rfl) (fun _ _ _ h => h) (Or.inl ⟨by rfl, ?_⟩) (by assumption) ?_
    rotate_left 1
    · (intro w hSw; (try dsimp only at hSw); go_simp <;> with_reducible rfl)
    (try simp only [Act.put, List.setIfInBounds_toArray, List.set_cons_zero, List.set_cons_succ])
    refine wpAnyH_take (i := 3) (oi := { dst := some 18, op := Op.fieldAddr 29 (Operand.tmp 6) 1, type := 0, pos := "l16_cache.go:80", after := #[], guard := none }) (v := ?_) rfl (by kernel_rfl) (by kernel_rfl) (by kernel_rfl) (fun _ _ _ h => h) (Or.inl ⟨by rfl, ?_⟩) (by assumption) ?_
    rotate_left 1
    · (intro w hSw; (try dsimp only at hSw); go_simp <;> with_reducible rfl)
    (try simp only [Act.put, List.setIfInBounds_toArray, List.set_cons_zero, List.set_cons_succ])
    refine wpAnyH_take (i := 4) (oi := { dst := some 19, op := Op.load 27 (Operand.tmp 18), type := 27, pos := "l16_cache.go:80", after := #[{ on := 3, ground := Ground.data }], guard := none }) (v := ?_) rfl (by kernel_rfl) (by kernel_rfl) (by kernel_rfl) (fun _ _ _ h => h) (Or.inl ⟨by rfl, ?_⟩) (by assumption) ?_
    rotate_left 1
    · (intro w hSw; (try dsimp only at hSw); go_simp <;> with_reducible rfl)
    (try simp only [Act.put, List.setIfInBounds_toArray, List.set_cons_zero, List.set_cons_succ])
    refine wpAnyH_take (i := 6) (oi := { dst := some 21, op := Op.fieldAddr 29 (Operand.tmp 6) 2, type := 0, pos := "l16_cache.go:80", after := #[], guard := none }) (v := ?_) rfl (by kernel_rfl) (by kernel_rfl) (by kernel_rfl) (fun _ _ _ h => h) (Or.inl ⟨by rfl, ?_⟩) (by assumption) ?_
    rotate_left 1
    · (intro w hSw; (try dsimp only at hSw); go_simp <;> with_reducible rfl)
    (try simp only [Act.put, List.setIfInBounds_toArray, List.set_cons_zero, List.set_cons_succ])
    refine wpAnyH_take (i := 7) (oi := { dst := some 22, op := Op.load 3 (Operand.tmp 21), type := 3, pos := "l16_cache.go:80", after := #[{ on := 6, ground := Ground.data }], guard := none }) (v := ?_) rfl (by kernel_rfl) (by kernel_rfl) (by kernel_rfl) (fun _ _ _ h => h) (Or.inl ⟨by rfl, ?_⟩) (by assumption) ?_
    rotate_left 1
    · (intro w hSw; (try dsimp only at hSw); go_simp <;> with_reducible rfl)
    (try simp only [Act.put, List.setIfInBounds_toArray, List.set_cons_zero, List.set_cons_succ])
    refine wpAnyH_ready (rs := [2, 9]) (by kernel_rfl) (by simp) ?_
    refine AllReadyH.cons (o := { dst := some 17, op := Op.buildSlice 27 0 #[], type := 27, pos := "l16_cache.go:80", after := #[], guard := none }) rfl (fun K hK => ?_) ?_
    · go_simp
      have HO0 := own_lit3 HQ
      (try simp only [World.size_alloc] at HO0)
      (try simp only [hwB] at HO0)
      have HO := Lib.hid HO0
      clear HO0
      have HQ := HQ.alloc (.cells #[] 50)
      refine hK.out _ _ (by (try dsimp only); (first | with_reducible exact HC _ HQ | with_reducible exact HC _ HQ.tail)) (fun hHeld => ?_)
      clear hK K
      (try simp only [Act.put, List.setIfInBounds_toArray, List.set_cons_zero, List.set_cons_succ])
      refine wpAnyH_ready (rs := [5, 9]) (by kernel_rfl) (by simp) ?_
      refine AllReadyH.cons (o := { dst := some 20, op := Op.call { callee := Callee.builtin Builtin.append, args := #[Operand.tmp 17, Operand.tmp 19], argTypes := #[27, 27] }, type := 27, pos := "l16_cache.go:80", after := #[{ on := 2, ground := Ground.data }, { on := 4, ground := Ground.data }], guard := none }) rfl (fun K hK => ?_) ?_
      · have HRr := HR0.out _ HQ.below
        refine step_appT rfl _ _ 27 rfl 50 Try.underlying27 (tlv 0 0 0) 24 infoTile rfl _ _ _ _ (by rfl) HO.out _ D d gs.length gs rfl (by rfl) HRr (by unfold maxLen; have := HLEN.out; omega) (by have := HLEN.out; omega) (by (try simp only [World.size_alloc]); omega) ?_
        intro v6 w6 ho6 hg6 hat6
        obtain ⟨A6, c6, rfl⟩ := own_shape ho6
        (try simp only [World.size_alloc] at hat6)
        (try simp only [hwB] at hat6)
        rw [Nat.zero_add] at hat6
        have HQ := HQ.grownX hg6 (fun g e => by simp only [Value.ownBlock, Option.some.injEq] at e; have := HORD.out; omega) (fun p hp e => by simp only [Value.ownBlock, Option.some.injEq] at e; have h1 := HORD.out; simp only [List.mem_cons, List.not_mem_nil, or_false] at hp; (first | (rcases hp with rfl | rfl | rfl | rfl <;> dsimp only at e <;> omega) | (rcases hp with rfl | rfl | rfl <;> dsimp only at e <;> omega)))
        have ho6 : w6.ownsRow B1 50 3 (.slice A6 (0 + gs.length) c6) (0 + gs.length) ([] ++ gs.flatMap vg) := own_base ho6 (by omega)
        rw [Nat.zero_add, List.nil_append] at ho6
        have HAT := Lib.hid (And.intro hat6 (fun b hb => (ho6.lt b hb).2))
        clear hat6
        have HO := Lib.hid ho6
        have hs6 := hg6.size
        have hs6 : B1 + 1 ≤ w6.heap.size := by (simp only [World.size_alloc] at hs6); omega
        (try rw [Nat.zero_add])
        clear ho6 hg6 HRr
        refine hK.out _ _ (by (try dsimp only); (first | with_reducible exact HC _ HQ | with_reducible exact HC _ HQ.tail)) (fun hHeld => ?_)
        clear hK K
        (try simp only [Act.put, List.setIfInBounds_toArray, List.set_cons_zero, List.set_cons_succ])
        refine wpAnyH_take (i := 8) (oi := { dst := some 23, op := Op.build 29 #[(0, Operand.tmp 16), (1, Operand.tmp 20), (2, Operand.tmp 22)], type := 29, pos := "l16_cache.go:80", after := #[{ on := 1, ground := Ground.data }, { on := 5, ground := Ground.data }, { on := 7, ground := Ground.data }], guard := none }) (v := ?_) rfl (by kernel_rfl) (by kernel_rfl) (by kernel_rfl) (fun _ _ _ h => h) (Or.inl ⟨by rfl, ?_⟩) (by assumption) ?_
        rotate_left 1
        · (intro w hSw; (try dsimp only at hSw); go_simp <;> with_reducible rfl)
        (try simp only [Act.put, List.setIfInBounds_toArray, List.set_cons_zero, List.set_cons_succ])
        refine wpAnyH_ready (rs := [9]) (by kernel_rfl) (by simp) ?_
        refine AllReadyH.cons (o := { dst := some 12, op := Op.alloc 29, type := 0, pos := "l16_cache.go:80", after := #[], guard := none }) rfl (fun K hK => ?_) ?_
        · go_simp
          have HPre := HQ
          (try have HOP := HO)
          (try have HO := Lib.hid (HO.out.alloc (.cells #[.int .i64 0, .slice none 0 0, .int .i64 0] 29)))
          have HQ := HQ.new #[.int .i64 0, .slice none 0 0, .int .i64 0] 29
          (try rw [World.size_alloc] at HQ)
          (try rw [hwB] at HQ)
          refine hK.out _ _ (by (try dsimp only); (first | with_reducible exact HC _ HQ | with_reducible exact HC _ HQ.tail)) (fun hHeld => ?_)
          clear hK K
          (try simp only [Act.put, List.setIfInBounds_toArray, List.set_cons_zero, List.set_cons_succ])
          refine wpAnyH_ready (rs := [10]) (by kernel_rfl) (by simp) ?_
          refine AllReadyH.cons (o := { dst := none, op := Op.store 29 (Operand.tmp 12) (Operand.tmp 23), type := 0, pos := "l16_cache.go:80", after := #[{ on := 9, ground := Ground.data }, { on := 8, ground := Ground.data }, { on := 5, ground := Ground.chain }, { on := 0, ground := Ground.phase }, { on := 1, ground := Ground.phase }, { on := 2, ground := Ground.phase }, { on := 3, ground := Ground.phase }, { on := 4, ground := Ground.phase }, { on := 5, ground := Ground.phase }, { on := 6, ground := Ground.phase }, { on := 7, ground := Ground.phase }, { on := 8, ground := Ground.phase }, { on := 9, ground := Ground.phase }], guard := none }) rfl (fun K hK => ?_) ?_
          · have c60 := (HQ.box 0).c 0
            have c61 := (HQ.box 0).c 1
            have c62 := (HQ.box 0).c 2
            have f60 := (HQ.box 0).f 0
            have f61 := (HQ.box 0).f 1
            have f62 := (HQ.box 0).f 2
            go_simp
            clear c60 c61 c62 f60 f61 f62
            first | (have HX := ((HQ.put (by have := HORD.out; omega) (fun p hp => by (have h1 := HORD.out; simp only [List.mem_cons, List.not_mem_nil, or_false] at hp; rcases hp with rfl | rfl | rfl <;> (show _ ≠ _) <;> omega)) 0 (.int .i64 R)).put (by have := HORD.out; omega) (fun p hp => by (have h1 := HORD.out; simp only [List.mem_cons, List.not_mem_nil, or_false] at hp; rcases hp with rfl | rfl | rfl <;> (show _ ≠ _) <;> omega)) 1 (.slice A6 gs.length c6)).put (by have := HORD.out; omega) (fun p hp => by (have h1 := HORD.out; simp only [List.mem_cons, List.not_mem_nil, or_false] at hp; rcases hp with rfl | rfl | rfl <;> (show _ ≠ _) <;> omega)) 2 (.int .i64 Q); refine hK.out _ _ (by (try dsimp only); exact HC _ HX.tail) (fun hHeld => ?_); have HO := Lib.hid (own_set3 HO.out HQ (by intro e; have h1 := HAT.out.2 _ e; rcases HAT.out.1 with h | h <;> (rw [e] at h; simp only [Value.ownBlock, Option.some.injEq] at h; omega)) (.int .i64 R) (.slice A6 gs.length c6) (.int .i64 Q)); have HQ := HX) | (have HQ := HPre.new #[.int .i64 R, .slice A6 gs.length c6, .int .i64 Q] 29; refine hK.out _ _ (by (try dsimp only); exact HC _ HQ.tail) (fun hHeld => ?_); have HO := Lib.hid (HOP.out.alloc (.cells #[.int .i64 R, .slice A6 gs.length c6, .int .i64 Q] 29)))
            clear hK K
            (try simp only [Act.put, List.setIfInBounds_toArray, List.set_cons_zero, List.set_cons_succ])
            refine wpAnyH_done (by kernel_rfl) ?_ _
            clear hHeld
            go_wp2
            go_meet
            exact ⟨_, A6, c6, rfl, HQ, HO.out, by omega, (by intro e; have h1 := HAT.out.2 _ e; rcases HAT.out.1 with h | h <;> (rw [e] at h; simp only [Value.ownBlock, Option.some.injEq] at h; omega))⟩
          exact AllReadyH.nil
        exact AllReadyH.nil
      refine AllReadyH.cons (o := { dst := some 12, op := Op.alloc 29, type := 0, pos := "l16_cache.go:80", after := #[], guard := none }) rfl (fun K hK => ?_) ?_
      · go_simp
        have HPre := HQ
        (try have HOP := HO)
        (try have HO := Lib.hid (HO.out.alloc (.cells #[.int .i64 0, .slice none 0 0, .int .i64 0] 29)))
        have HQ := HQ.new #[.int .i64 0, .slice none 0 0, .int .i64 0] 29
        (try rw [World.size_alloc] at HQ)
        (try rw [hwB] at HQ)
        refine hK.out _ _ (by (try dsimp only); (first | with_reducible exact HC _ HQ | with_reducible exact HC _ HQ.tail)) (fun hHeld => ?_)
        clear hK K
        (try simp only [Act.put, List.setIfInBounds_toArray, List.set_cons_zero, List.set_cons_succ])
        refine wpAnyH_ready (rs := [5]) (by kernel_rfl) (by simp) ?_
        refine AllReadyH.cons (o := { dst := some 20, op := Op.call { callee := Callee.builtin Builtin.append, args := #[Operand.tmp 17, Operand.tmp 19], argTypes := #[27, 27] }, type := 27, pos := "l16_cache.go:80", after := #[{ on := 2, ground := Ground.data }, { on := 4, ground := Ground.data }], guard := none }) rfl (fun K hK => ?_) ?_
        · have HRr := HR0.out _ HQ.below
          refine step_appT rfl _ _ 27 rfl 50 Try.underlying27 (tlv 0 0 0) 24 infoTile rfl _ _ _ _ (by rfl) HO.out _ D d gs.length gs rfl (by rfl) HRr (by unfold maxLen; have := HLEN.out; omega) (by have := HLEN.out; omega) (by (try simp only [World.size_alloc]); omega) ?_
          intro v6 w6 ho6 hg6 hat6
          obtain ⟨A6, c6, rfl⟩ := own_shape ho6
          (try simp only [World.size_alloc] at hat6)
          (try simp only [hwB] at hat6)
          rw [Nat.zero_add] at hat6
          have HQ := HQ.grownX hg6 (fun g e => by simp only [Value.ownBlock, Option.some.injEq] at e; have := HORD.out; omega) (fun p hp e => by simp only [Value.ownBlock, Option.some.injEq] at e; have h1 := HORD.out; simp only [List.mem_cons, List.not_mem_nil, or_false] at hp; (first | (rcases hp with rfl | rfl | rfl | rfl <;> dsimp only at e <;> omega) | (rcases hp with rfl | rfl | rfl <;> dsimp only at e <;> omega)))
          have ho6 : w6.ownsRow B1 50 3 (.slice A6 (0 + gs.length) c6) (0 + gs.length) ([] ++ gs.flatMap vg) := own_base ho6 (by omega)
          rw [Nat.zero_add, List.nil_append] at ho6
          have HAT := Lib.hid (And.intro hat6 (fun b hb => (ho6.lt b hb).2))
          clear hat6
          have HO := Lib.hid ho6
          have hs6 := hg6.size
          have hs6 : B1 + 1 ≤ w6.heap.size := by (simp only [World.size_alloc] at hs6); omega
          (try rw [Nat.zero_add])
          clear ho6 hg6 HRr
          refine hK.out _ _ (by (try dsimp only); (first | with_reducible exact HC _ HQ | with_reducible exact HC _ HQ.tail)) (fun hHeld => ?_)
          clear hK K
          (try simp only [Act.put, List.setIfInBounds_toArray, List.set_cons_zero, List.set_cons_succ])
          refine wpAnyH_take (i := 8) (oi := { dst := some 23, op := Op.build 29 #[(0, Operand.tmp 16), (1, Operand.tmp 20), (2, Operand.tmp 22)], type := 29, pos := "l16_cache.go:80", after := #[{ on := 1, ground := Ground.data }, { on := 5, ground := Ground.data }, { on := 7, ground := Ground.data }], guard := none }) (v := ?_) rfl (by kernel_rfl) (by kernel_rfl) (by kernel_rfl) (fun _ _ _ h => h) (Or.inl ⟨by rfl, ?_⟩) (by assumption) ?_
          rotate_left 1
          · (intro w hSw; (try dsimp only at hSw); go_simp <;> with_reducible rfl)
          (try simp only [Act.put, List.setIfInBounds_toArray, List.set_cons_zero, List.set_cons_succ])
          refine wpAnyH_ready (rs := [10]) (by kernel_rfl) (by simp) ?_
          refine AllReadyH.cons (o := { dst := none, op := Op.store 29 (Operand.tmp 12) (Operand.tmp 23), type := 0, pos := "l16_cache.go:80", after := #[{ on := 9, ground := Ground.data }, { on := 8, ground := Ground.data }, { on := 5, ground := Ground.chain }, { on := 0, ground := Ground.phase }, { on := 1, ground := Ground.phase }, { on := 2, ground := Ground.phase }, { on := 3, ground := Ground.phase }, { on := 4, ground := Ground.phase }, { on := 5, ground := Ground.phase }, { on := 6, ground := Ground.phase }, { on := 7, ground := Ground.phase }, { on := 8, ground := Ground.phase }, { on := 9, ground := Ground.phase }], guard := none }) rfl (fun K hK => ?_) ?_
          · have c60 := (HQ.box 0).c 0
            have c61 := (HQ.box 0).c 1
            have c62 := (HQ.box 0).c 2
            have f60 := (HQ.box 0).f 0
            have f61 := (HQ.box 0).f 1
            have f62 := (HQ.box 0).f 2
            go_simp
            clear c60 c61 c62 f60 f61 f62
            first | (have HX := ((HQ.put (by have := HORD.out; omega) (fun p hp => by (have h1 := HORD.out; simp only [List.mem_cons, List.not_mem_nil, or_false] at hp; rcases hp with rfl | rfl | rfl <;> (show _ ≠ _) <;> omega)) 0 (.int .i64 R)).put (by have := HORD.out; omega) (fun p hp => by (have h1 := HORD.out; simp only [List.mem_cons, List.not_mem_nil, or_false] at hp; rcases hp with rfl | rfl | rfl <;> (show _ ≠ _) <;> omega)) 1 (.slice A6 gs.length c6)).put (by have := HORD.out; omega) (fun p hp => by (have h1 := HORD.out; simp only [List.mem_cons, List.not_mem_nil, or_false] at hp; rcases hp with rfl | rfl | rfl <;> (show _ ≠ _) <;> omega)) 2 (.int .i64 Q); refine hK.out _ _ (by (try dsimp only); exact HC _ HX.tail) (fun hHeld => ?_); have HO := Lib.hid (own_set3 HO.out HQ (by intro e; have h1 := HAT.out.2 _ e; rcases HAT.out.1 with h | h <;> (rw [e] at h; simp only [Value.ownBlock, Option.some.injEq] at h; omega)) (.int .i64 R) (.slice A6 gs.length c6) (.int .i64 Q)); have HQ := HX) | (have HQ := HPre.new #[.int .i64 R, .slice A6 gs.length c6, .int .i64 Q] 29; refine hK.out _ _ (by (try dsimp only); exact HC _ HQ.tail) (fun hHeld => ?_); have HO := Lib.hid (HOP.out.alloc (.cells #[.int .i64 R, .slice A6 gs.length c6, .int .i64 Q] 29)))
            clear hK K
            (try simp only [Act.put, List.setIfInBounds_toArray, List.set_cons_zero, List.set_cons_succ])
            refine wpAnyH_done (by kernel_rfl) ?_ _
            clear hHeld
            go_wp2
            go_meet
            exact ⟨_, A6, c6, rfl, HQ, HO.out, by omega, (by intro e; have h1 := HAT.out.2 _ e; rcases HAT.out.1 with h | h <;> (rw [e] at h; simp only [Value.ownBlock, Option.some.injEq] at h; omega))⟩
          exact AllReadyH.nil
        exact AllReadyH.nil
      exact AllReadyH.nil
    refine AllReadyH.cons (o := { dst := some 12, op := Op.alloc 29, type := 0, pos := "l16_cache.go:80", after := #[], guard := none }) rfl (fun K hK => ?_) ?_
    · go_simp
      have HPre := HQ
      (try have HOP := HO)
      (try have HO := Lib.hid (HO.out.alloc (.cells #[.int .i64 0, .slice none 0 0, .int .i64 0] 29)))
      have HQ := HQ.new #[.int .i64 0, .slice none 0 0, .int .i64 0] 29
      (try rw [World.size_alloc] at HQ)
      (try rw [hwB] at HQ)
      refine hK.out _ _ (by (try dsimp only); (first | with_reducible exact HC _ HQ | with_reducible exact HC _ HQ.tail)) (fun hHeld => ?_)
      clear hK K
      (try simp only [Act.put, List.setIfInBounds_toArray, List.set_cons_zero, List.set_cons_succ])
      refine wpAnyH_ready (rs := [2]) (by kernel_rfl) (by simp) ?_
      refine AllReadyH.cons (o := { dst := some 17, op := Op.buildSlice 27 0 #[], type := 27, pos := "l16_cache.go:80", after := #[], guard := none }) rfl (fun K hK => ?_) ?_
      · go_simp
        have HO0 := own_lit3 HQ
        (try simp only [World.size_alloc] at HO0)
        (try simp only [hwB] at HO0)
        have HO := Lib.hid HO0
        clear HO0
        have HQ := HQ.alloc (.cells #[] 50)
        refine hK.out _ _ (by (try dsimp only); (first | with_reducible exact HC _ HQ | with_reducible exact HC _ HQ.tail)) (fun hHeld => ?_)
        clear hK K
        (try simp only [Act.put, List.setIfInBounds_toArray, List.set_cons_zero, List.set_cons_succ])
        refine wpAnyH_ready (rs := [5]) (by kernel_rfl) (by simp) ?_
        refine AllReadyH.cons (o := { dst := some 20, op := Op.call { callee := Callee.builtin Builtin.append, args := #[Operand.tmp 17, Operand.tmp 19], argTypes := #[27, 27] }, type := 27, pos := "l16_cache.go:80", after := #[{ on := 2, ground := Ground.data }, { on := 4, ground := Ground.data }], guard := none }) rfl (fun K hK => ?_) ?_
        · have HRr := HR0.out _ HQ.below
          refine step_appT rfl _ _ 27 rfl 50 Try.underlying27 (tlv 0 0 0) 24 infoTile rfl _ _ _ _ (by rfl) HO.out _ D d gs.length gs rfl (by rfl) HRr (by unfold maxLen; have := HLEN.out; omega) (by have := HLEN.out; omega) (by (try simp only [World.size_alloc]); omega) ?_
          intro v6 w6 ho6 hg6 hat6
          obtain ⟨A6, c6, rfl⟩ := own_shape ho6
          (try simp only [World.size_alloc] at hat6)
          (try simp only [hwB] at hat6)
          rw [Nat.zero_add] at hat6
          have HQ := HQ.grownX hg6 (fun g e => by simp only [Value.ownBlock, Option.some.injEq] at e; have := HORD.out; omega) (fun p hp e => by simp only [Value.ownBlock, Option.some.injEq] at e; have h1 := HORD.out; simp only [List.mem_cons, List.not_mem_nil, or_false] at hp; (first | (rcases hp with rfl | rfl | rfl | rfl <;> dsimp only at e <;> omega) | (rcases hp with rfl | rfl | rfl <;> dsimp only at e <;> omega)))
          have ho6 : w6.ownsRow B1 50 3 (.slice A6 (0 + gs.length) c6) (0 + gs.length) ([] ++ gs.flatMap vg) := own_base ho6 (by omega)
          rw [Nat.zero_add, List.nil_append] at ho6
          have HAT := Lib.hid (And.intro hat6 (fun b hb => (ho6.lt b hb).2))
          clear hat6
          have HO := Lib.hid ho6
          have hs6 := hg6.size
          have hs6 : B1 + 1 ≤ w6.heap.size := by (simp only [World.size_alloc] at hs6); omega
          (try rw [Nat.zero_add])
          clear ho6 hg6 HRr
          refine hK.out _ _ (by (try dsimp only); (first | with_reducible exact HC _ HQ | with_reducible exact HC _ HQ.tail)) (fun hHeld => ?_)
          clear hK K
          (try simp only [Act.put, List.setIfInBounds_toArray, List.set_cons_zero, List.set_cons_succ])
          refine wpAnyH_take (i := 8) (oi := { dst := some 23, op := Op.build 29 #[(0, Operand.tmp 16), (1, Operand.tmp 20), (2, Operand.tmp 22)], type := 29, pos := "l16_cache.go:80", after := #[{ on := 1, ground := Ground.data }, { on := 5, ground := Ground.data }, { on := 7, ground := Ground.data }], guard := none }) (v := ?_) rfl (by kernel_rfl) (by kernel_rfl) (by kernel_rfl) (fun _ _ _ h => h) (Or.inl ⟨by rfl, ?_⟩) (by assumption) ?_
          rotate_left 1
          · (intro w hSw; (try dsimp only at hSw); go_simp <;> with_reducible rfl)
          (try simp only [Act.put, List.setIfInBounds_toArray, List.set_cons_zero, List.set_cons_succ])
          refine wpAnyH_ready (rs := [10]) (by kernel_rfl) (by simp) ?_
          refine AllReadyH.cons (o := { dst := none, op := Op.store 29 (Operand.tmp 12) (Operand.tmp 23), type := 0, pos := "l16_cache.go:80", after := #[{ on := 9, ground := Ground.data }, { on := 8, ground := Ground.data }, { on := 5, ground := Ground.chain }, { on := 0, ground := Ground.phase }, { on := 1, ground := Ground.phase }, { on := 2, ground := Ground.phase }, { on := 3, ground := Ground.phase }, { on := 4, ground := Ground.phase }, { on := 5, ground := Ground.phase }, { on := 6, ground := Ground.phase }, { on := 7, ground := Ground.phase }, { on := 8, ground := Ground.phase }, { on := 9, ground := Ground.phase }], guard := none }) rfl (fun K hK => ?_) ?_
          · have c60 := (HQ.box 0).c 0
            have c61 := (HQ.box 0).c 1
            have c62 := (HQ.box 0).c 2
            have f60 := (HQ.box 0).f 0
            have f61 := (HQ.box 0).f 1
            have f62 := (HQ.box 0).f 2
            go_simp
            clear c60 c61 c62 f60 f61 f62
            first | (have HX := ((HQ.put (by have := HORD.out; omega) (fun p hp => by (have h1 := HORD.out; simp only [List.mem_cons, List.not_mem_nil, or_false] at hp; rcases hp with rfl | rfl | rfl <;> (show _ ≠ _) <;> omega)) 0 (.int .i64 R)).put (by have := HORD.out; omega) (fun p hp => by (have h1 := HORD.out; simp only [List.mem_cons, List.not_mem_nil, or_false] at hp; rcases hp with rfl | rfl | rfl <;> (show _ ≠ _) <;> omega)) 1 (.slice A6 gs.length c6)).put (by have := HORD.out; omega) (fun p hp => by (have h1 := HORD.out; simp only [List.mem_cons, List.not_mem_nil, or_false] at hp; rcases hp with rfl | rfl | rfl <;> (show _ ≠ _) <;> omega)) 2 (.int .i64 Q); refine hK.out _ _ (by (try dsimp only); exact HC _ HX.tail) (fun hHeld => ?_); have HO := Lib.hid (own_set3 HO.out HQ (by intro e; have h1 := HAT.out.2 _ e; rcases HAT.out.1 with h | h <;> (rw [e] at h; simp only [Value.ownBlock, Option.some.injEq] at h; omega)) (.int .i64 R) (.slice A6 gs.length c6) (.int .i64 Q)); have HQ := HX) | (have HQ := HPre.new #[.int .i64 R, .slice A6 gs.length c6, .int .i64 Q] 29; refine hK.out _ _ (by (try dsimp only); exact HC _ HQ.tail) (fun hHeld => ?_); have HO := Lib.hid (HOP.out.alloc (.cells #[.int .i64 R, .slice A6 gs.length c6, .int .i64 Q] 29)))
            clear hK K
            (try simp only [Act.put, List.setIfInBounds_toArray, List.set_cons_zero, List.set_cons_succ])
            refine wpAnyH_done (by kernel_rfl) ?_ _
            clear hHeld
            go_wp2
            go_meet
            exact ⟨_, A6, c6, rfl, HQ, HO.out, by omega, (by intro e; have h1 := HAT.out.2 _ e; rcases HAT.out.1 with h | h <;> (rw [e] at h; simp only [Value.ownBlock, Option.some.injEq] at h; omega))⟩
          exact AllReadyH.nil
        exact AllReadyH.nil
      exact AllReadyH.nil
    exact AllReadyH.nil
  case rest =>
    clear HC HQ
    obtain ⟨g, A6, c6, rfl, HT, hown, hBg, hng⟩ := hcut
    have HG := Lib.hid hBg
    have HNG := Lib.hid hng
    have HVX := Lib.hid (sIsValidT_any L A c ts wc (HRX.out _ HT.below) HLN.out.1)
    have n0 := (HT.box 3).c 0
    have n1 := (HT.box 3).c 1
    have HW := Lib.hid (And.intro HT hown)
    clear hBg hng HT hown
    go_wp2_with fail
    refine HVX.out.mono ?_
    rintro e w3 ⟨rfl, hb3⟩
    have HT := HW.out.1.later hb3
    have hown := own_keep' HW.out.2 hb3
    clear hb3 n0 n1 HW HVX
    cases hok : okX L ts with
    | false =>
      have HE := Lib.hid (clC_no (u := u) (v := v) (lv := lv) (Q := Q) (R := R) (gs := gs) (L := L) (ts := ts) (fun h => by rw [hok] at h; cases h.1))
      clear hok
      have m0 := (HT.box 0).c 0
      have m1 := (HT.box 0).c 1
      have m2 := (HT.box 0).c 2
      have r0 := (HT.box 1).c 0
      have r1 := (HT.box 1).c 1
      have r2 := (HT.box 1).c 2
      have o0 := (HT.box 1).f 0
      have o1 := (HT.box 1).f 1
      have o2 := (HT.box 1).f 2
      have HTB := Lib.hid HT.below
      have hne : ¬ k2 = g := by have h1 := HORD.out; have h2 := HG.out; omega
      have hne2 : ¬ g = k2 := by have h1 := HORD.out; have h2 := HG.out; omega
      have HOE := Lib.hid hown
      clear HT hown
      go_wp2_with fail
      go_region
      all_goals
        go_wp2_with fail
        have hq1 : w.heap.size ≤ k2 := by have := HORD.out; omega
        have hlt1 : k2 < B1 := by have := HORD.out; omega
        have ho5 := ownsRow_setCell_below (ownsRow_setCell_below (ownsRow_setCell_below HOE.out (a := ⟨k2, 0, none⟩) hlt1 (.int .i64 R)) (a := ⟨k2, 1, none⟩) hlt1 (.slice A6 gs.length c6)) (a := ⟨k2, 2, none⟩) hlt1 (.int .i64 Q)
        exact bodyPost_ret (v := .tuple #[.int .i64 0, cav R A6 gs.length c6 Q]) (by simp [results, Try.results40, go_sem, r0, r1, r2]) rfl ⟨A6, c6, by rw [HE.out.1, HE.out.2], by rw [HE.out.2]; exact own_base (base' := w.heap.size) (World.ownsRow.drew ho5) (by have := HORD.out; omega), (((HTB.out.setCell (p := ⟨k2, 0, none⟩) hq1 _).setCell (p := ⟨k2, 1, none⟩) hq1 _).setCell (p := ⟨k2, 2, none⟩) hq1 _).drew⟩
    | true =>
      have HVC := Lib.hid (sIsValidC_any R D d gs Q w3 (HR0.out _ HT.below) (by have := HLN.out; omega))
      have n0 := (HT.box 2).c 0
      have n1 := (HT.box 2).c 1
      have n2 := (HT.box 2).c 2
      have HW := Lib.hid (And.intro HT hown)
      clear HT hown
      go_wp2_with fail
      refine HVC.out.mono ?_
      rintro e w4 ⟨rfl, hb4⟩
      have HT := HW.out.1.later hb4
      have hown := own_keep' HW.out.2 hb4
      clear hb4 n0 n1 n2 HW HVC
      cases hoc : okC R gs Q with
      | false =>
        have HE := Lib.hid (clC_no (u := u) (v := v) (lv := lv) (Q := Q) (R := R) (gs := gs) (L := L) (ts := ts) (fun h => by rw [hoc] at h; cases h.2))
        clear hok hoc
        have m0 := (HT.box 0).c 0
        have m1 := (HT.box 0).c 1
        have m2 := (HT.box 0).c 2
        have r0 := (HT.box 1).c 0
        have r1 := (HT.box 1).c 1
        have r2 := (HT.box 1).c 2
        have o0 := (HT.box 1).f 0
        have o1 := (HT.box 1).f 1
        have o2 := (HT.box 1).f 2
        have HTB := Lib.hid HT.below
        have hne : ¬ k2 = g := by have h1 := HORD.out; have h2 := HG.out; omega
        have hne2 : ¬ g = k2 := by have h1 := HORD.out; have h2 := HG.out; omega
        have HOE := Lib.hid hown
        clear HT hown
        go_wp2_with fail
        go_region
        all_goals
          go_wp2_with fail
          have hq1 : w.heap.size ≤ k2 := by have := HORD.out; omega
          have hlt1 : k2 < B1 := by have := HORD.out; omega
          have ho5 := ownsRow_setCell_below (ownsRow_setCell_below (ownsRow_setCell_below HOE.out (a := ⟨k2, 0, none⟩) hlt1 (.int .i64 R)) (a := ⟨k2, 1, none⟩) hlt1 (.slice A6 gs.length c6)) (a := ⟨k2, 2, none⟩) hlt1 (.int .i64 Q)
          exact bodyPost_ret (v := .tuple #[.int .i64 0, cav R A6 gs.length c6 Q]) (by simp [results, Try.results40, go_sem, r0, r1, r2]) rfl ⟨A6, c6, by rw [HE.out.1, HE.out.2], by rw [HE.out.2]; exact own_base (base' := w.heap.size) (World.ownsRow.drew ho5) (by have := HORD.out; omega), (((HTB.out.setCell (p := ⟨k2, 0, none⟩) hq1 _).setCell (p := ⟨k2, 1, none⟩) hq1 _).setCell (p := ⟨k2, 2, none⟩) hq1 _).drew⟩
      | true =>
        have HE := Lib.hid (clC_yes (u := u) (v := v) (lv := lv) ⟨hok, hoc⟩)
        have HLG := Lib.hid (show gs.length ≤ 12 by have h1 := (okC_iff.1 hoc).1; have h2 := (okC_iff.1 hoc).2.1; omega)
        have HTF := Lib.hid (sTilesFor_any L A c ts u v lv w4 (HRX.out _ HT.below) HLN.out.1)
        obtain ⟨til, htil⟩ : ∃ til, til = tilesP L ts u v lv := ⟨_, rfl⟩
        have htl : til.length ≤ 4 := by rw [htil]; exact tilesP_len _ _ _ _ _
        rw [← htil] at HTF HE
        have n0 := (HT.box 3).c 0
        have n1 := (HT.box 3).c 1
        have HW := Lib.hid (And.intro HT hown)
        have HTL := Lib.hid htl
        clear HT hown hok hoc htil htl
        go_wp2_with fail
        refine HTF.out.mono ?_
        rintro e w5 ⟨AT, cT, rfl, hot, hb5⟩
        have HT := HW.out.1.later hb5
        have hown := own_keep' HW.out.2 hb5
        obtain ⟨Bt, hBt⟩ : ∃ B, B = w4.heap.size := ⟨_, rfl⟩
        have HBT := Lib.hid (show g < Bt ∧ k2 < Bt by have h1 := (HW.out.1.box 0).lt; have h2 := (HW.out.1.box 1).lt; omega)
        rw [← hBt] at hot
        have HI := Lib.hid (And.intro HT (And.intro hown (And.intro HNG.out hot)))
        clear hb5 n0 n1 HT hown hot hBt HW HTF
        go_wp2_with fail
        go_loopw [39] (fun jv wr => ∃ (j : Nat) (A7 : Option Addr) (c7 : Nat) (zs : List V3) (K : Int), j ≤ til.length ∧ jv = .int .i64 j ∧ (zs, K) = useA R (til.take j) (gs, Q) ∧ Held w wr ((g, [.int .i64 R, .slice A7 zs.length c7, .int .i64 K]) :: [(k2, [.int .i64 0, .slice none 0 0, .int .i64 0]), (k1, [.int .i64 R, .slice D gs.length d, .int .i64 Q]), (k0, [.int .i64 L, .slice A ts.length c])]) ∧ wr.ownsRow B1 50 3 (.slice A7 zs.length c7) zs.length (zs.flatMap vg) ∧ (Value.slice A7 zs.length c7).ownBlock ≠ some g ∧ wr.ownsRow Bt 50 3 (.slice AT til.length cT) til.length (til.flatMap vg)) (fun jv _ => til.length - (intOf jv).toNat)
        case atStart => exact ⟨0, A6, c6, gs, Q, Nat.zero_le _, rfl, rfl, HI.out⟩
        case round =>
          clear HI
          obtain ⟨j, A7, c7, zs, K, hj, rfl, hzk, HT, hown, hn7, hot⟩ := hrel
          have hzl : zs.length ≤ gs.length + 4 := by
            have h1 := useA_len R (til.take j) (gs, Q)
            rw [← hzk] at h1
            have h2 := HTL.out
            simp at h1
            omega
          by_cases hlt : j < til.length
          · obtain ⟨b, o, hA, hbl, hc⟩ := (RowC.of_own vg_len hot rfl : RowC 3 vg wr wr.heap.size AT til).at hlt
            obtain ⟨c0, c1, c2⟩ := vg_at hc
            obtain ⟨X, hX⟩ : ∃ X, X = til[j] := ⟨_, rfl⟩
            rw [← hX] at c0 c1 c2
            have hst := useA_take (R := R) (s := (gs, Q)) hlt
            rw [← hzk, ← hX] at hst
            dsimp only at hst
            obtain ⟨x, y, z⟩ := X
            dsimp only at c0 c1 c2
            subst hA
            have hlt' : (j : Int) < (til.length : Int) := by omega
            have hge' : (0 : Int) ≤ (j : Int) := by omega
            have ej : IntKind.i64.wrap ((j : Int) + 1) = ((j + 1 : Nat) : Int) := wrap_v (by have := HTL.out; omega)
            have HST := Lib.hid (And.intro hst (And.intro hj hlt))
            have HTN := HT.new #[.int .i64 x, .int .i64 y, .int .i64 z] 50
            have hownN := hown.alloc (.cells #[.int .i64 x, .int .i64 y, .int .i64 z] 50)
            have hotN := hot.alloc (.cells #[.int .i64 x, .int .i64 y, .int .i64 z] 50)
            clear hc hX hst hzk
            go_upto_region 7 with fail
            obtain ⟨W7, hW7⟩ : ∃ W, W = wr.alloc (.cells #[.int .i64 x, .int .i64 y, .int .i64 z] 50) := ⟨_, rfl⟩
            obtain ⟨k7, hk7⟩ : ∃ k, k = wr.heap.size := ⟨_, rfl⟩
            rw [← hW7] at HTN hownN hotN ⊢
            rw [← hk7] at HTN ⊢
            have m0 := (HTN.box 1).c 0
            have m1 := (HTN.box 1).c 1
            have m2 := (HTN.box 1).c 2
            have q0 := (HTN.box 0).c 0
            have q1 := (HTN.box 0).c 1
            have q2 := (HTN.box 0).c 2
            have HU := Lib.hid (sUseTile_any R A7 c7 zs K x y z W7 (RowC.of_own vg_len hownN rfl) (by have h1 := HLG.out; omega) (own_capG hownN))
            have HW := Lib.hid (And.intro HTN (And.intro hownN hotN))
            clear hW7 hk7 c0 c1 c2 HT hown hot HTN hownN hotN hj hlt hn7
            obtain ⟨z2, hz2⟩ : ∃ l, l = useL R zs K (x, y, z) := ⟨_, rfl⟩
            obtain ⟨K2, hK2⟩ : ∃ l, l = useK R zs K (x, y, z) := ⟨_, rfl⟩
            rw [← hz2, ← hK2] at HU
            have HZ := Lib.hid (And.intro hz2 hK2)
            clear hz2 hK2
            go_wp2_with fail
            refine HU.out.mono ?_
            rintro e w8 ⟨A9, c9, rfl, ho9, hb8⟩
            have HT := HW.out.1.tail.later hb8
            have hot := own_keep' HW.out.2.2 hb8
            have f0 := (HT.box 0).f 0
            have f1 := (HT.box 0).f 1
            have f2 := (HT.box 0).f 2
            have m0 := (HT.box 0).c 0
            have m1 := (HT.box 0).c 1
            have m2 := (HT.box 0).c 2
            have hn9 : (Value.slice A9 z2.length c9).ownBlock ≠ some g := fun e => by
              have h1 := own_block ho9 g e
              have h2 := (HW.out.1.tail.box 0).lt
              omega
            have HX := ((HT.put (by have h1 := HORD.out; have h2 := HG.out; omega) (fun p hp => by (have h1 := HORD.out; have h2 := HG.out; simp only [List.mem_cons, List.not_mem_nil, or_false] at hp; rcases hp with rfl | rfl | rfl <;> (show _ ≠ _) <;> omega)) 0 (.int .i64 R)).put (by have h1 := HORD.out; have h2 := HG.out; omega) (fun p hp => by (have h1 := HORD.out; have h2 := HG.out; simp only [List.mem_cons, List.not_mem_nil, or_false] at hp; rcases hp with rfl | rfl | rfl <;> (show _ ≠ _) <;> omega)) 1 (.slice A9 z2.length c9)).put (by have h1 := HORD.out; have h2 := HG.out; omega) (fun p hp => by (have h1 := HORD.out; have h2 := HG.out; simp only [List.mem_cons, List.not_mem_nil, or_false] at hp; rcases hp with rfl | rfl | rfl <;> (show _ ≠ _) <;> omega)) 2 (.int .i64 K2)
            have hox := own_set3 (own_base ho9 (base' := B1) (by have h1 := HG.out; have h2 := (HW.out.1.tail.box 0).lt; omega)) HT hn9 (.int .i64 R) (.slice A9 z2.length c9) (.int .i64 K2)
            have hgt : g < Bt := HBT.out.1
            have hotx := ownsRow_setCell_below (ownsRow_setCell_below (ownsRow_setCell_below hot (a := ⟨g, 0, none⟩) hgt (.int .i64 R)) (a := ⟨g, 1, none⟩) hgt (.slice A9 z2.length c9)) (a := ⟨g, 2, none⟩) hgt (.int .i64 K2)
            have HEN := Lib.hid (And.intro HX (And.intro hox (And.intro hn9 hotx)))
            clear HT ho9 hb8 hot HX hox hotx hn9 q0 q1 q2 hgt
            go_wp2_with fail
            go_roundw
            case rel => exact ⟨j + 1, A9, c9, z2, K2, by have := HST.out; omega, by go_num, by rw [HZ.out.1, HZ.out.2]; exact HST.out.1.symm, HEN.out⟩
            case measure => simp [intOf]; have := HST.out; omega
          · obtain rfl : j = til.length := by omega
            rw [List.take_length] at hzk
            have hni : ¬ ((til.length : Nat) : Int) < ((til.length : Nat) : Int) := by omega
            have HLK := Lib.hid (fun W (h : Below w.heap.size w W) => sLookup_any L A c ts u v lv W (HRX.out W h) HLN.out.1)
            have HEQ : Hid (clV L ts R gs Q u v lv = lkP L ts u v lv ∧ (clC L ts R gs Q u v lv).1 = zs ∧ (clC L ts R gs Q u v lv).2 = K) := Lib.hid (by rw [HE.out.2, ← hzk]; exact ⟨HE.out.1, rfl, rfl⟩)
            obtain ⟨V, hV⟩ : ∃ V, V = lkP L ts u v lv := ⟨_, rfl⟩
            rw [← hV] at HLK HEQ
            have HOE := Lib.hid (And.intro hown hn7)
            clear hV hown hot hn7 hj hlt hzk
            go_upto_region 9 with fail
            have HQ := HT.drew
            have HOW : Hid (wr.drew.ownsRow B1 50 3 (.slice A7 zs.length c7) zs.length (zs.flatMap vg)) := Lib.hid HOE.out.1
            refine wp_region_held_drew (S := fun _ => True) (by kernel_rfl) trivial (fun hHeld => ?_)
            obtain ⟨wd, hwd⟩ : ∃ x, x = wr.drew := ⟨_, rfl⟩
            rw [← hwd] at HQ HOW ⊢
            clear hwd HT
            refine wpAnyH_take (i := 1) (oi := { dst := some 48, op := Op.move (Operand.tmp 2), type := 3, pos := "l16_cache.go:87", after := #[], guard := none }) (v := ?_) rfl (by kernel_rfl) (by kernel_rfl) (by kernel_rfl) (fun _ _ _ h => h) (Or.inl ⟨by rfl, ?_⟩) (by assumption) ?_
            rotate_left 1
            · (intro w hSw; (try dsimp only at hSw); go_simp <;> with_reducible rfl)
            (try simp only [Act.put, List.setIfInBounds_toArray, List.set_cons_zero, List.set_cons_succ])
            refine wpAnyH_take (i := 2) (oi := { dst := some 49, op := Op.move (Operand.tmp 3), type := 3, pos := "l16_cache.go:87", after := #[], guard := none }) (v := ?_) rfl (by kernel_rfl) (by kernel_rfl) (by kernel_rfl) (fun _ _ _ h => h) (Or.inl ⟨by rfl, ?_⟩) (by assumption) ?_
            rotate_left 1
            · (intro w hSw; (try dsimp only at hSw); go_simp <;> with_reducible rfl)
            (try simp only [Act.put, List.setIfInBounds_toArray, List.set_cons_zero, List.set_cons_succ])
            refine wpAnyH_take (i := 3) (oi := { dst := some 50, op := Op.move (Operand.tmp 4), type := 3, pos := "l16_cache.go:87", after := #[], guard := none }) (v := ?_) rfl (by kernel_rfl) (by kernel_rfl) (by kernel_rfl) (fun _ _ _ h => h) (Or.inl ⟨by rfl, ?_⟩) (by assumption) ?_
            rotate_left 1
            · (intro w hSw; (try dsimp only at hSw); go_simp <;> with_reducible rfl)
            (try simp only [Act.put, List.setIfInBounds_toArray, List.set_cons_zero, List.set_cons_succ])
            refine wpAnyH_ready (rs := [0, 5]) (by kernel_rfl) (by simp) ?_
            refine AllReadyH.cons (o := { dst := some 47, op := Op.load 25 (Operand.tmp 5), type := 25, pos := "l16_cache.go:87", after := #[], guard := none }) rfl (fun K hK => ?_) ?_
            · have c00 := (HQ.box 3).c 0
              have c01 := (HQ.box 3).c 1
              go_simp
              refine hK.out _ _ trivial (fun hHeld => ?_)
              clear c00 c01
              clear hK K
              (try simp only [Act.put, List.setIfInBounds_toArray, List.set_cons_zero, List.set_cons_succ])
              refine wpAnyH_ready (rs := [4, 5]) (by kernel_rfl) (by simp) ?_
              refine AllReadyH.cons (o := { dst := some 51, op := Op.call { callee := Callee.value (Operand.func 75), args := #[Operand.tmp 47, Operand.tmp 48, Operand.tmp 49, Operand.tmp 50], argTypes := #[25, 3, 3, 3] }, type := 3, pos := "l16_cache.go:87", after := #[{ on := 0, ground := Ground.data }, { on := 1, ground := Ground.data }, { on := 2, ground := Ground.data }, { on := 3, ground := Ground.data }], guard := none }) rfl (fun K hK => ?_) ?_
              · go_simp
                (with_reducible refine (HLK.out _ HQ.below).mono ?_)
                rintro e w7 ⟨rfl, hb7⟩
                have HQ := HQ.later hb7
                have HOW := Lib.hid (own_keep' HOW.out hb7)
                clear hb7
                (try go_wp2_with fail)
                refine hK.out _ _ (by (try dsimp only); (try trivial)) (fun hHeld => ?_)
                clear hK K
                (try simp only [Act.put, List.setIfInBounds_toArray, List.set_cons_zero, List.set_cons_succ])
                refine wpAnyH_take (i := 6) (oi := { dst := some 10, op := Op.assign (Operand.tmp 51), type := 3, pos := "l16_cache.go:87", after := #[{ on := 4, ground := Ground.data }, { on := 4, ground := Ground.chain }, { on := 0, ground := Ground.phase }, { on := 1, ground := Ground.phase }, { on := 2, ground := Ground.phase }, { on := 3, ground := Ground.phase }, { on := 4, ground := Ground.phase }, { on := 5, ground := Ground.textOnly Departure.lateStores }], guard := none }) (v := ?_) rfl (by kernel_rfl) (by kernel_rfl) (by kernel_rfl) (fun _ _ _ h => h) (Or.inl ⟨by rfl, ?_⟩) (by assumption) ?_
                rotate_left 1
                · (intro w hSw; (try dsimp only at hSw); go_simp <;> with_reducible rfl)
                (try simp only [Act.put, List.setIfInBounds_toArray, List.set_cons_zero, List.set_cons_succ])
                refine wpAnyH_ready (rs := [5]) (by kernel_rfl) (by simp) ?_
                refine AllReadyH.cons (o := { dst := some 52, op := Op.load 29 (Operand.tmp 12), type := 29, pos := "l16_cache.go:87", after := #[{ on := 6, ground := Ground.gcOnly Departure.lateStores }], guard := none }) rfl (fun K hK => ?_) ?_
                · have c00 := (HQ.box 0).c 0
                  have c01 := (HQ.box 0).c 1
                  have c02 := (HQ.box 0).c 2
                  go_simp
                  refine hK.out _ _ trivial (fun hHeld => ?_)
                  clear c00 c01 c02
                  clear hK K
                  (try simp only [Act.put, List.setIfInBounds_toArray, List.set_cons_zero, List.set_cons_succ])
                  refine wpAnyH_ready (rs := [7]) (by kernel_rfl) (by simp) ?_
                  refine AllReadyH.cons (o := { dst := none, op := Op.store 29 (Operand.tmp 11) (Operand.tmp 52), type := 0, pos := "l16_cache.go:87", after := #[{ on := 5, ground := Ground.data }, { on := 6, ground := Ground.chain }, { on := 0, ground := Ground.phase }, { on := 1, ground := Ground.phase }, { on := 2, ground := Ground.phase }, { on := 3, ground := Ground.phase }, { on := 4, ground := Ground.phase }, { on := 5, ground := Ground.phase }, { on := 6, ground := Ground.phase }], guard := none }) rfl (fun K hK => ?_) ?_
                  · have r0 := (HQ.box 1).c 0
                    have r1 := (HQ.box 1).c 1
                    have r2 := (HQ.box 1).c 2
                    have o0 := (HQ.box 1).f 0
                    have o1 := (HQ.box 1).f 1
                    have o2 := (HQ.box 1).f 2
                    have HTB := Lib.hid HQ.below
                    go_simp
                    refine hK.out _ _ trivial (fun hHeld => ?_)
                    clear hK K
                    (try simp only [Act.put, List.setIfInBounds_toArray, List.set_cons_zero, List.set_cons_succ])
                    refine wpAnyH_done (by kernel_rfl) ?_ _
                    clear hHeld HQ
                    go_wp2_with fail
                    have hq1 : w.heap.size ≤ k2 := by have := HORD.out; omega
                    have hlt1 : k2 < B1 := by have := HORD.out; omega
                    have ho5 := ownsRow_setCell_below (ownsRow_setCell_below (ownsRow_setCell_below HOW.out (a := ⟨k2, 0, none⟩) hlt1 (.int .i64 R)) (a := ⟨k2, 1, none⟩) hlt1 (.slice A7 zs.length c7)) (a := ⟨k2, 2, none⟩) hlt1 (.int .i64 K)
                    exact bodyPost_ret (v := .tuple #[.int .i64 V, cav R A7 zs.length c7 K]) (by simp [results, Try.results40, go_sem, r0, r1, r2]) rfl ⟨A7, c7, by rw [HEQ.out.1, HEQ.out.2.1, HEQ.out.2.2], by rw [HEQ.out.2.1]; exact own_base (base' := w.heap.size) ho5 (by have := HORD.out; omega), (((HTB.out.setCell (p := ⟨k2, 0, none⟩) hq1 _).setCell (p := ⟨k2, 1, none⟩) hq1 _).setCell (p := ⟨k2, 2, none⟩) hq1 _)⟩
                  exact AllReadyH.nil
                exact AllReadyH.nil
              refine AllReadyH.cons (o := { dst := some 52, op := Op.load 29 (Operand.tmp 12), type := 29, pos := "l16_cache.go:87", after := #[{ on := 6, ground := Ground.gcOnly Departure.lateStores }], guard := none }) rfl (fun K hK => ?_) ?_
              · have c00 := (HQ.box 0).c 0
                have c01 := (HQ.box 0).c 1
                have c02 := (HQ.box 0).c 2
                go_simp
                refine hK.out _ _ trivial (fun hHeld => ?_)
                clear c00 c01 c02
                clear hK K
                (try simp only [Act.put, List.setIfInBounds_toArray, List.set_cons_zero, List.set_cons_succ])
                refine wpAnyH_ready (rs := [4]) (by kernel_rfl) (by simp) ?_
                refine AllReadyH.cons (o := { dst := some 51, op := Op.call { callee := Callee.value (Operand.func 75), args := #[Operand.tmp 47, Operand.tmp 48, Operand.tmp 49, Operand.tmp 50], argTypes := #[25, 3, 3, 3] }, type := 3, pos := "l16_cache.go:87", after := #[{ on := 0, ground := Ground.data }, { on := 1, ground := Ground.data }, { on := 2, ground := Ground.data }, { on := 3, ground := Ground.data }], guard := none }) rfl (fun K hK => ?_) ?_
                · go_simp
                  (with_reducible refine (HLK.out _ HQ.below).mono ?_)
                  rintro e w7 ⟨rfl, hb7⟩
                  have HQ := HQ.later hb7
                  have HOW := Lib.hid (own_keep' HOW.out hb7)
                  clear hb7
                  (try go_wp2_with fail)
                  refine hK.out _ _ (by (try dsimp only); (try trivial)) (fun hHeld => ?_)
                  clear hK K
                  (try simp only [Act.put, List.setIfInBounds_toArray, List.set_cons_zero, List.set_cons_succ])
                  refine wpAnyH_take (i := 6) (oi := { dst := some 10, op := Op.assign (Operand.tmp 51), type := 3, pos := "l16_cache.go:87", after := #[{ on := 4, ground := Ground.data }, { on := 4, ground := Ground.chain }, { on := 0, ground := Ground.phase }, { on := 1, ground := Ground.phase }, { on := 2, ground := Ground.phase }, { on := 3, ground := Ground.phase }, { on := 4, ground := Ground.phase }, { on := 5, ground := Ground.textOnly Departure.lateStores }], guard := none }) (v := ?_) rfl (by kernel_rfl) (by kernel_rfl) (by kernel_rfl) (fun _ _ _ h => h) (Or.inl ⟨by rfl, ?_⟩) (by assumption) ?_
                  rotate_left 1
                  · (intro w hSw; (try dsimp only at hSw); go_simp <;> with_reducible rfl)
                  (try simp only [Act.put, List.setIfInBounds_toArray, List.set_cons_zero, List.set_cons_succ])
                  refine wpAnyH_ready (rs := [7]) (by kernel_rfl) (by simp) ?_
                  refine AllReadyH.cons (o := { dst := none, op := Op.store 29 (Operand.tmp 11) (Operand.tmp 52), type := 0, pos := "l16_cache.go:87", after := #[{ on := 5, ground := Ground.data }, { on := 6, ground := Ground.chain }, { on := 0, ground := Ground.phase }, { on := 1, ground := Ground.phase }, { on := 2, ground := Ground.phase }, { on := 3, ground := Ground.phase }, { on := 4, ground := Ground.phase }, { on := 5, ground := Ground.phase }, { on := 6, ground := Ground.phase }], guard := none }) rfl (fun K hK => ?_) ?_
                  · have r0 := (HQ.box 1).c 0
                    have r1 := (HQ.box 1).c 1
                    have r2 := (HQ.box 1).c 2
                    have o0 := (HQ.box 1).f 0
                    have o1 := (HQ.box 1).f 1
                    have o2 := (HQ.box 1).f 2
                    have HTB := Lib.hid HQ.below
                    go_simp
                    refine hK.out _ _ trivial (fun hHeld => ?_)
                    clear hK K
                    (try simp only [Act.put, List.setIfInBounds_toArray, List.set_cons_zero, List.set_cons_succ])
                    refine wpAnyH_done (by kernel_rfl) ?_ _
                    clear hHeld HQ
                    go_wp2_with fail
                    have hq1 : w.heap.size ≤ k2 := by have := HORD.out; omega
                    have hlt1 : k2 < B1 := by have := HORD.out; omega
                    have ho5 := ownsRow_setCell_below (ownsRow_setCell_below (ownsRow_setCell_below HOW.out (a := ⟨k2, 0, none⟩) hlt1 (.int .i64 R)) (a := ⟨k2, 1, none⟩) hlt1 (.slice A7 zs.length c7)) (a := ⟨k2, 2, none⟩) hlt1 (.int .i64 K)
                    exact bodyPost_ret (v := .tuple #[.int .i64 V, cav R A7 zs.length c7 K]) (by simp [results, Try.results40, go_sem, r0, r1, r2]) rfl ⟨A7, c7, by rw [HEQ.out.1, HEQ.out.2.1, HEQ.out.2.2], by rw [HEQ.out.2.1]; exact own_base (base' := w.heap.size) ho5 (by have := HORD.out; omega), (((HTB.out.setCell (p := ⟨k2, 0, none⟩) hq1 _).setCell (p := ⟨k2, 1, none⟩) hq1 _).setCell (p := ⟨k2, 2, none⟩) hq1 _)⟩
                  exact AllReadyH.nil
                exact AllReadyH.nil
              exact AllReadyH.nil
            refine AllReadyH.cons (o := { dst := some 52, op := Op.load 29 (Operand.tmp 12), type := 29, pos := "l16_cache.go:87", after := #[{ on := 6, ground := Ground.gcOnly Departure.lateStores }], guard := none }) rfl (fun K hK => ?_) ?_
            · have c00 := (HQ.box 0).c 0
              have c01 := (HQ.box 0).c 1
              have c02 := (HQ.box 0).c 2
              go_simp
              refine hK.out _ _ trivial (fun hHeld => ?_)
              clear c00 c01 c02
              clear hK K
              (try simp only [Act.put, List.setIfInBounds_toArray, List.set_cons_zero, List.set_cons_succ])
              refine wpAnyH_ready (rs := [0]) (by kernel_rfl) (by simp) ?_
              refine AllReadyH.cons (o := { dst := some 47, op := Op.load 25 (Operand.tmp 5), type := 25, pos := "l16_cache.go:87", after := #[], guard := none }) rfl (fun K hK => ?_) ?_
              · have c00 := (HQ.box 3).c 0
                have c01 := (HQ.box 3).c 1
                go_simp
                refine hK.out _ _ trivial (fun hHeld => ?_)
                clear c00 c01
                clear hK K
                (try simp only [Act.put, List.setIfInBounds_toArray, List.set_cons_zero, List.set_cons_succ])
                refine wpAnyH_ready (rs := [4]) (by kernel_rfl) (by simp) ?_
                refine AllReadyH.cons (o := { dst := some 51, op := Op.call { callee := Callee.value (Operand.func 75), args := #[Operand.tmp 47, Operand.tmp 48, Operand.tmp 49, Operand.tmp 50], argTypes := #[25, 3, 3, 3] }, type := 3, pos := "l16_cache.go:87", after := #[{ on := 0, ground := Ground.data }, { on := 1, ground := Ground.data }, { on := 2, ground := Ground.data }, { on := 3, ground := Ground.data }], guard := none }) rfl (fun K hK => ?_) ?_
                · go_simp
                  (with_reducible refine (HLK.out _ HQ.below).mono ?_)
                  rintro e w7 ⟨rfl, hb7⟩
                  have HQ := HQ.later hb7
                  have HOW := Lib.hid (own_keep' HOW.out hb7)
                  clear hb7
                  (try go_wp2_with fail)
                  refine hK.out _ _ (by (try dsimp only); (try trivial)) (fun hHeld => ?_)
                  clear hK K
                  (try simp only [Act.put, List.setIfInBounds_toArray, List.set_cons_zero, List.set_cons_succ])
                  refine wpAnyH_take (i := 6) (oi := { dst := some 10, op := Op.assign (Operand.tmp 51), type := 3, pos := "l16_cache.go:87", after := #[{ on := 4, ground := Ground.data }, { on := 4, ground := Ground.chain }, { on := 0, ground := Ground.phase }, { on := 1, ground := Ground.phase }, { on := 2, ground := Ground.phase }, { on := 3, ground := Ground.phase }, { on := 4, ground := Ground.phase }, { on := 5, ground := Ground.textOnly Departure.lateStores }], guard := none }) (v := ?_) rfl (by kernel_rfl) (by kernel_rfl) (by kernel_rfl) (fun _ _ _ h => h) (Or.inl ⟨by rfl, ?_⟩) (by assumption) ?_
                  rotate_left 1
                  · (intro w hSw; (try dsimp only at hSw); go_simp <;> with_reducible rfl)
                  (try simp only [Act.put, List.setIfInBounds_toArray, List.set_cons_zero, List.set_cons_succ])
                  refine wpAnyH_ready (rs := [7]) (by kernel_rfl) (by simp) ?_
                  refine AllReadyH.cons (o := { dst := none, op := Op.store 29 (Operand.tmp 11) (Operand.tmp 52), type := 0, pos := "l16_cache.go:87", after := #[{ on := 5, ground := Ground.data }, { on := 6, ground := Ground.chain }, { on := 0, ground := Ground.phase }, { on := 1, ground := Ground.phase }, { on := 2, ground := Ground.phase }, { on := 3, ground := Ground.phase }, { on := 4, ground := Ground.phase }, { on := 5, ground := Ground.phase }, { on := 6, ground := Ground.phase }], guard := none }) rfl (fun K hK => ?_) ?_
                  · have r0 := (HQ.box 1).c 0
                    have r1 := (HQ.box 1).c 1
                    have r2 := (HQ.box 1).c 2
                    have o0 := (HQ.box 1).f 0
                    have o1 := (HQ.box 1).f 1
                    have o2 := (HQ.box 1).f 2
                    have HTB := Lib.hid HQ.below
                    go_simp
                    refine hK.out _ _ trivial (fun hHeld => ?_)
                    clear hK K
                    (try simp only [Act.put, List.setIfInBounds_toArray, List.set_cons_zero, List.set_cons_succ])
                    refine wpAnyH_done (by kernel_rfl) ?_ _
                    clear hHeld HQ
                    go_wp2_with fail
                    have hq1 : w.heap.size ≤ k2 := by have := HORD.out; omega
                    have hlt1 : k2 < B1 := by have := HORD.out; omega
                    have ho5 := ownsRow_setCell_below (ownsRow_setCell_below (ownsRow_setCell_below HOW.out (a := ⟨k2, 0, none⟩) hlt1 (.int .i64 R)) (a := ⟨k2, 1, none⟩) hlt1 (.slice A7 zs.length c7)) (a := ⟨k2, 2, none⟩) hlt1 (.int .i64 K)
                    exact bodyPost_ret (v := .tuple #[.int .i64 V, cav R A7 zs.length c7 K]) (by simp [results, Try.results40, go_sem, r0, r1, r2]) rfl ⟨A7, c7, by rw [HEQ.out.1, HEQ.out.2.1, HEQ.out.2.2], by rw [HEQ.out.2.1]; exact own_base (base' := w.heap.size) ho5 (by have := HORD.out; omega), (((HTB.out.setCell (p := ⟨k2, 0, none⟩) hq1 _).setCell (p := ⟨k2, 1, none⟩) hq1 _).setCell (p := ⟨k2, 2, none⟩) hq1 _)⟩
                  exact AllReadyH.nil
                exact AllReadyH.nil
              exact AllReadyH.nil
            exact AllReadyH.nil
end Go.Proofs.Ytaelhbbfddcabaa
