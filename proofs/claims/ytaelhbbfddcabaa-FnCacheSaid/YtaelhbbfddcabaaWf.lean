/- UseTile of the model. -/
import Derived.Test.YtaelhbbfddcabaaProg
import Derived.Test.YtaelhbbfddcabaaInts
import Derived.Test.YtaelhbbfddcabaaVbox
import Derived.Test.YtaelhbbfddcabaaHeld
import Derived.Test.YtaelhbbfddcabaaMem
import Derived.Test.YtaelhbbfddcabaaFlat
import Derived.Test.YtaelhbbfddcabaaRowC
import Derived.Test.YtaelhbbfddcabaaKS
import Derived.Test.YtaelhbbfddcabaaStrS
import Derived.Test.YtaelhbbfddcabaaIntS
import Derived.Test.YtaelhbbfddcabaaSS
import Derived.Test.YtaelhbbfddcabaaVi
import Derived.Test.YtaelhbbfddcabaaVa
import Derived.Test.YtaelhbbfddcabaaVb
import Derived.Test.YtaelhbbfddcabaaVc
import Derived.Test.YtaelhbbfddcabaaWa
import Derived.Test.YtaelhbbfddcabaaWb
import Derived.Test.YtaelhbbfddcabaaVd
import Derived.Test.YtaelhbbfddcabaaVe
import Derived.Test.YtaelhbbfddcabaaVf
import Derived.Test.YtaelhbbfddcabaaVg
import Derived.Test.YtaelhbbfddcabaaVh
import Derived.Test.YtaelhbbfddcabaaWc
import Derived.Test.YtaelhbbfddcabaaWd
import Derived.Test.YtaelhbbfddcabaaWe
import Derived.WalkKit
import Derived.WalkSpells
import Derived.WalkLawsBesides
import Derived.Lib.Hide
import Derived.Deep.RegionHeld3
import Derived.Deep.QuietTactic
import Derived.BigQuiet
import Derived.Handy
import Derived.Deep.DeepCutAuto
import Derived.OwnWalk
import Derived.Lib.OwnBridge
namespace Go.Proofs.Ytaelhbbfddcabaa
open Go.RowKit

theorem own_set3 {w0 w : World} {base : Nat} {e : TypeId} {size n g : Nat} {v : Value} {xs l : List Value} {bs : List (Nat × List Value)} (h : w.ownsRow base e size v n xs) (_hQ : Held w0 w ((g, l) :: bs)) (hne : v.ownBlock ≠ some g) (x y z : Value) :
    (((w.setCell ⟨g, 0, none⟩ x).setCell ⟨g, 1, none⟩ y).setCell ⟨g, 2, none⟩ z).ownsRow base e size v n xs := ownsRow_setCell_other (ownsRow_setCell_other (ownsRow_setCell_other h (a := ⟨g, 0, none⟩) hne x) (a := ⟨g, 1, none⟩) hne y) (a := ⟨g, 2, none⟩) hne z
/-- a slice of tiles cut at its head -/
theorem RowC.dropT {w : World} {B b o l : Nat} {ts : List V3} (h : RowC 3 vg w B (some ⟨b, o, none⟩) ts) (hl : l ≤ ts.length) : RowC 3 vg w B (some ⟨b, o + l * 3, none⟩) (ts.drop l) := fun hn => by
  rw [List.length_drop] at hn
  obtain ⟨b', o', e, hb, hc⟩ := h (by omega)
  injection e with e
  injection e with e1 e2
  subst e1 e2
  refine ⟨b, o + l * 3, rfl, hb, fun k hk j v hj => ?_⟩
  rw [List.length_drop] at hk
  rw [List.getElem_drop] at hj
  have := hc (l + k) (by omega) j v hj
  rw [show o + l * 3 + k * 3 + j = o + (l + k) * 3 + j by omega]
  exact this
theorem RowC.takeT {w : World} {B : Nat} {A : Option Addr} {l : Nat} {ts : List V3} (h : RowC 3 vg w B A ts) : RowC 3 vg w B A (ts.take l) := fun hn => by
  rw [List.length_take] at hn
  obtain ⟨b, o, e, hb, hc⟩ := h (by omega)
  refine ⟨b, o, e, hb, fun k hk j v hj => ?_⟩
  rw [List.length_take] at hk
  rw [List.getElem_take] at hj
  exact hc k (by omega) j v hj
theorem own_capG {w : World} {base m : Nat} {e : TypeId} {n c : Nat} {A : Option Addr} {xs : List Value} (h : w.ownsRow base e m (.slice A n c) n xs) : n ≤ c := by
  rcases h.2 with ⟨h0, h1⟩ | ⟨g', cap, cur, hv, _, _, hnc, _⟩
  · injection h0 with _ _ h3
    omega
  · injection hv with _ _ h3
    omega
theorem row_of_boxT {W : World} {k : Nat} {x y z : Int} (M : Mbox W k [.int .i64 x, .int .i64 y, .int .i64 z]) : RowC 3 vg W W.heap.size (some ⟨k, 0, none⟩) [(x, y, z)] := fun _ => ⟨k, 0, rfl, M.lt, fun j hj i v hi => by
  obtain rfl : j = 0 := by simp at hj; omega
  have := M.c i (v := v) (by simpa [vg] using hi)
  simpa using this⟩
theorem RowC.emptyT {w : World} {B : Nat} {A : Option Addr} {ts : List V3} (h : ts.length = 0) : RowC 3 vg w B A ts := fun hn => by omega
theorem useL_old {R : Int} {ts : List V3} {K : Int} {x : V3} (ho : okC R ts K = true) (hm : x ∈ ts) : useL R ts K x = (ts.take (ts.idxOf x) ++ ts.drop (ts.idxOf x + 1)) ++ [x] := by unfold useL; rw [if_pos ho, if_pos hm, List.append_assoc]
theorem useK_old {R : Int} {ts : List V3} {K : Int} {x : V3} (hm : x ∈ ts) : useK R ts K x = K := by unfold useK; rw [if_neg (fun h => h.2 hm)]
theorem useK_new {R : Int} {ts : List V3} {K : Int} {x : V3} (ho : okC R ts K = true) (hm : x ∉ ts) : useK R ts K x = K + 1 := by unfold useK; rw [if_pos ⟨ho, hm⟩]
theorem useL_new {R : Int} {ts : List V3} {K : Int} {x : V3} (ho : okC R ts K = true) (hm : x ∉ ts) (hr : ¬ R < (ts.length : Int) + 1) : useL R ts K x = ts ++ [x] := by unfold useL; rw [if_pos ho, if_neg hm, if_neg hr]
theorem useL_full {R : Int} {ts : List V3} {K : Int} {x : V3} (ho : okC R ts K = true) (hm : x ∉ ts) (hr : R < (ts.length : Int) + 1) : useL R ts K x = (ts ++ [x]).drop 1 := by unfold useL; rw [if_pos ho, if_neg hm, if_pos hr]
theorem useL_no {R : Int} {ts : List V3} {K : Int} {x : V3} (ho : okC R ts K = false) : useL R ts K x = ts := by unfold useL; rw [ho]; rfl
theorem useK_no {R : Int} {ts : List V3} {K : Int} {x : V3} (ho : okC R ts K = false) : useK R ts K x = K := by unfold useK; rw [ho]; rfl

set_option maxRecDepth 100000 in
set_option maxHeartbeats 32000000 in
theorem sUseTile_any (R : Int) (A : Option Addr) (c : Nat) (ts : List V3) (Q : Int) (x y z : Int) (w : World) (hR : RowC 3 vg w w.heap.size A ts) (hl : ts.length ≤ 1048576) (hc : ts.length ≤ c) :
    Calls Try.prog 37 #[cav R A ts.length c Q, tlv x y z] w (CaOut R (useL R ts Q (x, y, z)) (useK R ts Q (x, y, z)) w) := by
  have HT : Held w (((w.alloc (.cells #[.int .i64 R, .slice A ts.length c, .int .i64 Q] 29)).alloc (.cells #[.int .i64 x, .int .i64 y, .int .i64 z] 50)).alloc (.cells #[.int .i64 0, .slice none 0 0, .int .i64 0] 29)) [(w.heap.size + 1 + 1, [.int .i64 0, .slice none 0 0, .int .i64 0]), (w.heap.size + 1, [.int .i64 x, .int .i64 y, .int .i64 z]), (w.heap.size, [.int .i64 R, .slice A ts.length c, .int .i64 Q])] := by
    have h := (((Held.nil w).new #[.int .i64 R, .slice A ts.length c, .int .i64 Q] 29).new #[.int .i64 x, .int .i64 y, .int .i64 z] 50).new #[.int .i64 0, .slice none 0 0, .int .i64 0] 29
    simpa only [World.size_alloc] using h
  obtain ⟨W1, hW1⟩ : ∃ W, W = ((w.alloc (.cells #[.int .i64 R, .slice A ts.length c, .int .i64 Q] 29)).alloc (.cells #[.int .i64 x, .int .i64 y, .int .i64 z] 50)).alloc (.cells #[.int .i64 0, .slice none 0 0, .int .i64 0] 29) := ⟨_, rfl⟩
  rw [← hW1] at HT
  have hsz : W1.heap.size = w.heap.size + 3 := by rw [hW1]; simp
  have HR0 := Lib.hid (fun W (h : Below w.heap.size w W) => hR.later h)
  have HLEN := Lib.hid (And.intro hl hc)
  clear hR hl hc
  go_enter Try.func37, Try.ntmps37
  go_upto_region 1 with fail
  rw [← hW1]
  generalize g2 : w.heap.size + 1 + 1 = k2 at HT ⊢
  generalize g1 : w.heap.size + 1 = k1 at HT ⊢
  generalize g0 : w.heap.size = k0 at HT ⊢
  obtain ⟨B1, hB1⟩ : ∃ B, B = W1.heap.size := ⟨_, rfl⟩
  have HORD := Lib.hid (show k0 = w.heap.size ∧ k0 < k1 ∧ k1 < k2 ∧ k2 < B1 by omega)
  have HBB := Lib.hid hB1
  have HQ := HT
  have HC : ∀ W', Held w W' [(k2, [.int .i64 0, .slice none 0 0, .int .i64 0]), (k1, [.int .i64 x, .int .i64 y, .int .i64 z]), (k0, [.int .i64 R, .slice A ts.length c, .int .i64 Q])] → W'.cell? ⟨k0, 0, none⟩ = some (.int .i64 R) ∧ W'.cell? ⟨k0, 1, none⟩ = some (.slice A ts.length c) ∧ W'.cell? ⟨k0, 2, none⟩ = some (.int .i64 Q) := fun W' h => ⟨(h.box 2).c 0, (h.box 2).c 1, (h.box 2).c 2⟩
  clear hW1 g0 g1 g2 hsz hB1 HT
  go_cut [5] (fun yv wx => ∃ g A6 c6, yv = .pointer (some ⟨g, 0, none⟩) ∧ Held w wx ((g, [.int .i64 R, .slice A6 ts.length c6, .int .i64 Q]) :: [(k2, [.int .i64 0, .slice none 0 0, .int .i64 0]), (k1, [.int .i64 x, .int .i64 y, .int .i64 z]), (k0, [.int .i64 R, .slice A ts.length c, .int .i64 Q])]) ∧ wx.ownsRow B1 50 3 (.slice A6 ts.length c6) ts.length (ts.flatMap vg) ∧ B1 ≤ g ∧ (Value.slice A6 ts.length c6).ownBlock ≠ some g)
  case first =>
    have HQ := HQ.drew
    refine wp_region_held_drew (S := fun W' => W'.cell? ⟨k0, 0, none⟩ = some (.int .i64 R) ∧ W'.cell? ⟨k0, 1, none⟩ = some (.slice A ts.length c) ∧ W'.cell? ⟨k0, 2, none⟩ = some (.int .i64 Q)) (by kernel_rfl) (HC _ HQ) (fun hHeld => ?_)
    obtain ⟨wd, hwd⟩ : ∃ x, x = W1.drew := ⟨_, rfl⟩
    have hwB : wd.heap.size = B1 := by rw [hwd]; exact HBB.out.symm
    rw [← hwd] at HQ hHeld ⊢
    clear hwd
    refine wpAnyH_take (i := 0) (oi := { dst := some 8, op := Op.fieldAddr 29 (Operand.tmp 2) 0, type := 0, pos := "l16_cache.go:60", after := #[], guard := none }) (v := ?_) rfl (by kernel_rfl) (by kernel_rfl) (by kernel_rfl) (fun _ _ _ h => h) (Or.inl ⟨by rfl, ?_⟩) (by assumption) ?_
    rotate_left 1
    · (intro w hSw; (try dsimp only at hSw); go_simp <;> with_reducible rfl)
    (try simp only [Act.put, List.setIfInBounds_toArray, List.set_cons_zero, List.set_cons_succ])
    refine wpAnyH_take (i := 1) (oi := { dst := some 9, op := Op.load 3 (Operand.tmp 8), type := 3, pos := "l16_cache.go:60", after := #[{ on := 0, ground := Ground.data }], guard := none }) (v := ?_) rfl (by kernel_rfl) (by kernel_rfl) (by kernel_rfl) (fun _ _ _ h => h) (Or.inl ⟨by rfl, ?_⟩) (by assumption) ?_
    rotate_left 1
    · (intro w hSw; (try dsimp only at hSw); go_simp <;> with_reducible rfl)
    (try simp only [Act.put, List.setIfInBounds_toArray, List.set_cons_zero, List.set_cons_succ])
    refine wpAnyH_take (i := 3) (oi := { dst := some 11, op := Op.fieldAddr 29 (Operand.tmp 2) 1, type := 0, pos := "l16_cache.go:60", after := #[], guard := none }) (v := ?_) rfl (by kernel_rfl) (by kernel_rfl) (by kernel_rfl) (fun _ _ _ h => h) (Or.inl ⟨by rfl, ?_⟩) (by assumption) ?_
    rotate_left 1
    · (intro w hSw; (try dsimp only at hSw); go_simp <;> with_reducible rfl)
    (try simp only [Act.put, List.setIfInBounds_toArray, List.set_cons_zero, List.set_cons_succ])
    refine wpAnyH_take (i := 4) (oi := { dst := some 12, op := Op.load 27 (Operand.tmp 11), type := 27, pos := "l16_cache.go:60", after := #[{ on := 3, ground := Ground.data }], guard := none }) (v := ?_) rfl (by kernel_rfl) (by kernel_rfl) (by kernel_rfl) (fun _ _ _ h => h) (Or.inl ⟨by rfl, ?_⟩) (by assumption) ?_
    rotate_left 1
    · (intro w hSw; (try dsimp only at hSw); go_simp <;> with_reducible rfl)
    (try simp only [Act.put, List.setIfInBounds_toArray, List.set_cons_zero, List.set_cons_succ])
    refine wpAnyH_take (i := 6) (oi := { dst := some 14, op := Op.fieldAddr 29 (Operand.tmp 2) 2, type := 0, pos := "l16_cache.go:60", after := #[], guard := none }) (v := ?_) rfl (by kernel_rfl) (by kernel_rfl) (by kernel_rfl) (fun _ _ _ h => h) (Or.inl ⟨by rfl, ?_⟩) (by assumption) ?_
    rotate_left 1
    · (intro w hSw; (try dsimp only at hSw); go_simp <;> with_reducible rfl)
    (try simp only [Act.put, List.setIfInBounds_toArray, List.set_cons_zero, List.set_cons_succ])
    refine wpAnyH_take (i := 7) (oi := { dst := some 15, op := Op.load 3 (Operand.tmp 14), type := 3, pos := "l16_cache.go:60", after := #[{ on := 6, ground := Ground.data }], guard := none }) (v := ?_) rfl (by kernel_rfl) (by kernel_rfl) (by kernel_rfl) (fun _ _ _ h => h) (Or.inl ⟨by rfl, ?_⟩) (by assumption) ?_
    rotate_left 1
    · (intro w hSw; (try dsimp only at hSw); go_simp <;> with_reducible rfl)
    (try simp only [Act.put, List.setIfInBounds_toArray, List.set_cons_zero, List.set_cons_succ])
    refine wpAnyH_ready (rs := [2, 9]) (by kernel_rfl) (by simp) ?_
    refine AllReadyH.cons (o := { dst := some 10, op := Op.buildSlice 27 0 #[], type := 27, pos := "l16_cache.go:60", after := #[], guard := none }) rfl (fun K hK => ?_) ?_
    · go_simp
      have HO0 := own_lit3 HQ
      (try simp only [World.size_alloc] at HO0)
      (try simp only [hwB] at HO0)
      have HO := Lib.hid HO0
      clear HO0
      have HQ := HQ.alloc (.cells #[] 50)
      refine hK.out _ _ (by (try dsimp only); (first | with_reducible exact HC _ HQ | with_reducible exact HC _ HQ.tail)) (fun hHeld => ?_)
      clear hK K
      (try simp only [Act.put, List.setIfInBounds_toArray, List.set_cons_zero, List.set_cons_succ])
      refine wpAnyH_ready (rs := [5, 9]) (by kernel_rfl) (by simp) ?_
      refine AllReadyH.cons (o := { dst := some 13, op := Op.call { callee := Callee.builtin Builtin.append, args := #[Operand.tmp 10, Operand.tmp 12], argTypes := #[27, 27] }, type := 27, pos := "l16_cache.go:60", after := #[{ on := 2, ground := Ground.data }, { on := 4, ground := Ground.data }], guard := none }) rfl (fun K hK => ?_) ?_
      · have HRr := HR0.out _ HQ.below
        refine step_appT rfl _ _ 27 rfl 50 Try.underlying27 (tlv 0 0 0) 24 infoTile rfl _ _ _ _ (by rfl) HO.out _ A c ts.length ts rfl (by rfl) HRr (by unfold maxLen; have := HLEN.out; omega) (by have := HLEN.out; omega) (by (try simp only [World.size_alloc]); omega) ?_
        intro v6 w6 ho6 hg6 hat6
        obtain ⟨A6, c6, rfl⟩ := own_shape ho6
        (try simp only [World.size_alloc] at hat6)
        (try simp only [hwB] at hat6)
        rw [Nat.zero_add] at hat6
        have HQ := HQ.grownX hg6 (fun g e => by simp only [Value.ownBlock, Option.some.injEq] at e; have := HORD.out; omega) (fun p hp e => by simp only [Value.ownBlock, Option.some.injEq] at e; have h1 := HORD.out; simp only [List.mem_cons, List.not_mem_nil, or_false] at hp; (first | (rcases hp with rfl | rfl | rfl | rfl <;> dsimp only at e <;> omega) | (rcases hp with rfl | rfl | rfl <;> dsimp only at e <;> omega)))
        have ho6 : w6.ownsRow B1 50 3 (.slice A6 (0 + ts.length) c6) (0 + ts.length) ([] ++ ts.flatMap vg) := own_base ho6 (by omega)
        rw [Nat.zero_add, List.nil_append] at ho6
        have HAT := Lib.hid (And.intro hat6 (fun b hb => (ho6.lt b hb).2))
        clear hat6
        have HO := Lib.hid ho6
        have hs6 := hg6.size
        have hs6 : B1 + 1 ≤ w6.heap.size := by (simp only [World.size_alloc] at hs6); omega
        (try rw [Nat.zero_add])
        clear ho6 hg6 HRr
        refine hK.out _ _ (by (try dsimp only); (first | with_reducible exact HC _ HQ | with_reducible exact HC _ HQ.tail)) (fun hHeld => ?_)
        clear hK K
        (try simp only [Act.put, List.setIfInBounds_toArray, List.set_cons_zero, List.set_cons_succ])
        refine wpAnyH_take (i := 8) (oi := { dst := some 16, op := Op.build 29 #[(0, Operand.tmp 9), (1, Operand.tmp 13), (2, Operand.tmp 15)], type := 29, pos := "l16_cache.go:60", after := #[{ on := 1, ground := Ground.data }, { on := 5, ground := Ground.data }, { on := 7, ground := Ground.data }], guard := none }) (v := ?_) rfl (by kernel_rfl) (by kernel_rfl) (by kernel_rfl) (fun _ _ _ h => h) (Or.inl ⟨by rfl, ?_⟩) (by assumption) ?_
        rotate_left 1
        · (intro w hSw; (try dsimp only at hSw); go_simp <;> with_reducible rfl)
        (try simp only [Act.put, List.setIfInBounds_toArray, List.set_cons_zero, List.set_cons_succ])
        refine wpAnyH_ready (rs := [9]) (by kernel_rfl) (by simp) ?_
        refine AllReadyH.cons (o := { dst := some 5, op := Op.alloc 29, type := 0, pos := "l16_cache.go:60", after := #[], guard := none }) rfl (fun K hK => ?_) ?_
        · go_simp
          have HPre := HQ
          (try have HOP := HO)
          (try have HO := Lib.hid (HO.out.alloc (.cells #[.int .i64 0, .slice none 0 0, .int .i64 0] 29)))
          have HQ := HQ.new #[.int .i64 0, .slice none 0 0, .int .i64 0] 29
          (try rw [World.size_alloc] at HQ)
          (try rw [hwB] at HQ)
          refine hK.out _ _ (by (try dsimp only); (first | with_reducible exact HC _ HQ | with_reducible exact HC _ HQ.tail)) (fun hHeld => ?_)
          clear hK K
          (try simp only [Act.put, List.setIfInBounds_toArray, List.set_cons_zero, List.set_cons_succ])
          refine wpAnyH_ready (rs := [10]) (by kernel_rfl) (by simp) ?_
          refine AllReadyH.cons (o := { dst := none, op := Op.store 29 (Operand.tmp 5) (Operand.tmp 16), type := 0, pos := "l16_cache.go:60", after := #[{ on := 9, ground := Ground.data }, { on := 8, ground := Ground.data }, { on := 5, ground := Ground.chain }, { on := 0, ground := Ground.phase }, { on := 1, ground := Ground.phase }, { on := 2, ground := Ground.phase }, { on := 3, ground := Ground.phase }, { on := 4, ground := Ground.phase }, { on := 5, ground := Ground.phase }, { on := 6, ground := Ground.phase }, { on := 7, ground := Ground.phase }, { on := 8, ground := Ground.phase }, { on := 9, ground := Ground.phase }], guard := none }) rfl (fun K hK => ?_) ?_
          · have c60 := (HQ.box 0).c 0
            have c61 := (HQ.box 0).c 1
            have c62 := (HQ.box 0).c 2
            have f60 := (HQ.box 0).f 0
            have f61 := (HQ.box 0).f 1
            have f62 := (HQ.box 0).f 2
            go_simp
            clear c60 c61 c62 f60 f61 f62
            first | (have HX := ((HQ.put (by have := HORD.out; omega) (fun p hp => by (have h1 := HORD.out; simp only [List.mem_cons, List.not_mem_nil, or_false] at hp; rcases hp with rfl | rfl | rfl <;> (show _ ≠ _) <;> omega)) 0 (.int .i64 R)).put (by have := HORD.out; omega) (fun p hp => by (have h1 := HORD.out; simp only [List.mem_cons, List.not_mem_nil, or_false] at hp; rcases hp with rfl | rfl | rfl <;> (show _ ≠ _) <;> omega)) 1 (.slice A6 ts.length c6)).put (by have := HORD.out; omega) (fun p hp => by (have h1 := HORD.out; simp only [List.mem_cons, List.not_mem_nil, or_false] at hp; rcases hp with rfl | rfl | rfl <;> (show _ ≠ _) <;> omega)) 2 (.int .i64 Q); refine hK.out _ _ (by (try dsimp only); exact HC _ HX.tail) (fun hHeld => ?_); have HO := Lib.hid (own_set3 HO.out HQ (by intro e; have h1 := HAT.out.2 _ e; rcases HAT.out.1 with h | h <;> (rw [e] at h; simp only [Value.ownBlock, Option.some.injEq] at h; omega)) (.int .i64 R) (.slice A6 ts.length c6) (.int .i64 Q)); have HQ := HX) | (have HQ := HPre.new #[.int .i64 R, .slice A6 ts.length c6, .int .i64 Q] 29; refine hK.out _ _ (by (try dsimp only); exact HC _ HQ.tail) (fun hHeld => ?_); have HO := Lib.hid (HOP.out.alloc (.cells #[.int .i64 R, .slice A6 ts.length c6, .int .i64 Q] 29)))
            clear hK K
            (try simp only [Act.put, List.setIfInBounds_toArray, List.set_cons_zero, List.set_cons_succ])
            refine wpAnyH_done (by kernel_rfl) ?_ _
            clear hHeld
            go_wp2
            go_meet
            exact ⟨_, A6, c6, rfl, HQ, HO.out, by omega, (by intro e; have h1 := HAT.out.2 _ e; rcases HAT.out.1 with h | h <;> (rw [e] at h; simp only [Value.ownBlock, Option.some.injEq] at h; omega))⟩
          exact AllReadyH.nil
        exact AllReadyH.nil
      refine AllReadyH.cons (o := { dst := some 5, op := Op.alloc 29, type := 0, pos := "l16_cache.go:60", after := #[], guard := none }) rfl (fun K hK => ?_) ?_
      · go_simp
        have HPre := HQ
        (try have HOP := HO)
        (try have HO := Lib.hid (HO.out.alloc (.cells #[.int .i64 0, .slice none 0 0, .int .i64 0] 29)))
        have HQ := HQ.new #[.int .i64 0, .slice none 0 0, .int .i64 0] 29
        (try rw [World.size_alloc] at HQ)
        (try rw [hwB] at HQ)
        refine hK.out _ _ (by (try dsimp only); (first | with_reducible exact HC _ HQ | with_reducible exact HC _ HQ.tail)) (fun hHeld => ?_)
        clear hK K
        (try simp only [Act.put, List.setIfInBounds_toArray, List.set_cons_zero, List.set_cons_succ])
        refine wpAnyH_ready (rs := [5]) (by kernel_rfl) (by simp) ?_
        refine AllReadyH.cons (o := { dst := some 13, op := Op.call { callee := Callee.builtin Builtin.append, args := #[Operand.tmp 10, Operand.tmp 12], argTypes := #[27, 27] }, type := 27, pos := "l16_cache.go:60", after := #[{ on := 2, ground := Ground.data }, { on := 4, ground := Ground.data }], guard := none }) rfl (fun K hK => ?_) ?_
        · have HRr := HR0.out _ HQ.below
          refine step_appT rfl _ _ 27 rfl 50 Try.underlying27 (tlv 0 0 0) 24 infoTile rfl _ _ _ _ (by rfl) HO.out _ A c ts.length ts rfl (by rfl) HRr (by unfold maxLen; have := HLEN.out; omega) (by have := HLEN.out; omega) (by (try simp only [World.size_alloc]); omega) ?_
          intro v6 w6 ho6 hg6 hat6
          obtain ⟨A6, c6, rfl⟩ := own_shape ho6
          (try simp only [World.size_alloc] at hat6)
          (try simp only [hwB] at hat6)
          rw [Nat.zero_add] at hat6
          have HQ := HQ.grownX hg6 (fun g e => by simp only [Value.ownBlock, Option.some.injEq] at e; have := HORD.out; omega) (fun p hp e => by simp only [Value.ownBlock, Option.some.injEq] at e; have h1 := HORD.out; simp only [List.mem_cons, List.not_mem_nil, or_false] at hp; (first | (rcases hp with rfl | rfl | rfl | rfl <;> dsimp only at e <;> omega) | (rcases hp with rfl | rfl | rfl <;> dsimp only at e <;> omega)))
          have ho6 : w6.ownsRow B1 50 3 (.slice A6 (0 + ts.length) c6) (0 + ts.length) ([] ++ ts.flatMap vg) := own_base ho6 (by omega)
          rw [Nat.zero_add, List.nil_append] at ho6
          have HAT := Lib.hid (And.intro hat6 (fun b hb => (ho6.lt b hb).2))
          clear hat6
          have HO := Lib.hid ho6
          have hs6 := hg6.size
          have hs6 : B1 + 1 ≤ w6.heap.size := by (simp only [World.size_alloc] at hs6); omega
          (try rw [Nat.zero_add])
          clear ho6 hg6 HRr
          refine hK.out _ _ (by (try dsimp only); (first | with_reducible exact HC _ HQ | with_reducible exact HC _ HQ.tail)) (fun hHeld => ?_)
          clear hK K
          (try simp only [Act.put, List.setIfInBounds_toArray, List.set_cons_zero, List.set_cons_succ])
          refine wpAnyH_take (i := 8) (oi := { dst := some 16, op := Op.build 29 #[(0, Operand.tmp 9), (1, Operand.tmp 13), (2, Operand.tmp 15)], type := 29, pos := "l16_cache.go:60", after := #[{ on := 1, ground := Ground.data }, { on := 5, ground := Ground.data }, { on := 7, ground := Ground.data }], guard := none }) (v := ?_) rfl (by kernel_rfl) (by kernel_rfl) (by kernel_rfl) (fun _ _ _ h => h) (Or.inl ⟨by rfl, ?_⟩) (by assumption) ?_
          rotate_left 1
          · (intro w hSw; (try dsimp only at hSw); go_simp <;> with_reducible rfl)
          (try simp only [Act.put, List.setIfInBounds_toArray, List.set_cons_zero, List.set_cons_succ])
          refine wpAnyH_ready (rs := [10]) (by kernel_rfl) (by simp) ?_
          refine AllReadyH.cons (o := { dst := none, op := Op.store 29 (Operand.tmp 5) (Operand.tmp 16), type := 0, pos := "l16_cache.go:60", after := #[{ on := 9, ground := Ground.data }, { on := 8, ground := Ground.data }, { on := 5, ground := Ground.chain }, { on := 0, ground := Ground.phase }, { on := 1, ground := Ground.phase }, { on := 2, ground := Ground.phase }, { on := 3, ground := Ground.phase }, { on := 4, ground := Ground.phase }, { on := 5, ground := Ground.phase }, { on := 6, ground := Ground.phase }, { on := 7, ground := Ground.phase }, { on := 8, ground := Ground.phase }, { on := 9, ground := Ground.phase }], guard := none }) rfl (fun K hK => ?_) ?_
          · have c60 := (HQ.box 0).c 0
            have c61 := (HQ.box 0).c 1
            have c62 := (HQ.box 0).c 2
            have f60 := (HQ.box 0).f 0
            have f61 := (HQ.box 0).f 1
            have f62 := (HQ.box 0).f 2
            go_simp
            clear c60 c61 c62 f60 f61 f62
            first | (have HX := ((HQ.put (by have := HORD.out; omega) (fun p hp => by (have h1 := HORD.out; simp only [List.mem_cons, List.not_mem_nil, or_false] at hp; rcases hp with rfl | rfl | rfl <;> (show _ ≠ _) <;> omega)) 0 (.int .i64 R)).put (by have := HORD.out; omega) (fun p hp => by (have h1 := HORD.out; simp only [List.mem_cons, List.not_mem_nil, or_false] at hp; rcases hp with rfl | rfl | rfl <;> (show _ ≠ _) <;> omega)) 1 (.slice A6 ts.length c6)).put (by have := HORD.out; omega) (fun p hp => by (have h1 := HORD.out; simp only [List.mem_cons, List.not_mem_nil, or_false] at hp; rcases hp with rfl | rfl | rfl <;> (show _ ≠ _) <;> omega)) 2 (.int .i64 Q); refine hK.out _ _ (by (try dsimp only); exact HC _ HX.tail) (fun hHeld => ?_); have HO := Lib.hid (own_set3 HO.out HQ (by intro e; have h1 := HAT.out.2 _ e; rcases HAT.out.1 with h | h <;> (rw [e] at h; simp only [Value.ownBlock, Option.some.injEq] at h; omega)) (.int .i64 R) (.slice A6 ts.length c6) (.int .i64 Q)); have HQ := HX) | (have HQ := HPre.new #[.int .i64 R, .slice A6 ts.length c6, .int .i64 Q] 29; refine hK.out _ _ (by (try dsimp only); exact HC _ HQ.tail) (fun hHeld => ?_); have HO := Lib.hid (HOP.out.alloc (.cells #[.int .i64 R, .slice A6 ts.length c6, .int .i64 Q] 29)))
            clear hK K
            (try simp only [Act.put, List.setIfInBounds_toArray, List.set_cons_zero, List.set_cons_succ])
            refine wpAnyH_done (by kernel_rfl) ?_ _
            clear hHeld
            go_wp2
            go_meet
            exact ⟨_, A6, c6, rfl, HQ, HO.out, by omega, (by intro e; have h1 := HAT.out.2 _ e; rcases HAT.out.1 with h | h <;> (rw [e] at h; simp only [Value.ownBlock, Option.some.injEq] at h; omega))⟩
          exact AllReadyH.nil
        exact AllReadyH.nil
      exact AllReadyH.nil
    refine AllReadyH.cons (o := { dst := some 5, op := Op.alloc 29, type := 0, pos := "l16_cache.go:60", after := #[], guard := none }) rfl (fun K hK => ?_) ?_
    · go_simp
      have HPre := HQ
      (try have HOP := HO)
      (try have HO := Lib.hid (HO.out.alloc (.cells #[.int .i64 0, .slice none 0 0, .int .i64 0] 29)))
      have HQ := HQ.new #[.int .i64 0, .slice none 0 0, .int .i64 0] 29
      (try rw [World.size_alloc] at HQ)
      (try rw [hwB] at HQ)
      refine hK.out _ _ (by (try dsimp only); (first | with_reducible exact HC _ HQ | with_reducible exact HC _ HQ.tail)) (fun hHeld => ?_)
      clear hK K
      (try simp only [Act.put, List.setIfInBounds_toArray, List.set_cons_zero, List.set_cons_succ])
      refine wpAnyH_ready (rs := [2]) (by kernel_rfl) (by simp) ?_
      refine AllReadyH.cons (o := { dst := some 10, op := Op.buildSlice 27 0 #[], type := 27, pos := "l16_cache.go:60", after := #[], guard := none }) rfl (fun K hK => ?_) ?_
      · go_simp
        have HO0 := own_lit3 HQ
        (try simp only [World.size_alloc] at HO0)
        (try simp only [hwB] at HO0)
        have HO := Lib.hid HO0
        clear HO0
        have HQ := HQ.alloc (.cells #[] 50)
        refine hK.out _ _ (by (try dsimp only); (first | with_reducible exact HC _ HQ | with_reducible exact HC _ HQ.tail)) (fun hHeld => ?_)
        clear hK K
        (try simp only [Act.put, List.setIfInBounds_toArray, List.set_cons_zero, List.set_cons_succ])
        refine wpAnyH_ready (rs := [5]) (by kernel_rfl) (by simp) ?_
        refine AllReadyH.cons (o := { dst := some 13, op := Op.call { callee := Callee.builtin Builtin.append, args := #[Operand.tmp 10, Operand.tmp 12], argTypes := #[27, 27] }, type := 27, pos := "l16_cache.go:60", after := #[{ on := 2, ground := Ground.data }, { on := 4, ground := Ground.data }], guard := none }) rfl (fun K hK => ?_) ?_
        · have HRr := HR0.out _ HQ.below
          refine step_appT rfl _ _ 27 rfl 50 Try.underlying27 (tlv 0 0 0) 24 infoTile rfl _ _ _ _ (by rfl) HO.out _ A c ts.length ts rfl (by rfl) HRr (by unfold maxLen; have := HLEN.out; omega) (by have := HLEN.out; omega) (by (try simp only [World.size_alloc]); omega) ?_
          intro v6 w6 ho6 hg6 hat6
          obtain ⟨A6, c6, rfl⟩ := own_shape ho6
          (try simp only [World.size_alloc] at hat6)
          (try simp only [hwB] at hat6)
          rw [Nat.zero_add] at hat6
          have HQ := HQ.grownX hg6 (fun g e => by simp only [Value.ownBlock, Option.some.injEq] at e; have := HORD.out; omega) (fun p hp e => by simp only [Value.ownBlock, Option.some.injEq] at e; have h1 := HORD.out; simp only [List.mem_cons, List.not_mem_nil, or_false] at hp; (first | (rcases hp with rfl | rfl | rfl | rfl <;> dsimp only at e <;> omega) | (rcases hp with rfl | rfl | rfl <;> dsimp only at e <;> omega)))
          have ho6 : w6.ownsRow B1 50 3 (.slice A6 (0 + ts.length) c6) (0 + ts.length) ([] ++ ts.flatMap vg) := own_base ho6 (by omega)
          rw [Nat.zero_add, List.nil_append] at ho6
          have HAT := Lib.hid (And.intro hat6 (fun b hb => (ho6.lt b hb).2))
          clear hat6
          have HO := Lib.hid ho6
          have hs6 := hg6.size
          have hs6 : B1 + 1 ≤ w6.heap.size := by (simp only [World.size_alloc] at hs6); omega
          (try rw [Nat.zero_add])
          clear ho6 hg6 HRr
          refine hK.out _ _ (by (try dsimp only); (first | with_reducible exact HC _ HQ | with_reducible exact HC _ HQ.tail)) (fun hHeld => ?_)
          clear hK K
          (try simp only [Act.put, List.setIfInBounds_toArray, List.set_cons_zero, List.set_cons_succ])
          refine wpAnyH_take (i := 8) (oi := { dst := some 16, op := Op.build 29 #[(0, Operand.tmp 9), (1, Operand.tmp 13), (2, Operand.tmp 15)], type := 29, pos := "l16_cache.go:60", after := #[{ on := 1, ground := Ground.data }, { on := 5, ground := Ground.data }, { on := 7, ground := Ground.data }], guard := none }) (v := ?_) rfl (by kernel_rfl) (by kernel_rfl) (by kernel_rfl) (fun _ _ _ h => h) (Or.inl ⟨by rfl, ?_⟩) (by assumption) ?_
          rotate_left 1
          · (intro w hSw; (try dsimp only at hSw); go_simp <;> with_reducible rfl)
          (try simp only [Act.put, List.setIfInBounds_toArray, List.set_cons_zero, List.set_cons_succ])
          refine wpAnyH_ready (rs := [10]) (by kernel_rfl) (by simp) ?_
          refine AllReadyH.cons (o := { dst := none, op := Op.store 29 (Operand.tmp 5) (Operand.tmp 16), type := 0, pos := "l16_cache.go:60", after := #[{ on := 9, ground := Ground.data }, { on := 8, ground := Ground.data }, { on := 5, ground := Ground.chain }, { on := 0, ground := Ground.phase }, { on := 1, ground := Ground.phase }, { on := 2, ground := Ground.phase }, { on := 3, ground := Ground.phase }, { on := 4, ground := Ground.phase }, { on := 5, ground := Ground.phase }, { on := 6, ground := Ground.phase }, { on := 7, ground := Ground.phase }, { on := 8, ground := Ground.phase }, { on := 9, ground := Ground.phase }], guard := none }) rfl (fun K hK => ?_) ?_
          · have c60 := (HQ.box 0).c 0
            have c61 := (HQ.box 0).c 1
            have c62 := (HQ.box 0).c 2
            have f60 := (HQ.box 0).f 0
            have f61 := (HQ.box 0).f 1
            have f62 := (HQ.box 0).f 2
            go_simp
            clear c60 c61 c62 f60 f61 f62
            first | (have HX := ((HQ.put (by have := HORD.out; omega) (fun p hp => by (have h1 := HORD.out; simp only [List.mem_cons, List.not_mem_nil, or_false] at hp; rcases hp with rfl | rfl | rfl <;> (show _ ≠ _) <;> omega)) 0 (.int .i64 R)).put (by have := HORD.out; omega) (fun p hp => by (have h1 := HORD.out; simp only [List.mem_cons, List.not_mem_nil, or_false] at hp; rcases hp with rfl | rfl | rfl <;> (show _ ≠ _) <;> omega)) 1 (.slice A6 ts.length c6)).put (by have := HORD.out; omega) (fun p hp => by (have h1 := HORD.out; simp only [List.mem_cons, List.not_mem_nil, or_false] at hp; rcases hp with rfl | rfl | rfl <;> (show _ ≠ _) <;> omega)) 2 (.int .i64 Q); refine hK.out _ _ (by (try dsimp only); exact HC _ HX.tail) (fun hHeld => ?_); have HO := Lib.hid (own_set3 HO.out HQ (by intro e; have h1 := HAT.out.2 _ e; rcases HAT.out.1 with h | h <;> (rw [e] at h; simp only [Value.ownBlock, Option.some.injEq] at h; omega)) (.int .i64 R) (.slice A6 ts.length c6) (.int .i64 Q)); have HQ := HX) | (have HQ := HPre.new #[.int .i64 R, .slice A6 ts.length c6, .int .i64 Q] 29; refine hK.out _ _ (by (try dsimp only); exact HC _ HQ.tail) (fun hHeld => ?_); have HO := Lib.hid (HOP.out.alloc (.cells #[.int .i64 R, .slice A6 ts.length c6, .int .i64 Q] 29)))
            clear hK K
            (try simp only [Act.put, List.setIfInBounds_toArray, List.set_cons_zero, List.set_cons_succ])
            refine wpAnyH_done (by kernel_rfl) ?_ _
            clear hHeld
            go_wp2
            go_meet
            exact ⟨_, A6, c6, rfl, HQ, HO.out, by omega, (by intro e; have h1 := HAT.out.2 _ e; rcases HAT.out.1 with h | h <;> (rw [e] at h; simp only [Value.ownBlock, Option.some.injEq] at h; omega))⟩
          exact AllReadyH.nil
        exact AllReadyH.nil
      exact AllReadyH.nil
    exact AllReadyH.nil
  case rest =>
    clear HC HQ
    obtain ⟨g, A6, c6, rfl, HT, hown, hBg, hng⟩ := hcut
    have HG := Lib.hid hBg
    have HNG := Lib.hid hng
    have HV := Lib.hid (sIsValidC_any R A c ts Q wc (HR0.out _ HT.below) (by have := HLEN.out; omega))
    have n0 := (HT.box 3).c 0
    have n1 := (HT.box 3).c 1
    have n2 := (HT.box 3).c 2
    have HW := Lib.hid (And.intro HT hown)
    clear hBg hng HT hown
    go_wp2_with fail
    refine HV.out.mono ?_
    rintro e w3 ⟨rfl, hb3⟩
    have HT := HW.out.1.later hb3
    have hown := own_keep' HW.out.2 hb3
    clear hb3 n0 n1 n2 HW HV
    cases hok : okC R ts Q with
    | false =>
      have HE := Lib.hid (And.intro (useL_no (x := (x, y, z)) hok) (useK_no (x := (x, y, z)) hok))
      have m0 := (HT.box 0).c 0
      have m1 := (HT.box 0).c 1
      have m2 := (HT.box 0).c 2
      have r0 := (HT.box 1).c 0
      have r1 := (HT.box 1).c 1
      have r2 := (HT.box 1).c 2
      have o0 := (HT.box 1).f 0
      have o1 := (HT.box 1).f 1
      have o2 := (HT.box 1).f 2
      have HTB := Lib.hid HT.below
      have hne : ¬ k2 = g := by have h1 := HORD.out; have h2 := HG.out; omega
      have hne2 : ¬ g = k2 := by have h1 := HORD.out; have h2 := HG.out; omega
      have HOE := Lib.hid hown
      clear hok HT hown
      go_wp2_with fail
      have hq1 : w.heap.size ≤ k2 := by have := HORD.out; omega
      have hlt1 : k2 < B1 := by have := HORD.out; omega
      have ho5 := ownsRow_setCell_below (ownsRow_setCell_below (ownsRow_setCell_below HOE.out (a := ⟨k2, 0, none⟩) hlt1 (.int .i64 R)) (a := ⟨k2, 1, none⟩) hlt1 (.slice A6 ts.length c6)) (a := ⟨k2, 2, none⟩) hlt1 (.int .i64 Q)
      exact bodyPost_ret (v := cav R A6 ts.length c6 Q) (by simp [results, Try.results37, go_sem, r0, r1, r2]) rfl ⟨A6, c6, by rw [HE.out.1, HE.out.2], by rw [HE.out.1]; exact own_base ho5 (by have := HORD.out; omega), ((HTB.out.setCell (p := ⟨k2, 0, none⟩) hq1 _).setCell (p := ⟨k2, 1, none⟩) hq1 _).setCell (p := ⟨k2, 2, none⟩) hq1 _⟩
    | true =>
      have hokC := okC_iff.1 hok
      obtain ⟨r, hr⟩ : ∃ r, r = fndT ts (x, y, z) := ⟨_, rfl⟩
      have HF := Lib.hid (sFind_any A c ts x y z w3 (HR0.out _ HT.below) (by have := HLEN.out; omega))
      rw [← hr] at HF
      have n1 := (HT.box 3).c 1
      have q0 := (HT.box 2).c 0
      have q1 := (HT.box 2).c 1
      have q2 := (HT.box 2).c 2
      have HW := Lib.hid (And.intro HT hown)
      clear HT hown
      go_wp2_with fail
      refine HF.out.mono ?_
      rintro e w4 ⟨rfl, hb4⟩
      have HT := HW.out.1.later hb4
      have hown := own_keep' HW.out.2 hb4
      clear hb4 n1 q0 q1 q2 HW HF
      by_cases hm : (x, y, z) ∈ ts
      · have hixl := List.idxOf_lt_length_iff.2 hm
        have hri : r = ((ts.idxOf (x, y, z) : Nat) : Int) := by rw [hr]; unfold fndT; rw [if_pos hm]
        have hul := useL_old hok hm
        have huk := useK_old (R := R) (K := Q) hm
        obtain ⟨i, hi⟩ : ∃ i, i = ts.idxOf (x, y, z) := ⟨_, rfl⟩
        rw [← hi] at hri hixl hul
        have HE := Lib.hid (And.intro hul huk)
        obtain ⟨b, o, hA, _, hcz0⟩ := (HR0.out w (Below.refl _ _)).at hixl
        subst hA
        subst hri
        have hlc := HLEN.out.2
        have hln : ts.length ≤ 12 := by have h1 := hokC.1; have h2 := hokC.2.1; omega
        have hcz : ¬ c = 0 := by omega
        have h0i : (0 : Int) ≤ (i : Int) := by omega
        have h1i : (i : Int) ≤ (c : Int) := by omega
        have h2i : (i : Int) + 1 ≤ (ts.length : Int) := by omega
        have h3i : (0 : Int) ≤ (i : Int) + 1 := by omega
        have ei : IntKind.i64.wrap ((i : Int) + 1) = ((i + 1 : Nat) : Int) := wrap_v (by omega)
        have HIX := Lib.hid (And.intro hixl (And.intro hln hlc))
        have HO0 := own_lit3 HT
        have HTA := HT.alloc (.cells #[] 50)
        have HRK := ((HR0.out _ HT.below).takeT (l := i)).alloc (Nat.le_refl _) (.cells #[] 50)
        have n1 := (HTA.box 3).c 1
        have hgw : g < w4.heap.size := (HT.box 0).lt
        have hsA : (w4.alloc (.cells #[] 50)).heap.size = w4.heap.size + 1 := by simp
        have HW := Lib.hid (And.intro HTA (And.intro HO0 (And.intro HRK (And.intro hsA (And.intro hgw HT.size)))))
        clear hul huk hi hcz0 hixl hr hok hokC hm HT hown HO0 HTA HRK hsA hgw hlc hln
        go_wp2_with (at_builtin; refine wpList_appT rfl _ _ 27 rfl 50 Try.underlying27 (tlv 0 0 0) 24 infoTile rfl w4.heap.size _ _ _ (by rfl) HW.out.2.1 w4.heap.size _ _ i (ts.take i) (by have := HIX.out; simp; omega) (by rfl) HW.out.2.2.1 (by unfold maxLen; have := HIX.out; omega) (by have := HIX.out; omega) (by have := HW.out.2.2.2.1; omega) ?_)
        intro v6 w6 ho6 hg6 hat6
        clear hat6
        obtain ⟨A7, c7, rfl⟩ : ∃ A' c', v6 = .slice A' i c' := own_shape ho6
        obtain ⟨B2, hB2⟩ : ∃ B, B = w4.heap.size := ⟨_, rfl⟩
        have HB2 := Lib.hid (show g < B2 ∧ w.heap.size ≤ B2 by have := HW.out; omega)
        have HBX := Lib.hid (show B1 ≤ B2 by have h1 := HG.out; have h2 := HB2.out; omega)
        have HO : Hid (w6.ownsRow B2 50 3 (.slice A7 i c7) i ((ts.take i).flatMap vg)) := Lib.hid (by rw [hB2]; exact ho6)
        have HSZ : Hid (B2 ≤ w6.heap.size) := Lib.hid (by have h1 := HW.out.2.2.2.1; have h2 := hg6.size; omega)
        have HQ := HW.out.1.grownX hg6 (fun q e => by have h1 := own_block HW.out.2.1 q e; have h2 := HB2.out; omega) (fun p hp e => by
          have h1 := own_block HW.out.2.1 p.1 e.symm
          have h2 := HORD.out
          have h3 := HB2.out
          have h4 := HG.out
          simp only [List.mem_cons, List.not_mem_nil, or_false] at hp
          rcases hp with rfl | rfl | rfl | rfl <;> dsimp only at h1 <;> omega)
        have HCUT : Hid (∀ W, Below w.heap.size w W → RowC 3 vg W W.heap.size (if c = i + 1 then some ⟨b, o, none⟩ else some ⟨b, o + (i + 1) * 3, none⟩) (ts.drop (i + 1))) := Lib.hid (fun W h => by
          split
          · exact RowC.emptyT (by have := HIX.out; simp; omega)
          · exact (HR0.out W h).dropT (by have := HIX.out; omega))
        have HC7S : ∀ {v : Value} W', Held w W' ((g, [.int .i64 R, v, .int .i64 Q]) :: [(k2, [.int .i64 0, .slice none 0 0, .int .i64 0]), (k1, [.int .i64 x, .int .i64 y, .int .i64 z]), (k0, [.int .i64 R, .slice (some ⟨b, o, none⟩) ts.length c, .int .i64 Q])]) → W'.cell? ⟨k0, 0, none⟩ = some (.int .i64 R) ∧ W'.cell? ⟨k0, 1, none⟩ = some (.slice (some ⟨b, o, none⟩) ts.length c) ∧ W'.cell? ⟨k1, 0, none⟩ = some (.int .i64 x) ∧ W'.cell? ⟨k1, 1, none⟩ = some (.int .i64 y) ∧ W'.cell? ⟨k1, 2, none⟩ = some (.int .i64 z) := fun W' h => ⟨(h.box 3).c 0, (h.box 3).c 1, (h.box 2).c 0, (h.box 2).c 1, (h.box 2).c 2⟩
        have HC7 : ∀ W', Held w W' ((g, [.int .i64 R, .slice A6 ts.length c6, .int .i64 Q]) :: [(k2, [.int .i64 0, .slice none 0 0, .int .i64 0]), (k1, [.int .i64 x, .int .i64 y, .int .i64 z]), (k0, [.int .i64 R, .slice (some ⟨b, o, none⟩) ts.length c, .int .i64 Q])]) → W'.cell? ⟨k0, 0, none⟩ = some (.int .i64 R) ∧ W'.cell? ⟨k0, 1, none⟩ = some (.slice (some ⟨b, o, none⟩) ts.length c) ∧ W'.cell? ⟨k1, 0, none⟩ = some (.int .i64 x) ∧ W'.cell? ⟨k1, 1, none⟩ = some (.int .i64 y) ∧ W'.cell? ⟨k1, 2, none⟩ = some (.int .i64 z) := fun W' h => ⟨(h.box 3).c 0, (h.box 3).c 1, (h.box 2).c 0, (h.box 2).c 1, (h.box 2).c 2⟩
        clear ho6 hg6 hB2 n1
        go_upto_region 7 with fail
        have HQ := HQ.drew
        have HO : Hid (w6.drew.ownsRow B2 50 3 (.slice A7 i c7) i ((ts.take i).flatMap vg)) := HO
        have HSZ : Hid (B2 ≤ w6.drew.heap.size) := HSZ
        refine wp_region_held_drew (S := fun W' => W'.cell? ⟨k0, 0, none⟩ = some (.int .i64 R) ∧ W'.cell? ⟨k0, 1, none⟩ = some (.slice (some ⟨b, o, none⟩) ts.length c) ∧ W'.cell? ⟨k1, 0, none⟩ = some (.int .i64 x) ∧ W'.cell? ⟨k1, 1, none⟩ = some (.int .i64 y) ∧ W'.cell? ⟨k1, 2, none⟩ = some (.int .i64 z)) (by kernel_rfl) (HC7 _ HQ) (fun hHeld => ?_)
        obtain ⟨wd, hwd⟩ : ∃ x, x = w6.drew := ⟨_, rfl⟩
        rw [← hwd] at HQ HO HSZ hHeld ⊢
        clear hwd
        refine wpAnyH_take (i := 0) (oi := { dst := some 33, op := Op.move (Operand.tmp 7), type := 27, pos := "l16_cache.go:67", after := #[], guard := none }) (v := ?_) rfl (by kernel_rfl) (by kernel_rfl) (by kernel_rfl) (fun _ _ _ h => h) (Or.inl ⟨by rfl, ?_⟩) (by assumption) ?_
        rotate_left 1
        · (intro w hSw; (try dsimp only at hSw); go_simp <;> with_reducible rfl)
        (try simp only [Act.put, List.setIfInBounds_toArray, List.set_cons_zero, List.set_cons_succ])
        refine wpAnyH_take (i := 1) (oi := { dst := some 34, op := Op.fieldAddr 29 (Operand.tmp 2) 1, type := 0, pos := "l16_cache.go:67", after := #[], guard := none }) (v := ?_) rfl (by kernel_rfl) (by kernel_rfl) (by kernel_rfl) (fun _ _ _ h => h) (Or.inl ⟨by rfl, ?_⟩) (by assumption) ?_
        rotate_left 1
        · (intro w hSw; (try dsimp only at hSw); go_simp <;> with_reducible rfl)
        (try simp only [Act.put, List.setIfInBounds_toArray, List.set_cons_zero, List.set_cons_succ])
        refine wpAnyH_take (i := 2) (oi := { dst := some 35, op := Op.load 27 (Operand.tmp 34), type := 27, pos := "l16_cache.go:67", after := #[{ on := 1, ground := Ground.data }], guard := none }) (v := ?_) rfl (by kernel_rfl) (by kernel_rfl) (by kernel_rfl) (fun _ _ _ h => h) (Or.inl ⟨by rfl, ?_⟩) (by assumption) ?_
        rotate_left 1
        · (intro w hSw; (try dsimp only at hSw); go_simp <;> with_reducible rfl)
        (try simp only [Act.put, List.setIfInBounds_toArray, List.set_cons_zero, List.set_cons_succ])
        refine wpAnyH_take (i := 3) (oi := { dst := some 36, op := Op.move (Operand.tmp 6), type := 3, pos := "l16_cache.go:67", after := #[], guard := none }) (v := ?_) rfl (by kernel_rfl) (by kernel_rfl) (by kernel_rfl) (fun _ _ _ h => h) (Or.inl ⟨by rfl, ?_⟩) (by assumption) ?_
        rotate_left 1
        · (intro w hSw; (try dsimp only at hSw); go_simp <;> with_reducible rfl)
        (try simp only [Act.put, List.setIfInBounds_toArray, List.set_cons_zero, List.set_cons_succ])
        refine wpAnyH_take (i := 4) (oi := { dst := some 37, op := Op.binOp BinOp.add 3 (Operand.tmp 36) (Operand.const (Value.int IntKind.i64 1)) 3, type := 3, pos := "l16_cache.go:67", after := #[{ on := 3, ground := Ground.data }], guard := none }) (v := ?_) rfl (by kernel_rfl) (by kernel_rfl) (by kernel_rfl) (fun _ _ _ h => h) (Or.inl ⟨by rfl, ?_⟩) (by assumption) ?_
        rotate_left 1
        · (intro w hSw; (try dsimp only at hSw); go_simp <;> with_reducible rfl)
        (try simp only [Act.put, List.setIfInBounds_toArray, List.set_cons_zero, List.set_cons_succ])
        refine wpAnyH_take (i := 5) (oi := { dst := some 38, op := Op.slice 27 (Operand.tmp 35) (some (Operand.tmp 37)) none none, type := 27, pos := "l16_cache.go:67", after := #[{ on := 2, ground := Ground.data }, { on := 4, ground := Ground.data }], guard := none }) (v := ?_) rfl (by kernel_rfl) (by kernel_rfl) (by kernel_rfl) (fun _ _ _ h => h) (Or.inl ⟨by rfl, ?_⟩) (by assumption) ?_
        rotate_left 1
        · (intro w hSw; (try dsimp only at hSw); go_simp <;> with_reducible rfl)
        (try simp only [Act.put, List.setIfInBounds_toArray, List.set_cons_zero, List.set_cons_succ])
        refine wpAnyH_take (i := 7) (oi := { dst := some 40, op := Op.load 50 (Operand.tmp 3), type := 50, pos := "l16_cache.go:67", after := #[], guard := none }) (v := ?_) rfl (by kernel_rfl) (by kernel_rfl) (by kernel_rfl) (fun _ _ _ h => h) (Or.inl ⟨by rfl, ?_⟩) (by assumption) ?_
        rotate_left 1
        · (intro w hSw; (try dsimp only at hSw); go_simp <;> with_reducible rfl)
        (try simp only [Act.put, List.setIfInBounds_toArray, List.set_cons_zero, List.set_cons_succ])
        refine wpAnyH_ready (rs := [6, 8]) (by kernel_rfl) (by simp) ?_
        refine AllReadyH.cons (o := { dst := some 39, op := Op.call { callee := Callee.builtin Builtin.append, args := #[Operand.tmp 33, Operand.tmp 38], argTypes := #[27, 27] }, type := 27, pos := "l16_cache.go:67", after := #[{ on := 0, ground := Ground.data }, { on := 5, ground := Ground.data }], guard := none }) rfl (fun K hK => ?_) ?_
        · have HRc := HCUT.out _ HQ.below
          refine step_appT rfl _ _ 27 rfl 50 Try.underlying27 (tlv 0 0 0) 24 infoTile rfl B2 _ _ _ (by rfl) HO.out _ _ _ (ts.length - (i + 1)) (ts.drop (i + 1)) (by simp) (by rfl) HRc (by unfold maxLen; have := HIX.out; omega) (by have := HIX.out; omega) HSZ.out ?_
          intro v8 wd ho8 hg8 _
          obtain ⟨A8, c8, rfl⟩ := own_shape ho8
          have HQ := HQ.grownX hg8 (fun q e => by have h1 := own_block HO.out q e; have := HB2.out; omega) (fun p hp e => by (have h1 := own_block HO.out p.1 e.symm; have h2 := HORD.out; have h3 := HB2.out; have h4 := HBX.out; simp only [List.mem_cons, List.not_mem_nil, or_false] at hp; rcases hp with rfl | rfl | rfl | rfl <;> dsimp only at h1 <;> omega))
          have HSZ := Lib.hid (Nat.le_trans HSZ.out hg8.size)
          (try have HV := HV.keep fun hl => hg8.block _ hl (fun e => HNV.out e.symm))
          have HO := Lib.hid ho8
          clear ho8 hg8 HRc
          refine hK.out _ _ (by (try dsimp only); (first | with_reducible exact HC7 _ HQ | exact HC7S _ HQ)) (fun hHeld => ?_)
          clear hK K
          (try simp only [Act.put, List.setIfInBounds_toArray, List.set_cons_zero, List.set_cons_succ])
          refine wpAnyH_ready (rs := [8]) (by kernel_rfl) (by simp) ?_
          refine AllReadyH.cons (o := { dst := some 41, op := Op.buildSlice 27 1 #[(0, Operand.tmp 40)], type := 27, pos := "l16_cache.go:67", after := #[{ on := 7, ground := Ground.data }], guard := none }) rfl (fun K hK => ?_) ?_
          · go_simp
            have HNV0 := fun q (e : Value.ownBlock _ = some q) => (HO.out.lt q e).2
            have HQN := HQ.new #[.int .i64 x, .int .i64 y, .int .i64 z] 50
            have HV := HQN.box 0
            have HQ := HQN.tail
            have HO := Lib.hid (HO.out.alloc (.cells #[.int .i64 x, .int .i64 y, .int .i64 z] 50))
            have HSZ := Lib.hid (Nat.le_trans HSZ.out (show wd.heap.size ≤ (wd.alloc (.cells #[.int .i64 x, .int .i64 y, .int .i64 z] 50)).heap.size by simp))
            refine hK.out _ _ (by (try dsimp only); (first | with_reducible exact HC7 _ HQ | exact HC7S _ HQ)) (fun hHeld => ?_)
            clear HQN
            obtain ⟨wn, hwn⟩ : ∃ W, W = wd.alloc (.cells #[.int .i64 x, .int .i64 y, .int .i64 z] 50) := ⟨_, rfl⟩
            obtain ⟨kb, hkb⟩ : ∃ k, k = wd.heap.size := ⟨_, rfl⟩
            rw [← hwn] at HQ HO HSZ HV hHeld ⊢
            rw [← hkb] at HV HNV0 ⊢
            have HNV := Lib.hid (fun (e : Value.ownBlock _ = some kb) => Nat.lt_irrefl _ (HNV0 kb e))
            clear hwn hkb HNV0
            clear hK K
            (try simp only [Act.put, List.setIfInBounds_toArray, List.set_cons_zero, List.set_cons_succ])
            refine wpAnyH_ready (rs := [9]) (by kernel_rfl) (by simp) ?_
            refine AllReadyH.cons (o := { dst := some 42, op := Op.call { callee := Callee.builtin Builtin.append, args := #[Operand.tmp 39, Operand.tmp 41], argTypes := #[27, 27] }, type := 27, pos := "l16_cache.go:67", after := #[{ on := 6, ground := Ground.data }, { on := 8, ground := Ground.data }, { on := 6, ground := Ground.chain }], guard := none }) rfl (fun K hK => ?_) ?_
            · have HRv := row_of_boxT HV
              refine step_appT rfl _ _ 27 rfl 50 Try.underlying27 (tlv 0 0 0) 24 infoTile rfl B2 _ _ _ (by rfl) HO.out _ _ _ 1 [(x, y, z)] rfl (by rfl) HRv (by unfold maxLen; have := HIX.out; omega) (by have := HIX.out; omega) HSZ.out ?_
              intro v9 wz ho9 hg9 _
              obtain ⟨A9, c9, rfl⟩ : ∃ A' c', v9 = .slice A' (i + (ts.length - (i + 1)) + 1) c' := own_shape ho9
              have HQ := HQ.grownX hg9 (fun q e => by have h1 := own_block HO.out q e; have := HB2.out; omega) (fun p hp e => by (have h1 := own_block HO.out p.1 e.symm; have h2 := HORD.out; have h3 := HB2.out; have h4 := HBX.out; simp only [List.mem_cons, List.not_mem_nil, or_false] at hp; rcases hp with rfl | rfl | rfl | rfl <;> dsimp only at h1 <;> omega))
              have HO := Lib.hid ho9
              clear ho9 hg9 HRv HV
              refine hK.out _ _ (by (try dsimp only); (first | with_reducible exact HC7 _ HQ | exact HC7S _ HQ)) (fun hHeld => ?_)
              clear hK K
              (try simp only [Act.put, List.setIfInBounds_toArray, List.set_cons_zero, List.set_cons_succ])
              refine wpAnyH_take (i := 10) (oi := { dst := some 43, op := Op.fieldAddr 29 (Operand.tmp 5) 1, type := 0, pos := "l16_cache.go:67", after := #[{ on := 0, ground := Ground.phase }, { on := 1, ground := Ground.phase }, { on := 2, ground := Ground.phase }, { on := 3, ground := Ground.phase }, { on := 4, ground := Ground.phase }, { on := 5, ground := Ground.phase }, { on := 6, ground := Ground.phase }, { on := 7, ground := Ground.phase }, { on := 8, ground := Ground.phase }, { on := 9, ground := Ground.phase }], guard := none }) (v := ?_) rfl (by kernel_rfl) (by kernel_rfl) (by kernel_rfl) (fun _ _ _ h => h) (Or.inl ⟨by rfl, ?_⟩) (by assumption) ?_
              rotate_left 1
              · (intro w hSw; (try dsimp only at hSw); go_simp <;> with_reducible rfl)
              (try simp only [Act.put, List.setIfInBounds_toArray, List.set_cons_zero, List.set_cons_succ])
              refine wpAnyH_ready (rs := [11]) (by kernel_rfl) (by simp) ?_
              refine AllReadyH.cons (o := { dst := none, op := Op.store 27 (Operand.tmp 43) (Operand.tmp 42), type := 0, pos := "l16_cache.go:67", after := #[{ on := 10, ground := Ground.data }, { on := 9, ground := Ground.data }, { on := 9, ground := Ground.chain }, { on := 0, ground := Ground.phase }, { on := 1, ground := Ground.phase }, { on := 2, ground := Ground.phase }, { on := 3, ground := Ground.phase }, { on := 4, ground := Ground.phase }, { on := 5, ground := Ground.phase }, { on := 6, ground := Ground.phase }, { on := 7, ground := Ground.phase }, { on := 8, ground := Ground.phase }, { on := 9, ground := Ground.phase }], guard := none }) rfl (fun K hK => ?_) ?_
              · have c61 := (HQ.box 0).c 1
                have f61 := (HQ.box 0).f 1
                go_simp
                clear c61 f61
                have hng9 : (Value.slice A9 (i + (ts.length - (i + 1)) + 1) c9).ownBlock ≠ some g := fun e => by have h1 := own_block HO.out g e; have h2 := HB2.out; omega
                have HO := Lib.hid (ownsRow_setCell_other HO.out (a := ⟨g, 1, none⟩) hng9 (.slice A9 (i + (ts.length - (i + 1)) + 1) c9))
                have HQ := HQ.put (by have h1 := HORD.out; have h2 := HG.out; omega) (fun p hp => by (have h1 := HORD.out; have h2 := HG.out; simp only [List.mem_cons, List.not_mem_nil, or_false] at hp; rcases hp with rfl | rfl | rfl <;> (show _ ≠ _) <;> omega)) 1 (.slice A9 (i + (ts.length - (i + 1)) + 1) c9)
                refine hK.out _ _ (by (try dsimp only); (first | with_reducible exact HC7 _ HQ | exact HC7S _ HQ)) (fun hHeld => ?_)
                clear hng9
                clear hK K
                (try simp only [Act.put, List.setIfInBounds_toArray, List.set_cons_zero, List.set_cons_succ])
                refine wpAnyH_done (by kernel_rfl) ?_ _
                clear hHeld
                obtain ⟨zs, hzs⟩ : ∃ zs, zs = (ts.take i ++ ts.drop (i + 1)) ++ [(x, y, z)] := ⟨_, rfl⟩
                have hzl : zs.length = (i + (ts.length - (i + 1)) + 1) := by rw [hzs]; simp; have := HIX.out; omega
                obtain ⟨wy, hwy⟩ : ∃ W, W = wz.setCell ⟨g, 1, none⟩ (.slice A9 (i + (ts.length - (i + 1)) + 1) c9) := ⟨_, rfl⟩
                have HO := HO.out
                rw [← hwy] at HQ HO ⊢
                have HT : Held w wy ((g, [.int .i64 R, .slice A9 (i + (ts.length - (i + 1)) + 1) c9, .int .i64 Q]) :: [(k2, [.int .i64 0, .slice none 0 0, .int .i64 0]), (k1, [.int .i64 x, .int .i64 y, .int .i64 z]), (k0, [.int .i64 R, .slice (some ⟨b, o, none⟩) ts.length c, .int .i64 Q])]) := HQ
                rw [← hzl] at HT HO ⊢
                have HOE : Hid (wy.ownsRow B2 50 3 (.slice A9 zs.length c9) zs.length (zs.flatMap vg)) := Lib.hid (by
                  have h : zs.flatMap vg = (([] : List Value) ++ (ts.take i).flatMap vg ++ (ts.drop (i + 1)).flatMap vg) ++ [(x, y, z)].flatMap vg := by rw [hzs]; simp [List.flatMap_append]
                  rw [h]
                  simpa using HO)
                have HZ := Lib.hid hzs
                clear hwy hzs hzl HQ HO HC7 HC7S
                have m0 := (HT.box 0).c 0
                have m1 := (HT.box 0).c 1
                have m2 := (HT.box 0).c 2
                have r0 := (HT.box 1).c 0
                have r1 := (HT.box 1).c 1
                have r2 := (HT.box 1).c 2
                have o0 := (HT.box 1).f 0
                have o1 := (HT.box 1).f 1
                have o2 := (HT.box 1).f 2
                have HTB := Lib.hid HT.below
                have hne : ¬ k2 = g := by have h1 := HORD.out; have h2 := HG.out; omega
                have hne2 : ¬ g = k2 := by have h1 := HORD.out; have h2 := HG.out; omega
                clear HT
                go_wp2_with fail
                all_goals
                  have hq1 : w.heap.size ≤ k2 := by have := HORD.out; omega
                  have hlt1 : k2 < B1 := by have := HORD.out; omega
                  have ho5 := ownsRow_setCell_below (ownsRow_setCell_below (ownsRow_setCell_below (own_base HOE.out HBX.out) (a := ⟨k2, 0, none⟩) hlt1 (.int .i64 R)) (a := ⟨k2, 1, none⟩) hlt1 (.slice A9 zs.length c9)) (a := ⟨k2, 2, none⟩) hlt1 (.int .i64 Q)
                  exact bodyPost_ret (v := cav R A9 zs.length c9 Q) (by simp [results, Try.results37, go_sem, r0, r1, r2]) rfl ⟨A9, c9, by rw [HE.out.1, ← HZ.out, HE.out.2], by rw [HE.out.1, ← HZ.out]; exact own_base ho5 (by have := HORD.out; omega), ((HTB.out.setCell (p := ⟨k2, 0, none⟩) hq1 _).setCell (p := ⟨k2, 1, none⟩) hq1 _).setCell (p := ⟨k2, 2, none⟩) hq1 _⟩
              exact AllReadyH.nil
            exact AllReadyH.nil
          exact AllReadyH.nil
        refine AllReadyH.cons (o := { dst := some 41, op := Op.buildSlice 27 1 #[(0, Operand.tmp 40)], type := 27, pos := "l16_cache.go:67", after := #[{ on := 7, ground := Ground.data }], guard := none }) rfl (fun K hK => ?_) ?_
        · go_simp
          have HNV0 := fun q (e : Value.ownBlock _ = some q) => (HO.out.lt q e).2
          have HQN := HQ.new #[.int .i64 x, .int .i64 y, .int .i64 z] 50
          have HV := HQN.box 0
          have HQ := HQN.tail
          have HO := Lib.hid (HO.out.alloc (.cells #[.int .i64 x, .int .i64 y, .int .i64 z] 50))
          have HSZ := Lib.hid (Nat.le_trans HSZ.out (show wd.heap.size ≤ (wd.alloc (.cells #[.int .i64 x, .int .i64 y, .int .i64 z] 50)).heap.size by simp))
          refine hK.out _ _ (by (try dsimp only); (first | with_reducible exact HC7 _ HQ | exact HC7S _ HQ)) (fun hHeld => ?_)
          clear HQN
          obtain ⟨wn, hwn⟩ : ∃ W, W = wd.alloc (.cells #[.int .i64 x, .int .i64 y, .int .i64 z] 50) := ⟨_, rfl⟩
          obtain ⟨kb, hkb⟩ : ∃ k, k = wd.heap.size := ⟨_, rfl⟩
          rw [← hwn] at HQ HO HSZ HV hHeld ⊢
          rw [← hkb] at HV HNV0 ⊢
          have HNV := Lib.hid (fun (e : Value.ownBlock _ = some kb) => Nat.lt_irrefl _ (HNV0 kb e))
          clear hwn hkb HNV0
          clear hK K
          (try simp only [Act.put, List.setIfInBounds_toArray, List.set_cons_zero, List.set_cons_succ])
          refine wpAnyH_ready (rs := [6]) (by kernel_rfl) (by simp) ?_
          refine AllReadyH.cons (o := { dst := some 39, op := Op.call { callee := Callee.builtin Builtin.append, args := #[Operand.tmp 33, Operand.tmp 38], argTypes := #[27, 27] }, type := 27, pos := "l16_cache.go:67", after := #[{ on := 0, ground := Ground.data }, { on := 5, ground := Ground.data }], guard := none }) rfl (fun K hK => ?_) ?_
          · have HRc := HCUT.out _ HQ.below
            refine step_appT rfl _ _ 27 rfl 50 Try.underlying27 (tlv 0 0 0) 24 infoTile rfl B2 _ _ _ (by rfl) HO.out _ _ _ (ts.length - (i + 1)) (ts.drop (i + 1)) (by simp) (by rfl) HRc (by unfold maxLen; have := HIX.out; omega) (by have := HIX.out; omega) HSZ.out ?_
            intro v8 wd ho8 hg8 _
            obtain ⟨A8, c8, rfl⟩ := own_shape ho8
            have HQ := HQ.grownX hg8 (fun q e => by have h1 := own_block HO.out q e; have := HB2.out; omega) (fun p hp e => by (have h1 := own_block HO.out p.1 e.symm; have h2 := HORD.out; have h3 := HB2.out; have h4 := HBX.out; simp only [List.mem_cons, List.not_mem_nil, or_false] at hp; rcases hp with rfl | rfl | rfl | rfl <;> dsimp only at h1 <;> omega))
            have HSZ := Lib.hid (Nat.le_trans HSZ.out hg8.size)
            (try have HV := HV.keep fun hl => hg8.block _ hl (fun e => HNV.out e.symm))
            have HO := Lib.hid ho8
            clear ho8 hg8 HRc
            refine hK.out _ _ (by (try dsimp only); (first | with_reducible exact HC7 _ HQ | exact HC7S _ HQ)) (fun hHeld => ?_)
            clear hK K
            (try simp only [Act.put, List.setIfInBounds_toArray, List.set_cons_zero, List.set_cons_succ])
            refine wpAnyH_ready (rs := [9]) (by kernel_rfl) (by simp) ?_
            refine AllReadyH.cons (o := { dst := some 42, op := Op.call { callee := Callee.builtin Builtin.append, args := #[Operand.tmp 39, Operand.tmp 41], argTypes := #[27, 27] }, type := 27, pos := "l16_cache.go:67", after := #[{ on := 6, ground := Ground.data }, { on := 8, ground := Ground.data }, { on := 6, ground := Ground.chain }], guard := none }) rfl (fun K hK => ?_) ?_
            · have HRv := row_of_boxT HV
              refine step_appT rfl _ _ 27 rfl 50 Try.underlying27 (tlv 0 0 0) 24 infoTile rfl B2 _ _ _ (by rfl) HO.out _ _ _ 1 [(x, y, z)] rfl (by rfl) HRv (by unfold maxLen; have := HIX.out; omega) (by have := HIX.out; omega) HSZ.out ?_
              intro v9 wz ho9 hg9 _
              obtain ⟨A9, c9, rfl⟩ : ∃ A' c', v9 = .slice A' (i + (ts.length - (i + 1)) + 1) c' := own_shape ho9
              have HQ := HQ.grownX hg9 (fun q e => by have h1 := own_block HO.out q e; have := HB2.out; omega) (fun p hp e => by (have h1 := own_block HO.out p.1 e.symm; have h2 := HORD.out; have h3 := HB2.out; have h4 := HBX.out; simp only [List.mem_cons, List.not_mem_nil, or_false] at hp; rcases hp with rfl | rfl | rfl | rfl <;> dsimp only at h1 <;> omega))
              have HO := Lib.hid ho9
              clear ho9 hg9 HRv HV
              refine hK.out _ _ (by (try dsimp only); (first | with_reducible exact HC7 _ HQ | exact HC7S _ HQ)) (fun hHeld => ?_)
              clear hK K
              (try simp only [Act.put, List.setIfInBounds_toArray, List.set_cons_zero, List.set_cons_succ])
              refine wpAnyH_take (i := 10) (oi := { dst := some 43, op := Op.fieldAddr 29 (Operand.tmp 5) 1, type := 0, pos := "l16_cache.go:67", after := #[{ on := 0, ground := Ground.phase }, { on := 1, ground := Ground.phase }, { on := 2, ground := Ground.phase }, { on := 3, ground := Ground.phase }, { on := 4, ground := Ground.phase }, { on := 5, ground := Ground.phase }, { on := 6, ground := Ground.phase }, { on := 7, ground := Ground.phase }, { on := 8, ground := Ground.phase }, { on := 9, ground := Ground.phase }], guard := none }) (v := ?_) rfl (by kernel_rfl) (by kernel_rfl) (by kernel_rfl) (fun _ _ _ h => h) (Or.inl ⟨by rfl, ?_⟩) (by assumption) ?_
              rotate_left 1
              · (intro w hSw; (try dsimp only at hSw); go_simp <;> with_reducible rfl)
              (try simp only [Act.put, List.setIfInBounds_toArray, List.set_cons_zero, List.set_cons_succ])
              refine wpAnyH_ready (rs := [11]) (by kernel_rfl) (by simp) ?_
              refine AllReadyH.cons (o := { dst := none, op := Op.store 27 (Operand.tmp 43) (Operand.tmp 42), type := 0, pos := "l16_cache.go:67", after := #[{ on := 10, ground := Ground.data }, { on := 9, ground := Ground.data }, { on := 9, ground := Ground.chain }, { on := 0, ground := Ground.phase }, { on := 1, ground := Ground.phase }, { on := 2, ground := Ground.phase }, { on := 3, ground := Ground.phase }, { on := 4, ground := Ground.phase }, { on := 5, ground := Ground.phase }, { on := 6, ground := Ground.phase }, { on := 7, ground := Ground.phase }, { on := 8, ground := Ground.phase }, { on := 9, ground := Ground.phase }], guard := none }) rfl (fun K hK => ?_) ?_
              · have c61 := (HQ.box 0).c 1
                have f61 := (HQ.box 0).f 1
                go_simp
                clear c61 f61
                have hng9 : (Value.slice A9 (i + (ts.length - (i + 1)) + 1) c9).ownBlock ≠ some g := fun e => by have h1 := own_block HO.out g e; have h2 := HB2.out; omega
                have HO := Lib.hid (ownsRow_setCell_other HO.out (a := ⟨g, 1, none⟩) hng9 (.slice A9 (i + (ts.length - (i + 1)) + 1) c9))
                have HQ := HQ.put (by have h1 := HORD.out; have h2 := HG.out; omega) (fun p hp => by (have h1 := HORD.out; have h2 := HG.out; simp only [List.mem_cons, List.not_mem_nil, or_false] at hp; rcases hp with rfl | rfl | rfl <;> (show _ ≠ _) <;> omega)) 1 (.slice A9 (i + (ts.length - (i + 1)) + 1) c9)
                refine hK.out _ _ (by (try dsimp only); (first | with_reducible exact HC7 _ HQ | exact HC7S _ HQ)) (fun hHeld => ?_)
                clear hng9
                clear hK K
                (try simp only [Act.put, List.setIfInBounds_toArray, List.set_cons_zero, List.set_cons_succ])
                refine wpAnyH_done (by kernel_rfl) ?_ _
                clear hHeld
                obtain ⟨zs, hzs⟩ : ∃ zs, zs = (ts.take i ++ ts.drop (i + 1)) ++ [(x, y, z)] := ⟨_, rfl⟩
                have hzl : zs.length = (i + (ts.length - (i + 1)) + 1) := by rw [hzs]; simp; have := HIX.out; omega
                obtain ⟨wy, hwy⟩ : ∃ W, W = wz.setCell ⟨g, 1, none⟩ (.slice A9 (i + (ts.length - (i + 1)) + 1) c9) := ⟨_, rfl⟩
                have HO := HO.out
                rw [← hwy] at HQ HO ⊢
                have HT : Held w wy ((g, [.int .i64 R, .slice A9 (i + (ts.length - (i + 1)) + 1) c9, .int .i64 Q]) :: [(k2, [.int .i64 0, .slice none 0 0, .int .i64 0]), (k1, [.int .i64 x, .int .i64 y, .int .i64 z]), (k0, [.int .i64 R, .slice (some ⟨b, o, none⟩) ts.length c, .int .i64 Q])]) := HQ
                rw [← hzl] at HT HO ⊢
                have HOE : Hid (wy.ownsRow B2 50 3 (.slice A9 zs.length c9) zs.length (zs.flatMap vg)) := Lib.hid (by
                  have h : zs.flatMap vg = (([] : List Value) ++ (ts.take i).flatMap vg ++ (ts.drop (i + 1)).flatMap vg) ++ [(x, y, z)].flatMap vg := by rw [hzs]; simp [List.flatMap_append]
                  rw [h]
                  simpa using HO)
                have HZ := Lib.hid hzs
                clear hwy hzs hzl HQ HO HC7 HC7S
                have m0 := (HT.box 0).c 0
                have m1 := (HT.box 0).c 1
                have m2 := (HT.box 0).c 2
                have r0 := (HT.box 1).c 0
                have r1 := (HT.box 1).c 1
                have r2 := (HT.box 1).c 2
                have o0 := (HT.box 1).f 0
                have o1 := (HT.box 1).f 1
                have o2 := (HT.box 1).f 2
                have HTB := Lib.hid HT.below
                have hne : ¬ k2 = g := by have h1 := HORD.out; have h2 := HG.out; omega
                have hne2 : ¬ g = k2 := by have h1 := HORD.out; have h2 := HG.out; omega
                clear HT
                go_wp2_with fail
                all_goals
                  have hq1 : w.heap.size ≤ k2 := by have := HORD.out; omega
                  have hlt1 : k2 < B1 := by have := HORD.out; omega
                  have ho5 := ownsRow_setCell_below (ownsRow_setCell_below (ownsRow_setCell_below (own_base HOE.out HBX.out) (a := ⟨k2, 0, none⟩) hlt1 (.int .i64 R)) (a := ⟨k2, 1, none⟩) hlt1 (.slice A9 zs.length c9)) (a := ⟨k2, 2, none⟩) hlt1 (.int .i64 Q)
                  exact bodyPost_ret (v := cav R A9 zs.length c9 Q) (by simp [results, Try.results37, go_sem, r0, r1, r2]) rfl ⟨A9, c9, by rw [HE.out.1, ← HZ.out, HE.out.2], by rw [HE.out.1, ← HZ.out]; exact own_base ho5 (by have := HORD.out; omega), ((HTB.out.setCell (p := ⟨k2, 0, none⟩) hq1 _).setCell (p := ⟨k2, 1, none⟩) hq1 _).setCell (p := ⟨k2, 2, none⟩) hq1 _⟩
              exact AllReadyH.nil
            exact AllReadyH.nil
          exact AllReadyH.nil
        exact AllReadyH.nil
      · have hrn : ¬ 0 ≤ r := by rw [hr]; have := fndT_neg.2 hm; omega
        have hkn := useK_new hok hm
        have hK : 0 ≤ Q ∧ Q ≤ 1000000000 := by have := hokC.2.2.1; omega
        have ek : IntKind.i64.wrap (Q + 1) = Q + 1 := wrap_v (by omega)
        have hln : ts.length ≤ 12 := by have h1 := hokC.1; have h2 := hokC.2.1; omega
        have HR1 := Lib.hid hokC.1
        have m1 := (HT.box 0).c 1
        have f1 := (HT.box 0).f 1
        have q0 := (HT.box 2).c 0
        have q1 := (HT.box 2).c 1
        have q2 := (HT.box 2).c 2
        have HNR := row1T w4 x y z
        have HGW := Lib.hid (show g < w4.heap.size from (HT.box 0).lt)
        have HOA := hown.alloc (.cells #[.int .i64 x, .int .i64 y, .int .i64 z] 50)
        have HTA := HT.alloc (.cells #[.int .i64 x, .int .i64 y, .int .i64 z] 50)
        have hb1 := HT.size
        have hszA : B1 ≤ (w4.alloc (.cells #[.int .i64 x, .int .i64 y, .int .i64 z] 50)).heap.size := by have h1 := HG.out; have h2 := (HT.box 0).lt; simp; omega
        have HW := Lib.hid (And.intro HTA (And.intro HOA (And.intro hszA HNR)))
        have HLN := Lib.hid hln
        have HUS := Lib.hid (And.intro hok (And.intro hm hkn))
        clear hr HT hown HNR HOA HTA hszA hb1 hln hok hokC hkn hm
        go_wp2_with (at_builtin; refine wpList_appT rfl _ _ 27 rfl 50 Try.underlying27 (tlv 0 0 0) 24 infoTile rfl B1 _ _ _ (by rfl) HW.out.2.1 _ _ 1 1 [(x, y, z)] rfl (by rfl) HW.out.2.2.2 (by unfold maxLen; have := HLN.out; omega) (by have := HLN.out; omega) HW.out.2.2.1 ?_)
        intro v6 w6 ho6 hg6 hat6
        have HT6 := HW.out.1.grownX hg6 (fun q e => by have h1 := own_block HW.out.2.1 q e; have h2 := HORD.out; omega) (fun p hp e => by
          have h2 := HORD.out
          have h3 := HG.out
          have h1 := own_block HW.out.2.1 p.1 e.symm
          simp only [List.mem_cons, List.not_mem_nil, or_false] at hp
          rcases hp with rfl | rfl | rfl | rfl
          · exact HNG.out e.symm
          all_goals (dsimp only at h1; omega))
        obtain ⟨A7, c7, rfl⟩ : ∃ A' c', v6 = .slice A' (ts.length + 1) c' := own_shape ho6
        have hgw := HGW.out
        have HN7 : (Value.slice A7 (ts.length + 1) c7).ownBlock ≠ some g := by
          intro e
          rcases hat6 with h | h
          · rw [e] at h
            exact HNG.out h.symm
          · rw [e] at h
            simp only [Option.some.injEq] at h
            (try rw [World.size_alloc] at h)
            omega
        obtain ⟨zs, hzs⟩ : ∃ zs, zs = ts ++ [(x, y, z)] := ⟨_, rfl⟩
        have hzl : zs.length = ts.length + 1 := by rw [hzs]; simp
        have ho6 : w6.ownsRow B1 50 3 (.slice A7 zs.length c7) zs.length (zs.flatMap vg) := by
          rw [hzl, hzs, List.flatMap_append]
          exact ho6
        rw [← hzl] at HN7 ⊢
        have HZ := Lib.hid (And.intro hzs hzl)
        have m1 := (HT6.box 0).c 1
        have f1 := (HT6.box 0).f 1
        have HT7 := HT6.put (by have h1 := HORD.out; have h2 := HG.out; omega) (fun p hp => by (have h1 := HORD.out; have h2 := HG.out; simp only [List.mem_cons, List.not_mem_nil, or_false] at hp; rcases hp with rfl | rfl | rfl <;> (show _ ≠ _) <;> omega)) 1 (.slice A7 zs.length c7)
        have ho7 := ownsRow_setCell_other ho6 (a := ⟨g, 1, none⟩) HN7 (.slice A7 zs.length c7)
        have HZL : Hid (zs.length ≤ 13) := Lib.hid (by have := HLN.out; omega)
        clear q0 q1 q2 hat6 hg6 HT6 ho6 hzs hzl hgw
        go_upto_region 10 with fail
        obtain ⟨W7, hW7⟩ : ∃ W, W = w6.setCell ⟨g, 1, none⟩ (.slice A7 zs.length c7) := ⟨_, rfl⟩
        rw [← hW7] at HT7 ho7 ⊢
        have HT7 : Held w W7 ((g, [.int .i64 R, .slice A7 zs.length c7, .int .i64 Q]) :: [(k2, [.int .i64 0, .slice none 0 0, .int .i64 0]), (k1, [.int .i64 x, .int .i64 y, .int .i64 z]), (k0, [.int .i64 R, .slice A ts.length c, .int .i64 Q])]) := HT7
        have m2 := (HT7.box 0).c 2
        have f2 := (HT7.box 0).f 2
        have HT8 := HT7.put (by have h1 := HORD.out; have h2 := HG.out; omega) (fun p hp => by (have h1 := HORD.out; have h2 := HG.out; simp only [List.mem_cons, List.not_mem_nil, or_false] at hp; rcases hp with rfl | rfl | rfl <;> (show _ ≠ _) <;> omega)) 2 (.int .i64 (Q + 1))
        have ho8 := ownsRow_setCell_other ho7 (a := ⟨g, 2, none⟩) HN7 (.int .i64 (Q + 1))
        clear hW7 HT7 ho7 m1 f1
        go_upto_region 11 with fail
        obtain ⟨W8, hW8⟩ : ∃ W, W = w6.setCell ⟨g, 1, none⟩ (.slice A7 zs.length c7) := ⟨w6.setCell ⟨g, 1, none⟩ (.slice A7 zs.length c7), rfl⟩
        clear hW8 W8
        obtain ⟨W8, hW8⟩ : ∃ W, W = W7.setCell ⟨g, 2, none⟩ (.int .i64 (Q + 1)) := ⟨_, rfl⟩
        rw [← hW8] at HT8 ho8 ⊢
        have HT : Held w W8 ((g, [.int .i64 R, .slice A7 zs.length c7, .int .i64 (Q + 1)]) :: [(k2, [.int .i64 0, .slice none 0 0, .int .i64 0]), (k1, [.int .i64 x, .int .i64 y, .int .i64 z]), (k0, [.int .i64 R, .slice A ts.length c, .int .i64 Q])]) := HT8
        have HOE := Lib.hid ho8
        have HNE := Lib.hid HN7
        clear hW8 HT8 ho8 m2 f2 ek HN7
        by_cases hfull : R < (zs.length : Int)
        · have HE : Hid (useL R ts Q (x, y, z) = zs.drop 1 ∧ useK R ts Q (x, y, z) = Q + 1) := Lib.hid ⟨by rw [useL_full HUS.out.1 HUS.out.2.1 (by have := HZ.out.2; omega), HZ.out.1], HUS.out.2.2⟩
          have hz2 : 2 ≤ zs.length := by have := HR1.out; omega
          have hc7 := own_capG HOE.out
          obtain ⟨g7, rfl⟩ : ∃ q, A7 = some ⟨q, 0, none⟩ := by
            rcases HOE.out.2 with ⟨h, h0⟩ | ⟨q, cap, cur, h, _⟩
            · omega
            · injection h with h; exact ⟨q, h⟩
          have hcn : ¬ c7 = 1 := by omega
          have h1z : (1 : Int) ≤ (zs.length : Int) := by omega
          have HO0 := own_lit3 HT
          have HTA := HT.alloc (.cells #[] 50)
          have HRD := ((RowC.of_own vg_len HOE.out rfl : RowC 3 vg W8 W8.heap.size _ zs).dropT (l := 1) (by omega)).alloc (Nat.le_refl _) (.cells #[] 50)
          have m0 := (HT.box 0).c 0
          have m1 := (HT.box 0).c 1
          have n1 := (HTA.box 0).c 1
          have hsA : (W8.alloc (.cells #[] 50)).heap.size = W8.heap.size + 1 := by simp
          have hgW : g < W8.heap.size := (HT.box 0).lt
          have HW8 := Lib.hid (And.intro HTA (And.intro HO0 (And.intro HRD (And.intro hsA (And.intro hgW (HT.size))))))
          have HZ2 := Lib.hid (And.intro hz2 hc7)
          clear HT HO0 HTA HRD hsA hgW hc7 hz2
          go_wp2_with (at_builtin; refine wpList_appT rfl _ _ 27 rfl 50 Try.underlying27 (tlv 0 0 0) 24 infoTile rfl W8.heap.size _ _ _ (by rfl) HW8.out.2.1 W8.heap.size _ _ (zs.length - 1) (zs.drop 1) (by simp) (by rfl) HW8.out.2.2.1 (by unfold maxLen; have := HZL.out; omega) (by have := HZL.out; omega) (by have := HW8.out.2.2.2.1; omega) ?_)
          intro v9 w9 ho9 hg9 _
          have HT9 := HW8.out.1.grownX hg9 (fun q e => by have h1 := own_block HW8.out.2.1 q e; have h2 := HW8.out.2.2.2.2.2; omega) (fun p hp e => by
            have h2 := HORD.out
            have h3 := HG.out
            have h4 := HW8.out.2.2.2.2.1
            have h1 := own_block HW8.out.2.1 p.1 e.symm
            simp only [List.mem_cons, List.not_mem_nil, or_false] at hp
            rcases hp with rfl | rfl | rfl | rfl <;> dsimp only at h1 <;> omega)
          obtain ⟨A9, c9, rfl⟩ : ∃ A' c', v9 = .slice A' (zs.length - 1) c' := own_shape ho9
          obtain ⟨ys, hys⟩ : ∃ ys, ys = zs.drop 1 := ⟨_, rfl⟩
          have hyl : zs.length - 1 = ys.length := by rw [hys]; simp
          have ho9 : w9.ownsRow W8.heap.size 50 3 (.slice A9 ys.length c9) ys.length (ys.flatMap vg) := by
            rw [← hyl, hys, List.drop_one]
            exact ho9
          rw [hyl]
          have HN9 : (Value.slice A9 ys.length c9).ownBlock ≠ some g := fun e => by have h1 := own_block ho9 g e; have h4 := HW8.out.2.2.2.2.1; omega
          have HYS := Lib.hid hys
          have HT := HT9.put (by have h1 := HORD.out; have h2 := HG.out; omega) (fun p hp => by (have h1 := HORD.out; have h2 := HG.out; simp only [List.mem_cons, List.not_mem_nil, or_false] at hp; rcases hp with rfl | rfl | rfl <;> (show _ ≠ _) <;> omega)) 1 (.slice A9 ys.length c9)
          have hown := ownsRow_setCell_other ho9 (a := ⟨g, 1, none⟩) HN9 (.slice A9 ys.length c9)
          have m1 := (HT9.box 0).c 1
          have f1 := (HT9.box 0).f 1
          have hB1W : B1 ≤ W8.heap.size := by have h1 := HG.out; have h2 := HW8.out.2.2.2.2.1; omega
          clear m0 n1 HT9 ho9 hg9 hys hyl
          go_upto_region 13 with fail
          obtain ⟨W9, hW9⟩ : ∃ W, W = w9.setCell ⟨g, 1, none⟩ (.slice A9 ys.length c9) := ⟨_, rfl⟩
          rw [← hW9] at HT hown ⊢
          have HT : Held w W9 ((g, [.int .i64 R, .slice A9 ys.length c9, .int .i64 (Q + 1)]) :: [(k2, [.int .i64 0, .slice none 0 0, .int .i64 0]), (k1, [.int .i64 x, .int .i64 y, .int .i64 z]), (k0, [.int .i64 R, .slice A ts.length c, .int .i64 Q])]) := HT
          clear hW9 m1 f1
          have m0 := (HT.box 0).c 0
          have m1 := (HT.box 0).c 1
          have m2 := (HT.box 0).c 2
          have r0 := (HT.box 1).c 0
          have r1 := (HT.box 1).c 1
          have r2 := (HT.box 1).c 2
          have o0 := (HT.box 1).f 0
          have o1 := (HT.box 1).f 1
          have o2 := (HT.box 1).f 2
          have HTB := Lib.hid HT.below
          have hne : ¬ k2 = g := by have h1 := HORD.out; have h2 := HG.out; omega
          have hne2 : ¬ g = k2 := by have h1 := HORD.out; have h2 := HG.out; omega
          have HOE9 := Lib.hid (own_base hown hB1W)
          clear HT hown
          go_wp2_with fail
          have hq1 : w.heap.size ≤ k2 := by have := HORD.out; omega
          have hlt1 : k2 < B1 := by have := HORD.out; omega
          have ho5 := ownsRow_setCell_below (ownsRow_setCell_below (ownsRow_setCell_below HOE9.out (a := ⟨k2, 0, none⟩) hlt1 (.int .i64 R)) (a := ⟨k2, 1, none⟩) hlt1 (.slice A9 ys.length c9)) (a := ⟨k2, 2, none⟩) hlt1 (.int .i64 (Q + 1))
          exact bodyPost_ret (v := cav R A9 ys.length c9 (Q + 1)) (by simp [results, Try.results37, go_sem, r0, r1, r2]) rfl ⟨A9, c9, by rw [HE.out.1, ← HYS.out, HE.out.2], by rw [HE.out.1, ← HYS.out]; exact own_base ho5 (by have := HORD.out; omega), ((HTB.out.setCell (p := ⟨k2, 0, none⟩) hq1 _).setCell (p := ⟨k2, 1, none⟩) hq1 _).setCell (p := ⟨k2, 2, none⟩) hq1 _⟩
        · have HE : Hid (useL R ts Q (x, y, z) = zs ∧ useK R ts Q (x, y, z) = Q + 1) := Lib.hid ⟨by rw [useL_new HUS.out.1 HUS.out.2.1 (by have := HZ.out.2; omega), HZ.out.1], HUS.out.2.2⟩
          have m0 := (HT.box 0).c 0
          have m1 := (HT.box 0).c 1
          have m2 := (HT.box 0).c 2
          have r0 := (HT.box 1).c 0
          have r1 := (HT.box 1).c 1
          have r2 := (HT.box 1).c 2
          have o0 := (HT.box 1).f 0
          have o1 := (HT.box 1).f 1
          have o2 := (HT.box 1).f 2
          have HTB := Lib.hid HT.below
          have hne : ¬ k2 = g := by have h1 := HORD.out; have h2 := HG.out; omega
          have hne2 : ¬ g = k2 := by have h1 := HORD.out; have h2 := HG.out; omega
          clear HT
          go_wp2_with fail
          have hq1 : w.heap.size ≤ k2 := by have := HORD.out; omega
          have hlt1 : k2 < B1 := by have := HORD.out; omega
          have ho5 := ownsRow_setCell_below (ownsRow_setCell_below (ownsRow_setCell_below HOE.out (a := ⟨k2, 0, none⟩) hlt1 (.int .i64 R)) (a := ⟨k2, 1, none⟩) hlt1 (.slice A7 zs.length c7)) (a := ⟨k2, 2, none⟩) hlt1 (.int .i64 (Q + 1))
          exact bodyPost_ret (v := cav R A7 zs.length c7 (Q + 1)) (by simp [results, Try.results37, go_sem, r0, r1, r2]) rfl ⟨A7, c7, by rw [HE.out.1, HE.out.2], by rw [HE.out.1]; exact own_base ho5 (by have := HORD.out; omega), ((HTB.out.setCell (p := ⟨k2, 0, none⟩) hq1 _).setCell (p := ⟨k2, 1, none⟩) hq1 _).setCell (p := ⟨k2, 2, none⟩) hq1 _⟩
end Go.Proofs.Ytaelhbbfddcabaa
