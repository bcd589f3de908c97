/- Appends of tiles; the laws helpers on caches. -/
import Derived.Test.YtaelhbbfddcabaaProg
import Derived.Test.YtaelhbbfddcabaaInts
import Derived.Test.YtaelhbbfddcabaaVbox
import Derived.Test.YtaelhbbfddcabaaHeld
import Derived.Test.YtaelhbbfddcabaaMem
import Derived.Test.YtaelhbbfddcabaaFlat
import Derived.Test.YtaelhbbfddcabaaRowC
import Derived.Test.YtaelhbbfddcabaaKS
import Derived.Test.YtaelhbbfddcabaaStrS
import Derived.Test.YtaelhbbfddcabaaIntS
import Derived.Test.YtaelhbbfddcabaaSS
import Derived.Test.YtaelhbbfddcabaaVi
import Derived.Test.YtaelhbbfddcabaaVa
import Derived.Test.YtaelhbbfddcabaaVb
import Derived.Test.YtaelhbbfddcabaaVc
import Derived.Test.YtaelhbbfddcabaaWa
import Derived.Test.YtaelhbbfddcabaaWb
import Derived.WalkKit
import Derived.WalkSpells
import Derived.WalkLawsBesides
import Derived.Lib.Hide
import Derived.Deep.RegionHeld3
import Derived.Deep.QuietTactic
import Derived.BigQuiet
import Derived.Handy
import Derived.Deep.DeepCutAuto
import Derived.OwnWalk
import Derived.Maps.AppendAt
import Derived.Lib.OwnBridge
namespace Go.Proofs.Ytaelhbbfddcabaa
open Go.RowKit

/-- append of a slice of tiles, nil and empty let in -/
theorem run_appT {P : Program} {w : World} (t ty e : TypeId) (ht : P.underlying t = some (.slice e)) (z : Value) (bytes : Nat) (hinfo : (P.info? e).map (fun i => (i.zero, i.size, i.bytes)) = some (some z, 3, bytes)) (hzs : z.cells.size = 3)
    (base : Nat) (v : Value) (n : Nat) (xs : List Value) (hown : w.ownsRow base e 3 v n xs) (B : Nat) (A : Option Addr) (c m : Nat) (us : List V3) (hm : us.length = m) (hr : RowC 3 vg w B A us)
    (h63 : n + m ≤ maxLen) (hbytes : (n + m) * bytes ≤ 140737488355328) (hbase : base ≤ w.heap.size) :
    ∃ v' w', (Builtin.append_ #[t, t] ty #[v, .slice A m c]).run P w = .ok v' w' ∧ w'.ownsRow base e 3 v' (n + m) (xs ++ us.flatMap vg) ∧ w.grownBy w' v.ownBlock ∧ (v'.ownBlock = v.ownBlock ∨ v'.ownBlock = some w.heap.size) := by
  obtain ⟨i0, hi, hz0, hz1, hz2⟩ := info_parts hinfo
  subst hm
  cases A with
  | none =>
    have hn : us = [] := by
      cases us with
      | nil => rfl
      | cons u us =>
        obtain ⟨b, o, e, _⟩ := hr.at (k := 0) (by simp)
        cases e
    subst hn
    refine ⟨v, w, ?_, by simpa using hown, gb_refl _ _, .inl rfl⟩
    rcases hown.2 with ⟨rfl, rfl⟩ | ⟨g, cap, cur, rfl, _, _, hnc, _, _, _⟩
    · simp [Builtin.append_, run_underlying ht, sizeOf, typeInfo, hi, Builtin.lenOf, Builtin.firstCells]
    · simp [Builtin.append_, run_underlying ht, sizeOf, typeInfo, hi, Builtin.lenOf, Builtin.firstCells, loadCells, storeCells, hnc]
  | some ad =>
    obtain ⟨v', w', h1, h2, h3, _, h5⟩ := run_append_own_at (P := P) (w := w) base t ty e i0 z 3 bytes ht hi hz0 hz1 hz2 hzs (by omega) v n xs hown ad us.length c (us.flatMap vg) (flat_len vg_len us) (fun j u hj => by
      have hj1 : j < us.length * 3 := by rw [← flat_len vg_len us]; exact (List.getElem?_eq_some_iff.1 hj).1
      obtain ⟨b, q, e, _, hc⟩ := hr.at (k := j / 3) (by omega)
      injection e with e
      subst e
      have ea : (⟨b, q, none⟩ : Addr).add j = ⟨b, q + j, none⟩ := by unfold Addr.add; split <;> simp_all
      rw [ea]
      have hg := flat_get vg_len us (j / 3) (j % 3) (by omega) (by omega)
      rw [show j / 3 * 3 + j % 3 = j by omega] at hg
      rw [hg] at hj
      have := hc (j % 3) u hj
      rw [show q + j / 3 * 3 + j % 3 = q + j by omega] at this
      exact this) (fun u hu => by
      obtain ⟨y, _, hy⟩ := List.mem_flatMap.1 hu
      simp only [vg, List.mem_cons, List.not_mem_nil, or_false] at hy
      rcases hy with rfl | rfl | rfl <;> rfl) h63 hbytes hbase
    exact ⟨v', w', h1, h2, h3, h5⟩
theorem step_appT {P : Program} {ops : Array Oper} {o : Oper} {a : Act} {w : World} {K : Act → World → Prop} {Q : Exit → Act → World → Prop} {E : Prop} (hgd : o.guard = none) (s x : Operand) (t : TypeId)
    (ho : o.op = .call { callee := .builtin .append, args := #[s, x], argTypes := #[t, t] })
    (e : TypeId) (ht : P.underlying t = some (.slice e)) (z : Value) (bytes : Nat) (hinfo : (P.info? e).map (fun i => (i.zero, i.size, i.bytes)) = some (some z, 3, bytes)) (hzs : z.cells.size = 3)
    (base : Nat) (v : Value) (n : Nat) (xs : List Value) (hs : a.eval s = v) (hown : w.ownsRow base e 3 v n xs) (B : Nat) (A : Option Addr) (c m : Nat) (us : List V3) (hm : us.length = m) (hx : a.eval x = .slice A m c) (hr : RowC 3 vg w B A us)
    (h63 : n + m ≤ maxLen) (hbytes : (n + m) * bytes ≤ 140737488355328) (hbase : base ≤ w.heap.size)
    (h : ∀ v' w', w'.ownsRow base e 3 v' (n + m) (xs ++ us.flatMap vg) → w.grownBy w' v.ownBlock → (v'.ownBlock = v.ownBlock ∨ v'.ownBlock = some w.heap.size) → K (a.put o.dst v') w') :
    if Region.wanted o (yielded ops a.tmps) = true then Oper.wp P o a w K Q else E := by
  rw [if_pos (by simp [Region.wanted, hgd])]
  obtain ⟨v', w', hrun, h2, h3, h5⟩ := run_appT (P := P) (w := w) t o.type e ht z bytes hinfo hzs base v n xs hown B A c m us hm hr h63 hbytes hbase
  unfold Oper.wp execOp
  simp only [ho, resolve, invoke, builtin, Sem.run_bind, Sem.run_pure, Result.andThen_ok, List.map_toArray, List.map_cons, List.map_nil, hs, hx, hrun]
  exact h v' w' h2 h3 h5
theorem wpList_appT {P : Program} {w : World} {ops : Array Oper} {rest : List Oper} {o : Oper} {a : Act} {Q : Exit → Act → World → Prop} (hgd : o.guard = none) (s x : Operand) (t : TypeId)
    (ho : o.op = .call { callee := .builtin .append, args := #[s, x], argTypes := #[t, t] })
    (e : TypeId) (ht : P.underlying t = some (.slice e)) (z : Value) (bytes : Nat) (hinfo : (P.info? e).map (fun i => (i.zero, i.size, i.bytes)) = some (some z, 3, bytes)) (hzs : z.cells.size = 3)
    (base : Nat) (v : Value) (n : Nat) (xs : List Value) (hs : a.eval s = v) (hown : w.ownsRow base e 3 v n xs) (B : Nat) (A : Option Addr) (c m : Nat) (us : List V3) (hm : us.length = m) (hx : a.eval x = .slice A m c) (hr : RowC 3 vg w B A us)
    (h63 : n + m ≤ maxLen) (hbytes : (n + m) * bytes ≤ 140737488355328) (hbase : base ≤ w.heap.size)
    (h : ∀ v' w', w'.ownsRow base e 3 v' (n + m) (xs ++ us.flatMap vg) → w.grownBy w' v.ownBlock → (v'.ownBlock = v.ownBlock ∨ v'.ownBlock = some w.heap.size) → wpList P ops Q rest (a.put o.dst v') w') : wpList P ops Q (o :: rest) a w := by
  refine wpList_plain hgd fun K hK => ?_
  obtain ⟨v', w', hrun, h2, h3, h5⟩ := run_appT (P := P) (w := w) t o.type e ht z bytes hinfo hzs base v n xs hown B A c m us hm hr h63 hbytes hbase
  unfold Oper.wp execOp
  simp only [ho, resolve, invoke, builtin, Sem.run_bind, Sem.run_pure, Result.andThen_ok, List.map_toArray, List.map_cons, List.map_nil, hs, hx, hrun]
  exact hK _ _ (h v' w' h2 h3 h5)
/-- a cache that a call made -/
def CaOut (R : Int) (ts : List V3) (K : Int) (w : World) (e : Ending) (w' : World) : Prop :=
  ∃ (A : Option Addr) (c : Nat), e = .returned (cav R A ts.length c K) ∧ w'.ownsRow w.heap.size 50 3 (.slice A ts.length c) ts.length (ts.flatMap vg) ∧ Below w.heap.size w w'
theorem gb_turn {S : Nat → Prop} {w w' : World} {row : Option Nat} (h : w.grownBy w' row) (hS : ∀ q, row = some q → S q) : Turn S w w' :=
  ⟨h.os, h.tape, h.output, h.size, fun k hk hn => h.block k hk (fun c => hn (hS k c.symm))⟩
theorem szTileP_any (A : Option Addr) (c n L : Nat) (w : World) (hL : L ≤ 1099511627776) (hn : n ≤ 9223372036854775807) :
    Calls Try.prog 58 #[.slice A n c, .int .i64 L] w (SzOutP L n w) := by
  by_cases h0 : (L : Int) - (n : Int) < 0
  · go_enter Try.func58, Try.ntmps58
    go_wp2_with fail
    go_ret
    exact ⟨Below.refl _ _, .inr ⟨by omega, rfl⟩⟩
  · have he : (L : Int) - (n : Int) = ((L - n : Nat) : Int) := by omega
    have HE := Lib.hid he
    clear he
    go_enter Try.func58, Try.ntmps58
    go_wp2_with fail
    go_ret
    exact ⟨Below.refl _ _, .inl ⟨by omega, by rw [← HE.out]; rfl⟩⟩

set_option maxHeartbeats 4000000 in
theorem szCache_any (R : Int) (A : Option Addr) (c : Nat) (ts : List V3) (K : Int) (N : Nat) (w : World) (hK : N ≤ 1099511627776) (hl : ts.length ≤ 9223372036854775807) :
    Calls Try.prog 22 #[cav R A ts.length c K, .int .i64 N] w (SzOutP N ts.length w) := by
  have M := Mbox.new w #[.int .i64 R, .slice A ts.length c, .int .i64 K] 43
  have hB : Below w.heap.size w (w.alloc (.cells #[.int .i64 R, .slice A ts.length c, .int .i64 K] 43)) := by go_grown
  obtain ⟨W1, hW1⟩ : ∃ W, W = w.alloc (.cells #[.int .i64 R, .slice A ts.length c, .int .i64 K] 43) := ⟨_, rfl⟩
  rw [← hW1] at M hB
  have HB := Lib.hid hB
  have HS := Lib.hid (szTileP_any A c ts.length N W1 hK hl)
  have m1 := M.c 1
  clear M hB
  go_enter Try.func22, Try.ntmps22
  go_upto_region 1 with fail
  rw [← hW1]
  clear hW1
  go_wp2_with fail
  refine HS.out.mono ?_
  rintro e w2 ⟨hb2, hc⟩
  have HB2 := Lib.hid (HB.out.trans (hb2.mono HB.out.size))
  clear hb2 m1
  rcases hc with ⟨hfit, rfl⟩ | ⟨hfit, rfl⟩
  · obtain ⟨q, hq⟩ : ∃ q : Nat, q = N - ts.length := ⟨_, rfl⟩
    have hq0 : ¬ ((q : Nat) : Int) < 0 := by omega
    have HQ := Lib.hid hq
    rw [← hq]
    clear hq
    go_wp2_with fail
    go_ret
    exact ⟨HB2.out, .inl ⟨hfit, by rw [← HQ.out]; rfl⟩⟩
  · go_wp2_with fail
    go_ret
    exact ⟨HB2.out, .inr ⟨hfit, rfl⟩⟩

set_option maxHeartbeats 4000000 in
theorem eqCache_same (R : Int) (A A' : Option Addr) (c c' : Nat) (ts : List V3) (K : Int) (w : World) (hR : RowC 3 vg w w.heap.size A ts) (hR' : RowC 3 vg w w.heap.size A' ts) (hl : ts.length ≤ 1099511627776) :
    Calls Try.prog 19 #[cav R A ts.length c K, cav R A' ts.length c' K] w fun e w' => e = .returned (.bool true) ∧ Below w.heap.size w w' := by
  have HT : Held w ((w.alloc (.cells #[.int .i64 R, .slice A ts.length c, .int .i64 K] 29)).alloc (.cells #[.int .i64 R, .slice A' ts.length c', .int .i64 K] 29)) [(w.heap.size + 1, [.int .i64 R, .slice A' ts.length c', .int .i64 K]), (w.heap.size, [.int .i64 R, .slice A ts.length c, .int .i64 K])] := by
    have h := ((Held.nil w).new #[.int .i64 R, .slice A ts.length c, .int .i64 K] 29).new #[.int .i64 R, .slice A' ts.length c', .int .i64 K] 29
    simpa only [World.size_alloc] using h
  have HE := Lib.hid (eqTileS_same A A' c c' ts _ (hR.later HT.below) (hR'.later HT.below) hl)
  have m0 := (HT.box 1).c 0
  have m1 := (HT.box 1).c 1
  have n0 := (HT.box 0).c 0
  have n1 := (HT.box 0).c 1
  have HTH := Lib.hid HT
  clear HT hR hR'
  go_enter Try.func19, Try.ntmps19
  go_wp2_with fail
  refine HE.out.mono ?_
  rintro e w2 ⟨rfl, hb2⟩
  have HT := HTH.out.later hb2
  have HB2 := Lib.hid HT.below
  have m2 := (HT.box 1).c 2
  have n2 := (HT.box 0).c 2
  clear hb2 m0 m1 n0 n1 HT
  go_wp2_with fail
  go_ret
  exact ⟨rfl, HB2.out⟩

set_option maxHeartbeats 4000000 in
theorem markCache_own (R : Int) (A : Option Addr) (c : Nat) (ts : List V3) (K : Int) (base k : Nat) (w : World) (ho : w.ownsRow base 50 3 (.slice A ts.length c) ts.length (ts.flatMap vg)) (hk2 : k + 3 * ts.length ≤ 4611686018427387904) :
    Calls Try.prog 20 #[cav R A ts.length c K, .int .i64 k] w fun e w' => e = .returned (.int .i64 ((k + 3 * ts.length : Nat) : Int)) ∧ w'.ownsRow base 50 3 (.slice A ts.length c) ts.length ((mrkT k ts.length).flatMap vg) ∧ w.grownBy w' (Value.ownBlock (.slice A ts.length c)) := by
  have M := Mbox.new w #[.int .i64 R, .slice A ts.length c, .int .i64 K] 29
  have hB : Below w.heap.size w (w.alloc (.cells #[.int .i64 R, .slice A ts.length c, .int .i64 K] 29)) := by go_grown
  obtain ⟨W1, hW1⟩ : ∃ W, W = w.alloc (.cells #[.int .i64 R, .slice A ts.length c, .int .i64 K] 29) := ⟨_, rfl⟩
  have ho1 := own_keep' ho hB
  rw [← hW1] at M hB ho1
  have HB := Lib.hid hB
  have HK := Lib.hid (markTileO A c base k ts W1 ho1 hk2)
  have m1 := M.c 1
  clear M hB ho1 ho
  go_enter Try.func20, Try.ntmps20
  go_upto_region 1 with fail
  rw [← hW1]
  clear hW1
  go_wp2_with fail
  refine HK.out.mono ?_
  rintro e w2 ⟨rfl, ho2, hg⟩
  have HG := Lib.hid (gb_trans (gb_of_below HB.out) hg)
  have HO := Lib.hid ho2
  clear hg m1 ho2
  go_wp2_with fail
  go_ret
  exact ⟨rfl, HO.out, HG.out⟩

set_option maxHeartbeats 4000000 in
theorem heldCache_any (R : Int) (A : Option Addr) (c k n : Nat) (K : Int) (w : World) (hR : RowC 3 vg w w.heap.size A (mrkT k n)) (hk2 : k + 3 * n ≤ 4611686018427387904) :
    Calls Try.prog 21 #[cav R A n c K, .int .i64 k] w fun e w' => e = .returned (.int .i64 ((k + 3 * n : Nat) : Int)) ∧ Below w.heap.size w w' := by
  have M := Mbox.new w #[.int .i64 R, .slice A n c, .int .i64 K] 29
  have hB : Below w.heap.size w (w.alloc (.cells #[.int .i64 R, .slice A n c, .int .i64 K] 29)) := by go_grown
  obtain ⟨W1, hW1⟩ : ∃ W, W = w.alloc (.cells #[.int .i64 R, .slice A n c, .int .i64 K] 29) := ⟨_, rfl⟩
  have hR1 := hR.later hB
  rw [← hW1] at M hB hR1
  have HB := Lib.hid hB
  have HK := Lib.hid (heldTileM A c k n W1 hR1 hk2)
  have m1 := M.c 1
  clear M hB hR1 hR
  go_enter Try.func21, Try.ntmps21
  go_upto_region 1 with fail
  rw [← hW1]
  clear hW1
  go_wp2_with fail
  refine HK.out.mono ?_
  rintro e w2 ⟨rfl, hb2⟩
  have HB2 := Lib.hid (HB.out.trans (hb2.mono HB.out.size))
  obtain ⟨q, hq⟩ : ∃ q : Nat, q = k + 3 * n := ⟨_, rfl⟩
  have HQ := Lib.hid hq
  rw [← hq]
  have hq0 : ¬ ((q : Nat) : Int) < 0 := by omega
  clear hb2 m1 hq
  go_wp2_with fail
  go_ret
  exact ⟨by rw [← HQ.out]; rfl, HB2.out⟩

set_option maxHeartbeats 4000000 in
theorem toCache_own (R : Int) (A : Option Addr) (c : Nat) (ts : List V3) (K : Int) (w : World) (hR : RowC 3 vg w w.heap.size A ts) (hl : ts.length ≤ 1099511627776) :
    Calls Try.prog 24 #[cav R A ts.length c K] w fun e w' => ∃ g, e = .returned (cav R (some ⟨g, 0, none⟩) ts.length ts.length K) ∧ w.heap.size ≤ g ∧ w'.ownsRow w.heap.size 50 3 (.slice (some ⟨g, 0, none⟩) ts.length ts.length) ts.length (ts.flatMap vg) ∧ Below w.heap.size w w' := by
  have HT : Held w (((w.alloc (.cells #[.int .i64 R, .slice A ts.length c, .int .i64 K] 43)).alloc (.cells #[.int .i64 0, .slice none 0 0, .int .i64 0] 29)).alloc (.cells #[.int .i64 R, .slice none 0 0, .int .i64 0] 29)) [(w.heap.size + 1 + 1, [.int .i64 R, .slice none 0 0, .int .i64 0]), (w.heap.size + 1, [.int .i64 0, .slice none 0 0, .int .i64 0]), (w.heap.size, [.int .i64 R, .slice A ts.length c, .int .i64 K])] := by
    have h := (((Held.nil w).new #[.int .i64 R, .slice A ts.length c, .int .i64 K] 43).new #[.int .i64 0, .slice none 0 0, .int .i64 0] 29).new #[.int .i64 R, .slice none 0 0, .int .i64 0] 29
    simpa only [World.size_alloc] using h
  obtain ⟨W1, hW1⟩ : ∃ W, W = ((w.alloc (.cells #[.int .i64 R, .slice A ts.length c, .int .i64 K] 43)).alloc (.cells #[.int .i64 0, .slice none 0 0, .int .i64 0] 29)).alloc (.cells #[.int .i64 R, .slice none 0 0, .int .i64 0] 29) := ⟨_, rfl⟩
  rw [← hW1] at HT
  have hsz : W1.heap.size = w.heap.size + 3 := by rw [hW1]; simp
  have HR1 := Lib.hid (hR.later HT.below)
  clear hR
  go_enter Try.func24, Try.ntmps24
  go_upto_region 3 with fail
  rw [← hW1]
  generalize g2 : w.heap.size + 1 + 1 = k2 at HT ⊢
  generalize g1 : w.heap.size + 1 = k1 at HT ⊢
  have HK := Lib.hid (show w.heap.size ≤ k1 ∧ k1 < k2 ∧ w.heap.size < k1 ∧ k2 < W1.heap.size by omega)
  generalize g0 : w.heap.size = k0 at HT ⊢
  have HK0 := Lib.hid g0
  have m1 := (HT.box 2).c 1
  clear hW1 g0 g1 g2 hsz
  have HTI := Lib.hid HT
  clear HT
  go_wp2_with fail
  refine (toTileS_any A c ts W1 HR1.out hl).mono ?_
  rintro e w2 ⟨rfl, hb2, ho⟩
  have HT := HTI.out.later hb2
  obtain ⟨g, hg⟩ : ∃ g, g = W1.heap.size := ⟨_, rfl⟩
  have HG := Lib.hid hg
  rw [← hg] at ho ⊢
  have HO2 := Lib.hid ho
  have m2 := (HT.box 2).c 2
  have n1 := (HT.box 0).c 1
  have n2 := (HT.box 0).c 2
  have f1 := (HT.box 0).f 1
  have f2 := (HT.box 0).f 2
  have HTJ := Lib.hid HT
  clear hb2 ho hg m1 HT
  go_upto_region 5 with fail
  have hkb : w.heap.size ≤ k2 := by have := HK.out; omega
  have hne : ∀ p ∈ [(k1, ([.int .i64 0, .slice none 0 0, .int .i64 0] : List Value)), (k0, [.int .i64 R, .slice A ts.length c, .int .i64 K])], p.1 ≠ k2 := fun p hp => by
    have h1 := HK.out
    have h2 := HK0.out
    simp only [List.mem_cons, List.not_mem_nil, or_false] at hp
    rcases hp with rfl | rfl <;> (show _ ≠ _) <;> omega
  have HT := (HTJ.out.put hkb hne 1 (.slice (some ⟨g, 0, none⟩) ts.length ts.length)).put hkb hne 2 (.int .i64 K)
  have HO3 := ownsRow_setCell_below (ownsRow_setCell_below HO2.out (a := ⟨k2, 1, none⟩) (by have h1 := HG.out; have h2 := HK.out; show k2 < g; omega) (.slice (some ⟨g, 0, none⟩) ts.length ts.length)) (a := ⟨k2, 2, none⟩) (by have h1 := HG.out; have h2 := HK.out; show k2 < g; omega) (.int .i64 K)
  obtain ⟨W3, hW3⟩ : ∃ W, W = (w2.setCell ⟨k2, 1, none⟩ (.slice (some ⟨g, 0, none⟩) ts.length ts.length)).setCell ⟨k2, 2, none⟩ (.int .i64 K) := ⟨_, rfl⟩
  rw [← hW3] at HT HO3 ⊢
  have HT : Held w W3 [(k2, [.int .i64 R, .slice (some ⟨g, 0, none⟩) ts.length ts.length, .int .i64 K]), (k1, [.int .i64 0, .slice none 0 0, .int .i64 0]), (k0, [.int .i64 R, .slice A ts.length c, .int .i64 K])] := HT
  have m0' := (HT.box 0).c 0
  have m1' := (HT.box 0).c 1
  have m2' := (HT.box 0).c 2
  have r0 := (HT.box 1).c 0
  have r1 := (HT.box 1).c 1
  have r2 := (HT.box 1).c 2
  have o0 := (HT.box 1).f 0
  have o1 := (HT.box 1).f 1
  have o2 := (HT.box 1).f 2
  have hn1 : ¬ k1 = k2 := by have := HK.out; omega
  have hn2 : ¬ k2 = k1 := by have := HK.out; omega
  have HTK := Lib.hid HT.below
  have HO4 := Lib.hid HO3
  clear hW3 HO3 HT m2 n1 n2 f1 f2 hne hkb
  go_wp2_with fail
  have hq1 : w.heap.size ≤ k1 := by have := HK.out; omega
  have hlt : k1 < g := by have h1 := HG.out; have h2 := HK.out; omega
  have ho5 := ownsRow_setCell_below (ownsRow_setCell_below (ownsRow_setCell_below HO4.out (a := ⟨k1, 0, none⟩) hlt (.int .i64 R)) (a := ⟨k1, 1, none⟩) hlt (.slice (some ⟨g, 0, none⟩) ts.length ts.length)) (a := ⟨k1, 2, none⟩) hlt (.int .i64 K)
  exact bodyPost_ret (v := cav R (some ⟨g, 0, none⟩) ts.length ts.length K) (by simp [results, Try.results24, go_sem, r0, r1, r2]) rfl ⟨g, rfl, by omega, own_base ho5 (by omega), ((HTK.out.setCell (p := ⟨k1, 0, none⟩) hq1 _).setCell (p := ⟨k1, 1, none⟩) hq1 _).setCell (p := ⟨k1, 2, none⟩) hq1 _⟩
end Go.Proofs.Ytaelhbbfddcabaa
