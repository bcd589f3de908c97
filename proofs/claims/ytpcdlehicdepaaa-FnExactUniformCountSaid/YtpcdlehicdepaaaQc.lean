/- Valid programs: the program. -/
import Derived.Test.YtpcdlehicdepaaaProg
import Derived.Test.YtpcdlehicdepaaaInts
import Derived.Test.YtpcdlehicdepaaaVbox
import Derived.Test.YtpcdlehicdepaaaHeld
import Derived.Test.YtpcdlehicdepaaaMem
import Derived.Test.YtpcdlehicdepaaaFlat
import Derived.Test.YtpcdlehicdepaaaRowC
import Derived.Test.YtpcdlehicdepaaaKS
import Derived.Test.YtpcdlehicdepaaaStrS
import Derived.Test.YtpcdlehicdepaaaIntS
import Derived.Test.YtpcdlehicdepaaaSS
import Derived.Test.YtpcdlehicdepaaaPg
import Derived.Test.YtpcdlehicdepaaaPh
import Derived.Test.YtpcdlehicdepaaaPi
import Derived.Test.YtpcdlehicdepaaaPj
import Derived.Test.YtpcdlehicdepaaaPk
import Derived.Test.YtpcdlehicdepaaaPl
import Derived.Test.YtpcdlehicdepaaaPm
import Derived.Test.YtpcdlehicdepaaaIdent
import Derived.Test.YtpcdlehicdepaaaPn
import Derived.Test.YtpcdlehicdepaaaQa
import Derived.Test.YtpcdlehicdepaaaShelf
import Derived.WalkKit
import Derived.WalkSpells
import Derived.WalkLawsBesides
import Derived.Lib.Hide
import Derived.Deep.RegionHeld3
import Derived.Deep.QuietTactic
import Derived.BigQuiet
import Derived.Handy
import Derived.Deep.DeepCutAuto
import Derived.OwnWalk
import Derived.Lib.OwnBridge
namespace Go.Proofs.Ytpcdlehicdepaaa
open Go.RowKit Go.Sort

theorem run_append_none' {P : Program} {w : World} (t ty e : TypeId) (i : TypeInfo) (ht : P.underlying t = some (.slice e)) (hi : P.info? e = some i) {base size : Nat} {v : Value} {n c : Nat} {xs : List Value} (hown : w.ownsRow base e size v n xs) :
    (Builtin.append_ #[t, t] ty #[v, .slice none 0 c]).run P w = .ok v w := by
  rcases hown.2 with ⟨rfl, rfl⟩ | ⟨g, cap, cur, rfl, _, _, hnc, _, _, _⟩
  · simp [Builtin.append_, run_underlying ht, sizeOf, typeInfo, hi, Builtin.lenOf, Builtin.firstCells]
  · simp [Builtin.append_, run_underlying ht, sizeOf, typeInfo, hi, Builtin.lenOf, Builtin.firstCells, loadCells, storeCells, hnc]
/-- append of a slice of integers that is read, nil let in -/
theorem wp_append_rd {P : Program} {w : World} {o : Oper} {a : Act} {K : Act → World → Prop} {Q : Exit → Act → World → Prop} (s x : Operand) (t : TypeId)
    (ho : o.op = .call { callee := .builtin .append, args := #[s, x], argTypes := #[t, t] })
    (base : Nat) (e : TypeId) (z : Value) (bytes : Nat) (ht : P.underlying t = some (.slice e)) (hinfo : (P.info? e).map (fun i => (i.zero, i.size, i.bytes)) = some (some z, 1, bytes)) (hzs : z.cells.size = 1)
    (v : Value) (n : Nat) (xs : List Value) (hs : a.eval s = v) (hown : w.ownsRow base e 1 v n xs)
    (B : Nat) (A : Option Addr) (c : Nat) (us : List Int) (hx : a.eval x = .slice A us.length c) (hr : Row I64 w B A us)
    (h63 : n + us.length ≤ maxLen) (hbytes : (n + us.length) * bytes ≤ 140737488355328) (hbase : base ≤ w.heap.size)
    (h : ∀ v' w', w'.ownsRow base e 1 v' (n + us.length) (xs ++ us.map I64) → w.grownBy w' v.ownBlock → K (a.put o.dst v') w') : o.wp P a w K Q := by
  obtain ⟨i0, hi, hz0, hz1, hz2⟩ := info_parts hinfo
  cases A with
  | none =>
    have hn : us = [] := by
      cases us with
      | nil => rfl
      | cons u us =>
        obtain ⟨b, o, e, _⟩ := hr.at (k := 0) (by simp)
        cases e
    subst hn
    have hr := run_append_none' (w := w) t o.type e i0 ht hi (c := c) hown
    unfold Oper.wp execOp
    rw [List.length_nil] at hx
    simp only [ho, resolve, invoke, builtin, Sem.run_bind, Sem.run_pure, Result.andThen_ok, List.map_toArray, List.map_cons, List.map_nil, hs, hx, hr]
    exact h v w (by rw [List.length_nil, Nat.add_zero, List.map_nil, List.append_nil]; exact hown) (gb_refl _ _)
  | some ad =>
    refine wp_append_own _ s x t ho base e i0 z 1 bytes ht hi hz0 hz1 hz2 hzs (by omega) v n xs hs hown ad us.length c (us.map I64) hx (by simp) (fun j u hj => ?_) (fun u hu => by obtain ⟨y, _, rfl⟩ := List.mem_map.1 hu; rfl) h63 hbytes hbase fun v' w' h2 h3 _ => h v' w' h2 h3
    rw [List.getElem?_map] at hj
    obtain ⟨y, hy, rfl⟩ := Option.map_eq_some_iff.1 hj
    obtain ⟨hj1, rfl⟩ := List.getElem?_eq_some_iff.1 hy
    obtain ⟨b, q, e, _, hc⟩ := hr.at hj1
    injection e with e
    subst e
    have ea : (⟨b, q, none⟩ : Addr).add j = ⟨b, q + j, none⟩ := by unfold Addr.add; split <;> simp_all
    rw [ea]
    exact hc
theorem wpList_append_rd {P : Program} {w : World} {ops : Array Oper} {rest : List Oper} {o : Oper} {a : Act} {Q : Exit → Act → World → Prop} (hgd : o.guard = none) (s x : Operand) (t : TypeId)
    (ho : o.op = .call { callee := .builtin .append, args := #[s, x], argTypes := #[t, t] })
    (base : Nat) (e : TypeId) (z : Value) (bytes : Nat) (ht : P.underlying t = some (.slice e)) (hinfo : (P.info? e).map (fun i => (i.zero, i.size, i.bytes)) = some (some z, 1, bytes)) (hzs : z.cells.size = 1)
    (v : Value) (n : Nat) (xs : List Value) (hs : a.eval s = v) (hown : w.ownsRow base e 1 v n xs)
    (B : Nat) (A : Option Addr) (c : Nat) (us : List Int) (hx : a.eval x = .slice A us.length c) (hr : Row I64 w B A us)
    (h63 : n + us.length ≤ maxLen) (hbytes : (n + us.length) * bytes ≤ 140737488355328) (hbase : base ≤ w.heap.size)
    (h : ∀ v' w', w'.ownsRow base e 1 v' (n + us.length) (xs ++ us.map I64) → w.grownBy w' v.ownBlock → wpList P ops Q rest (a.put o.dst v') w') : wpList P ops Q (o :: rest) a w :=
  wpList_plain hgd fun _ hK => wp_append_rd s x t ho base e z bytes ht hinfo hzs v n xs hs hown B A c us hx hr h63 hbytes hbase fun v' w' h2 h3 => hK _ _ (h v' w' h2 h3)
theorem args_take (xs : List Nd) (k : Nat) : (argsL (xs.take k)).length ≤ (argsL xs).length := by
  unfold argsL
  induction xs generalizing k with
  | nil => simp
  | cons x xs ih =>
    cases k with
    | zero => simp
    | succ k =>
      have := ih k
      simp only [List.take_succ_cons, List.flatMap_cons, List.length_append]
      omega

theorem sortInts_any (base : Nat) (A : Option Addr) (cap : Nat) (zs : List Int) (w : World) (ho : w.ownsRow base 3 1 (.slice A zs.length cap) zs.length (zs.map I64)) (hm : zs.length ≤ 1099511627776) :
    Calls Try.prog 72 #[.slice A zs.length cap] w fun e w' => e = .returned (.tuple #[]) ∧ w'.ownsRow base 3 1 (.slice A zs.length cap) zs.length ((srt zs).map I64) ∧ w.grownBy w' (Value.slice A zs.length cap).ownBlock := by
  by_cases h0 : zs.length = 0
  · have e : zs = [] := List.eq_nil_of_length_eq_zero h0
    subst e
    refine (Try.slices_Sort_int_none A cap w).mono ?_
    rintro e w' ⟨rfl, rfl⟩
    exact ⟨rfl, by simpa [srt] using ho, gb_refl _ _⟩
  · obtain ⟨g, cap1, e1, _, _, _, _, _, hH⟩ := Lib.holds_of_ownsRow ho (fun e => by injection e with _ e _; exact h0 e)
    injection e1 with e1 _ e3
    subst e1
    subst e3
    refine (Try.slices_Sort_int g 0 cap zs w hH (ho.lt g rfl).2 (by omega)).mono ?_
    rintro e w' ⟨rfl, n, os, hw⟩
    have hgr : w.grownBy w' (some g) := by
      rw [hw]
      refine ⟨rfl, rfl, rfl, by simp [grow, putRow, mapBlock, Sort.ahead], fun k hk hne => ?_⟩
      rw [heap_grow_old _ _ (by simpa [putRow, mapBlock, Sort.ahead] using hk)]
      have : g ≠ k := fun e => hne (by rw [e])
      simp [putRow, mapBlock, Sort.ahead, Array.getElem?_modify, this]
    refine ⟨rfl, ?_, hgr⟩
    have h := Lib.ownsRow_putRow (q := n) (k := zs.length) ho (ys := srt zs) (srt_len zs) (Nat.le_refl _)
    rw [List.take_of_length_le (Nat.le_of_eq (srt_len zs))] at h
    rw [hw]
    refine h.kept (row := none) ⟨rfl, rfl, rfl, by simp [grow], fun k hk _ => ?_⟩ (.inr (by simp [Value.ownBlock]))
    exact heap_grow_old _ _ hk

set_option maxRecDepth 100000 in
set_option maxHeartbeats 8000000 in
theorem eachOnce_any (A A' : Option Addr) (c c' : Nat) (xs : List Nd) (ys : List As) (w : World) (hR : ProgIn w w.heap.size A A' xs ys) (hl : xs.length ≤ 1099511627776) (hz : ys.length + (argsL xs).length ≤ 1099511627776) :
    Calls Try.prog 59 #[pgv A A' xs.length c ys.length c'] w (BoolOut ((refsP xs ys).Perm (upZ xs.length)) w) := by
  obtain ⟨W1, hW1⟩ : ∃ W, W = w.alloc (.cells #[.slice A xs.length c, .slice A' ys.length c'] 35) := ⟨_, rfl⟩
  have M := Mbox.new w #[.slice A xs.length c, .slice A' ys.length c'] 35
  have hB : Below w.heap.size w (w.alloc (.cells #[.slice A xs.length c, .slice A' ys.length c'] 35)) := by go_grown
  have hR1 := (hR.alloc (Nat.le_refl _) (.cells #[.slice A xs.length c, .slice A' ys.length c'] 35)).more (B' := (w.alloc (.cells #[.slice A xs.length c, .slice A' ys.length c'] 35)).heap.size) (by simp)
  rw [← hW1] at M hB hR1
  have HM := Lib.hid M
  have HB := Lib.hid hB
  have HR := Lib.hid hR1
  clear M hB hR hR1
  have HRT := Lib.hid (roots_any A A' c c' xs ys W1 HR.out (by omega))
  go_enter Try.func59, Try.ntmps59
  go_upto_region 1 with fail
  rw [← hW1]
  clear hW1
  have m0 := HM.out.c 0
  have m1 := HM.out.c 1
  go_wp2_with fail
  refine HRT.out.mono ?_
  rintro e w2 ⟨A3, c3, rfl, ho3, hb3⟩
  have HO3 := Lib.hid ho3
  have HB3 := Lib.hid hb3
  have m0 := (HM.out.later hb3).c 0
  have m1 := (HM.out.later hb3).c 1
  clear ho3 hb3 HRT
  go_wp2_with fail
  go_loopw [3, 13] (fun v i wr => ∃ k : Nat, k ≤ xs.length ∧ i = .int .i64 k ∧ wr.ownsRow W1.heap.size 3 1 v (rtsL ys ++ argsL (xs.take k)).length ((rtsL ys ++ argsL (xs.take k)).map I64) ∧ Below W1.heap.size W1 wr) (fun _ i _ => xs.length - (intOf i).toNat)
  case atStart => exact ⟨0, Nat.zero_le _, rfl, by simpa [argsL] using HO3.out, HB3.out⟩
  case round =>
    clear m0 m1 HO3 HB3
    obtain ⟨k, hk, rfl, hown, hb⟩ := hrel
    by_cases hlt : k < xs.length
    · have hst := args_step xs k hlt
      have hle := args_take xs (k + 1)
      have hrl : (rtsL ys).length = ys.length := rts_len ys
      obtain ⟨b, o, rfl, hbl, a, ca, c0, c1, c2, c3, hca1, hca2, hrow⟩ := HR.out.1.at hlt
      have c0 := (hb.cell (p := ⟨b, o + k * 4, none⟩) hbl).trans c0
      have c1 := (hb.cell (p := ⟨b, o + k * 4 + 1, none⟩) hbl).trans c1
      have c2 := (hb.cell (p := ⟨b, o + k * 4 + 2, none⟩) hbl).trans c2
      have c3 := (hb.cell (p := ⟨b, o + k * 4 + 3, none⟩) hbl).trans c3
      have hrow := hrow.below hb
      obtain ⟨v, hv⟩ : ∃ v, v = xs[k] := ⟨_, rfl⟩
      have HV := Lib.hid hv
      rw [← hv] at c0 c1 c2 c3 hrow hca1 hst
      obtain ⟨ps, hps⟩ : ∃ ps, ps = rtsL ys ++ argsL (xs.take k) := ⟨_, rfl⟩
      have hst2 : rtsL ys ++ argsL (xs.take (k + 1)) = ps ++ v.2.2.2 := by rw [hst, hps, List.append_assoc]
      have hlen : ps.length + v.2.2.2.length ≤ 1099511627776 := by
        rw [← List.length_append, ← hst2, List.length_append]
        omega
      rw [← hps] at hown
      obtain ⟨v0, v1, v2, v3⟩ := v
      dsimp only at c0 c1 c2 c3 hrow hca1 hst2 hlen
      have HB := Lib.hid HB.out
      have HBW := Lib.hid hb
      have HST := Lib.hid hst2
      have hlt' : (k : Int) < (xs.length : Int) := by omega
      have hge' : (0 : Int) ≤ (k : Int) := by omega
      have hO1 := hown.alloc (.cells #[.int .i64 v0, .string v1, .int .i64 v2, .slice a v3.length ca] 56)
      have hB1 := hb.alloc hb.size (.cells #[.int .i64 v0, .string v1, .int .i64 v2, .slice a v3.length ca] 56)
      have hr1 := (hrow.below (show Below W1.heap.size wr (wr.alloc (.cells #[.int .i64 v0, .string v1, .int .i64 v2, .slice a v3.length ca] 56)) from (Below.refl _ _).alloc hb.size _))
      clear hst hst2 hps hv hb hown hrow hle HV hrl
      go_upto_region 5 with fail
      obtain ⟨W2, hW2⟩ : ∃ W, W = wr.alloc (.cells #[.int .i64 v0, .string v1, .int .i64 v2, .slice a v3.length ca] 56) := ⟨_, rfl⟩
      have M2 := Mbox.new wr #[.int .i64 v0, .string v1, .int .i64 v2, .slice a v3.length ca] 56
      rw [← hW2] at M2 hO1 hB1 hr1 ⊢
      have m3 := M2.c 3
      have HO1 := Lib.hid hO1
      have HB1 := Lib.hid hB1
      have HR1 := Lib.hid hr1
      have hs1 : W1.heap.size ≤ W2.heap.size := hB1.size
      clear hW2 M2 c0 c1 c2 c3 hO1 hB1 hr1
      go_wp2_with (at_builtin; refine wpList_append_rd rfl _ _ 49 rfl W1.heap.size 3 (.int .i64 0) 8 Try.underlying49 infoInt rfl _ ps.length (ps.map I64) (by rfl) HO1.out _ a ca v3 (by rfl) HR1.out (by unfold maxLen; omega) (by omega) hs1 ?_)
      intro v' w4 ho4 hg4
      have hb4 : Below W1.heap.size W1 w4 := HB1.out.grown hg4 hs1 (own_block HO1.out)
      have HO4 : Hid (w4.ownsRow W1.heap.size 3 1 v' (ps ++ v3).length ((ps ++ v3).map I64)) := Lib.hid (by rw [List.length_append, List.map_append]; exact ho4)
      have HB4 := Lib.hid hb4
      clear ho4 hg4 hb4 HO1 HB1 HR1
      go_wp2_with fail
      go_roundw
      case rel => exact ⟨k + 1, by omega, by go_num, by rw [HST.out]; exact HO4.out, HB4.out⟩
      case measure => simp [intOf]; omega
    · obtain rfl : k = xs.length := by omega
      rw [List.take_length] at hown
      have hxn : (rtsL ys ++ argsL xs).length ≤ 1099511627776 := by rw [List.length_append, rts_len]; omega
      obtain ⟨L, hL⟩ : ∃ L, L = rtsL ys ++ argsL xs := ⟨_, rfl⟩
      have HL : Hid (L = refsP xs ys) := Lib.hid hL
      rw [← hL] at hown hxn
      obtain ⟨A4, c4, rfl⟩ := own_shape hown
      have hso := sortInts_any W1.heap.size A4 c4 L wr hown hxn
      have HOW := Lib.hid hown
      have HBW := Lib.hid hb
      have HSO := Lib.hid hso
      have hge' : ¬ ((xs.length : Nat) : Int) < ((xs.length : Nat) : Int) := by omega
      clear hso hL hown hb
      go_wp2_with fail
      refine HSO.out.mono ?_
      rintro e w5 ⟨rfl, ho5, hg5⟩
      have hb5 : Below W1.heap.size W1 w5 := HBW.out.grown hg5 HBW.out.size (own_block HOW.out)
      have R5 : Row I64 w5 w5.heap.size A4 (srt L) := by
        have h := ho5
        rw [← srt_len L] at h
        exact Row.of_own h
      have m0 := (HM.out.later hb5).c 0
      have HR5 := Lib.hid R5
      have HB5 : Hid (Below w.heap.size w w5) := Lib.hid (HB.out.trans (hb5.mono HB.out.size))
      have hsl := srt_len L
      obtain ⟨T, hT⟩ : ∃ T, T = srt L := ⟨_, rfl⟩
      rw [← hT] at HR5 hsl
      have HT := Lib.hid hT
      clear ho5 hg5 hb5 R5 hT HSO HOW HBW
      go_wp2_with fail
      go_loop [26] (fun i => ∃ k : Nat, k ≤ L.length ∧ i = .int .i64 k ∧ ∀ j (h : j < T.length), j < k → T[j] = (j : Int)) (fun i => L.length - (intOf i).toNat)
      case atStart => exact ⟨0, Nat.zero_le _, rfl, fun j _ h => by omega⟩
      case round =>
        obtain ⟨k, hk, rfl, hin⟩ := hrel
        by_cases hlt2 : k < L.length
        · have hltT : k < T.length := by omega
          obtain ⟨b, o, rfl, hbl, t0⟩ := HR5.out.at hltT
          obtain ⟨v, hv⟩ : ∃ v, v = T[k] := ⟨_, rfl⟩
          rw [← hv] at t0
          have HV := Lib.hid hv
          have HIN := Lib.hid hin
          have hlt' : (k : Int) < (L.length : Int) := by omega
          have hge2 : (0 : Int) ≤ (k : Int) := by omega
          clear hv hin m0
          by_cases hvk : v = (k : Int)
          · have b0 : (v != (k : Int)) = false := by simp [hvk]
            have HST : Hid (∀ j (h : j < T.length), j < k + 1 → T[j] = (j : Int)) := Lib.hid fun j h hj => by
              rcases Nat.lt_or_ge j k with h1 | h1
              · exact HIN.out j h h1
              · obtain rfl : j = k := by omega
                rw [← HV.out]
                exact hvk
            clear hvk
            go_wp2_with fail
            go_round
            case rel => exact ⟨k + 1, by omega, by go_num, HST.out⟩
            case measure => simp [intOf]; omega
          · have b0 : (v != (k : Int)) = true := by simp [hvk]
            have HZ : Hid (¬ (refsP xs ys).Perm (upZ xs.length)) := Lib.hid (by
              rw [← HL.out]
              refine not_perm_at (k := k) (by rw [← HT.out]; exact hltT) ?_
              simp only [← HT.out]
              rw [← HV.out]
              exact hvk)
            clear hvk
            go_wp2_with fail
            go_ret
            exact ⟨false, rfl, iffF HZ.out, HB5.out⟩
        · have HIN := Lib.hid hin
          clear hin
          have hge2 : ¬ (k : Int) < (L.length : Int) := by omega
          by_cases hxl : L.length = xs.length
          · have b0 : ((L.length : Int) == (xs.length : Int)) = true := by simp; omega
            have HZ : Hid ((refsP xs ys).Perm (upZ xs.length)) := Lib.hid (by
              rw [← HL.out]
              refine perm_of_srt (fun j hj => ?_) hxl
              have := HIN.out j (by rw [HT.out]; exact hj) (by rw [srt_len] at hj; omega)
              simp only [HT.out] at this
              exact this)
            clear hxl
            go_wp2_with fail
            go_ret
            exact ⟨true, rfl, iffT HZ.out, HB5.out⟩
          · have b0 : ((L.length : Int) == (xs.length : Int)) = false := by simp; omega
            have HZ : Hid (¬ (refsP xs ys).Perm (upZ xs.length)) := Lib.hid fun h => hxl (by rw [HL.out]; exact perm_len h)
            clear hxl
            go_wp2_with fail
            go_ret
            exact ⟨false, rfl, iffF HZ.out, HB5.out⟩

set_option maxRecDepth 100000 in
set_option maxHeartbeats 8000000 in
theorem isValidProg_any (A A' : Option Addr) (c c' : Nat) (xs : List Nd) (ys : List As) (w : World) (hR : ProgIn w w.heap.size A A' xs ys) (hl : xs.length ≤ 1048576) (hl2 : ys.length ≤ 1048576) (hz : ys.length + (argsL xs).length ≤ 1099511627776) (hx : ∀ x ∈ xs, x.2.1.size ≤ 1048576 ∧ x.2.2.2.length ≤ 1048576) (hy : ∀ y ∈ ys, y.1.size ≤ 1048576) :
    Calls Try.prog 34 #[pgv A A' xs.length c ys.length c'] w (BoolOut (okPr xs ys) w) := by
  have HX := Lib.hid hx
  have HY := Lib.hid hy
  have hE : ∀ W, ProgIn W W.heap.size A A' xs ys → Calls Try.prog 59 #[pgv A A' xs.length c ys.length c'] W (BoolOut ((refsP xs ys).Perm (upZ xs.length)) W) := fun W h => eachOnce_any A A' c c' xs ys W h (by omega) hz
  have HE := Lib.hid hE
  clear hx hy hE hz
  obtain ⟨W1, hW1⟩ : ∃ W, W = w.alloc (.cells #[.slice A xs.length c, .slice A' ys.length c'] 35) := ⟨_, rfl⟩
  have M := Mbox.new w #[.slice A xs.length c, .slice A' ys.length c'] 35
  have hB : Below w.heap.size w (w.alloc (.cells #[.slice A xs.length c, .slice A' ys.length c'] 35)) := by go_grown
  have hR1 := (hR.alloc (Nat.le_refl _) (.cells #[.slice A xs.length c, .slice A' ys.length c'] 35)).more (B' := (w.alloc (.cells #[.slice A xs.length c, .slice A' ys.length c'] 35)).heap.size) (by simp)
  rw [← hW1] at M hB hR1
  have HM := Lib.hid M
  have HB := Lib.hid hB
  have HR := Lib.hid hR1
  clear M hB hR hR1
  go_enter Try.func34, Try.ntmps34
  go_upto_region 1 with fail
  rw [← hW1]
  clear hW1
  have m0 := HM.out.c 0
  have m1 := HM.out.c 1
  by_cases h60 : 60 < xs.length
  · have hgt : (60 : Int) < (xs.length : Int) := by omega
    have HZ : Hid (¬ okPr xs ys) := Lib.hid fun h => by have := h.1; omega
    clear h60
    go_wp2_with fail
    go_ret
    exact ⟨false, rfl, iffF HZ.out, HB.out⟩
  · have hgt : ¬ (60 : Int) < (xs.length : Int) := by omega
    go_wp2_with fail
    go_loopw [14] (fun i wr => ∃ k : Nat, k ≤ xs.length ∧ i = .int .i64 k ∧ (∀ j (h : j < xs.length), j < k → okN j xs[j]) ∧ Below W1.heap.size W1 wr) (fun i _ => xs.length - (intOf i).toNat)
    case atStart => exact ⟨0, Nat.zero_le _, rfl, fun j _ h => by omega, Below.refl _ _⟩
    case round =>
      clear m0 m1 hgt
      obtain ⟨k, hk, rfl, hin, hb⟩ := hrel
      by_cases hlt : k < xs.length
      · obtain ⟨b, o, rfl, hbl, a, ca, c0, c1, c2, c3, hca1, hca2, hrow⟩ := HR.out.1.at hlt
        have c0 := (hb.cell (p := ⟨b, o + k * 4, none⟩) hbl).trans c0
        have c1 := (hb.cell (p := ⟨b, o + k * 4 + 1, none⟩) hbl).trans c1
        have c2 := (hb.cell (p := ⟨b, o + k * 4 + 2, none⟩) hbl).trans c2
        have c3 := (hb.cell (p := ⟨b, o + k * 4 + 3, none⟩) hbl).trans c3
        have hrow := hrow.below hb
        obtain ⟨v, hv⟩ : ∃ v, v = xs[k] := ⟨_, rfl⟩
        have HV := Lib.hid hv
        have hxv := HX.out _ (List.getElem_mem hlt)
        rw [← hv] at c0 c1 c2 c3 hrow hca1 hxv
        obtain ⟨v0, v1, v2, v3⟩ := v
        dsimp only at c0 c1 c2 c3 hrow hca1 hxv
        have hlt' : (k : Int) < (xs.length : Int) := by omega
        have hge' : (0 : Int) ≤ (k : Int) := by omega
        have hkb : (k : Int) ≤ 60 := by omega
        have HIN := Lib.hid hin
        have HB1 := Lib.hid (hb.alloc hb.size (.cells #[.int .i64 v0, .string v1, .int .i64 v2, .slice a v3.length ca] 56))
        have HR1 := Lib.hid (hrow.below (show Below W1.heap.size wr (wr.alloc (.cells #[.int .i64 v0, .string v1, .int .i64 v2, .slice a v3.length ca] 56)) from (Below.refl _ _).alloc hb.size _))
        clear hv hb hin hrow
        go_upto_region 6 with fail
        obtain ⟨W2, hW2⟩ : ∃ W, W = wr.alloc (.cells #[.int .i64 v0, .string v1, .int .i64 v2, .slice a v3.length ca] 56) := ⟨_, rfl⟩
        have M2 := Mbox.new wr #[.int .i64 v0, .string v1, .int .i64 v2, .slice a v3.length ca] 56
        rw [← hW2] at M2 HB1 HR1 ⊢
        have n0 := M2.c 0
        have n1 := M2.c 1
        have n2 := M2.c 2
        have n3 := M2.c 3
        have HM2 := Lib.hid M2
        have hiv := Lib.hid (isValidNode_any v0 v2 v1 a ca v3 W2 hxv.1 (by omega))
        have hs1 : W1.heap.size ≤ W2.heap.size := HB1.out.size
        clear hW2 M2 c0 c1 c2 c3
        go_wp2_with fail
        refine hiv.out.mono ?_
        rintro e w3 ⟨q, rfl, hq, hb3⟩
        have M3 := HM2.out.later hb3
        have n3 := M3.c 3
        have HB3 := Lib.hid (HB1.out.trans (hb3.mono hs1))
        have HR3 := Lib.hid (HR1.out.below (hb3.mono hs1))
        have HQ := Lib.hid hq
        clear hq hb3 M3 hiv n0 n1 n2 HR1 HB1 HM2
        cases q with
        | false =>
          have HZ : Hid (¬ okPr xs ys) := Lib.hid fun h => by
            have h1 := (h.2.1 k hlt).1
            rw [← HV.out] at h1
            have := HQ.out.2 h1
            cases this
          go_wp2_with fail
          go_ret
          exact ⟨false, rfl, iffF HZ.out, HB.out.trans (HB3.out.mono HB.out.size)⟩
        | true =>
          have HSH := Lib.hid (HQ.out.1 rfl)
          have haw := Lib.hid (areWithin_any a ca v3 0 ((k : Int) - 1) w3 _ HR3.out (by omega))
          clear HQ
          go_wp2_with fail
          refine haw.out.mono ?_
          rintro e w4 ⟨q, rfl, hq, rfl⟩
          have HQ := Lib.hid hq
          clear hq haw
          cases q with
          | false =>
            have HZ : Hid (¬ okPr xs ys) := Lib.hid fun h => by
              have h1 := (h.2.1 k hlt).2
              rw [← HV.out] at h1
              have := HQ.out.2 h1
              cases this
            go_wp2_with fail
            go_ret
            exact ⟨false, rfl, iffF HZ.out, HB.out.trans (HB3.out.mono HB.out.size)⟩
          | true =>
            have HST : Hid (∀ j (h : j < xs.length), j < k + 1 → okN j xs[j]) := Lib.hid fun j h hj => by
              rcases Nat.lt_or_ge j k with h1 | h1
              · exact HIN.out j h h1
              · obtain rfl : j = k := by omega
                rw [← HV.out]
                exact ⟨HSH.out, HQ.out.1 rfl⟩
            go_wp2_with fail
            go_roundw
            case rel => exact ⟨k + 1, by omega, by go_num, HST.out, HB3.out⟩
            case measure => simp [intOf]; omega
      · have HIN : Hid (∀ j (h : j < xs.length), okN j xs[j]) := Lib.hid fun j h => hin j h (by omega)
        have HBW := Lib.hid hb
        have m0 := (HM.out.later hb).c 0
        have m1 := (HM.out.later hb).c 1
        have hge' : ¬ (k : Int) < (xs.length : Int) := by omega
        obtain ⟨zk, hzk⟩ : ∃ zk : Int, zk = (k : Int) := ⟨_, rfl⟩
        rw [← hzk] at hge' ⊢
        clear hin hb hzk hk hlt
        go_wp2_with fail
        go_loopw [34] (fun i wr => ∃ k : Nat, k ≤ ys.length ∧ i = .int .i64 k ∧ (∀ j (h : j < ys.length), j < k → Ident (ys[j]).1) ∧ Below W1.heap.size W1 wr) (fun i _ => ys.length - (intOf i).toNat)
        case atStart => exact ⟨0, Nat.zero_le _, rfl, fun j _ h => by omega, HBW.out⟩
        case round =>
          clear m0 m1 HBW hge'
          obtain ⟨k, hk, rfl, hin, hb⟩ := hrel
          by_cases hlt : k < ys.length
          · obtain ⟨b, o, rfl, hbl, hc⟩ := HR.out.2.at hlt
            obtain ⟨c0, c1⟩ := asg_at hc
            have c0 := (hb.cell (p := ⟨b, o + k * 2, none⟩) hbl).trans c0
            have c1 := (hb.cell (p := ⟨b, o + k * 2 + 1, none⟩) hbl).trans c1
            obtain ⟨v, hv⟩ : ∃ v, v = ys[k] := ⟨_, rfl⟩
            have HV := Lib.hid hv
            have hxv := HY.out _ (List.getElem_mem hlt)
            rw [← hv] at c0 c1 hxv
            obtain ⟨v0, v1⟩ := v
            dsimp only at c0 c1 hxv
            have HIN2 := Lib.hid hin
            have hlt' : (k : Int) < (ys.length : Int) := by omega
            have hge2 : (0 : Int) ≤ (k : Int) := by omega
            have hs2 : W1.heap.size ≤ wr.heap.size := hb.size
            have HBW := Lib.hid hb
            clear hv hc hin hb
            go_upto_region 12 with fail
            obtain ⟨W2, hW2⟩ : ∃ W, W = wr.alloc (.cells #[.string v0, .int .i64 v1] 58) := ⟨_, rfl⟩
            have M2 := Mbox.new wr #[.string v0, .int .i64 v1] 58
            have hB2 := HBW.out.alloc HBW.out.size (.cells #[.string v0, .int .i64 v1] 58)
            rw [← hW2] at M2 hB2 ⊢
            have n0 := M2.c 0
            have HB2 := Lib.hid hB2
            have hs3 : W1.heap.size ≤ W2.heap.size := hB2.size
            have hid2 := Lib.hid (ident_any v0 W2 hxv)
            clear hW2 M2 c0 c1 hB2
            go_wp2_with fail
            refine hid2.out.mono ?_
            rintro e w3 ⟨q, rfl, hq, hb3⟩
            have HB3 := Lib.hid (HB2.out.trans (hb3.mono hs3))
            have HQ := Lib.hid hq
            clear hq hb3 hid2 n0
            cases q with
            | false =>
              have HZ : Hid (¬ okPr xs ys) := Lib.hid fun h => by
                have h1 := h.2.2.1 k hlt
                rw [← HV.out] at h1
                have := HQ.out.2 h1
                cases this
              go_wp2_with fail
              go_ret
              exact ⟨false, rfl, iffF HZ.out, HB.out.trans (HB3.out.mono HB.out.size)⟩
            | true =>
              have HST : Hid (∀ j (h : j < ys.length), j < k + 1 → Ident (ys[j]).1) := Lib.hid fun j h hj => by
                rcases Nat.lt_or_ge j k with h1 | h1
                · exact HIN2.out j h h1
                · obtain rfl : j = k := by omega
                  rw [← HV.out]
                  exact HQ.out.1 rfl
              go_wp2_with fail
              go_roundw
              case rel => exact ⟨k + 1, by omega, by go_num, HST.out, HB3.out⟩
              case measure => simp [intOf]; omega
          · have HIY : Hid (∀ j (h : j < ys.length), Ident (ys[j]).1) := Lib.hid fun j h => hin j h (by omega)
            have HBW := Lib.hid hb
            have m0 := (HM.out.later hb).c 0
            have m1 := (HM.out.later hb).c 1
            have hge2 : ¬ (k : Int) < (ys.length : Int) := by omega
            have hee := Lib.hid (HE.out wr (HR.out.later hb))
            clear hin hb
            go_wp2_with fail
            refine hee.out.mono ?_
            rintro e w5 ⟨q, rfl, hq, hb5⟩
            have HZ : Hid (q = true ↔ okPr xs ys) := Lib.hid ⟨fun e => ⟨by omega, HIN.out, HIY.out, hq.1 e⟩, fun h => hq.2 h.2.2.2⟩
            have HB5 := Lib.hid (HB.out.trans ((HBW.out.trans (hb5.mono HBW.out.size)).mono HB.out.size))
            clear hq hb5
            go_wp2_with fail
            go_ret
            exact ⟨q, rfl, HZ.out, HB5.out⟩
end Go.Proofs.Ytpcdlehicdepaaa
