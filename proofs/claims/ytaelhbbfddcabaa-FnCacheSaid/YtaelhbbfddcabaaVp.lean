/- Textures of the program: MipLevel. -/
import Derived.Test.YtaelhbbfddcabaaProg
import Derived.Test.YtaelhbbfddcabaaInts
import Derived.Test.YtaelhbbfddcabaaVbox
import Derived.Test.YtaelhbbfddcabaaHeld
import Derived.Test.YtaelhbbfddcabaaMem
import Derived.Test.YtaelhbbfddcabaaFlat
import Derived.Test.YtaelhbbfddcabaaRowC
import Derived.Test.YtaelhbbfddcabaaKS
import Derived.Test.YtaelhbbfddcabaaStrS
import Derived.Test.YtaelhbbfddcabaaIntS
import Derived.Test.YtaelhbbfddcabaaSS
import Derived.Test.YtaelhbbfddcabaaVi
import Derived.Test.YtaelhbbfddcabaaVa
import Derived.Test.YtaelhbbfddcabaaVb
import Derived.Test.YtaelhbbfddcabaaVc
import Derived.Test.YtaelhbbfddcabaaVd
import Derived.Test.YtaelhbbfddcabaaVe
import Derived.Test.YtaelhbbfddcabaaVf
import Derived.Test.YtaelhbbfddcabaaVl
import Derived.Test.YtaelhbbfddcabaaVm
import Derived.Test.YtaelhbbfddcabaaVn
import Derived.Test.YtaelhbbfddcabaaVo
import Derived.WalkKit
import Derived.WalkSpells
import Derived.WalkLawsBesides
import Derived.Lib.Hide
import Derived.Deep.RegionHeld3
import Derived.Deep.QuietTactic
import Derived.BigQuiet
import Derived.Handy
import Derived.Deep.DeepCutAuto
import Derived.OwnWalk
import Derived.Laws.CopyOwn
import Derived.Deep.OwnRows
import Derived.Deep.RegionLaw
namespace Go.Proofs.Ytaelhbbfddcabaa
open Go.RowKit

theorem wpList_copy_at {P : Program} {w : World} {ops : Array Oper} {rest : List Oper} {o : Oper} {a : Act} {Q : Exit → Act → World → Prop} (hgd : o.guard = none) (d s : Operand) (dT sT : TypeId)
    (ho : o.op = .call { callee := .builtin .copy, args := #[d, s], argTypes := #[dT, sT] }) (elem : TypeId) (hu : P.underlying dT = some (.slice elem)) (hsz : (P.info? elem).map (·.size) = some 1)
    (g off dLen dCap sLen sCap : Nat) (A : Option Addr) (hd : a.eval d = .slice (some ⟨g, off, none⟩) dLen dCap) (hs : a.eval s = .slice A sLen sCap)
    (cur : List Value) (t : TypeId) (hg : w.heap[g]? = some (.cells cur.toArray t (0, 0))) (us : List Int) (hr : Row I64 w w.heap.size A us) (hpos : 0 < us.length) (hn : us.length = Nat.min sLen dLen)
    (hfit : off + us.length ≤ cur.length)
    (h : ∀ w', Hid (w' = w.setRow g (splice cur off (us.map I64)).toArray) → wpList P ops Q rest (a.put o.dst (goInt (us.map I64).length)) w') :
    wpList P ops Q (o :: rest) a w := by
  refine wpList_plain hgd fun K hK => ?_
  obtain ⟨b, q, rfl, _, _⟩ := hr.at (k := 0) hpos
  have hrun := run_copy_row (P := P) w dT sT o.type elem g off dLen dCap ⟨b, q, none⟩ sLen sCap cur.toArray t (us.map I64) hu hsz hg (by simpa using hn) (fun j u hj => by
    rw [List.getElem?_map] at hj
    obtain ⟨y, hy, rfl⟩ := Option.map_eq_some_iff.1 hj
    obtain ⟨hj1, rfl⟩ := List.getElem?_eq_some_iff.1 hy
    obtain ⟨b', q', e, _, hc⟩ := hr.at hj1
    injection e with e
    injection e with e1 e2
    subst e1 e2
    have ea : (⟨b, q, none⟩ : Addr).add j = ⟨b, q + j, none⟩ := by unfold Addr.add; split <;> simp_all
    rw [ea]
    exact hc) (by simpa using hfit) (fun u hu => by obtain ⟨y, _, rfl⟩ := List.mem_map.1 hu; rfl)
  rw [List.append_assoc] at hrun
  unfold Oper.wp execOp
  simp only [ho, resolve, invoke, builtin, Sem.run_bind, Sem.run_pure, Result.andThen_ok, List.map_toArray, List.map_cons, List.map_nil, hd, hs, hrun]
  exact hK _ _ (h _ (Lib.hid rfl))

set_option maxRecDepth 100000 in
set_option maxHeartbeats 8000000 in
theorem mip_no (L : Int) (A : Option Addr) (c : Nat) (ts : List Int) (k : Int) (w : World) (hR : Row I64 w w.heap.size A ts) (hl : ts.length ≤ 1048576) (hno : okM L ts k = false) :
    Calls Try.prog 50 #[txv L A ts.length c, .int .i64 k] w (TxNone w) := by
  have HT : Held w ((w.alloc (.cells #[.int .i64 L, .slice A ts.length c] 25)).alloc (.cells #[.int .i64 0, .slice none 0 0] 25)) [(w.heap.size + 1, [.int .i64 0, .slice none 0 0]), (w.heap.size, [.int .i64 L, .slice A ts.length c])] := by
    have h := ((Held.nil w).new #[.int .i64 L, .slice A ts.length c] 25).new #[.int .i64 0, .slice none 0 0] 25
    simpa only [World.size_alloc] using h
  obtain ⟨W1, hW1⟩ : ∃ W, W = (w.alloc (.cells #[.int .i64 L, .slice A ts.length c] 25)).alloc (.cells #[.int .i64 0, .slice none 0 0] 25) := ⟨_, rfl⟩
  rw [← hW1] at HT
  have hsz : W1.heap.size = w.heap.size + 2 := by rw [hW1]; simp
  have HR1 := Lib.hid (hR.later HT.below)
  have HVC := Lib.hid (isValidT_any L A c ts W1 HR1.out hl)
  have HR0 := Lib.hid (fun W (h : Below w.heap.size w W) => hR.later h)
  clear hR
  go_enter Try.func50, Try.ntmps50
  go_upto_region 1 with fail
  rw [← hW1]
  generalize g1 : w.heap.size + 1 = k1 at HT ⊢
  have HK := Lib.hid (show w.heap.size < k1 ∧ k1 < W1.heap.size by omega)
  generalize g0 : w.heap.size = k0 at HT ⊢
  have HK0 := Lib.hid g0
  have m0 := (HT.box 1).c 0
  have m1 := (HT.box 1).c 1
  clear hW1 g0 g1 hsz
  have HTI := Lib.hid HT
  clear HT
  go_wp2_with fail
  refine HVC.out.mono ?_
  rintro e w2 ⟨rfl, hb2⟩
  have HT2 := Lib.hid (HTI.out.later hb2)
  have HR2 := Lib.hid (HR1.out.later hb2)
  have hsz2 := hb2.size
  clear hb2 m0 m1
  cases hok : okX L ts with
  | false =>
    clear hok hno hsz2
    have HT := HT2.out
    have m0 := (HT.box 1).c 0
    have m1 := (HT.box 1).c 1
    have r0 := (HT.box 0).c 0
    have r1 := (HT.box 0).c 1
    have o0 := (HT.box 0).f 0
    have o1 := (HT.box 0).f 1
    have HTB := Lib.hid HT.below
    clear HT
    go_wp2_with fail
    have hq1 : w.heap.size ≤ k1 := by have := HK.out; omega
    exact bodyPost_ret (v := .tuple #[txv 0 none 0 0, .bool false]) (by simp [results, Try.results50, go_sem, r0, r1]) rfl ⟨rfl, (HTB.out.setCell (p := ⟨k1, 0, none⟩) hq1 _).setCell (p := ⟨k1, 1, none⟩) hq1 _⟩
  | true =>
    have hin : inV 0 L k = false := by
      unfold okM at hno
      rw [hok] at hno
      simpa using hno
    have HIN := Lib.hid (isWithinV k 0 L w2)
    rw [hin] at HIN
    clear hok hno hsz2 hin
    have m0 := (HT2.out.box 1).c 0
    have m1 := (HT2.out.box 1).c 1
    go_wp2_with fail
    refine HIN.out.mono ?_
    rintro e w3 ⟨rfl, rfl⟩
    clear m0 m1
    have HT := HT2.out
    have m0 := (HT.box 1).c 0
    have m1 := (HT.box 1).c 1
    have r0 := (HT.box 0).c 0
    have r1 := (HT.box 0).c 1
    have o0 := (HT.box 0).f 0
    have o1 := (HT.box 0).f 1
    have HTB := Lib.hid HT.below
    clear HT
    go_wp2_with fail
    have hq1 : w.heap.size ≤ k1 := by have := HK.out; omega
    exact bodyPost_ret (v := .tuple #[txv 0 none 0 0, .bool false]) (by simp [results, Try.results50, go_sem, r0, r1]) rfl ⟨rfl, (HTB.out.setCell (p := ⟨k1, 0, none⟩) hq1 _).setCell (p := ⟨k1, 1, none⟩) hq1 _⟩

set_option maxRecDepth 100000 in
set_option maxHeartbeats 32000000 in
theorem mip_yes (L : Int) (A : Option Addr) (c : Nat) (ts : List Int) (k : Int) (w : World) (hR : Row I64 w w.heap.size A ts) (hl : ts.length ≤ 1048576) (hc : ts.length ≤ c) (hyes : okM L ts k = true) :
    Calls Try.prog 50 #[txv L A ts.length c, .int .i64 k] w (TxMade (L - k) (mipL L ts k.toNat) w) := by
  have hokX : okX L ts = true := by unfold okM at hyes; simp only [Bool.and_eq_true] at hyes; exact hyes.1
  have hin : inV 0 L k = true := by unfold okM at hyes; simp only [Bool.and_eq_true] at hyes; exact hyes.2
  have hok := okX_iff.1 hokX
  have hkb := (inV_iff ..).1 hin
  have HT : Held w ((w.alloc (.cells #[.int .i64 L, .slice A ts.length c] 25)).alloc (.cells #[.int .i64 0, .slice none 0 0] 25)) [(w.heap.size + 1, [.int .i64 0, .slice none 0 0]), (w.heap.size, [.int .i64 L, .slice A ts.length c])] := by
    have h := ((Held.nil w).new #[.int .i64 L, .slice A ts.length c] 25).new #[.int .i64 0, .slice none 0 0] 25
    simpa only [World.size_alloc] using h
  obtain ⟨W1, hW1⟩ : ∃ W, W = (w.alloc (.cells #[.int .i64 L, .slice A ts.length c] 25)).alloc (.cells #[.int .i64 0, .slice none 0 0] 25) := ⟨_, rfl⟩
  rw [← hW1] at HT
  have hsz : W1.heap.size = w.heap.size + 2 := by rw [hW1]; simp
  have HR1 := Lib.hid (hR.later HT.below)
  have HVC := Lib.hid (isValidT_any L A c ts W1 HR1.out hl)
  have HR0 := Lib.hid (fun W (h : Below w.heap.size w W) => hR.later h)
  clear hR
  rw [hokX] at HVC
  have HIN := Lib.hid (fun W => isWithinV k 0 L W)
  rw [hin] at HIN
  have HOK := Lib.hid (And.intro hok hkb)
  have HNT := Lib.hid (fun W => newTexture_any L W hok.1)
  unfold NewTx at HNT
  rw [← hok.2.1] at HNT
  have hpos : 0 < ts.length := by rw [hok.2.1]; exact Nat.mul_pos sd_pos sd_pos
  obtain ⟨n, hn⟩ : ∃ n, n = ts.length := ⟨_, rfl⟩
  rw [← hn] at HNT
  have HNN := Lib.hid (And.intro hn hpos)
  have HLB := Lib.hid (And.intro hl hc)
  clear hokX hyes hok hkb hin hn hpos hl hc
  go_enter Try.func50, Try.ntmps50
  go_upto_region 1 with fail
  rw [← hW1]
  generalize g1 : w.heap.size + 1 = k1 at HT ⊢
  have HK := Lib.hid (show w.heap.size < k1 ∧ k1 < W1.heap.size by omega)
  generalize g0 : w.heap.size = k0 at HT ⊢
  have HK0 := Lib.hid g0
  have m0 := (HT.box 1).c 0
  have m1 := (HT.box 1).c 1
  clear hW1 g0 g1 hsz
  have HTI := Lib.hid HT
  clear HT
  go_wp2_with fail
  refine HVC.out.mono ?_
  rintro e w2 ⟨rfl, hb2⟩
  have HT2 := Lib.hid (HTI.out.later hb2)
  have HR2 := Lib.hid (HR1.out.later hb2)
  have hsz2 := hb2.size
  clear hb2 m0 m1
  have m0 := (HT2.out.box 1).c 0
  have m1 := (HT2.out.box 1).c 1
  go_wp2_with fail
  refine (HIN.out _).mono ?_
  rintro e w3 ⟨rfl, rfl⟩
  go_wp2_with fail
  refine (HNT.out _).mono ?_
  rintro e w3 ⟨g, rfl, hgB, hG3, hb3⟩
  have HT := (HT2.out.later hb3).new #[.int .i64 L, .slice (some ⟨g, 0, none⟩) n n] 25
  have hgl := (Array.getElem?_eq_some_iff.1 hG3).1
  have hsz3 := hb3.size
  have HG := (Below.heap_alloc w3 (.cells #[.int .i64 L, .slice (some ⟨g, 0, none⟩) n n] 25) g hgl).trans hG3
  clear hb3 m0 m1 hG3
  go_upto_region 4 with fail
  obtain ⟨W4, hW4⟩ : ∃ W, W = w3.alloc (.cells #[.int .i64 L, .slice (some ⟨g, 0, none⟩) n n] 25) := ⟨_, rfl⟩
  obtain ⟨k2, hk2⟩ : ∃ k, k = w3.heap.size := ⟨_, rfl⟩
  rw [← hW4] at HT HG ⊢
  rw [← hk2] at HT hsz3 hgl ⊢
  have HORD := Lib.hid (show w.heap.size < k1 ∧ k1 < g ∧ g < k2 ∧ k0 = w.heap.size by have h1 := HK.out; have h2 := HK0.out; omega)
  clear hW4 hk2 hsz2 hsz3 hgl hgB
  have m1 := (HT.box 0).c 1
  have n1 := (HT.box 2).c 1
  have HRC := HR0.out _ HT.below
  go_wp2_with (refine wpList_copy_at (o := ⟨some 25, _, _, _, _, _⟩) rfl (.tmp 22) (.tmp 24) 23 23 rfl 3 Try.underlying23 infoI1 g 0 n n ts.length c A rfl rfl (madeL n []) 3 HG ts HRC HNN.out.2 (by rw [HNN.out.1]; exact (Nat.min_self _).symm) (by rw [madeL_len (by simp)]; have := HNN.out.1; omega) ?_)
  intro w5 hw5
  have hw5 := hw5.out
  have HT := HT.setRow (g := g) (by have := HORD.out; omega) (fun q hq => by (have h1 := HORD.out; simp only [List.mem_cons, List.not_mem_nil, or_false] at hq; rcases hq with rfl | rfl | rfl <;> (show _ ≠ _) <;> omega)) (splice (madeL n []) 0 (ts.map I64)).toArray
  have HG := setRow_heap _ g _ (splice (madeL n []) 0 (ts.map I64)).toArray _ _ HG
  rw [← hw5] at HT HG
  have hsp := madeL_splice (n := n) (xs := []) (ys := ts) (by have := HNN.out.1; simp; omega)
  rw [List.nil_append] at hsp
  rw [show splice (madeL n []) 0 (ts.map I64) = ts.map I64 by rw [HNN.out.1] at hsp ⊢; exact hsp.trans (madeL_full ts)] at HG
  obtain ⟨kn, hkn⟩ : ∃ n : Nat, k = (n : Int) := ⟨k.toNat, by have := HOK.out.2; omega⟩
  subst hkn
  have HOWN : Hid (w5.ownsRow g 3 1 (.slice (some ⟨g, 0, none⟩) ts.length ts.length) ts.length (ts.map I64)) := Lib.hid (full_own (Nat.le_refl _) HG (by simp) (by unfold maxLen; have := HLB.out; omega))
  rw [HNN.out.1] at HT
  have HINI := Lib.hid HT
  clear HT HG HRC m1 n1 hw5 hsp
  go_wp2_with fail
  go_loopw [27] (fun v wr => ∃ (j : Nat) (A6 : Option Addr) (c6 : Nat), j ≤ kn ∧ v = .int .i64 (j : Int) ∧ Held w wr [(k2, [.int .i64 (L - (j : Int)), .slice A6 (mipL L ts j).length c6]), (k1, [.int .i64 0, .slice none 0 0]), (k0, [.int .i64 L, .slice A ts.length c])] ∧ wr.ownsRow g 3 1 (.slice A6 (mipL L ts j).length c6) (mipL L ts j).length ((mipL L ts j).map I64)) (fun v _ => kn - (intOf v).toNat)
  case atStart => exact ⟨0, some ⟨g, 0, none⟩, ts.length, Nat.zero_le _, rfl, by simpa [mipL] using HINI.out, HOWN.out⟩
  case round =>
    clear HINI HOWN
    obtain ⟨j, A6, c6, hj, rfl, HT, hown⟩ := hrel
    have hokj := mip_ok j L ts HOK.out.1 (by have := HOK.out.2; omega)
    have hlj : (mipL L ts j).length ≤ 1048576 := by
      rw [hokj.2.1]
      have := sq_le hokj.1
      omega
    by_cases hlt : j < kn
    · have hSN := mip_snoc j L ts
      obtain ⟨M, hM⟩ : ∃ M, M = mipL L ts j := ⟨_, rfl⟩
      rw [← hM] at hSN hokj hlj hown HT
      have hRow := Row.of_own hown
      have hyes : okH (L - (j : Int)) M = true := by
        unfold okH
        rw [okX_iff.2 hokj, decide_eq_true (by have := HOK.out.2; omega)]
        rfl
      have HH := Lib.hid (half_yes (L - (j : Int)) A6 c6 M wr hRow hlj (own_capT hown) hyes)
      have n0 := (HT.box 0).c 0
      have n1 := (HT.box 0).c 1
      have HTI := Lib.hid HT
      have hlt' : (j : Int) < (kn : Int) := by omega
      have ewd : IntKind.i64.wrap ((j : Int) + 1) = ((j + 1 : Nat) : Int) := wrap_v (by have h1 := HOK.out.1.1; have h2 := HOK.out.2; omega)
      have HSN := Lib.hid hSN
      have hwz := (HT.box 0).lt
      have HWZ := Lib.hid (And.intro hwz hlt)
      clear hSN hM hokj hlj hown HT hRow hyes hwz hlt
      go_wp2_with fail
      refine HH.out.mono ?_
      rintro e w5 ⟨A7, c7, rfl, ho7, hb7⟩
      have HT := HTI.out.later hb7
      have n0 := (HT.box 0).c 0
      have n1 := (HT.box 0).c 1
      have f0 := (HT.box 0).f 0
      have f1 := (HT.box 0).f 1
      have HX := (HT.put (by have := HORD.out; omega) (fun p hp => by (have h1 := HORD.out; simp only [List.mem_cons, List.not_mem_nil, or_false] at hp; rcases hp with rfl | rfl <;> (show _ ≠ _) <;> omega)) 0 (.int .i64 (L - (j : Int) - 1))).put (by have := HORD.out; omega) (fun p hp => by (have h1 := HORD.out; simp only [List.mem_cons, List.not_mem_nil, or_false] at hp; rcases hp with rfl | rfl <;> (show _ ≠ _) <;> omega)) 1 (.slice A7 (halfL (L - (j : Int)) M).length c7)
      have hox := own_set2 ho7 HT (by intro e; have h1 := own_block ho7 _ e; have h2 := HWZ.out; omega) (.int .i64 (L - (j : Int) - 1)) (.slice A7 (halfL (L - (j : Int)) M).length c7)
      rw [← HSN.out] at HX hox ⊢
      have HEN := Lib.hid (And.intro HX (own_base hox (base' := g) (by have h1 := HWZ.out; have h2 := HORD.out; omega)))
      clear HT HX hox ho7 hb7
      go_wp2_with fail
      go_roundw
      case rel => exact ⟨j + 1, A7, c7, by have := HWZ.out; omega, by go_num, by rw [show L - ((j + 1 : Nat) : Int) = L - (j : Int) - 1 by omega]; exact HEN.out.1, HEN.out.2⟩
      case measure => simp [intOf]; have := HWZ.out; omega
    · obtain rfl : j = kn := by omega
      have m0 := (HT.box 0).c 0
      have m1 := (HT.box 0).c 1
      have r0 := (HT.box 1).c 0
      have r1 := (HT.box 1).c 1
      have o0 := (HT.box 1).f 0
      have o1 := (HT.box 1).f 1
      have HTB := Lib.hid HT.below
      have HOE := Lib.hid hown
      have hne : ¬ k1 = k2 := by have h1 := HORD.out; omega
      have hne2 : ¬ k2 = k1 := by have h1 := HORD.out; omega
      have hni : ¬ ((j : Nat) : Int) < ((j : Nat) : Int) := by omega
      have HLJ : Hid (L - (j : Int) = L - ((j : Nat) : Int) ∧ ((j : Int)).toNat = j) := Lib.hid ⟨rfl, by omega⟩
      obtain ⟨Lj, hLj⟩ : ∃ x, x = L - (j : Int) := ⟨_, rfl⟩
      obtain ⟨M, hM⟩ : ∃ M, M = mipL L ts j := ⟨_, rfl⟩
      rw [← hM] at HOE m1
      rw [← hLj] at m0
      have HMM := Lib.hid hM
      have HLL := Lib.hid hLj
      clear HT hown hokj hlj hM hLj hlt hj
      go_wp2_with fail
      have hq1 : w.heap.size ≤ k1 := by have := HORD.out; omega
      have ho1 := ownsRow_setCell_below (ownsRow_setCell_below HOE.out (a := ⟨k1, 0, none⟩) (by have := HORD.out; show k1 < g; omega) (.int .i64 Lj)) (a := ⟨k1, 1, none⟩) (by have := HORD.out; show k1 < g; omega) (.slice A6 M.length c6)
      exact bodyPost_ret (v := .tuple #[txv Lj A6 M.length c6, .bool true]) (by simp [results, Try.results50, go_sem, r0, r1]) rfl ⟨A6, c6, by first | rw [← HMM.out, ← HLL.out] | rw [HLJ.out.2, ← HMM.out, ← HLL.out], by first | (rw [← HMM.out]; exact own_base ho1 (by have := HORD.out; omega)) | exact own_base ho1 (by have := HORD.out; omega), (HTB.out.setCell (p := ⟨k1, 0, none⟩) hq1 _).setCell (p := ⟨k1, 1, none⟩) hq1 _⟩
end Go.Proofs.Ytaelhbbfddcabaa
