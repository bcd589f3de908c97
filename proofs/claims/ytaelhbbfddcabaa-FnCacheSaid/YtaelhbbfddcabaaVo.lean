/- Textures of the program: HalfTexture. -/
import Derived.Test.YtaelhbbfddcabaaProg
import Derived.Test.YtaelhbbfddcabaaInts
import Derived.Test.YtaelhbbfddcabaaVbox
import Derived.Test.YtaelhbbfddcabaaHeld
import Derived.Test.YtaelhbbfddcabaaMem
import Derived.Test.YtaelhbbfddcabaaFlat
import Derived.Test.YtaelhbbfddcabaaRowC
import Derived.Test.YtaelhbbfddcabaaKS
import Derived.Test.YtaelhbbfddcabaaStrS
import Derived.Test.YtaelhbbfddcabaaIntS
import Derived.Test.YtaelhbbfddcabaaSS
import Derived.Test.YtaelhbbfddcabaaVi
import Derived.Test.YtaelhbbfddcabaaVa
import Derived.Test.YtaelhbbfddcabaaVb
import Derived.Test.YtaelhbbfddcabaaVc
import Derived.Test.YtaelhbbfddcabaaVd
import Derived.Test.YtaelhbbfddcabaaVe
import Derived.Test.YtaelhbbfddcabaaVl
import Derived.Test.YtaelhbbfddcabaaVm
import Derived.Test.YtaelhbbfddcabaaVn
import Derived.WalkKit
import Derived.WalkSpells
import Derived.WalkLawsBesides
import Derived.Lib.Hide
import Derived.Deep.RegionHeld3
import Derived.Deep.QuietTactic
import Derived.BigQuiet
import Derived.Handy
import Derived.Deep.DeepCutAuto
import Derived.OwnWalk
import Derived.Laws.CopyOwn
import Derived.Deep.OwnRows
import Derived.Deep.RegionLaw
namespace Go.Proofs.Ytaelhbbfddcabaa
open Go.RowKit

theorem Held.setRow {w W : World} {bs : List (Nat × List Value)} {g : Nat} (h : Held w W bs) (hg : w.heap.size ≤ g) (hne : ∀ p ∈ bs, p.1 ≠ g) (cs : Array Value) : Held w (W.setRow g cs) bs :=
  ⟨below_setRow h.1 hg cs, fun i k vs e => (h.2 i k vs e).keep fun _ => setRow_other W g k cs (hne (k, vs) (List.mem_of_getElem? e))⟩
/-- one copy into a row that the call made, as a step of a region -/
theorem step_copy_at {P : Program} {ops : Array Oper} {o : Oper} {a : Act} {w : World} {K : Act → World → Prop} {Q : Exit → Act → World → Prop} {E : Prop} (hgd : o.guard = none) (d s : Operand) (dT sT : TypeId)
    (ho : o.op = .call { callee := .builtin .copy, args := #[d, s], argTypes := #[dT, sT] }) (elem : TypeId) (hu : P.underlying dT = some (.slice elem)) (hsz : (P.info? elem).map (·.size) = some 1)
    (g off dLen dCap sLen sCap : Nat) (A : Option Addr) (hd : a.eval d = .slice (some ⟨g, off, none⟩) dLen dCap) (hs : a.eval s = .slice A sLen sCap)
    (cur : List Value) (t : TypeId) (hg : w.heap[g]? = some (.cells cur.toArray t (0, 0))) (us : List Int) (hr : Row I64 w w.heap.size A us) (hpos : 0 < us.length) (hn : us.length = Nat.min sLen dLen)
    (hfit : off + us.length ≤ cur.length)
    (h : ∀ w', w' = w.setRow g (splice cur off (us.map I64)).toArray → K (a.put o.dst (goInt (us.map I64).length)) w') :
    if Region.wanted o (yielded ops a.tmps) = true then Oper.wp P o a w K Q else E := by
  rw [if_pos (by simp [Region.wanted, hgd])]
  obtain ⟨b, q, rfl, _, _⟩ := hr.at (k := 0) hpos
  have hrun := run_copy_row (P := P) w dT sT o.type elem g off dLen dCap ⟨b, q, none⟩ sLen sCap cur.toArray t (us.map I64) hu hsz hg (by simpa using hn) (fun j u hj => by
    rw [List.getElem?_map] at hj
    obtain ⟨y, hy, rfl⟩ := Option.map_eq_some_iff.1 hj
    obtain ⟨hj1, rfl⟩ := List.getElem?_eq_some_iff.1 hy
    obtain ⟨b', q', e, _, hc⟩ := hr.at hj1
    injection e with e
    injection e with e1 e2
    subst e1 e2
    have ea : (⟨b, q, none⟩ : Addr).add j = ⟨b, q + j, none⟩ := by unfold Addr.add; split <;> simp_all
    rw [ea]
    exact hc) (by simpa using hfit) (fun u hu => by obtain ⟨y, _, rfl⟩ := List.mem_map.1 hu; rfl)
  rw [List.append_assoc] at hrun
  unfold Oper.wp execOp
  simp only [ho, resolve, invoke, builtin, Sem.run_bind, Sem.run_pure, Result.andThen_ok, List.map_toArray, List.map_cons, List.map_nil, hd, hs, hrun]
  exact h _ rfl
theorem infoI1 : (Try.prog.info? 3).map (·.size) = some 1 := by kernel_rfl

set_option maxRecDepth 100000 in
set_option maxHeartbeats 8000000 in
theorem half_no (L : Int) (A : Option Addr) (c : Nat) (ts : List Int) (w : World) (hR : Row I64 w w.heap.size A ts) (hl : ts.length ≤ 1048576) (hno : okH L ts = false) :
    Calls Try.prog 83 #[txv L A ts.length c] w (TxNone w) := by
  have HT : Held w ((w.alloc (.cells #[.int .i64 L, .slice A ts.length c] 25)).alloc (.cells #[.int .i64 0, .slice none 0 0] 25)) [(w.heap.size + 1, [.int .i64 0, .slice none 0 0]), (w.heap.size, [.int .i64 L, .slice A ts.length c])] := by
    have h := ((Held.nil w).new #[.int .i64 L, .slice A ts.length c] 25).new #[.int .i64 0, .slice none 0 0] 25
    simpa only [World.size_alloc] using h
  obtain ⟨W1, hW1⟩ : ∃ W, W = (w.alloc (.cells #[.int .i64 L, .slice A ts.length c] 25)).alloc (.cells #[.int .i64 0, .slice none 0 0] 25) := ⟨_, rfl⟩
  rw [← hW1] at HT
  have hsz : W1.heap.size = w.heap.size + 2 := by rw [hW1]; simp
  have HR1 := Lib.hid (hR.later HT.below)
  have HVC := Lib.hid (isValidT_any L A c ts W1 HR1.out hl)
  have HR0 := Lib.hid (fun W (h : Below w.heap.size w W) => hR.later h)
  clear hR
  go_enter Try.func83, Try.ntmps83
  go_upto_region 1 with fail
  rw [← hW1]
  generalize g1 : w.heap.size + 1 = k1 at HT ⊢
  have HK := Lib.hid (show w.heap.size < k1 ∧ k1 < W1.heap.size by omega)
  generalize g0 : w.heap.size = k0 at HT ⊢
  have HK0 := Lib.hid g0
  have m0 := (HT.box 1).c 0
  have m1 := (HT.box 1).c 1
  clear hW1 g0 g1 hsz
  have HTI := Lib.hid HT
  clear HT
  go_wp2_with fail
  refine HVC.out.mono ?_
  rintro e w2 ⟨rfl, hb2⟩
  have HT2 := Lib.hid (HTI.out.later hb2)
  have HR2 := Lib.hid (HR1.out.later hb2)
  have hsz2 := hb2.size
  clear hb2 m0 m1
  cases hok : okX L ts with
  | false =>
    clear hok hno hsz2
    have HT := HT2.out
    have m0 := (HT.box 1).c 0
    have m1 := (HT.box 1).c 1
    have r0 := (HT.box 0).c 0
    have r1 := (HT.box 0).c 1
    have o0 := (HT.box 0).f 0
    have o1 := (HT.box 0).f 1
    have HTB := Lib.hid HT.below
    clear HT
    go_wp2_with fail
    have hq1 : w.heap.size ≤ k1 := by have := HK.out; omega
    exact bodyPost_ret (v := .tuple #[txv 0 none 0 0, .bool false]) (by simp [results, Try.results83, go_sem, r0, r1]) rfl ⟨rfl, (HTB.out.setCell (p := ⟨k1, 0, none⟩) hq1 _).setCell (p := ⟨k1, 1, none⟩) hq1 _⟩
  | true =>
    have h0 : L = 0 := by
      unfold okH at hno
      rw [hok] at hno
      have := okX_iff.1 hok
      have h1 := this.1
      simp at hno
      omega
    subst h0
    clear hok hno hsz2
    have HT := HT2.out
    have m0 := (HT.box 1).c 0
    have m1 := (HT.box 1).c 1
    have r0 := (HT.box 0).c 0
    have r1 := (HT.box 0).c 1
    have o0 := (HT.box 0).f 0
    have o1 := (HT.box 0).f 1
    have HTB := Lib.hid HT.below
    clear HT
    go_wp2_with fail
    have hq1 : w.heap.size ≤ k1 := by have := HK.out; omega
    exact bodyPost_ret (v := .tuple #[txv 0 none 0 0, .bool false]) (by simp [results, Try.results83, go_sem, r0, r1]) rfl ⟨rfl, (HTB.out.setCell (p := ⟨k1, 0, none⟩) hq1 _).setCell (p := ⟨k1, 1, none⟩) hq1 _⟩

set_option maxRecDepth 100000 in
set_option maxHeartbeats 32000000 in
theorem half_yes (L : Int) (A : Option Addr) (c : Nat) (ts : List Int) (w : World) (hR : Row I64 w w.heap.size A ts) (hl : ts.length ≤ 1048576) (hc : ts.length ≤ c) (hyes : okH L ts = true) :
    Calls Try.prog 83 #[txv L A ts.length c] w (TxMade (L - 1) (halfL L ts) w) := by
  have hokX : okX L ts = true := by unfold okH at hyes; simp only [Bool.and_eq_true] at hyes; exact hyes.1
  have h1 : 1 ≤ L := by unfold okH at hyes; simp only [Bool.and_eq_true, decide_eq_true_eq] at hyes; exact hyes.2
  have hok := okX_iff.1 hokX
  have hL := hok.1
  have hL1 : 0 ≤ L - 1 ∧ L - 1 ≤ 4 := by omega
  have hpos : 0 < ts.length := by rw [hok.2.1]; exact Nat.mul_pos sd_pos sd_pos
  obtain ⟨b, o, hA, hbl, hcz⟩ := hR.at hpos
  subst hA
  have HT : Held w ((w.alloc (.cells #[.int .i64 L, .slice (some ⟨b, o, none⟩) ts.length c] 25)).alloc (.cells #[.int .i64 0, .slice none 0 0] 25)) [(w.heap.size + 1, [.int .i64 0, .slice none 0 0]), (w.heap.size, [.int .i64 L, .slice (some ⟨b, o, none⟩) ts.length c])] := by
    have h := ((Held.nil w).new #[.int .i64 L, .slice (some ⟨b, o, none⟩) ts.length c] 25).new #[.int .i64 0, .slice none 0 0] 25
    simpa only [World.size_alloc] using h
  obtain ⟨W1, hW1⟩ : ∃ W, W = (w.alloc (.cells #[.int .i64 L, .slice (some ⟨b, o, none⟩) ts.length c] 25)).alloc (.cells #[.int .i64 0, .slice none 0 0] 25) := ⟨_, rfl⟩
  rw [← hW1] at HT
  have hsz : W1.heap.size = w.heap.size + 2 := by rw [hW1]; simp
  have HR1 := Lib.hid (hR.later HT.below)
  have HVC := Lib.hid (isValidT_any L (some ⟨b, o, none⟩) c ts W1 HR1.out hl)
  have HR0 := Lib.hid (fun W (h : Below w.heap.size w W) => hR.later h)
  clear hR
  rw [hokX] at HVC
  have HNT := Lib.hid (fun W => newTexture_any (L - 1) W hL1)
  have HSD := Lib.hid (fun g n c W => sideOf_any (L - 1) (some ⟨g, 0, none⟩) n c W hL1)
  have h2 := sd_half h1
  have HROW := Lib.hid (fun (r : Nat) (h : r < sd (L - 1)) => hf_row (L := L) (ts := ts) h1 h)
  have HRA0 := Lib.hid (fun (g r : Nat) (W : World) (h : r < sd (L - 1)) => rowOf_any (L - 1) g 0 _ _ r W hL1 rfl (Nat.le_refl _) h)
  have HRB0 := Lib.hid (fun (r : Nat) (W : World) (h : r < sd L) => rowOf_any L b o ts.length c r W hL hok.2.1 hc h)
  have HAV0 := Lib.hid (fun (q1 q2 : Nat) (h1 : q1 + sd L ≤ ts.length) (h2 : q2 + sd L ≤ ts.length) (W : World) (h : Below w.heap.size w W) =>
    averageRows_any (some ⟨b, o + q1, none⟩) (some ⟨b, o + q2, none⟩) (sd L) (sd L) (rowL ts q1 (sd L)) (rowL ts q2 (sd L)) (sd (L - 1)) W (Row.sub (HR0.out W h) h1) (Row.sub (HR0.out W h) h2) ((rowL_len h1).trans (sd_half ‹_›)) ((rowL_len h2).trans (sd_half ‹_›)) (by have := sd_le hL1; omega) (fun x hx => hok.2.2 x (rowL_mem hx)) (fun x hx => hok.2.2 x (rowL_mem hx)))
  have hlen := hok.2.1
  have hs16 := sd_le hL
  have hm0 := sd_pos (L := L - 1)
  unfold NewTx at HNT
  have HEND : Hid (halfL L ts = hfL L ts (sd (L - 1) * sd (L - 1))) := Lib.hid rfl
  obtain ⟨s, hs⟩ : ∃ s, s = sd L := ⟨_, rfl⟩
  rw [← hs] at h2 HRB0 HAV0 hlen hs16 HROW
  obtain ⟨m, hm⟩ : ∃ m, m = sd (L - 1) := ⟨_, rfl⟩
  rw [← hm] at h2 HROW HRA0 HAV0 HNT HSD HEND hm0
  rw [← h2] at HAV0
  obtain ⟨n, hn⟩ : ∃ n, n = m * m := ⟨_, rfl⟩
  rw [← hn] at HRA0 HNT HEND
  have HS := Lib.hid (And.intro h2 (And.intro hs16 (And.intro hm0 (And.intro hn hlen))))
  have ewL : IntKind.i64.wrap (L - 1) = L - 1 := wrap_v (by omega)
  have hL0 : (L == 0) = false := by rw [beq_eq_false_iff_ne]; omega
  clear hcz hokX hyes h1 hok hL hL1 hpos hbl h2 hlen hs16 hm0 hs hm hn hc
  go_enter Try.func83, Try.ntmps83
  go_upto_region 1 with fail
  rw [← hW1]
  generalize g1 : w.heap.size + 1 = k1 at HT ⊢
  have HK := Lib.hid (show w.heap.size < k1 ∧ k1 < W1.heap.size by omega)
  generalize g0 : w.heap.size = k0 at HT ⊢
  have HK0 := Lib.hid g0
  have m0 := (HT.box 1).c 0
  have m1 := (HT.box 1).c 1
  clear hW1 g0 g1 hsz
  have HTI := Lib.hid HT
  clear HT
  go_wp2_with fail
  refine HVC.out.mono ?_
  rintro e w2 ⟨rfl, hb2⟩
  have HT2 := Lib.hid (HTI.out.later hb2)
  have HR2 := Lib.hid (HR1.out.later hb2)
  have hsz2 := hb2.size
  clear hb2 m0 m1
  have m0 := (HT2.out.box 1).c 0
  go_wp2_with fail
  refine (HNT.out _).mono ?_
  rintro e w3 ⟨g, rfl, hgB, hG3, hb3⟩
  have HT := (HT2.out.later hb3).new #[.int .i64 (L - 1), .slice (some ⟨g, 0, none⟩) n n] 25
  have hgl := (Array.getElem?_eq_some_iff.1 hG3).1
  have hsz3 := hb3.size
  have HG := (Below.heap_alloc w3 (.cells #[.int .i64 (L - 1), .slice (some ⟨g, 0, none⟩) n n] 25) g hgl).trans hG3
  clear hb3 m0 hG3 hL0 ewL
  go_upto_region 4 with fail
  obtain ⟨W4, hW4⟩ : ∃ W, W = w3.alloc (.cells #[.int .i64 (L - 1), .slice (some ⟨g, 0, none⟩) n n] 25) := ⟨_, rfl⟩
  obtain ⟨k2, hk2⟩ : ∃ k, k = w3.heap.size := ⟨_, rfl⟩
  rw [← hW4] at HT HG ⊢
  rw [← hk2] at HT hsz3 hgl ⊢
  have HORD := Lib.hid (show w.heap.size < k1 ∧ k1 < g ∧ g < k2 ∧ k0 = w.heap.size by have h1 := HK.out; have h2 := HK0.out; omega)
  clear hW4 hk2 hsz2 hsz3 hgl hgB
  have m0 := (HT.box 0).c 0
  have m1 := (HT.box 0).c 1
  have HT4 := Lib.hid (And.intro HT HG)
  clear HT HG
  go_wp2_with fail
  refine (HSD.out g n n _).mono ?_
  rintro e w5 ⟨rfl, hb5⟩
  have HG := (hb5.block g (Array.getElem?_eq_some_iff.1 HT4.out.2).1).trans HT4.out.2
  have HT5 := Lib.hid (And.intro (HT4.out.1.later hb5) HG)
  clear m0 m1 hb5 HG HT4
  go_wp2_with fail
  go_loopw [21] (fun rv wr => ∃ r : Nat, r ≤ m ∧ rv = .int .i64 r ∧ Held w wr [(k2, [.int .i64 (L - 1), .slice (some ⟨g, 0, none⟩) n n]), (k1, [.int .i64 0, .slice none 0 0]), (k0, [.int .i64 L, .slice (some ⟨b, o, none⟩) ts.length c])] ∧ wr.heap[g]? = some (.cells (madeL n (hfL L ts (r * m))).toArray 3 (0, 0))) (fun rv _ => m - (intOf rv).toNat)
  case atStart => exact ⟨0, Nat.zero_le _, rfl, HT5.out.1, by rw [Nat.zero_mul]; exact HT5.out.2⟩
  case round =>
    clear HT5
    obtain ⟨r, hr, rfl, HT, HG⟩ := hrel
    by_cases hlt : r < m
    · have hlt' : (r : Int) < (m : Int) := by omega
      obtain ⟨y1, hy1⟩ : ∃ y, y = 2 * r := ⟨_, rfl⟩
      obtain ⟨y2, hy2⟩ : ∃ y, y = y1 + 1 := ⟨_, rfl⟩
      have e1 : IntKind.i64.wrap (2 * (r : Int)) = (y1 : Int) := by rw [hy1]; exact (wrap_v (by have := HS.out; omega)).trans (by omega)
      have e2 : IntKind.i64.wrap ((y1 : Int) + 1) = (y2 : Int) := by rw [hy2]; exact (wrap_v (by have := HS.out; omega)).trans (by omega)
      have e3 : IntKind.i64.wrap ((r : Int) + 1) = ((r + 1 : Nat) : Int) := wrap_v (by have := HS.out; omega)
      have hl1 : y1 < s := by have := HS.out; omega
      have hl2 : y2 < s := by have := HS.out; omega
      have hq1 : y1 * s + s ≤ ts.length := by rw [HS.out.2.2.2.2, ← Nat.succ_mul]; exact Nat.mul_le_mul_right s hl1
      have hq2 : y2 * s + s ≤ ts.length := by rw [HS.out.2.2.2.2, ← Nat.succ_mul]; exact Nat.mul_le_mul_right s hl2
      have hpm : r * m + m ≤ n := by rw [HS.out.2.2.2.1, ← Nat.succ_mul]; exact Nat.mul_le_mul_right m hlt
      have HR0x := Lib.hid (fun W => HRA0.out g r W hlt)
      have HR1x := Lib.hid (fun W => HRB0.out y1 W hl1)
      have HR2x := Lib.hid (fun W => HRB0.out y2 W hl2)
      have HAV := Lib.hid (HAV0.out (y1 * s) (y2 * s) hq1 hq2)
      have hrow := HROW.out r hlt
      rw [show 2 * r * s = y1 * s by rw [hy1], show (2 * r + 1) * s = y2 * s by rw [hy2, hy1]] at hrow
      rw [Nat.zero_add] at HR0x
      obtain ⟨AV, hAV⟩ : ∃ l, l = avgL (rowL ts (y1 * s) s) (rowL ts (y2 * s) s) m := ⟨_, rfl⟩
      have hal : AV.length = m := by rw [hAV, avgL_len]
      rw [← hAV] at HAV hrow
      obtain ⟨H, hH⟩ : ∃ l, l = hfL L ts (r * m) := ⟨_, rfl⟩
      have hHl : H.length = r * m := by rw [hH, hfL_len]
      rw [← hH] at hrow HG
      obtain ⟨p, hp⟩ : ∃ p, p = r * m := ⟨_, rfl⟩
      rw [← hp] at HR0x hHl hpm
      obtain ⟨q1, hq1'⟩ : ∃ q, q = y1 * s := ⟨_, rfl⟩
      obtain ⟨q2, hq2'⟩ : ∃ q, q = y2 * s := ⟨_, rfl⟩
      rw [← hq1'] at HR1x HAV
      rw [← hq2'] at HR2x HAV
      have hml : (madeL n H).length = n := madeL_len (by omega)
      have hspl : splice (madeL n H) p (AV.map I64) = madeL n (H ++ AV) := by rw [← hHl]; exact madeL_splice (by omega)
      have HNM := Lib.hid (And.intro hal (And.intro hml (And.intro HS.out.2.2.1 hpm)))
      have HSP := Lib.hid (And.intro hspl hrow)
      clear hy1 hy2 hl1 hl2 hq1 hq2 hq1' hq2' hpm hrow hAV hal hH hHl hp hml hspl HR0
      go_upto_region 7 with fail
      have HC : ∀ W', Held w W' [(k2, [.int .i64 (L - 1), .slice (some ⟨g, 0, none⟩) n n]), (k1, [.int .i64 0, .slice none 0 0]), (k0, [.int .i64 L, .slice (some ⟨b, o, none⟩) ts.length c])] → W'.cell? ⟨k2, 0, none⟩ = some (.int .i64 (L - 1)) ∧ W'.cell? ⟨k2, 1, none⟩ = some (.slice (some ⟨g, 0, none⟩) n n) ∧ W'.cell? ⟨k0, 0, none⟩ = some (.int .i64 L) ∧ W'.cell? ⟨k0, 1, none⟩ = some (.slice (some ⟨b, o, none⟩) ts.length c) := fun W' h => ⟨(h.box 0).c 0, (h.box 0).c 1, (h.box 2).c 0, (h.box 2).c 1⟩
      have HQ := HT
      clear HT
      have HQ := HQ.drew
      have HG : wr.drew.heap[g]? = some (.cells (madeL n H).toArray 3 (0, 0)) := HG
      refine wp_region_held_drew (S := fun W' => W'.cell? ⟨k2, 0, none⟩ = some (.int .i64 (L - 1)) ∧ W'.cell? ⟨k2, 1, none⟩ = some (.slice (some ⟨g, 0, none⟩) n n) ∧ W'.cell? ⟨k0, 0, none⟩ = some (.int .i64 L) ∧ W'.cell? ⟨k0, 1, none⟩ = some (.slice (some ⟨b, o, none⟩) ts.length c)) (by kernel_rfl) (HC _ HQ) (fun hHeld => ?_)
      obtain ⟨wd, hwd⟩ : ∃ x, x = wr.drew := ⟨_, rfl⟩
      rw [← hwd] at HQ HG hHeld ⊢
      clear hwd
      refine wpAnyH_take (i := 0) (oi := { dst := some 24, op := Op.load 25 (Operand.tmp 4), type := 25, pos := "l15_texture.go:55", after := #[], guard := none }) (v := ?_) rfl (by kernel_rfl) (by kernel_rfl) (by kernel_rfl) (fun _ _ _ h => h) (Or.inl ⟨by rfl, ?_⟩) (by assumption) ?_
      rotate_left 1
      · (intro w hSw; (try dsimp only at hSw); go_simp <;> with_reducible rfl)
      (try simp only [Act.put, List.setIfInBounds_toArray, List.set_cons_zero, List.set_cons_succ])
      refine wpAnyH_take (i := 1) (oi := { dst := some 25, op := Op.move (Operand.tmp 5), type := 3, pos := "l15_texture.go:55", after := #[], guard := none }) (v := ?_) rfl (by kernel_rfl) (by kernel_rfl) (by kernel_rfl) (fun _ _ _ h => h) (Or.inl ⟨by rfl, ?_⟩) (by assumption) ?_
      rotate_left 1
      · (intro w hSw; (try dsimp only at hSw); go_simp <;> with_reducible rfl)
      (try simp only [Act.put, List.setIfInBounds_toArray, List.set_cons_zero, List.set_cons_succ])
      refine wpAnyH_take (i := 3) (oi := { dst := some 27, op := Op.load 25 (Operand.tmp 1), type := 25, pos := "l15_texture.go:55", after := #[], guard := none }) (v := ?_) rfl (by kernel_rfl) (by kernel_rfl) (by kernel_rfl) (fun _ _ _ h => h) (Or.inl ⟨by rfl, ?_⟩) (by assumption) ?_
      rotate_left 1
      · (intro w hSw; (try dsimp only at hSw); go_simp <;> with_reducible rfl)
      (try simp only [Act.put, List.setIfInBounds_toArray, List.set_cons_zero, List.set_cons_succ])
      refine wpAnyH_take (i := 4) (oi := { dst := some 28, op := Op.move (Operand.tmp 5), type := 3, pos := "l15_texture.go:55", after := #[], guard := none }) (v := ?_) rfl (by kernel_rfl) (by kernel_rfl) (by kernel_rfl) (fun _ _ _ h => h) (Or.inl ⟨by rfl, ?_⟩) (by assumption) ?_
      rotate_left 1
      · (intro w hSw; (try dsimp only at hSw); go_simp <;> with_reducible rfl)
      (try simp only [Act.put, List.setIfInBounds_toArray, List.set_cons_zero, List.set_cons_succ])
      refine wpAnyH_take (i := 5) (oi := { dst := some 29, op := Op.binOp BinOp.mul 3 (Operand.const (Value.int IntKind.i64 2)) (Operand.tmp 28) 3, type := 3, pos := "l15_texture.go:55", after := #[{ on := 4, ground := Ground.data }], guard := none }) (v := ?_) rfl (by kernel_rfl) (by kernel_rfl) (by kernel_rfl) (fun _ _ _ h => h) (Or.inl ⟨by rfl, ?_⟩) (by assumption) ?_
      rotate_left 1
      · (intro w hSw; (try dsimp only at hSw); go_simp <;> with_reducible rfl)
      (try simp only [Act.put, List.setIfInBounds_toArray, List.set_cons_zero, List.set_cons_succ])
      refine wpAnyH_take (i := 7) (oi := { dst := some 31, op := Op.load 25 (Operand.tmp 1), type := 25, pos := "l15_texture.go:55", after := #[], guard := none }) (v := ?_) rfl (by kernel_rfl) (by kernel_rfl) (by kernel_rfl) (fun _ _ _ h => h) (Or.inl ⟨by rfl, ?_⟩) (by assumption) ?_
      rotate_left 1
      · (intro w hSw; (try dsimp only at hSw); go_simp <;> with_reducible rfl)
      (try simp only [Act.put, List.setIfInBounds_toArray, List.set_cons_zero, List.set_cons_succ])
      refine wpAnyH_take (i := 8) (oi := { dst := some 32, op := Op.move (Operand.tmp 5), type := 3, pos := "l15_texture.go:55", after := #[], guard := none }) (v := ?_) rfl (by kernel_rfl) (by kernel_rfl) (by kernel_rfl) (fun _ _ _ h => h) (Or.inl ⟨by rfl, ?_⟩) (by assumption) ?_
      rotate_left 1
      · (intro w hSw; (try dsimp only at hSw); go_simp <;> with_reducible rfl)
      (try simp only [Act.put, List.setIfInBounds_toArray, List.set_cons_zero, List.set_cons_succ])
      refine wpAnyH_take (i := 9) (oi := { dst := some 33, op := Op.binOp BinOp.mul 3 (Operand.const (Value.int IntKind.i64 2)) (Operand.tmp 32) 3, type := 3, pos := "l15_texture.go:55", after := #[{ on := 8, ground := Ground.data }], guard := none }) (v := ?_) rfl (by kernel_rfl) (by kernel_rfl) (by kernel_rfl) (fun _ _ _ h => h) (Or.inl ⟨by rfl, ?_⟩) (by assumption) ?_
      rotate_left 1
      · (intro w hSw; (try dsimp only at hSw); go_simp <;> with_reducible rfl)
      (try simp only [Act.put, List.setIfInBounds_toArray, List.set_cons_zero, List.set_cons_succ])
      refine wpAnyH_take (i := 10) (oi := { dst := some 34, op := Op.binOp BinOp.add 3 (Operand.tmp 33) (Operand.const (Value.int IntKind.i64 1)) 3, type := 3, pos := "l15_texture.go:55", after := #[{ on := 9, ground := Ground.data }], guard := none }) (v := ?_) rfl (by kernel_rfl) (by kernel_rfl) (by kernel_rfl) (fun _ _ _ h => h) (Or.inl ⟨by rfl, ?_⟩) (by assumption) ?_
      rotate_left 1
      · (intro w hSw; (try dsimp only at hSw); go_simp <;> with_reducible rfl)
      (try simp only [Act.put, List.setIfInBounds_toArray, List.set_cons_zero, List.set_cons_succ])
      refine wpAnyH_ready (rs := [2]) (by kernel_rfl) (by simp) ?_
      refine AllReadyH.cons (o := { dst := some 26, op := Op.call { callee := Callee.value (Operand.func 86), args := #[Operand.tmp 24, Operand.tmp 25], argTypes := #[25, 3] }, type := 23, pos := "l15_texture.go:55", after := #[{ on := 0, ground := Ground.data }, { on := 1, ground := Ground.data }], guard := none }) rfl (fun K hK => ?_) ?_
      · go_simp
        (with_reducible refine (HR0x.out _).mono ?_)
        rintro e w7 ⟨rfl, hb7⟩
        have HG := (hb7.block g (Array.getElem?_eq_some_iff.1 HG).1).trans HG
        have HQ := HQ.later hb7
        clear hb7
        (try go_wp2_with fail)
        refine hK.out _ _ (by (try dsimp only); (with_reducible exact HC _ HQ)) (fun hHeld => ?_)
        clear hK K
        (try simp only [Act.put, List.setIfInBounds_toArray, List.set_cons_zero, List.set_cons_succ])
        refine wpAnyH_ready (rs := [6]) (by kernel_rfl) (by simp) ?_
        refine AllReadyH.cons (o := { dst := some 30, op := Op.call { callee := Callee.value (Operand.func 86), args := #[Operand.tmp 27, Operand.tmp 29], argTypes := #[25, 3] }, type := 23, pos := "l15_texture.go:55", after := #[{ on := 3, ground := Ground.data }, { on := 5, ground := Ground.data }, { on := 2, ground := Ground.chain }], guard := none }) rfl (fun K hK => ?_) ?_
        · go_simp
          (with_reducible refine (HR1x.out _).mono ?_)
          rintro e w7 ⟨rfl, hb7⟩
          have HG := (hb7.block g (Array.getElem?_eq_some_iff.1 HG).1).trans HG
          have HQ := HQ.later hb7
          clear hb7
          (try go_wp2_with fail)
          refine hK.out _ _ (by (try dsimp only); (with_reducible exact HC _ HQ)) (fun hHeld => ?_)
          clear hK K
          (try simp only [Act.put, List.setIfInBounds_toArray, List.set_cons_zero, List.set_cons_succ])
          refine wpAnyH_ready (rs := [11]) (by kernel_rfl) (by simp) ?_
          refine AllReadyH.cons (o := { dst := some 35, op := Op.call { callee := Callee.value (Operand.func 86), args := #[Operand.tmp 31, Operand.tmp 34], argTypes := #[25, 3] }, type := 23, pos := "l15_texture.go:55", after := #[{ on := 7, ground := Ground.data }, { on := 10, ground := Ground.data }, { on := 6, ground := Ground.chain }], guard := none }) rfl (fun K hK => ?_) ?_
          · go_simp
            (with_reducible refine (HR2x.out _).mono ?_)
            rintro e w7 ⟨rfl, hb7⟩
            have HG := (hb7.block g (Array.getElem?_eq_some_iff.1 HG).1).trans HG
            have HQ := HQ.later hb7
            clear hb7
            (try go_wp2_with fail)
            refine hK.out _ _ (by (try dsimp only); (with_reducible exact HC _ HQ)) (fun hHeld => ?_)
            clear hK K
            (try simp only [Act.put, List.setIfInBounds_toArray, List.set_cons_zero, List.set_cons_succ])
            refine wpAnyH_ready (rs := [12]) (by kernel_rfl) (by simp) ?_
            refine AllReadyH.cons (o := { dst := some 36, op := Op.call { callee := Callee.value (Operand.func 95), args := #[Operand.tmp 30, Operand.tmp 35], argTypes := #[23, 23] }, type := 23, pos := "l15_texture.go:55", after := #[{ on := 6, ground := Ground.data }, { on := 11, ground := Ground.data }, { on := 11, ground := Ground.chain }], guard := none }) rfl (fun K hK => ?_) ?_
            · go_simp
              (with_reducible refine (HAV.out _ HQ.below).mono ?_)
              rintro e w7 ⟨A2, c2, rfl, ho7, hb7⟩
              have HG := (hb7.block g (Array.getElem?_eq_some_iff.1 HG).1).trans HG
              have HQ := HQ.later hb7
              have HRA := Row.of_own ho7
              clear hb7 ho7
              (try go_wp2_with fail)
              refine hK.out _ _ (by (try dsimp only); (with_reducible exact HC _ HQ)) (fun hHeld => ?_)
              clear hK K
              (try simp only [Act.put, List.setIfInBounds_toArray, List.set_cons_zero, List.set_cons_succ])
              refine wpAnyH_ready (rs := [13]) (by kernel_rfl) (by simp) ?_
              refine AllReadyH.cons (o := { dst := some 37, op := Op.call { callee := Callee.builtin Builtin.copy, args := #[Operand.tmp 26, Operand.tmp 36], argTypes := #[23, 23] }, type := 3, pos := "l15_texture.go:55", after := #[{ on := 2, ground := Ground.data }, { on := 12, ground := Ground.data }, { on := 12, ground := Ground.chain }], guard := none }) rfl (fun K hK => ?_) ?_
              · refine step_copy_at rfl (.tmp 26) (.tmp 36) 23 23 rfl 3 Try.underlying23 infoI1 g p m m m c2 A2 rfl rfl (madeL n H) 3 HG AV HRA (by have := HNM.out; omega) (by have := HNM.out; simp; omega) (by have := HNM.out; omega) ?_
                intro w8 hw8
                have HQ := HQ.setRow (g := g) (by have := HORD.out; omega) (fun q hq => by (have h1 := HORD.out; simp only [List.mem_cons, List.not_mem_nil, or_false] at hq; rcases hq with rfl | rfl | rfl <;> (show _ ≠ _) <;> omega)) (splice (madeL n H) p (AV.map I64)).toArray
                have HG := setRow_heap _ g _ (splice (madeL n H) p (AV.map I64)).toArray _ _ HG
                rw [← hw8] at HQ HG
                clear hw8 HRA
                refine hK.out _ _ (by (try dsimp only); (with_reducible exact HC _ HQ)) (fun hHeld => ?_)
                clear hK K
                (try simp only [Act.put, List.setIfInBounds_toArray, List.set_cons_zero, List.set_cons_succ])
                refine wpAnyH_done (by kernel_rfl) ?_ _
                clear hHeld
                rw [HSP.out.1, ← HSP.out.2] at HG
                have HEN := Lib.hid (And.intro HQ HG)
                clear HG HQ HC
                go_wp2_with fail
                go_roundw
                case rel => exact ⟨r + 1, by omega, by go_num, HEN.out.1, HEN.out.2⟩
                case measure => simp [intOf]; omega
              exact AllReadyH.nil
            exact AllReadyH.nil
          exact AllReadyH.nil
        exact AllReadyH.nil
      exact AllReadyH.nil
    · obtain rfl : r = m := by omega
      have hni : ¬ ((r : Nat) : Int) < ((r : Nat) : Int) := by omega
      rw [← HS.out.2.2.2.1, ← HEND.out] at HG
      have hlenH : (halfL L ts).length = n := by rw [HEND.out, hfL_len]
      have m0 := (HT.box 0).c 0
      have m1 := (HT.box 0).c 1
      have r0 := (HT.box 1).c 0
      have r1 := (HT.box 1).c 1
      have o0 := (HT.box 1).f 0
      have o1 := (HT.box 1).f 1
      have HTB := Lib.hid HT.below
      have HGE := Lib.hid (And.intro HG hlenH)
      have hne : ¬ k1 = k2 := by have := HORD.out; omega
      have hne2 : ¬ k2 = k1 := by have := HORD.out; omega
      clear HT HG hlenH
      go_wp2_with fail
      have hq1 : w.heap.size ≤ k1 := by have := HORD.out; omega
      have hgk : g ≠ k1 := by have := HORD.out; omega
      have hmx : n ≤ maxLen := by
        have h3 := HS.out
        have h5 : n ≤ 16 * 16 := by rw [h3.2.2.2.1]; exact Nat.mul_le_mul (by omega) (by omega)
        unfold maxLen
        omega
      exact bodyPost_ret (v := .tuple #[txv (L - 1) (some ⟨g, 0, none⟩) n n, .bool true]) (by simp [results, Try.results83, go_sem, r0, r1]) rfl ⟨some ⟨g, 0, none⟩, n, by rw [HGE.out.2], by rw [HGE.out.2]; exact full_own (by have := HORD.out; omega) ((heap_far hgk _).trans ((heap_far hgk _).trans (by rw [← madeL_full, HGE.out.2]; exact HGE.out.1))) (by simpa using HGE.out.2) hmx, (HTB.out.setCell (p := ⟨k1, 0, none⟩) hq1 _).setCell (p := ⟨k1, 1, none⟩) hq1 _⟩
end Go.Proofs.Ytaelhbbfddcabaa
