/- The laws' helpers on textures. -/
import Derived.Test.YtaelhbbfddcabaaProg
import Derived.Test.YtaelhbbfddcabaaInts
import Derived.Test.YtaelhbbfddcabaaVbox
import Derived.Test.YtaelhbbfddcabaaHeld
import Derived.Test.YtaelhbbfddcabaaMem
import Derived.Test.YtaelhbbfddcabaaFlat
import Derived.Test.YtaelhbbfddcabaaRowC
import Derived.Test.YtaelhbbfddcabaaKS
import Derived.Test.YtaelhbbfddcabaaStrS
import Derived.Test.YtaelhbbfddcabaaIntS
import Derived.Test.YtaelhbbfddcabaaSS
import Derived.Test.YtaelhbbfddcabaaVi
import Derived.Test.YtaelhbbfddcabaaVa
import Derived.WalkKit
import Derived.WalkSpells
import Derived.WalkLawsBesides
import Derived.Lib.Hide
import Derived.Deep.RegionHeld3
import Derived.Deep.QuietTactic
import Derived.BigQuiet
import Derived.Handy
import Derived.Deep.DeepCutAuto
import Derived.OwnWalk
namespace Go.Proofs.Ytaelhbbfddcabaa
open Go.RowKit

set_option maxHeartbeats 4000000 in
theorem szTex_any (L : Int) (A : Option Addr) (c : Nat) (ts : List Int) (K : Nat) (w : World) (hK : K ≤ 1099511627776) (hl : ts.length ≤ 9223372036854775807) :
    Calls Try.prog 25 #[txv L A ts.length c, .int .i64 K] w (SzOutP K ts.length w) := by
  have M := Mbox.new w #[.int .i64 L, .slice A ts.length c] 47
  have hB : Below w.heap.size w (w.alloc (.cells #[.int .i64 L, .slice A ts.length c] 47)) := by go_grown
  obtain ⟨W1, hW1⟩ : ∃ W, W = w.alloc (.cells #[.int .i64 L, .slice A ts.length c] 47) := ⟨_, rfl⟩
  rw [← hW1] at M hB
  have HB := Lib.hid hB
  have HS := Lib.hid (szIntP_any A c ts.length K W1 hK hl)
  have m1 := M.c 1
  clear M hB
  go_enter Try.func25, Try.ntmps25
  go_upto_region 1 with fail
  rw [← hW1]
  clear hW1
  go_wp2_with fail
  refine HS.out.mono ?_
  rintro e w2 ⟨hb2, hc⟩
  have HB2 := Lib.hid (HB.out.trans (hb2.mono HB.out.size))
  clear hb2 m1
  rcases hc with ⟨hfit, rfl⟩ | ⟨hfit, rfl⟩
  · obtain ⟨q, hq⟩ : ∃ q : Nat, q = K - ts.length := ⟨_, rfl⟩
    have hq0 : ¬ ((q : Nat) : Int) < 0 := by omega
    have HQ := Lib.hid hq
    rw [← hq]
    clear hq
    go_wp2_with fail
    go_ret
    exact ⟨HB2.out, .inl ⟨hfit, by rw [← HQ.out]; rfl⟩⟩
  · go_wp2_with fail
    go_ret
    exact ⟨HB2.out, .inr ⟨hfit, rfl⟩⟩

/-- a texture that the law copied: its texels lie in block g -/
def TexOwn (w : World) (g : Nat) (ts : List Int) : Prop := Mbox w g (ts.map I64) ∧ g < w.heap.size
theorem TexOwn.row {w : World} {g : Nat} {ts : List Int} (h : TexOwn w g ts) : Row I64 w w.heap.size (some ⟨g, 0, none⟩) ts := fun _ => ⟨g, 0, rfl, h.2, fun k hk => by
  rw [Nat.zero_add]
  exact h.1.c k (by rw [List.getElem?_map, List.getElem?_eq_getElem hk]; rfl)⟩
theorem TexOwn.later {w w' : World} {g : Nat} {ts : List Int} (h : TexOwn w g ts) (hb : Below w.heap.size w w') : TexOwn w' g ts := ⟨h.1.later hb, Nat.lt_of_lt_of_le h.2 hb.size⟩
set_option maxHeartbeats 4000000 in
theorem toTex_any (L : Int) (A : Option Addr) (c : Nat) (ts : List Int) (w : World) (hR : Row I64 w w.heap.size A ts) (hl : ts.length ≤ 17592186044416) :
    Calls Try.prog 27 #[txv L A ts.length c] w fun e w' => ∃ g, e = .returned (txv L (some ⟨g, 0, none⟩) ts.length ts.length) ∧ w.heap.size ≤ g ∧ TexOwn w' g ts ∧ Below w.heap.size w w' := by
  have HT : Held w (((w.alloc (.cells #[.int .i64 L, .slice A ts.length c] 47)).alloc (.cells #[.int .i64 0, .slice none 0 0] 25)).alloc (.cells #[.int .i64 L, .slice none 0 0] 25)) [(w.heap.size + 1 + 1, [.int .i64 L, .slice none 0 0]), (w.heap.size + 1, [.int .i64 0, .slice none 0 0]), (w.heap.size, [.int .i64 L, .slice A ts.length c])] := by
    have h := (((Held.nil w).new #[.int .i64 L, .slice A ts.length c] 47).new #[.int .i64 0, .slice none 0 0] 25).new #[.int .i64 L, .slice none 0 0] 25
    simpa only [World.size_alloc] using h
  obtain ⟨W1, hW1⟩ : ∃ W, W = ((w.alloc (.cells #[.int .i64 L, .slice A ts.length c] 47)).alloc (.cells #[.int .i64 0, .slice none 0 0] 25)).alloc (.cells #[.int .i64 L, .slice none 0 0] 25) := ⟨_, rfl⟩
  rw [← hW1] at HT
  have hsz : W1.heap.size = w.heap.size + 3 := by rw [hW1]; simp
  have HR1 := Lib.hid (hR.later HT.below)
  clear hR
  go_enter Try.func27, Try.ntmps27
  go_upto_region 3 with fail
  rw [← hW1]
  generalize g2 : w.heap.size + 1 + 1 = k2 at HT ⊢
  generalize g1 : w.heap.size + 1 = k1 at HT ⊢
  have HK := Lib.hid (show w.heap.size ≤ k1 ∧ k1 < k2 ∧ w.heap.size < k1 ∧ k2 < W1.heap.size by omega)
  generalize g0 : w.heap.size = k0 at HT ⊢
  have HK0 := Lib.hid g0
  have m1 := (HT.box 2).c 1
  clear hW1 g0 g1 g2 hsz
  have HTI := Lib.hid HT
  clear HT
  go_wp2_with fail
  refine (toIntP_own A c ts W1 HR1.out hl).mono ?_
  rintro e w2 ⟨rfl, hb2, hM, hlt⟩
  have HT := HTI.out.later hb2
  have HM := Lib.hid hM
  obtain ⟨g, hg⟩ : ∃ g, g = W1.heap.size := ⟨_, rfl⟩
  have HG := Lib.hid hg
  rw [← hg] at hM hlt ⊢
  have HMG : Hid (Mbox w2 g (ts.map I64)) := Lib.hid hM
  have m3 := (HT.box 0).c 1
  have f3 := (HT.box 0).f 1
  have HTJ := Lib.hid HT
  have HLT := Lib.hid hlt
  clear hb2 hM hlt hg m1 HT
  go_upto_region 4 with fail
  have HT := HTJ.out.put (by have := HK.out; omega) (fun p hp => by
    have h1 := HK.out
    have h2 := HK0.out
    simp only [List.mem_cons, List.not_mem_nil, or_false] at hp
    rcases hp with rfl | rfl <;> (show _ ≠ _) <;> omega) 1 (.slice (some ⟨g, 0, none⟩) ts.length ts.length)
  have hM3 := HMG.out.far (g := k2) (i := 1) (by have h1 := HG.out; have h2 := HK.out; omega) (.slice (some ⟨g, 0, none⟩) ts.length ts.length)
  obtain ⟨W3, hW3⟩ : ∃ W, W = w2.setCell ⟨k2, 1, none⟩ (.slice (some ⟨g, 0, none⟩) ts.length ts.length) := ⟨_, rfl⟩
  have hs3 : w2.heap.size = W3.heap.size := by rw [hW3]; simp
  rw [← hW3] at HT hM3 ⊢
  have HT : Held w W3 [(k2, [.int .i64 L, .slice (some ⟨g, 0, none⟩) ts.length ts.length]), (k1, [.int .i64 0, .slice none 0 0]), (k0, [.int .i64 L, .slice A ts.length c])] := HT
  have m2 := (HT.box 0).c 0
  have m3 := (HT.box 0).c 1
  have n0 := (HT.box 1).c 0
  have n1 := (HT.box 1).c 1
  have o0 := (HT.box 1).f 0
  have o1 := (HT.box 1).f 1
  have hne : ¬ k1 = k2 := by have := HK.out; omega
  have hne2 : ¬ k2 = k1 := by have := HK.out; omega
  have HTK := Lib.hid HT
  have HM3 := Lib.hid hM3
  have HS3 := Lib.hid hs3
  clear hW3 hM3 hs3 HT f3
  go_wp2_with fail
  have hq1 : w.heap.size ≤ k1 := by have := HK.out; omega
  have hg1 : g ≠ k1 := by have h1 := HG.out; have h2 := HK.out; omega
  exact bodyPost_ret (v := txv L (some ⟨g, 0, none⟩) ts.length ts.length) (by simp [results, Try.results27, go_sem, n0, n1]) rfl ⟨g, rfl, by have h1 := HG.out; have h2 := HK.out; omega, ⟨(HM3.out.far hg1 _).far hg1 _, by have h1 := HLT.out; have h2 := HS3.out; simp; omega⟩, (HTK.out.below.setCell (p := ⟨k1, 0, none⟩) hq1 _).setCell (p := ⟨k1, 1, none⟩) hq1 _⟩

set_option maxHeartbeats 4000000 in
theorem eqTex_same (L : Int) (A A' : Option Addr) (c c' : Nat) (ts : List Int) (w : World) (hR : Row I64 w w.heap.size A ts) (hR' : Row I64 w w.heap.size A' ts) (hl : ts.length ≤ 1152921504606846976) :
    Calls Try.prog 30 #[txv L A ts.length c, txv L A' ts.length c'] w fun e w' => e = .returned (.bool true) ∧ Below w.heap.size w w' := by
  have HT : Held w ((w.alloc (.cells #[.int .i64 L, .slice A ts.length c] 25)).alloc (.cells #[.int .i64 L, .slice A' ts.length c'] 25)) [(w.heap.size + 1, [.int .i64 L, .slice A' ts.length c']), (w.heap.size, [.int .i64 L, .slice A ts.length c])] := by
    have h := ((Held.nil w).new #[.int .i64 L, .slice A ts.length c] 25).new #[.int .i64 L, .slice A' ts.length c'] 25
    simpa only [World.size_alloc] using h
  have HE := Lib.hid (eqIntS_same A A' c c' ts _ (hR.later HT.below) (hR'.later HT.below) hl)
  have m0 := (HT.box 1).c 0
  have m1 := (HT.box 1).c 1
  have n0 := (HT.box 0).c 0
  have n1 := (HT.box 0).c 1
  have HTH := Lib.hid HT
  clear HT hR hR'
  go_enter Try.func30, Try.ntmps30
  go_wp2_with fail
  refine HE.out.mono ?_
  rintro e w2 ⟨rfl, hb2⟩
  have HB2 := Lib.hid (HTH.out.later hb2).below
  clear hb2 m0 m1 n0 n1
  go_wp2_with fail
  go_ret
  exact ⟨rfl, HB2.out⟩

set_option maxHeartbeats 4000000 in
theorem markTex_own (L : Int) (g c k : Nat) (ts : List Int) (w : World) (hM : TexOwn w g ts) (hk2 : k + ts.length ≤ 4611686018427387904) :
    Calls Try.prog 34 #[txv L (some ⟨g, 0, none⟩) ts.length c, .int .i64 k] w fun e w' => e = .returned (.int .i64 ((k + ts.length : Nat) : Int)) ∧ w.grownBy w' (some g) := by
  have M := Mbox.new w #[.int .i64 L, .slice (some ⟨g, 0, none⟩) ts.length c] 25
  have hB : Below w.heap.size w (w.alloc (.cells #[.int .i64 L, .slice (some ⟨g, 0, none⟩) ts.length c] 25)) := by go_grown
  obtain ⟨W1, hW1⟩ : ∃ W, W = w.alloc (.cells #[.int .i64 L, .slice (some ⟨g, 0, none⟩) ts.length c] 25) := ⟨_, rfl⟩
  have hM1 := hM.1.later hB
  rw [← hW1] at M hB hM1
  have HB := Lib.hid hB
  have HK := Lib.hid (markIntMP g c k ts W1 hM1 hk2)
  have m1 := M.c 1
  clear M hB hM1 hM
  go_enter Try.func34, Try.ntmps34
  go_upto_region 1 with fail
  rw [← hW1]
  clear hW1
  go_wp2_with fail
  refine HK.out.mono ?_
  rintro e w2 ⟨rfl, _, hg⟩
  have HG := Lib.hid (gb_trans (gb_of_below HB.out (row := some g)) hg)
  clear hg m1
  go_wp2_with fail
  go_ret
  exact ⟨rfl, HG.out⟩
set_option maxHeartbeats 4000000 in
theorem markTex_row (L : Int) (A : Option Addr) (c base k : Nat) (ts : List Int) (w : World) (ho : w.ownsRow base 3 1 (.slice A ts.length c) ts.length (ts.map I64)) (hbase : base ≤ w.heap.size) (hk2 : k + ts.length ≤ 4611686018427387904) :
    Calls Try.prog 34 #[txv L A ts.length c, .int .i64 k] w fun e w' => e = .returned (.int .i64 ((k + ts.length : Nat) : Int)) ∧ w'.ownsRow base 3 1 (.slice A ts.length c) ts.length ((cntQ k ts.length).map I64) ∧ Below base w w' := by
  have M := Mbox.new w #[.int .i64 L, .slice A ts.length c] 25
  have hB : Below w.heap.size w (w.alloc (.cells #[.int .i64 L, .slice A ts.length c] 25)) := by go_grown
  obtain ⟨W1, hW1⟩ : ∃ W, W = w.alloc (.cells #[.int .i64 L, .slice A ts.length c] 25) := ⟨_, rfl⟩
  have ho1 := own_keep' ho hB
  rw [← hW1] at M hB ho1
  have HB := Lib.hid (hB.mono hbase)
  have HK := Lib.hid (markIntOP A c base k ts W1 ho1 hk2)
  have m1 := M.c 1
  clear M hB ho1 ho
  go_enter Try.func34, Try.ntmps34
  go_upto_region 1 with fail
  rw [← hW1]
  clear hW1
  go_wp2_with fail
  refine HK.out.mono ?_
  rintro e w2 ⟨rfl, ho2, hb2⟩
  have HB2 := Lib.hid (HB.out.trans hb2)
  have HO2 := Lib.hid ho2
  clear hb2 ho2 m1
  go_wp2_with fail
  go_ret
  exact ⟨rfl, HO2.out, HB2.out⟩

end Go.Proofs.Ytaelhbbfddcabaa
