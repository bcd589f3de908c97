/- Drawn programs: parsed and checked. -/
import Derived.Test.YtlcnjiephbhdaaaProg
import Derived.Test.YtlcnjiephbhdaaaC0
import Derived.Test.YtlcnjiephbhdaaaC1
import Derived.Test.YtlcnjiephbhdaaaC2
import Derived.Test.YtlcnjiephbhdaaaC3
import Derived.Test.YtlcnjiephbhdaaaC4
import Derived.Test.YtlcnjiephbhdaaaC7
import Derived.Test.YtlcnjiephbhdaaaC8
import Derived.Test.YtlcnjiephbhdaaaC9
import Derived.Test.YtlcnjiephbhdaaaCz
import Derived.Test.YtlcnjiephbhdaaaCA
import Derived.Test.YtlcnjiephbhdaaaYa
import Derived.Test.YtlcnjiephbhdaaaYb
import Derived.WalkKit
import Derived.WalkSpells
import Derived.WalkLawsBesides
import Derived.Lib.Hide
import Derived.Deep.RegionHeld3
import Derived.Deep.QuietTactic
import Derived.BigQuiet
import Derived.Handy
import Derived.Deep.DeepCutAuto
namespace Go.Proofs.Ytlcnjiephbhdaaa
open Go.RowKit

theorem par_prog (s : ByteArray) : ∃ (ns : List Nd) (ys : List As) (o : Int), Nm2 ns ∧ As2 ys ∧ ns.length ≤ 60 ∧ ys.length ≤ 1048576 ∧ ∀ w e w', ParsePost s w e w' → ParOut ns ys o w e w' := by
  cases hR : parseR s with
  | bad o =>
    refine ⟨[], [], o, (fun n hn => by cases hn), (fun n hn => by cases hn), by simp, by simp, fun w e w' hp => ?_⟩
    unfold ParsePost at hp
    rw [hR] at hp
    obtain ⟨rfl, hb⟩ := hp
    exact ⟨none, 0, [], none, 0, rfl, rfl, ⟨⟨World.ownsRow_nil _ _ _ _, (fun i hi => by simp at hi), (fun i j hi => by simp at hi)⟩, World.ownsRow_nil _ _ _ _, (fun k h => by cases h), (fun i hi => by simp at hi)⟩, hb⟩
  | done ns ys =>
    have hnm := parse_names s hR
    by_cases hB : ns.length ≤ 60 ∧ ys.length ≤ 1048576
    · refine ⟨ns, ys, -1, hnm.1, hnm.2, hB.1, hB.2, fun w e w' h => ?_⟩
      unfold ParsePost at h
      rw [hR] at h
      obtain ⟨hb, base, NA, nc, ps, BA, bc, h1, h2, h3, h4, _, _⟩ := h
      exact ⟨NA, nc, ps, BA, bc, h2, h3, progG_base h4 h1, hb⟩
    · refine ⟨[], [], 0, (fun n hn => by cases hn), (fun n hn => by cases hn), by simp, by simp, fun w e w' h => ?_⟩
      unfold ParsePost at h
      rw [hR] at h
      obtain ⟨hb, base, NA, nc, ps, BA, bc, h1, h2, h3, h4, h5, h6⟩ := h
      exact absurd ⟨by rw [← h2, List.length_map]; exact h5, h6⟩ hB
theorem par_fb {w : World} {e : Ending} {w' : World} (h : ParsePost fbS w e w') : ParOut fbN fbY (-1) w e w' := by
  unfold ParsePost at h
  rw [fb_parse] at h
  obtain ⟨hb, base, NA, nc, ps, BA, bc, h1, h2, h3, h4, _, _⟩ := h
  exact ⟨NA, nc, ps, BA, bc, h2, h3, progG_base h4 h1, hb⟩
theorem gb_farS {a b : World} {row : Option Nat} {k i : Nat} (h : a.grownBy b row) (hk : a.heap.size ≤ k) (v : Value) : a.grownBy (b.setCell ⟨k, i, none⟩ v) row :=
  ⟨h.os, h.tape, h.output, by simpa using h.size, fun j hj hr => (Below.heap_setCell b _ v j (fun e => by simp at e; omega)).trans (h.block j hj hr)⟩
theorem Held.growS {w W W' : World} {g : Nat} {bs : List (Nat × List Value)} (h : Held w W bs) (hg : W.grownBy W' (some g)) (hk : w.heap.size ≤ g) (hne : ∀ p ∈ bs, p.1 ≠ g) : Held w W' bs :=
  ⟨h.1.grown hg h.1.size (fun k e => by injection e with e; omega), fun i k vs e => (h.2 i k vs e).grownS hg (hne (k, vs) (List.mem_of_getElem? e))⟩
theorem argsL_three {ns : List Nd} (h : Nm2 ns) (hl : ns.length ≤ 60) : (argsL ns).length ≤ 180 := by
  have : ∀ (l : List Nd), (∀ n ∈ l, n.2.2.2.length ≤ 3) → (argsL l).length ≤ 3 * l.length := by
    intro l
    induction l with
    | nil => intro _; simp [argsL]
    | cons n l ih =>
      intro h
      have h1 := h n (by simp)
      have h2 := ih (fun m hm => h m (by simp [hm]))
      unfold argsL at h2 ⊢
      simp only [List.flatMap_cons, List.length_append, List.length_cons]
      omega
  have := this ns (fun n hn => (h n hn).2)
  omega
/-- what is known of a drawn program -/
structure OkP (ns : List Nd) (ys : List As) : Prop where
  chk : chkP ns ys = (0, 0)
  nm : Nm2 ns
  asn : As2 ys
  len : ns.length ≤ 60
  len2 : ys.length ≤ 1048576
theorem fb_good : OkP fbN fbY := ⟨fb_chk, (fun n hn => by
  obtain rfl := List.mem_singleton.1 hn
  exact ⟨by decide, by decide⟩), (fun y hy => by
  obtain rfl := List.mem_singleton.1 hy
  show (5 : Nat) ≤ 2000
  decide), by decide, by decide⟩
/-- what a call that draws a program leaves -/
def GoodD (B g : Nat) (w : World) (e : Ending) (w' : World) : Prop :=
  ∃ (ps : List PN) (ys : List As) (A : Option Addr) (c : Nat) (A' : Option Addr) (c' : Nat), e = .returned (pgv A A' ps.length c ys.length c') ∧ ProgG (QO w.heap.size) w' w.heap.size A c A' c' ps ys ∧ OkP (ps.map Prod.snd) ys ∧ Cur w' B g ∧ w.grownBy w' (some g)
/-- what a call that makes a program leaves -/
def GoodP (w : World) (e : Ending) (w' : World) : Prop :=
  ∃ (ns : List Nd) (ys : List As) (A : Option Addr) (c : Nat) (A' : Option Addr) (c' : Nat), e = .returned (pgv A A' ns.length c ys.length c') ∧ ProgIn w' w'.heap.size A A' ns ys ∧ OkP ns ys ∧ Below w.heap.size w w'
/-- under way: the cursor, the result's block r -/
structure GdI (B g : Nat) (w : World) (r : Nat) (W : World) : Prop where
  cur : Cur W B g
  gb : w.grownBy W (some g)
  box : Mbox W r [.slice none 0 0, .slice none 0 0]
  lt : r < W.heap.size
theorem GdI.grow {B g r : Nat} {w W W' : World} (h : GdI B g w r W) (hr : r ≠ g) (hC : Cur W' B g) (hg : W.grownBy W' (some g)) : GdI B g w r W' :=
  ⟨hC, gb_trans h.gb hg, h.box.grownS hg hr, Nat.lt_of_lt_of_le h.lt hg.size⟩
theorem GdI.later {B g r : Nat} {w W W' : World} (h : GdI B g w r W) (hb : Below W.heap.size W W') : GdI B g w r W' :=
  ⟨h.cur.keep (gb_of_below hb (row := none)) (fun r h => by cases h) (by simp), gb_trans h.gb (gb_of_below hb), h.box.later hb, Nat.lt_of_lt_of_le h.lt hb.size⟩

/-- behind the two stores into the result's block -/
theorem good_end {B g r b1 : Nat} {w w2 W : World} {NA BA : Option Addr} {nc bc : Nat} {ps : List PN} {ys : List As} {x y : Value} (hI : GdI B g w r W) (hr : r ≠ g ∧ r = w.heap.size) (hB : B ≤ w.heap.size) (hG : ProgG (QO b1) w2 b1 NA nc BA bc ps ys) (hrb : r < b1) (hb : Below w2.heap.size w2 W) (hok : OkP (ps.map Prod.snd) ys) :
    GoodD B g w (.returned (pgv NA BA ps.length nc ys.length bc)) ((W.setCell ⟨r, 0, none⟩ x).setCell ⟨r, 1, none⟩ y) := by
  have h1 := progG_keep hG (w' := (W.setCell ⟨r, 0, none⟩ x).setCell ⟨r, 1, none⟩ y) (fun b h1 h2 => ((Below.heap_setCell _ _ _ b (show b ≠ r by omega)).trans (Below.heap_setCell _ _ _ b (show b ≠ r by omega))).trans (hb.block b h2))
  refine ⟨ps, ys, NA, nc, BA, bc, rfl, progG_base h1 (by omega), hok, ?_, gb_farS (gb_farS hI.gb (by omega) _) (by omega) _⟩
  exact hI.cur.keep (row := some r) (gb_set (gb_set (gb_refl _ _) _) _) (fun k e => by injection e with e; omega) (fun e => by injection e with e; exact hr.1 e)

set_option maxRecDepth 100000 in
set_option maxHeartbeats 8000000 in
theorem l14Good_any (B g : Nat) (w : World) (hC : Cur w B g) (hB : B ≤ w.heap.size) :
    Calls Try.prog 10 #[.pointer (some ⟨g, 0, none⟩)] w (GoodD B g w) := by
  have hgw := hC.lt
  have HI : GdI B g w w.heap.size (w.alloc (.cells #[.slice none 0 0, .slice none 0 0] 26)) := ⟨hC.allocS _, gb_allocS _ _ _, Mbox.new w _ _, by simp⟩
  obtain ⟨W1, hW1⟩ : ∃ W, W = w.alloc (.cells #[.slice none 0 0, .slice none 0 0] 26) := ⟨_, rfl⟩
  rw [← hW1] at HI
  obtain ⟨r, hr⟩ : ∃ r, r = w.heap.size := ⟨_, rfl⟩
  rw [← hr] at HI
  have HRG : Hid (r ≠ g ∧ r = w.heap.size) := Lib.hid ⟨by omega, hr⟩
  have HI1 := Lib.hid HI
  clear HI hC hgw
  go_enter Try.func10, Try.ntmps10
  go_upto_region 1 with fail
  rw [← hW1, ← hr]
  clear hW1 hr
  go_wp2_with fail
  go_loopw [3] (fun iv wr => ∃ k : Nat, k ≤ 20 ∧ iv = .int .i64 k ∧ GdI B g w r wr) (fun iv _ => 20 - (intOf iv).toNat)
  case atStart => exact ⟨0, Nat.zero_le _, rfl, HI1.out⟩
  case round =>
    obtain ⟨k, hk, rfl, hI⟩ := hrel
    have HI0 := Lib.hid hI
    clear hI
    by_cases hlt : (k : Int) < 20
    · go_wp2_with fail
      refine (srcS_any B g wr HI0.out.cur).mono ?_
      rintro e w1 ⟨s, rfl, hs, hC1, hg1⟩
      have HI1 := Lib.hid (HI0.out.grow HRG.out.1 hC1 hg1)
      obtain ⟨ns, ys, o, hn, hy, hl, hl2, hp⟩ := par_prog s
      have HP := Lib.hid ((sParse_any s w1).mono (fun e w' h => hp w1 e w' h))
      clear hC1 hg1 hs hp HI0
      go_wp2_with fail
      refine HP.out.mono ?_
      rintro e w2 ⟨NA, nc, ps, BA, bc, hps, rfl, hG, hb2⟩
      subst hps
      have HI2 := Lib.hid (HI1.out.later hb2)
      have hlen : (ps.map Prod.snd).length = ps.length := List.length_map ..
      have hb3 : Below w2.heap.size w2 (w2.alloc (.cells #[.slice NA ps.length nc, .slice BA ys.length bc] 26)) := by go_grown
      have MP := Mbox.new w2 #[.slice NA ps.length nc, .slice BA ys.length bc] 26
      have hG3 := progG_keep hG (w' := w2.alloc (.cells #[.slice NA ps.length nc, .slice BA ys.length bc] 26)) (fun b _ h => hb3.block b h)
      have hR3 := hG3.read
      have HI3 := Lib.hid (HI2.out.later hb3)
      have hck := sCheck_any NA BA nc bc (ps.map Prod.snd) ys (w2.alloc (.cells #[.slice NA ps.length nc, .slice BA ys.length bc] 26)) hR3 (by omega) hl2 (by have := argsL_three hn hl; omega) (fun x hx => by have := hn x hx; omega) (fun y hyy => by have := hy y hyy; omega)
      rw [hlen] at hck
      have HB1 := hb2.mono (B := w1.heap.size) (Nat.le_refl _)
      obtain ⟨W3, hW3⟩ : ∃ W, W = w2.alloc (.cells #[.slice NA ps.length nc, .slice BA ys.length bc] 26) := ⟨_, rfl⟩
      obtain ⟨kp, hkp⟩ : ∃ kp, kp = w2.heap.size := ⟨_, rfl⟩
      rw [← hW3] at MP HI3 hck hb3 hR3
      rw [← hkp] at MP
      have HCK := Lib.hid hck
      have HG := Lib.hid hG
      have HR3 := Lib.hid hR3
      have HB3 := Lib.hid hb3
      have HMP := Lib.hid MP
      have HORD := Lib.hid (show r < w1.heap.size ∧ kp = w2.heap.size ∧ w1.heap.size ≤ w2.heap.size from ⟨HI1.out.lt, hkp, hb2.size⟩)
      have HOK := Lib.hid (And.intro hn (And.intro hy (And.intro (show (ps.map Prod.snd).length ≤ 60 from hl) hl2)))
      clear hG hG3 hR3 hck hb2 hb3 MP HP hn hy hl hl2 hlen HI1 HI2 HB1
      go_upto_region 5 with fail
      rw [← hW3, ← hkp]
      clear hW3 hkp
      have m0 := HMP.out.c 0
      have m1 := HMP.out.c 1
      go_wp2_with fail
      refine HCK.out.mono ?_
      rintro e w4 ⟨rfl, hb4⟩
      have HI4 := Lib.hid (HI3.out.later hb4)
      have HB34 := Lib.hid (HB3.out.trans (hb4.mono HB3.out.size))
      have MP4 := Lib.hid (HMP.out.later hb4)
      obtain ⟨z, hz⟩ : ∃ z, z = (chkP (ps.map Prod.snd) ys).1 := ⟨_, rfl⟩
      obtain ⟨z2, hz2⟩ : ∃ z, z = (chkP (ps.map Prod.snd) ys).2 := ⟨_, rfl⟩
      rw [← hz, ← hz2]
      have HZ := Lib.hid hz
      clear hb4 hz hz2 m0 m1 HMP HI3 HCK
      have m0 := MP4.out.c 0
      have m1 := MP4.out.c 1
      by_cases hz0 : z = 0
      · have r0 := HI4.out.box.c 0
        have r1 := HI4.out.box.c 1
        have q0 := HI4.out.box.f 0
        have q1 := HI4.out.box.f 1
        go_wp2_with fail
        have hE := good_end (x := .slice NA ps.length nc) (y := .slice BA ys.length bc) HI4.out HRG.out hB HG.out (by have := HORD.out; omega) (by exact HB34.out) ⟨chk_zero (by rw [← HZ.out]; exact hz0), HOK.out.1, HOK.out.2.1, HOK.out.2.2.1, HOK.out.2.2.2⟩
        exact bodyPost_ret (v := pgv NA BA ps.length nc ys.length bc) (by simp [results, Try.results10, go_sem, r0, r1]) rfl hE
      · go_wp2_with fail
        go_round
        case rel => exact ⟨k + 1, by omega, by go_num, HI4.out⟩
        case measure => simp [intOf]; omega
    · have hk20 : k = 20 := by omega
      subst hk20
      have HP := Lib.hid ((sParse_any fbS wr).mono (fun e w' h => par_fb h))
      go_wp2_with fail
      refine HP.out.mono ?_
      rintro e w2 ⟨NA, nc, ps, BA, bc, hps, rfl, hG, hb2⟩
      have HI2 := Lib.hid (HI0.out.later hb2)
      have hb3 : Below w2.heap.size w2 (w2.alloc (.cells #[.slice NA ps.length nc, .slice BA fbY.length bc] 26)) := by go_grown
      have MP := Mbox.new w2 #[.slice NA ps.length nc, .slice BA fbY.length bc] 26
      have HI3 := Lib.hid (HI2.out.later hb3)
      obtain ⟨W3, hW3⟩ : ∃ W, W = w2.alloc (.cells #[.slice NA ps.length nc, .slice BA fbY.length bc] 26) := ⟨_, rfl⟩
      obtain ⟨kp, hkp⟩ : ∃ kp, kp = w2.heap.size := ⟨_, rfl⟩
      rw [← hW3] at MP HI3 hb3
      rw [← hkp] at MP
      have HG := Lib.hid hG
      have HB34 := Lib.hid hb3
      have HORD := Lib.hid (show r < wr.heap.size ∧ kp = w2.heap.size from ⟨HI0.out.lt, hkp⟩)
      have HPS := Lib.hid hps
      have m0 := MP.c 0
      have m1 := MP.c 1
      have r0 := HI3.out.box.c 0
      have r1 := HI3.out.box.c 1
      have q0 := HI3.out.box.f 0
      have q1 := HI3.out.box.f 1
      clear hG hb2 hb3 MP HI0 HI2 HP hps
      go_upto_region 9 with fail
      rw [← hW3, ← hkp]
      clear hW3 hkp
      go_wp2_with fail
      have hE := good_end (x := .slice NA ps.length nc) (y := .slice BA fbY.length bc) HI3.out HRG.out hB HG.out (by have := HORD.out; omega) (by exact HB34.out) (by rw [HPS.out]; exact fb_good)
      exact bodyPost_ret (v := pgv NA BA ps.length nc fbY.length bc) (by simp [results, Try.results10, go_sem, r0, r1]) rfl hE

set_option maxRecDepth 100000 in
set_option maxHeartbeats 8000000 in
theorem makeProg_any (A : Option Addr) (c : Nat) (bs : List Int) (w : World) (hR : Row U8 w w.heap.size A bs) (h8 : ∀ x ∈ bs, 0 ≤ x ∧ x ≤ 255) (hl : bs.length ≤ 1048576) :
    Calls Try.prog 4 #[.slice A bs.length c] w (GoodP w) := by
  have HT : Held w (w.alloc (.cells #[.slice none 0 0, .slice none 0 0] 26)) [(w.heap.size, [.slice none 0 0, .slice none 0 0])] := by
    have h := (Held.nil w).new #[.slice none 0 0, .slice none 0 0] 26
    simpa only [World.size_alloc] using h
  have hR1 := hR.later HT.below
  obtain ⟨W1, hW1⟩ : ∃ W, W = w.alloc (.cells #[.slice none 0 0, .slice none 0 0] 26) := ⟨_, rfl⟩
  have hlt : w.heap.size < W1.heap.size := by rw [hW1]; simp
  rw [← hW1] at HT hR1
  have HNC := Lib.hid (new_any A c bs W1 hR1 h8 hl)
  clear hR hR1 h8 hl
  go_enter Try.func4, Try.ntmps4
  go_upto_region 1 with fail
  rw [← hW1]
  clear hW1
  go_wp2_with fail
  refine HNC.out.mono ?_
  rintro e w2 ⟨g, rfl, hc, hb2⟩
  have hge := hc.ge
  have HD := Lib.hid (l14Good_any W1.heap.size g w2 hc hb2.size)
  have HT := HT.later hb2
  obtain ⟨r, hr⟩ : ∃ k, k = w.heap.size := ⟨_, rfl⟩
  rw [← hr] at HT ⊢
  have HKR := Lib.hid (show r = w.heap.size ∧ r < g ∧ r < w2.heap.size by have := hb2.size; omega)
  clear hb2 hc hge hlt hr
  go_wp2_with fail
  refine HD.out.mono ?_
  rintro e w3 ⟨ps, ys, NA, nc, BA, bc, rfl, hG, hok, hc3, hg3⟩
  have HT := HT.growS hg3 (by have := HKR.out; omega) (by have := HKR.out; simp; omega)
  have HG := Lib.hid hG
  have HOK := Lib.hid hok
  have r0 := (HT.box 0).c 0
  have r1 := (HT.box 0).c 1
  have q0 := (HT.box 0).f 0
  have q1 := (HT.box 0).f 1
  have HTB := Lib.hid HT.below
  clear hG hok hc3 hg3 HT
  go_wp2_with fail
  have hq : w.heap.size ≤ r := by have := HKR.out; omega
  have h1 := progG_keep HG.out (w' := (w3.setCell ⟨r, 0, none⟩ (.slice NA ps.length nc)).setCell ⟨r, 1, none⟩ (.slice BA ys.length bc)) (fun b h1 h2 => (Below.heap_setCell _ _ _ b (show b ≠ r by have := HKR.out; omega)).trans (Below.heap_setCell _ _ _ b (show b ≠ r by have := HKR.out; omega)))
  exact bodyPost_ret (v := pgv NA BA ps.length nc ys.length bc) (by simp [results, Try.results4, go_sem, r0, r1]) rfl ⟨ps.map Prod.snd, ys, NA, nc, BA, bc, by rw [List.length_map], h1.read, HOK.out, (HTB.out.setCell (p := ⟨r, 0, none⟩) hq _).setCell (p := ⟨r, 1, none⟩) hq _⟩
end Go.Proofs.Ytlcnjiephbhdaaa
