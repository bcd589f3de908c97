/- Textures of the model: MipLevel. -/
import Derived.Test.YtaelhbbfddcabaaProg
import Derived.Test.YtaelhbbfddcabaaInts
import Derived.Test.YtaelhbbfddcabaaVbox
import Derived.Test.YtaelhbbfddcabaaHeld
import Derived.Test.YtaelhbbfddcabaaMem
import Derived.Test.YtaelhbbfddcabaaFlat
import Derived.Test.YtaelhbbfddcabaaRowC
import Derived.Test.YtaelhbbfddcabaaKS
import Derived.Test.YtaelhbbfddcabaaStrS
import Derived.Test.YtaelhbbfddcabaaIntS
import Derived.Test.YtaelhbbfddcabaaSS
import Derived.Test.YtaelhbbfddcabaaVi
import Derived.Test.YtaelhbbfddcabaaVa
import Derived.Test.YtaelhbbfddcabaaVb
import Derived.Test.YtaelhbbfddcabaaVc
import Derived.Test.YtaelhbbfddcabaaVd
import Derived.Test.YtaelhbbfddcabaaVe
import Derived.WalkKit
import Derived.WalkSpells
import Derived.WalkLawsBesides
import Derived.Lib.Hide
import Derived.Deep.RegionHeld3
import Derived.Deep.QuietTactic
import Derived.BigQuiet
import Derived.Handy
import Derived.Deep.DeepCutAuto
import Derived.OwnWalk
import Derived.Lib.OwnBridge
import Derived.Maps.AppendAt
namespace Go.Proofs.Ytaelhbbfddcabaa
open Go.RowKit

/-- append of a slice of integers that is read, not empty, in a region that draws its order; and where the answer lies -/
theorem step_append_at {P : Program} {w : World} {ops : Array Oper} {o : Oper} {a : Act} {K : Act → World → Prop} {Q : Exit → Act → World → Prop} {E : Prop} (hgd : o.guard = none) (s x : Operand) (t : TypeId)
    (ho : o.op = .call { callee := .builtin .append, args := #[s, x], argTypes := #[t, t] })
    (base : Nat) (e : TypeId) (z : Value) (bytes : Nat) (ht : P.underlying t = some (.slice e)) (hinfo : (P.info? e).map (fun i => (i.zero, i.size, i.bytes)) = some (some z, 1, bytes)) (hzs : z.cells.size = 1)
    (v : Value) (n : Nat) (xs : List Value) (hs : a.eval s = v) (hown : w.ownsRow base e 1 v n xs)
    (B : Nat) (A : Option Addr) (c : Nat) (us : List Int) (hx : a.eval x = .slice A us.length c) (hr : Row I64 w B A us) (hpos : 0 < us.length)
    (h63 : n + us.length ≤ maxLen) (hbytes : (n + us.length) * bytes ≤ 140737488355328) (hbase : base ≤ w.heap.size)
    (h : ∀ v' w', w'.ownsRow base e 1 v' (n + us.length) (xs ++ us.map I64) → w.grownBy w' v.ownBlock → (v'.ownBlock = v.ownBlock ∨ v'.ownBlock = some w.heap.size) → K (a.put o.dst v') w') :
    if Region.wanted o (yielded ops a.tmps) = true then Oper.wp P o a w K Q else E := by
  rw [if_pos (by simp [Region.wanted, hgd])]
  obtain ⟨i0, hi, hz0, hz1, hz2⟩ := info_parts hinfo
  obtain ⟨b, q, rfl, _, _⟩ := hr.at (k := 0) hpos
  obtain ⟨v', w', hrun, h2, h3, _, h5⟩ := run_append_own_at (P := P) (w := w) base t o.type e i0 z 1 bytes ht hi hz0 hz1 hz2 hzs (by omega) v n xs hown ⟨b, q, none⟩ us.length c (us.map I64) (by simp) (fun j u hj => by
    rw [List.getElem?_map] at hj
    obtain ⟨y, hy, rfl⟩ := Option.map_eq_some_iff.1 hj
    obtain ⟨hj1, rfl⟩ := List.getElem?_eq_some_iff.1 hy
    obtain ⟨b', q', e, _, hc⟩ := hr.at hj1
    injection e with e
    injection e with e1 e2
    subst e1 e2
    have ea : (⟨b, q, none⟩ : Addr).add j = ⟨b, q + j, none⟩ := by unfold Addr.add; split <;> simp_all
    rw [ea]
    exact hc) (fun u hu => by obtain ⟨y, _, rfl⟩ := List.mem_map.1 hu; rfl) h63 hbytes hbase
  unfold Oper.wp execOp
  simp only [ho, resolve, invoke, builtin, Sem.run_bind, Sem.run_pure, Result.andThen_ok, List.map_toArray, List.map_cons, List.map_nil, hs, hx, hrun]
  exact h v' w' h2 h3 h5
theorem own_set2 {w0 w : World} {base : Nat} {e : TypeId} {size n g : Nat} {v : Value} {xs l : List Value} {bs : List (Nat × List Value)} (h : w.ownsRow base e size v n xs) (_hQ : Held w0 w ((g, l) :: bs)) (hne : v.ownBlock ≠ some g) (x y : Value) :
    ((w.setCell ⟨g, 0, none⟩ x).setCell ⟨g, 1, none⟩ y).ownsRow base e size v n xs := ownsRow_setCell_other (ownsRow_setCell_other h (a := ⟨g, 0, none⟩) hne x) (a := ⟨g, 1, none⟩) hne y
theorem mip_snoc : ∀ (k : Nat) (L : Int) (ts : List Int), mipL L ts (k + 1) = halfL (L - (k : Int)) (mipL L ts k) := by
  intro k
  induction k with
  | zero => intro L ts; simp [mipL]
  | succ k ih =>
    intro L ts
    have h := ih (L - 1) (halfL L ts)
    show mipL (L - 1) (halfL L ts) (k + 1) = _
    rw [h, show L - 1 - (k : Int) = L - ((k + 1 : Nat) : Int) by omega]
    rfl
/-- an empty literal -/
theorem own_lit0 {w W : World} {bs : List (Nat × List Value)} (_h : Held w W bs) : (W.alloc (.cells #[] 3)).ownsRow W.heap.size 3 1 (.slice (some ⟨W.heap.size, 0, none⟩) 0 0) 0 [] := by
  have h := World.ownsRow_lit W #[] 0 (e := 3) (size := 1) (base := W.heap.size) (by simp) (Nat.zero_le _) (by simp)
  simpa using h
/-- where a texture has a level -/
def okM (L : Int) (ts : List Int) (k : Int) : Bool := okX L ts && inV 0 L k
theorem own_lb {w : World} {base : Nat} {e : TypeId} {size n : Nat} {v : Value} {xs : List Value} (h : w.ownsRow base e size v n xs) (g : Nat) (hg : v.ownBlock = some g) : base ≤ g := own_block h g hg

set_option maxRecDepth 100000 in
set_option maxHeartbeats 8000000 in
theorem sMip_no (L : Int) (A : Option Addr) (c : Nat) (ts : List Int) (k : Int) (w : World) (hR : Row I64 w w.heap.size A ts) (hl : ts.length ≤ 1048576) (hno : okM L ts k = false) :
    Calls Try.prog 63 #[txv L A ts.length c, .int .i64 k] w (TxNone w) := by
  have HT : Held w ((w.alloc (.cells #[.int .i64 L, .slice A ts.length c] 25)).alloc (.cells #[.int .i64 0, .slice none 0 0] 25)) [(w.heap.size + 1, [.int .i64 0, .slice none 0 0]), (w.heap.size, [.int .i64 L, .slice A ts.length c])] := by
    have h := ((Held.nil w).new #[.int .i64 L, .slice A ts.length c] 25).new #[.int .i64 0, .slice none 0 0] 25
    simpa only [World.size_alloc] using h
  obtain ⟨W1, hW1⟩ : ∃ W, W = (w.alloc (.cells #[.int .i64 L, .slice A ts.length c] 25)).alloc (.cells #[.int .i64 0, .slice none 0 0] 25) := ⟨_, rfl⟩
  rw [← hW1] at HT
  have hsz : W1.heap.size = w.heap.size + 2 := by rw [hW1]; simp
  have HR1 := Lib.hid (hR.later HT.below)
  have HVC := Lib.hid (sIsValidT_any L A c ts W1 HR1.out hl)
  have HR0 := Lib.hid (fun W (h : Below w.heap.size w W) => hR.later h)
  clear hR
  go_enter Try.func63, Try.ntmps63
  go_upto_region 1 with fail
  rw [← hW1]
  generalize g1 : w.heap.size + 1 = k1 at HT ⊢
  have HK := Lib.hid (show w.heap.size < k1 ∧ k1 < W1.heap.size by omega)
  generalize g0 : w.heap.size = k0 at HT ⊢
  have HK0 := Lib.hid g0
  have m0 := (HT.box 1).c 0
  have m1 := (HT.box 1).c 1
  clear hW1 g0 g1 hsz
  have HTI := Lib.hid HT
  clear HT
  go_wp2_with fail
  refine HVC.out.mono ?_
  rintro e w2 ⟨rfl, hb2⟩
  have HT2 := Lib.hid (HTI.out.later hb2)
  have HR2 := Lib.hid (HR1.out.later hb2)
  have hsz2 := hb2.size
  clear hb2 m0 m1
  cases hok : okX L ts with
  | false =>
    clear hok hno hsz2
    have HT := HT2.out
    have m0 := (HT.box 1).c 0
    have m1 := (HT.box 1).c 1
    have r0 := (HT.box 0).c 0
    have r1 := (HT.box 0).c 1
    have o0 := (HT.box 0).f 0
    have o1 := (HT.box 0).f 1
    have HTB := Lib.hid HT.below
    clear HT
    go_wp2_with fail
    have hq1 : w.heap.size ≤ k1 := by have := HK.out; omega
    exact bodyPost_ret (v := .tuple #[txv 0 none 0 0, .bool false]) (by simp [results, Try.results63, go_sem, r0, r1]) rfl ⟨rfl, (HTB.out.setCell (p := ⟨k1, 0, none⟩) hq1 _).setCell (p := ⟨k1, 1, none⟩) hq1 _⟩
  | true =>
    have hin : inV 0 L k = false := by
      unfold okM at hno
      rw [hok] at hno
      simpa using hno
    have HIN := Lib.hid (l01InV k 0 L w2)
    rw [hin] at HIN
    clear hok hno hsz2 hin
    have m0 := (HT2.out.box 1).c 0
    have m1 := (HT2.out.box 1).c 1
    go_wp2_with fail
    refine HIN.out.mono ?_
    rintro e w3 ⟨rfl, rfl⟩
    clear m0 m1
    have HT := HT2.out
    have m0 := (HT.box 1).c 0
    have m1 := (HT.box 1).c 1
    have r0 := (HT.box 0).c 0
    have r1 := (HT.box 0).c 1
    have o0 := (HT.box 0).f 0
    have o1 := (HT.box 0).f 1
    have HTB := Lib.hid HT.below
    clear HT
    go_wp2_with fail
    have hq1 : w.heap.size ≤ k1 := by have := HK.out; omega
    exact bodyPost_ret (v := .tuple #[txv 0 none 0 0, .bool false]) (by simp [results, Try.results63, go_sem, r0, r1]) rfl ⟨rfl, (HTB.out.setCell (p := ⟨k1, 0, none⟩) hq1 _).setCell (p := ⟨k1, 1, none⟩) hq1 _⟩

set_option maxRecDepth 100000 in
set_option maxHeartbeats 32000000 in
theorem sMip_yes (L : Int) (A : Option Addr) (c : Nat) (ts : List Int) (k : Int) (w : World) (hR : Row I64 w w.heap.size A ts) (hl : ts.length ≤ 1048576) (hyes : okM L ts k = true) :
    Calls Try.prog 63 #[txv L A ts.length c, .int .i64 k] w (TxMade (L - k) (mipL L ts k.toNat) w) := by
  have hokX : okX L ts = true := by unfold okM at hyes; simp only [Bool.and_eq_true] at hyes; exact hyes.1
  have hin : inV 0 L k = true := by unfold okM at hyes; simp only [Bool.and_eq_true] at hyes; exact hyes.2
  have hok := okX_iff.1 hokX
  have hkb := (inV_iff ..).1 hin
  have HT : Held w ((w.alloc (.cells #[.int .i64 L, .slice A ts.length c] 25)).alloc (.cells #[.int .i64 0, .slice none 0 0] 25)) [(w.heap.size + 1, [.int .i64 0, .slice none 0 0]), (w.heap.size, [.int .i64 L, .slice A ts.length c])] := by
    have h := ((Held.nil w).new #[.int .i64 L, .slice A ts.length c] 25).new #[.int .i64 0, .slice none 0 0] 25
    simpa only [World.size_alloc] using h
  obtain ⟨W1, hW1⟩ : ∃ W, W = (w.alloc (.cells #[.int .i64 L, .slice A ts.length c] 25)).alloc (.cells #[.int .i64 0, .slice none 0 0] 25) := ⟨_, rfl⟩
  rw [← hW1] at HT
  have hsz : W1.heap.size = w.heap.size + 2 := by rw [hW1]; simp
  have HR1 := Lib.hid (hR.later HT.below)
  have HVC := Lib.hid (sIsValidT_any L A c ts W1 HR1.out hl)
  have HR0 := Lib.hid (fun W (h : Below w.heap.size w W) => hR.later h)
  clear hR
  rw [hokX] at HVC
  have HIN := Lib.hid (fun W => l01InV k 0 L W)
  rw [hin] at HIN
  have HOK := Lib.hid (And.intro hok hkb)
  have hpos : 0 < ts.length := by rw [hok.2.1]; exact Nat.mul_pos sd_pos sd_pos
  clear hokX hyes hok hkb hin
  go_enter Try.func63, Try.ntmps63
  go_upto_region 1 with fail
  rw [← hW1]
  generalize g1 : w.heap.size + 1 = k1 at HT ⊢
  have HK := Lib.hid (show w.heap.size < k1 ∧ k1 < W1.heap.size by omega)
  generalize g0 : w.heap.size = k0 at HT ⊢
  have HK0 := Lib.hid g0
  have m0 := (HT.box 1).c 0
  have m1 := (HT.box 1).c 1
  clear hW1 g0 g1 hsz
  have HTI := Lib.hid HT
  clear HT
  go_wp2_with fail
  refine HVC.out.mono ?_
  rintro e w2 ⟨rfl, hb2⟩
  have HT2 := Lib.hid (HTI.out.later hb2)
  have HR2 := Lib.hid (HR1.out.later hb2)
  have hsz2 := hb2.size
  clear hb2 m0 m1
  have m0 := (HT2.out.box 1).c 0
  have m1 := (HT2.out.box 1).c 1
  go_wp2_with fail
  refine (HIN.out _).mono ?_
  rintro e w3 ⟨rfl, rfl⟩
  go_upto_region 3 with fail
  obtain ⟨B1, hB1⟩ : ∃ B, B = w2.heap.size := ⟨_, rfl⟩
  have HORD := Lib.hid (show w.heap.size < k1 ∧ k1 < B1 ∧ k0 = w.heap.size by have h1 := HK.out; have h2 := HK0.out; omega)
  have HBB := Lib.hid hB1
  have HQ := HT2.out
  have HC : ∀ W', Held w W' [(k1, [.int .i64 0, .slice none 0 0]), (k0, [.int .i64 L, .slice A ts.length c])] → W'.cell? ⟨k0, 0, none⟩ = some (.int .i64 L) ∧ W'.cell? ⟨k0, 1, none⟩ = some (.slice A ts.length c) := fun W' h => ⟨(h.box 1).c 0, (h.box 1).c 1⟩
  clear m0 m1 hsz2 hB1
  go_cut [6] (fun y wx => ∃ g A6 c6, y = .pointer (some ⟨g, 0, none⟩) ∧ Held w wx [(g, [.int .i64 L, .slice A6 ts.length c6]), (k1, [.int .i64 0, .slice none 0 0]), (k0, [.int .i64 L, .slice A ts.length c])] ∧ wx.ownsRow B1 3 1 (.slice A6 ts.length c6) ts.length (ts.map I64) ∧ B1 ≤ g)
  case first =>
    have HQ := HQ.drew
    refine wp_region_held_drew (S := fun W' => W'.cell? ⟨k0, 0, none⟩ = some (.int .i64 L) ∧ W'.cell? ⟨k0, 1, none⟩ = some (.slice A ts.length c)) (by kernel_rfl) (HC _ HQ) (fun hHeld => ?_)
    obtain ⟨wd, hwd⟩ : ∃ x, x = w2.drew := ⟨_, rfl⟩
    have hwB : wd.heap.size = B1 := by rw [hwd]; exact HBB.out.symm
    rw [← hwd] at HQ hHeld ⊢
    clear hwd
    refine wpAnyH_take (i := 0) (oi := { dst := some 18, op := Op.fieldAddr 25 (Operand.tmp 2) 0, type := 0, pos := "l15_texture.go:63", after := #[], guard := none }) (v := ?_) rfl (by kernel_rfl) (by kernel_rfl) (by kernel_rfl) (fun _ _ _ h => h) (Or.inl ⟨by rfl, ?_⟩) (by assumption) ?_
    rotate_left 1
    · (intro w hSw; (try dsimp only at hSw); go_simp <;> with_reducible rfl)
    (try simp only [Act.put, List.setIfInBounds_toArray, List.set_cons_zero, List.set_cons_succ])
    refine wpAnyH_take (i := 1) (oi := { dst := some 19, op := Op.load 3 (Operand.tmp 18), type := 3, pos := "l15_texture.go:63", after := #[{ on := 0, ground := Ground.data }], guard := none }) (v := ?_) rfl (by kernel_rfl) (by kernel_rfl) (by kernel_rfl) (fun _ _ _ h => h) (Or.inl ⟨by rfl, ?_⟩) (by assumption) ?_
    rotate_left 1
    · (intro w hSw; (try dsimp only at hSw); go_simp <;> with_reducible rfl)
    (try simp only [Act.put, List.setIfInBounds_toArray, List.set_cons_zero, List.set_cons_succ])
    refine wpAnyH_take (i := 3) (oi := { dst := some 21, op := Op.fieldAddr 25 (Operand.tmp 2) 1, type := 0, pos := "l15_texture.go:63", after := #[], guard := none }) (v := ?_) rfl (by kernel_rfl) (by kernel_rfl) (by kernel_rfl) (fun _ _ _ h => h) (Or.inl ⟨by rfl, ?_⟩) (by assumption) ?_
    rotate_left 1
    · (intro w hSw; (try dsimp only at hSw); go_simp <;> with_reducible rfl)
    (try simp only [Act.put, List.setIfInBounds_toArray, List.set_cons_zero, List.set_cons_succ])
    refine wpAnyH_take (i := 4) (oi := { dst := some 22, op := Op.load 23 (Operand.tmp 21), type := 23, pos := "l15_texture.go:63", after := #[{ on := 3, ground := Ground.data }], guard := none }) (v := ?_) rfl (by kernel_rfl) (by kernel_rfl) (by kernel_rfl) (fun _ _ _ h => h) (Or.inl ⟨by rfl, ?_⟩) (by assumption) ?_
    rotate_left 1
    · (intro w hSw; (try dsimp only at hSw); go_simp <;> with_reducible rfl)
    (try simp only [Act.put, List.setIfInBounds_toArray, List.set_cons_zero, List.set_cons_succ])
    refine wpAnyH_ready (rs := [2, 7]) (by kernel_rfl) (by simp) ?_
    refine AllReadyH.cons (o := { dst := some 20, op := Op.buildSlice 23 0 #[], type := 23, pos := "l15_texture.go:63", after := #[], guard := none }) rfl (fun K hK => ?_) ?_
    · go_simp
      have HO0 := own_lit0 HQ
      (try simp only [World.size_alloc] at HO0)
      (try simp only [hwB] at HO0)
      have HO := Lib.hid HO0
      clear HO0
      have HQ := HQ.alloc (.cells #[] 3)
      refine hK.out _ _ (by (try dsimp only); (first | with_reducible exact HC _ HQ | with_reducible exact HC _ HQ.tail)) (fun hHeld => ?_)
      clear hK K
      (try simp only [Act.put, List.setIfInBounds_toArray, List.set_cons_zero, List.set_cons_succ])
      refine wpAnyH_ready (rs := [5, 7]) (by kernel_rfl) (by simp) ?_
      refine AllReadyH.cons (o := { dst := some 23, op := Op.call { callee := Callee.builtin Builtin.append, args := #[Operand.tmp 20, Operand.tmp 22], argTypes := #[23, 23] }, type := 23, pos := "l15_texture.go:63", after := #[{ on := 2, ground := Ground.data }, { on := 4, ground := Ground.data }], guard := none }) rfl (fun K hK => ?_) ?_
      · have HRr := HR0.out _ HQ.below
        refine step_append_at rfl _ _ 23 rfl _ 3 (.int .i64 0) 8 Try.underlying23 infoInt rfl _ _ _ (by rfl) HO.out _ A c ts (by rfl) HRr hpos (by unfold maxLen; omega) (by omega) (by (try simp only [World.size_alloc]); omega) ?_
        intro v6 w6 ho6 hg6 hat6
        obtain ⟨A6, c6, rfl⟩ := own_shape ho6
        (try simp only [World.size_alloc] at hat6)
        (try simp only [hwB] at hat6)
        rw [Nat.zero_add] at hat6
        have HQ := HQ.grownX hg6 (fun g e => by simp only [Value.ownBlock, Option.some.injEq] at e; have := HORD.out; omega) (fun p hp e => by simp only [Value.ownBlock, Option.some.injEq] at e; have h1 := HORD.out; simp only [List.mem_cons, List.not_mem_nil, or_false] at hp; (first | (rcases hp with rfl | rfl | rfl <;> dsimp only at e <;> omega) | (rcases hp with rfl | rfl <;> dsimp only at e <;> omega)))
        have ho6 : w6.ownsRow B1 3 1 (.slice A6 (0 + ts.length) c6) (0 + ts.length) ([] ++ ts.map I64) := own_base ho6 (by omega)
        rw [Nat.zero_add, List.nil_append] at ho6
        have HAT := Lib.hid (And.intro hat6 (fun b hb => (ho6.lt b hb).2))
        clear hat6
        have HO := Lib.hid ho6
        have hs6 := hg6.size
        have hs6 : B1 + 1 ≤ w6.heap.size := by (simp only [World.size_alloc] at hs6); omega
        (try rw [Nat.zero_add])
        clear ho6 hg6 HRr
        refine hK.out _ _ (by (try dsimp only); (first | with_reducible exact HC _ HQ | with_reducible exact HC _ HQ.tail)) (fun hHeld => ?_)
        clear hK K
        (try simp only [Act.put, List.setIfInBounds_toArray, List.set_cons_zero, List.set_cons_succ])
        refine wpAnyH_take (i := 6) (oi := { dst := some 24, op := Op.build 25 #[(0, Operand.tmp 19), (1, Operand.tmp 23)], type := 25, pos := "l15_texture.go:63", after := #[{ on := 1, ground := Ground.data }, { on := 5, ground := Ground.data }], guard := none }) (v := ?_) rfl (by kernel_rfl) (by kernel_rfl) (by kernel_rfl) (fun _ _ _ h => h) (Or.inl ⟨by rfl, ?_⟩) (by assumption) ?_
        rotate_left 1
        · (intro w hSw; (try dsimp only at hSw); go_simp <;> with_reducible rfl)
        (try simp only [Act.put, List.setIfInBounds_toArray, List.set_cons_zero, List.set_cons_succ])
        refine wpAnyH_ready (rs := [7]) (by kernel_rfl) (by simp) ?_
        refine AllReadyH.cons (o := { dst := some 6, op := Op.alloc 25, type := 0, pos := "l15_texture.go:63", after := #[], guard := none }) rfl (fun K hK => ?_) ?_
        · go_simp
          have HPre := HQ
          (try have HOP := HO)
          (try have HO := Lib.hid (HO.out.alloc (.cells #[.int .i64 0, .slice none 0 0] 25)))
          have HQ := HQ.new #[.int .i64 0, .slice none 0 0] 25
          (try rw [World.size_alloc] at HQ)
          (try rw [hwB] at HQ)
          refine hK.out _ _ (by (try dsimp only); (first | with_reducible exact HC _ HQ | with_reducible exact HC _ HQ.tail)) (fun hHeld => ?_)
          clear hK K
          (try simp only [Act.put, List.setIfInBounds_toArray, List.set_cons_zero, List.set_cons_succ])
          refine wpAnyH_ready (rs := [8]) (by kernel_rfl) (by simp) ?_
          refine AllReadyH.cons (o := { dst := none, op := Op.store 25 (Operand.tmp 6) (Operand.tmp 24), type := 0, pos := "l15_texture.go:63", after := #[{ on := 7, ground := Ground.data }, { on := 6, ground := Ground.data }, { on := 5, ground := Ground.chain }, { on := 0, ground := Ground.phase }, { on := 1, ground := Ground.phase }, { on := 2, ground := Ground.phase }, { on := 3, ground := Ground.phase }, { on := 4, ground := Ground.phase }, { on := 5, ground := Ground.phase }, { on := 6, ground := Ground.phase }, { on := 7, ground := Ground.phase }], guard := none }) rfl (fun K hK => ?_) ?_
          · have c60 := (HQ.box 0).c 0
            have c61 := (HQ.box 0).c 1
            have f60 := (HQ.box 0).f 0
            have f61 := (HQ.box 0).f 1
            go_simp
            clear c60 c61 f60 f61
            first | (have HX := (HQ.put (by have := HORD.out; omega) (fun p hp => by (have h1 := HORD.out; simp only [List.mem_cons, List.not_mem_nil, or_false] at hp; rcases hp with rfl | rfl <;> (show _ ≠ _) <;> omega)) 0 (.int .i64 L)).put (by have := HORD.out; omega) (fun p hp => by (have h1 := HORD.out; simp only [List.mem_cons, List.not_mem_nil, or_false] at hp; rcases hp with rfl | rfl <;> (show _ ≠ _) <;> omega)) 1 (.slice A6 ts.length c6); refine hK.out _ _ (by (try dsimp only); exact HC _ HX.tail) (fun hHeld => ?_); have HO := Lib.hid (own_set2 HO.out HQ (by intro e; have h1 := HAT.out.2 _ e; rcases HAT.out.1 with h | h <;> (rw [e] at h; simp only [Value.ownBlock, Option.some.injEq] at h; omega)) (.int .i64 L) (.slice A6 ts.length c6)); have HQ := HX) | (have HQ := HPre.new #[.int .i64 L, .slice A6 ts.length c6] 25; refine hK.out _ _ (by (try dsimp only); exact HC _ HQ.tail) (fun hHeld => ?_); have HO := Lib.hid (HOP.out.alloc (.cells #[.int .i64 L, .slice A6 ts.length c6] 25)))
            clear hK K
            (try simp only [Act.put, List.setIfInBounds_toArray, List.set_cons_zero, List.set_cons_succ])
            refine wpAnyH_done (by kernel_rfl) ?_ _
            clear hHeld
            go_wp2
            go_meet
            exact ⟨_, A6, c6, rfl, HQ, HO.out, by omega⟩
          exact AllReadyH.nil
        exact AllReadyH.nil
      refine AllReadyH.cons (o := { dst := some 6, op := Op.alloc 25, type := 0, pos := "l15_texture.go:63", after := #[], guard := none }) rfl (fun K hK => ?_) ?_
      · go_simp
        have HPre := HQ
        (try have HOP := HO)
        (try have HO := Lib.hid (HO.out.alloc (.cells #[.int .i64 0, .slice none 0 0] 25)))
        have HQ := HQ.new #[.int .i64 0, .slice none 0 0] 25
        (try rw [World.size_alloc] at HQ)
        (try rw [hwB] at HQ)
        refine hK.out _ _ (by (try dsimp only); (first | with_reducible exact HC _ HQ | with_reducible exact HC _ HQ.tail)) (fun hHeld => ?_)
        clear hK K
        (try simp only [Act.put, List.setIfInBounds_toArray, List.set_cons_zero, List.set_cons_succ])
        refine wpAnyH_ready (rs := [5]) (by kernel_rfl) (by simp) ?_
        refine AllReadyH.cons (o := { dst := some 23, op := Op.call { callee := Callee.builtin Builtin.append, args := #[Operand.tmp 20, Operand.tmp 22], argTypes := #[23, 23] }, type := 23, pos := "l15_texture.go:63", after := #[{ on := 2, ground := Ground.data }, { on := 4, ground := Ground.data }], guard := none }) rfl (fun K hK => ?_) ?_
        · have HRr := HR0.out _ HQ.below
          refine step_append_at rfl _ _ 23 rfl _ 3 (.int .i64 0) 8 Try.underlying23 infoInt rfl _ _ _ (by rfl) HO.out _ A c ts (by rfl) HRr hpos (by unfold maxLen; omega) (by omega) (by (try simp only [World.size_alloc]); omega) ?_
          intro v6 w6 ho6 hg6 hat6
          obtain ⟨A6, c6, rfl⟩ := own_shape ho6
          (try simp only [World.size_alloc] at hat6)
          (try simp only [hwB] at hat6)
          rw [Nat.zero_add] at hat6
          have HQ := HQ.grownX hg6 (fun g e => by simp only [Value.ownBlock, Option.some.injEq] at e; have := HORD.out; omega) (fun p hp e => by simp only [Value.ownBlock, Option.some.injEq] at e; have h1 := HORD.out; simp only [List.mem_cons, List.not_mem_nil, or_false] at hp; (first | (rcases hp with rfl | rfl | rfl <;> dsimp only at e <;> omega) | (rcases hp with rfl | rfl <;> dsimp only at e <;> omega)))
          have ho6 : w6.ownsRow B1 3 1 (.slice A6 (0 + ts.length) c6) (0 + ts.length) ([] ++ ts.map I64) := own_base ho6 (by omega)
          rw [Nat.zero_add, List.nil_append] at ho6
          have HAT := Lib.hid (And.intro hat6 (fun b hb => (ho6.lt b hb).2))
          clear hat6
          have HO := Lib.hid ho6
          have hs6 := hg6.size
          have hs6 : B1 + 1 ≤ w6.heap.size := by (simp only [World.size_alloc] at hs6); omega
          (try rw [Nat.zero_add])
          clear ho6 hg6 HRr
          refine hK.out _ _ (by (try dsimp only); (first | with_reducible exact HC _ HQ | with_reducible exact HC _ HQ.tail)) (fun hHeld => ?_)
          clear hK K
          (try simp only [Act.put, List.setIfInBounds_toArray, List.set_cons_zero, List.set_cons_succ])
          refine wpAnyH_take (i := 6) (oi := { dst := some 24, op := Op.build 25 #[(0, Operand.tmp 19), (1, Operand.tmp 23)], type := 25, pos := "l15_texture.go:63", after := #[{ on := 1, ground := Ground.data }, { on := 5, ground := Ground.data }], guard := none }) (v := ?_) rfl (by kernel_rfl) (by kernel_rfl) (by kernel_rfl) (fun _ _ _ h => h) (Or.inl ⟨by rfl, ?_⟩) (by assumption) ?_
          rotate_left 1
          · (intro w hSw; (try dsimp only at hSw); go_simp <;> with_reducible rfl)
          (try simp only [Act.put, List.setIfInBounds_toArray, List.set_cons_zero, List.set_cons_succ])
          refine wpAnyH_ready (rs := [8]) (by kernel_rfl) (by simp) ?_
          refine AllReadyH.cons (o := { dst := none, op := Op.store 25 (Operand.tmp 6) (Operand.tmp 24), type := 0, pos := "l15_texture.go:63", after := #[{ on := 7, ground := Ground.data }, { on := 6, ground := Ground.data }, { on := 5, ground := Ground.chain }, { on := 0, ground := Ground.phase }, { on := 1, ground := Ground.phase }, { on := 2, ground := Ground.phase }, { on := 3, ground := Ground.phase }, { on := 4, ground := Ground.phase }, { on := 5, ground := Ground.phase }, { on := 6, ground := Ground.phase }, { on := 7, ground := Ground.phase }], guard := none }) rfl (fun K hK => ?_) ?_
          · have c60 := (HQ.box 0).c 0
            have c61 := (HQ.box 0).c 1
            have f60 := (HQ.box 0).f 0
            have f61 := (HQ.box 0).f 1
            go_simp
            clear c60 c61 f60 f61
            first | (have HX := (HQ.put (by have := HORD.out; omega) (fun p hp => by (have h1 := HORD.out; simp only [List.mem_cons, List.not_mem_nil, or_false] at hp; rcases hp with rfl | rfl <;> (show _ ≠ _) <;> omega)) 0 (.int .i64 L)).put (by have := HORD.out; omega) (fun p hp => by (have h1 := HORD.out; simp only [List.mem_cons, List.not_mem_nil, or_false] at hp; rcases hp with rfl | rfl <;> (show _ ≠ _) <;> omega)) 1 (.slice A6 ts.length c6); refine hK.out _ _ (by (try dsimp only); exact HC _ HX.tail) (fun hHeld => ?_); have HO := Lib.hid (own_set2 HO.out HQ (by intro e; have h1 := HAT.out.2 _ e; rcases HAT.out.1 with h | h <;> (rw [e] at h; simp only [Value.ownBlock, Option.some.injEq] at h; omega)) (.int .i64 L) (.slice A6 ts.length c6)); have HQ := HX) | (have HQ := HPre.new #[.int .i64 L, .slice A6 ts.length c6] 25; refine hK.out _ _ (by (try dsimp only); exact HC _ HQ.tail) (fun hHeld => ?_); have HO := Lib.hid (HOP.out.alloc (.cells #[.int .i64 L, .slice A6 ts.length c6] 25)))
            clear hK K
            (try simp only [Act.put, List.setIfInBounds_toArray, List.set_cons_zero, List.set_cons_succ])
            refine wpAnyH_done (by kernel_rfl) ?_ _
            clear hHeld
            go_wp2
            go_meet
            exact ⟨_, A6, c6, rfl, HQ, HO.out, by omega⟩
          exact AllReadyH.nil
        exact AllReadyH.nil
      exact AllReadyH.nil
    refine AllReadyH.cons (o := { dst := some 6, op := Op.alloc 25, type := 0, pos := "l15_texture.go:63", after := #[], guard := none }) rfl (fun K hK => ?_) ?_
    · go_simp
      have HPre := HQ
      (try have HOP := HO)
      (try have HO := Lib.hid (HO.out.alloc (.cells #[.int .i64 0, .slice none 0 0] 25)))
      have HQ := HQ.new #[.int .i64 0, .slice none 0 0] 25
      (try rw [World.size_alloc] at HQ)
      (try rw [hwB] at HQ)
      refine hK.out _ _ (by (try dsimp only); (first | with_reducible exact HC _ HQ | with_reducible exact HC _ HQ.tail)) (fun hHeld => ?_)
      clear hK K
      (try simp only [Act.put, List.setIfInBounds_toArray, List.set_cons_zero, List.set_cons_succ])
      refine wpAnyH_ready (rs := [2]) (by kernel_rfl) (by simp) ?_
      refine AllReadyH.cons (o := { dst := some 20, op := Op.buildSlice 23 0 #[], type := 23, pos := "l15_texture.go:63", after := #[], guard := none }) rfl (fun K hK => ?_) ?_
      · go_simp
        have HO0 := own_lit0 HQ
        (try simp only [World.size_alloc] at HO0)
        (try simp only [hwB] at HO0)
        have HO := Lib.hid HO0
        clear HO0
        have HQ := HQ.alloc (.cells #[] 3)
        refine hK.out _ _ (by (try dsimp only); (first | with_reducible exact HC _ HQ | with_reducible exact HC _ HQ.tail)) (fun hHeld => ?_)
        clear hK K
        (try simp only [Act.put, List.setIfInBounds_toArray, List.set_cons_zero, List.set_cons_succ])
        refine wpAnyH_ready (rs := [5]) (by kernel_rfl) (by simp) ?_
        refine AllReadyH.cons (o := { dst := some 23, op := Op.call { callee := Callee.builtin Builtin.append, args := #[Operand.tmp 20, Operand.tmp 22], argTypes := #[23, 23] }, type := 23, pos := "l15_texture.go:63", after := #[{ on := 2, ground := Ground.data }, { on := 4, ground := Ground.data }], guard := none }) rfl (fun K hK => ?_) ?_
        · have HRr := HR0.out _ HQ.below
          refine step_append_at rfl _ _ 23 rfl _ 3 (.int .i64 0) 8 Try.underlying23 infoInt rfl _ _ _ (by rfl) HO.out _ A c ts (by rfl) HRr hpos (by unfold maxLen; omega) (by omega) (by (try simp only [World.size_alloc]); omega) ?_
          intro v6 w6 ho6 hg6 hat6
          obtain ⟨A6, c6, rfl⟩ := own_shape ho6
          (try simp only [World.size_alloc] at hat6)
          (try simp only [hwB] at hat6)
          rw [Nat.zero_add] at hat6
          have HQ := HQ.grownX hg6 (fun g e => by simp only [Value.ownBlock, Option.some.injEq] at e; have := HORD.out; omega) (fun p hp e => by simp only [Value.ownBlock, Option.some.injEq] at e; have h1 := HORD.out; simp only [List.mem_cons, List.not_mem_nil, or_false] at hp; (first | (rcases hp with rfl | rfl | rfl <;> dsimp only at e <;> omega) | (rcases hp with rfl | rfl <;> dsimp only at e <;> omega)))
          have ho6 : w6.ownsRow B1 3 1 (.slice A6 (0 + ts.length) c6) (0 + ts.length) ([] ++ ts.map I64) := own_base ho6 (by omega)
          rw [Nat.zero_add, List.nil_append] at ho6
          have HAT := Lib.hid (And.intro hat6 (fun b hb => (ho6.lt b hb).2))
          clear hat6
          have HO := Lib.hid ho6
          have hs6 := hg6.size
          have hs6 : B1 + 1 ≤ w6.heap.size := by (simp only [World.size_alloc] at hs6); omega
          (try rw [Nat.zero_add])
          clear ho6 hg6 HRr
          refine hK.out _ _ (by (try dsimp only); (first | with_reducible exact HC _ HQ | with_reducible exact HC _ HQ.tail)) (fun hHeld => ?_)
          clear hK K
          (try simp only [Act.put, List.setIfInBounds_toArray, List.set_cons_zero, List.set_cons_succ])
          refine wpAnyH_take (i := 6) (oi := { dst := some 24, op := Op.build 25 #[(0, Operand.tmp 19), (1, Operand.tmp 23)], type := 25, pos := "l15_texture.go:63", after := #[{ on := 1, ground := Ground.data }, { on := 5, ground := Ground.data }], guard := none }) (v := ?_) rfl (by kernel_rfl) (by kernel_rfl) (by kernel_rfl) (fun _ _ _ h => h) (Or.inl ⟨by rfl, ?_⟩) (by assumption) ?_
          rotate_left 1
          · (intro w hSw; (try dsimp only at hSw); go_simp <;> with_reducible rfl)
          (try simp only [Act.put, List.setIfInBounds_toArray, List.set_cons_zero, List.set_cons_succ])
          refine wpAnyH_ready (rs := [8]) (by kernel_rfl) (by simp) ?_
          refine AllReadyH.cons (o := { dst := none, op := Op.store 25 (Operand.tmp 6) (Operand.tmp 24), type := 0, pos := "l15_texture.go:63", after := #[{ on := 7, ground := Ground.data }, { on := 6, ground := Ground.data }, { on := 5, ground := Ground.chain }, { on := 0, ground := Ground.phase }, { on := 1, ground := Ground.phase }, { on := 2, ground := Ground.phase }, { on := 3, ground := Ground.phase }, { on := 4, ground := Ground.phase }, { on := 5, ground := Ground.phase }, { on := 6, ground := Ground.phase }, { on := 7, ground := Ground.phase }], guard := none }) rfl (fun K hK => ?_) ?_
          · have c60 := (HQ.box 0).c 0
            have c61 := (HQ.box 0).c 1
            have f60 := (HQ.box 0).f 0
            have f61 := (HQ.box 0).f 1
            go_simp
            clear c60 c61 f60 f61
            first | (have HX := (HQ.put (by have := HORD.out; omega) (fun p hp => by (have h1 := HORD.out; simp only [List.mem_cons, List.not_mem_nil, or_false] at hp; rcases hp with rfl | rfl <;> (show _ ≠ _) <;> omega)) 0 (.int .i64 L)).put (by have := HORD.out; omega) (fun p hp => by (have h1 := HORD.out; simp only [List.mem_cons, List.not_mem_nil, or_false] at hp; rcases hp with rfl | rfl <;> (show _ ≠ _) <;> omega)) 1 (.slice A6 ts.length c6); refine hK.out _ _ (by (try dsimp only); exact HC _ HX.tail) (fun hHeld => ?_); have HO := Lib.hid (own_set2 HO.out HQ (by intro e; have h1 := HAT.out.2 _ e; rcases HAT.out.1 with h | h <;> (rw [e] at h; simp only [Value.ownBlock, Option.some.injEq] at h; omega)) (.int .i64 L) (.slice A6 ts.length c6)); have HQ := HX) | (have HQ := HPre.new #[.int .i64 L, .slice A6 ts.length c6] 25; refine hK.out _ _ (by (try dsimp only); exact HC _ HQ.tail) (fun hHeld => ?_); have HO := Lib.hid (HOP.out.alloc (.cells #[.int .i64 L, .slice A6 ts.length c6] 25)))
            clear hK K
            (try simp only [Act.put, List.setIfInBounds_toArray, List.set_cons_zero, List.set_cons_succ])
            refine wpAnyH_done (by kernel_rfl) ?_ _
            clear hHeld
            go_wp2
            go_meet
            exact ⟨_, A6, c6, rfl, HQ, HO.out, by omega⟩
          exact AllReadyH.nil
        exact AllReadyH.nil
      exact AllReadyH.nil
    exact AllReadyH.nil
  case rest =>
    clear HC HQ
    obtain ⟨g, A6, c6, rfl, HT, hown, hBg⟩ := hcut
    obtain ⟨kn, hkn⟩ : ∃ n : Nat, k = (n : Int) := ⟨k.toNat, by have := HOK.out.2; omega⟩
    subst hkn
    have HINI := Lib.hid (And.intro HT hown)
    have HBG := Lib.hid hBg
    clear HT hown hBg
    go_wp2_with fail
    go_loopw [1] (fun v wr => ∃ (j : Nat) (A6 : Option Addr) (c6 : Nat), j ≤ kn ∧ v = .int .i64 ((kn - j : Nat) : Int) ∧ Held w wr [(g, [.int .i64 (L - (j : Int)), .slice A6 (mipL L ts j).length c6]), (k1, [.int .i64 0, .slice none 0 0]), (k0, [.int .i64 L, .slice A ts.length c])] ∧ wr.ownsRow B1 3 1 (.slice A6 (mipL L ts j).length c6) (mipL L ts j).length ((mipL L ts j).map I64)) (fun v _ => (intOf v).toNat)
    case atStart => exact ⟨0, A6, c6, Nat.zero_le _, rfl, by simpa [mipL] using HINI.out.1, by simpa [mipL] using HINI.out.2⟩
    case round =>
      clear HINI
      obtain ⟨j, A6, c6, hj, rfl, HT, hown⟩ := hrel
      have hokj := mip_ok j L ts HOK.out.1 (by have := HOK.out.2; omega)
      have hlj : (mipL L ts j).length ≤ 1048576 := by
        rw [hokj.2.1]
        have := sq_le hokj.1
        omega
      by_cases hlt : j < kn
      · have hSN := mip_snoc j L ts
        obtain ⟨M, hM⟩ : ∃ M, M = mipL L ts j := ⟨_, rfl⟩
        rw [← hM] at hSN hokj hlj hown HT
        have hRow := Row.of_own hown
        have hyes : okH (L - (j : Int)) M = true := by
          unfold okH
          rw [okX_iff.2 hokj, decide_eq_true (by have := HOK.out.2; omega)]
          rfl
        have HH := Lib.hid (sHalf_yes (L - (j : Int)) A6 c6 M wr hRow hlj hyes)
        have n0 := (HT.box 0).c 0
        have n1 := (HT.box 0).c 1
        have HTI := Lib.hid HT
        obtain ⟨d, hd⟩ : ∃ d : Nat, kn - j = d + 1 := ⟨kn - j - 1, by omega⟩
        have HD := Lib.hid hd
        rw [hd]
        have hdg : (0 : Int) < ((d + 1 : Nat) : Int) := by omega
        have ewd : IntKind.i64.wrap (d : Int) = (d : Int) := wrap_v (by have h1 := HOK.out.1.1; have h2 := HOK.out.2; omega)
        have HSN := Lib.hid hSN
        have hwz := (HT.box 0).lt
        have HWZ := Lib.hid hwz
        clear hSN hM hokj hlj hown HT hRow hyes hd hwz
        go_wp2_with fail
        refine HH.out.mono ?_
        rintro e w5 ⟨A7, c7, rfl, ho7, hb7⟩
        have HT := HTI.out.later hb7
        have n0 := (HT.box 0).c 0
        have n1 := (HT.box 0).c 1
        have f0 := (HT.box 0).f 0
        have f1 := (HT.box 0).f 1
        have HX := (HT.put (by have h1 := HORD.out; have h2 := HBG.out; omega) (fun p hp => by (have h1 := HORD.out; have h2 := HBG.out; simp only [List.mem_cons, List.not_mem_nil, or_false] at hp; rcases hp with rfl | rfl <;> (show _ ≠ _) <;> omega)) 0 (.int .i64 (L - (j : Int) - 1))).put (by have h1 := HORD.out; have h2 := HBG.out; omega) (fun p hp => by (have h1 := HORD.out; have h2 := HBG.out; simp only [List.mem_cons, List.not_mem_nil, or_false] at hp; rcases hp with rfl | rfl <;> (show _ ≠ _) <;> omega)) 1 (.slice A7 (halfL (L - (j : Int)) M).length c7)
        have hox := own_set2 ho7 HT (by intro e; have h1 := own_block ho7 _ e; have h2 := HWZ.out; omega) (.int .i64 (L - (j : Int) - 1)) (.slice A7 (halfL (L - (j : Int)) M).length c7)
        rw [← HSN.out] at HX hox ⊢
        have HEN := Lib.hid (And.intro HX (own_base hox (base' := B1) (by have h1 := HWZ.out; have h2 := HBG.out; omega)))
        clear HT HX hox ho7 hb7
        go_wp2_with fail
        go_roundw
        case rel => exact ⟨j + 1, A7, c7, by omega, by have h := HD.out; rw [show kn - (j + 1) = d by omega], by rw [show L - ((j + 1 : Nat) : Int) = L - (j : Int) - 1 by omega]; exact HEN.out.1, HEN.out.2⟩
        case measure => simp [intOf]
      · obtain rfl : j = kn := by omega
        have hz0 : j - j = 0 := by omega
        rw [hz0]
        have m0 := (HT.box 0).c 0
        have m1 := (HT.box 0).c 1
        have r0 := (HT.box 1).c 0
        have r1 := (HT.box 1).c 1
        have o0 := (HT.box 1).f 0
        have o1 := (HT.box 1).f 1
        have HTB := Lib.hid HT.below
        have HOE := Lib.hid hown
        have hne : ¬ k1 = g := by have h1 := HORD.out; have h2 := HBG.out; omega
        have hne2 : ¬ g = k1 := by have h1 := HORD.out; have h2 := HBG.out; omega
        have HLJ : Hid (L - (j : Int) = L - ((j : Nat) : Int) ∧ ((j : Int)).toNat = j) := Lib.hid ⟨rfl, by omega⟩
        obtain ⟨Lj, hLj⟩ : ∃ x, x = L - (j : Int) := ⟨_, rfl⟩
        obtain ⟨M, hM⟩ : ∃ M, M = mipL L ts j := ⟨_, rfl⟩
        rw [← hM] at HOE m1
        rw [← hLj] at m0
        have HMM := Lib.hid hM
        have HLL := Lib.hid hLj
        clear HT hown hokj hlj hz0 hM hLj hlt hj
        go_wp2_with fail
        have hq1 : w.heap.size ≤ k1 := by have := HORD.out; omega
        have ho1 := ownsRow_setCell_below (ownsRow_setCell_below HOE.out (a := ⟨k1, 0, none⟩) (by have := HORD.out; show k1 < B1; omega) (.int .i64 Lj)) (a := ⟨k1, 1, none⟩) (by have := HORD.out; show k1 < B1; omega) (.slice A6 M.length c6)
        exact bodyPost_ret (v := .tuple #[txv Lj A6 M.length c6, .bool true]) (by simp [results, Try.results63, go_sem, r0, r1]) rfl ⟨A6, c6, by first | rw [← HMM.out, ← HLL.out] | rw [HLJ.out.2, ← HMM.out, ← HLL.out], by first | (rw [← HMM.out]; exact own_base ho1 (by have := HORD.out; omega)) | exact own_base ho1 (by have := HORD.out; omega), (HTB.out.setCell (p := ⟨k1, 0, none⟩) hq1 _).setCell (p := ⟨k1, 1, none⟩) hq1 _⟩
end Go.Proofs.Ytaelhbbfddcabaa
