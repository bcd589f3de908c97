/- Contract of DiceRate, in the model. -/
import Derived.Test.YtmhcpjednogegaaProg
import Derived.Test.YtmhcpjednogegaaInts
import Derived.Test.YtmhcpjednogegaaVbox
import Derived.Test.YtmhcpjednogegaaVec
import Derived.Test.YtmhcpjednogegaaHeld
import Derived.Test.YtmhcpjednogegaaMem
import Derived.Test.YtmhcpjednogegaaFlat
import Derived.Test.YtmhcpjednogegaaRowC
import Derived.Test.YtmhcpjednogegaaArr
import Derived.Test.YtmhcpjednogegaaTr
import Derived.Test.YtmhcpjednogegaaPat
import Derived.Test.YtmhcpjednogegaaVecS
import Derived.Test.YtmhcpjednogegaaPut
import Derived.Test.YtmhcpjednogegaaSub
import Derived.Test.YtmhcpjednogegaaSplW
import Derived.Test.YtmhcpjednogegaaGrid
import Derived.Test.YtmhcpjednogegaaPEv
import Derived.Test.YtmhcpjednogegaaPEs
import Derived.Test.YtmhcpjednogegaaCam
import Derived.Test.YtmhcpjednogegaaCPrj
import Derived.Test.YtmhcpjednogegaaPVal
import Derived.Test.YtmhcpjednogegaaDv
import Derived.Test.YtmhcpjednogegaaDp
import Derived.Test.YtmhcpjednogegaaDt
import Derived.WalkKit
import Derived.WalkSpells
import Derived.WalkLawsBesides
import Derived.Lib.Hide
import Derived.Deep.RegionHeld3
import Derived.Deep.QuietTactic
import Derived.BigQuiet
import Derived.Handy
import Derived.Deep.DeepCutAuto
import Derived.Laws.RangeAny
import Derived.BigRegion
namespace Go.Proofs.Ytmhcpjednogegaa
open Go.RowKit

theorem infoRow : (Try.prog.info? 81).map (fun i => (i.zero, i.size, i.bytes)) = some (some (.slice none 0 0), 1, 24) := by kernel_rfl
theorem wpList_appR {P : Program} {ops : Array Oper} {rest : List Oper} {o : Oper} {a : Act} {Q : Exit → Act → World → Prop} (w0 : World) (hgd : o.guard = none) (s x : Operand) (t : TypeId)
    (ho : o.op = .call { callee := .builtin .append, args := #[s, x], argTypes := #[t, t] }) (base : Nat) (e : TypeId) (z : Value) (bytes : Nat)
    (ht : P.underlying t = some (.slice e)) (hinfo : (P.info? e).map (fun i => (i.zero, i.size, i.bytes)) = some (some z, 1, bytes)) (hzs : z.cells.size = 1)
    (v : Value) (n : Nat) (xs : List Value) (hs : a.eval s = v) (hown : w0.ownsRow base e 1 v n xs) (u0 : Value) (hx : a.eval x = .slice (some ⟨w0.heap.size, 0, none⟩) 1 1) (hu : u0.oneCell' = true)
    (h63 : n + 1 ≤ maxLen) (hbytes : (n + 1) * bytes ≤ 140737488355328) (hbase : base ≤ w0.heap.size)
    (h : ∀ v' w', w'.ownsRow base e 1 v' (n + 1) (xs ++ [u0]) → w0.grownBy w' v.ownBlock → wpList P ops Q rest (a.put o.dst v') w') : wpList P ops Q (o :: rest) a (w0.alloc (.cells #[u0] e)) := by
  obtain ⟨i0, hi, hz0, hz1, hz2⟩ := info_parts hinfo
  refine wpList_append_own _ hgd s x t ho base e i0 z 1 bytes ht hi hz0 hz1 hz2 hzs (by omega) v n xs hs (hown.alloc _) ⟨w0.heap.size, 0, none⟩ 1 1 [u0] hx rfl ?_ ?_ h63 hbytes (by simp; omega) ?_
  · intro j y hj
    have M := Mbox.new w0 #[u0] e
    have := M.c j hj
    rw [Addr.add_mid, Nat.zero_add]
    exact this
  · intro y hy
    simp at hy
    subst hy
    exact hu
  · intro v' w' ho' hg' _
    exact h v' w' ho' ⟨hg'.os, hg'.tape, hg'.output, Nat.le_trans (by simp) hg'.size, fun k hk hr => (hg'.block k (by simp; omega) hr).trans (Below.heap_alloc w0 _ k hk)⟩
/-- row j of a rate's grid, its first k points -/
def rowL (C : CV) (P : PV) (n j k : Nat) : List V3 := (List.range k).map fun (i : Nat) => gV C P 0 0 n (i : Int) (j : Int)
theorem rowL_len (C : CV) (P : PV) (n j k : Nat) : (rowL C P n j k).length = k := by simp [rowL]
theorem rowL_at (C : CV) (P : PV) (n j k i : Nat) (h : i < k) : (rowL C P n j k)[i]? = some (gV C P 0 0 n i j) := by
  unfold rowL
  rw [List.getElem?_map, List.getElem?_range h]
  rfl
theorem rowL_step (C : CV) (P : PV) (n j k : Nat) : rowL C P n j (k + 1) = rowL C P n j k ++ [gV C P 0 0 n k j] := by
  unfold rowL
  rw [List.range_succ, List.map_append]
  rfl
/-- the first j rows of a rate's grid, in memory -/
def GridAt (C : CV) (P : PV) (n B : Nat) (W : World) (out : Value) (j : Nat) : Prop :=
  ∃ hs : List Value, hs.length = j ∧ W.ownsRow B 81 1 out j hs ∧ ∀ (r : Nat) (hv : Value), hs[r]? = some hv → W.ownsRow B 27 3 hv (n + 1) ((rowL C P n r (n + 1)).flatMap vg)
theorem GridAt.later {C : CV} {P : PV} {n B j : Nat} {W W' : World} {out : Value} (h : GridAt C P n B W out j) (hb : Below W.heap.size W W') : GridAt C P n B W' out j := by
  obtain ⟨hs, hl, ho, hr⟩ := h
  exact ⟨hs, hl, own_keep' ho hb, fun r hv e => own_keep' (hr r hv e) hb⟩
theorem GridAt.base {C : CV} {P : PV} {n B B' j : Nat} {W : World} {out : Value} (h : GridAt C P n B W out j) (hb : B' ≤ B) : GridAt C P n B' W out j := by
  obtain ⟨hs, hl, ho, hr⟩ := h
  exact ⟨hs, hl, own_base ho hb, fun r hv e => own_base (hr r hv e) hb⟩
theorem GridAt.push {C : CV} {P : PV} {n B j : Nat} {W W' : World} {out out' hv : Value} {hs : List Value} (hl : hs.length = j) (ho : W.ownsRow B 81 1 out j hs) (hr : ∀ (r : Nat) (hv : Value), hs[r]? = some hv → W.ownsRow B 27 3 hv (n + 1) ((rowL C P n r (n + 1)).flatMap vg))
    (hrow : W.ownsRow B 27 3 hv (n + 1) ((rowL C P n j (n + 1)).flatMap vg)) (hg : W.grownBy W' out.ownBlock) (ho' : W'.ownsRow B 81 1 out' (j + 1) (hs ++ [hv])) : GridAt C P n B W' out' (j + 1) := by
  refine ⟨hs ++ [hv], by simp [hl], ho', fun r h e => ?_⟩
  by_cases e1 : r < hs.length
  · rw [List.getElem?_append_left e1] at e
    exact (hr r h e).kept hg (own_ne (hr r h e) ho (by decide))
  · obtain ⟨hlt, he⟩ := List.getElem?_eq_some_iff.1 e
    obtain rfl : r = j := by simp at hlt; omega
    subst hl
    rw [List.getElem_append_right (Nat.le_refl _)] at he
    simp only [Nat.sub_self, List.getElem_cons_zero] at he
    subst he
    exact hrow.kept hg (own_ne hrow ho (by decide))
/-- all corners of a rate's grid are projected -/
def gridOk (C : CV) (P : PV) (n : Nat) : Bool := (List.range ((n + 1) * (n + 1))).all fun k => gK C P 0 0 n ((k % (n + 1) : Nat) : Int) ((k / (n + 1) : Nat) : Int)
theorem gridOk_all (C : CV) (P : PV) (n : Nat) : gridOk C P n = true ↔ ∀ i j : Nat, i ≤ n → j ≤ n → gK C P 0 0 n (i : Int) (j : Int) = true := by
  unfold gridOk
  rw [List.all_eq_true]
  constructor
  · intro h i j hi hj
    have h1 := h ((n + 1) * j + i) (by
      rw [List.mem_range]
      have : (n + 1) * j ≤ (n + 1) * n := Nat.mul_le_mul_left _ hj
      have e : (n + 1) * (n + 1) = (n + 1) * n + (n + 1) := Nat.mul_succ _ _
      omega)
    rwa [Nat.mul_add_mod, Nat.mod_eq_of_lt (by omega), Nat.mul_add_div (by omega), Nat.div_eq_of_lt (by omega), Nat.add_zero] at h1
  · intro h k hk
    rw [List.mem_range] at hk
    refine h _ _ (by have := Nat.mod_lt k (show 0 < n + 1 by omega); omega) ?_
    have : k / (n + 1) < n + 1 := Nat.div_lt_of_lt_mul hk
    omega
theorem gridOk_not {C : CV} {P : PV} {n i j : Nat} (hi : i ≤ n) (hj : j ≤ n) (h : gK C P 0 0 n (i : Int) (j : Int) = false) : gridOk C P n = false := by
  rcases e : gridOk C P n with _ | _
  · rfl
  · rw [(gridOk_all C P n).1 e i j hi hj] at h; cases h
def GridOut (C : CV) (P : PV) (n : Nat) (w : World) (e : Ending) (w' : World) : Prop :=
  ∃ out, e = .returned (.tuple #[out, .bool (gridOk C P n)]) ∧ (gridOk C P n = true → GridAt C P n w.heap.size w' out (n + 1)) ∧ Below w.heap.size w w'
/-- a point and its neighbours to the right and below -/
def pairOk (C : CV) (P : PV) (m : Int) (n i j : Nat) : Prop :=
  (i < n → near m (gV C P 0 0 n i j) (gV C P 0 0 n ((i + 1 : Nat) : Int) j) = true) ∧ (j < n → near m (gV C P 0 0 n i j) (gV C P 0 0 n i ((j + 1 : Nat) : Int)) = true)
theorem rate_pairs {C : CV} {P : PV} {m : Int} {n : Nat} (hk : gridOk C P n = true) (h : ∀ i j, i ≤ n → j ≤ n → pairOk C P m n i j) : rateOk C P m n = true := by
  refine (rate_all C P m n).2 fun i j hi hj => ?_
  unfold stepOk
  rw [(gridOk_all C P n).1 hk i j hi hj, Bool.true_and, Bool.and_eq_true]
  constructor
  · rcases Nat.eq_zero_or_pos i with rfl | h0
    · rfl
    · have h1 := (h (i - 1) j (by omega) hj).1 (by omega)
      rw [near_comm, show ((i - 1 + 1 : Nat) : Int) = (i : Int) by omega, show ((i - 1 : Nat) : Int) = (i : Int) - 1 by omega] at h1
      rw [h1, Bool.or_true]
  · rcases Nat.eq_zero_or_pos j with rfl | h0
    · rfl
    · have h1 := (h i (j - 1) hi (by omega)).2 (by omega)
      rw [near_comm, show ((j - 1 + 1 : Nat) : Int) = (j : Int) by omega, show ((j - 1 : Nat) : Int) = (j : Int) - 1 by omega] at h1
      rw [h1, Bool.or_true]
theorem rate_noGrid {C : CV} {P : PV} {m : Int} {n : Nat} (hk : gridOk C P n = false) : rateOk C P m n = false := by
  rcases e : rateOk C P m n with _ | _
  · rfl
  · have : gridOk C P n = true := (gridOk_all C P n).2 fun i j hi hj => by
      have := (rate_all C P m n).1 e i j hi hj
      unfold stepOk at this
      rw [Bool.and_eq_true] at this
      exact this.1
    rw [this] at hk; cases hk
theorem rate_noRight {C : CV} {P : PV} {m : Int} {n i j : Nat} (hi : i < n) (hj : j ≤ n) (h : near m (gV C P 0 0 n i j) (gV C P 0 0 n ((i + 1 : Nat) : Int) j) = false) : rateOk C P m n = false := by
  refine went_not C P m n (i + 1) j (by omega) hj ?_
  unfold stepOk
  rw [near_comm, show ((i + 1 : Nat) : Int) - 1 = (i : Int) by omega, h, Bool.or_false, show (i + 1 == 0) = false from beq_false_of_ne (by omega), Bool.false_and, Bool.and_false]
theorem rate_noBelow {C : CV} {P : PV} {m : Int} {n i j : Nat} (hi : i ≤ n) (hj : j < n) (h : near m (gV C P 0 0 n i j) (gV C P 0 0 n i ((j + 1 : Nat) : Int)) = false) : rateOk C P m n = false := by
  refine went_not C P m n i (j + 1) hi (by omega) ?_
  unfold stepOk
  rw [show ((j + 1 : Nat) : Int) - 1 = (j : Int) by omega, near_comm m _ (gV C P 0 0 n i j), h, Bool.or_false, show (j + 1 == 0) = false from beq_false_of_ne (by omega), Bool.and_false, Bool.and_false]

set_option maxRecDepth 100000 in
set_option maxHeartbeats 16000000 in
theorem l10Grid_any (C : CV) (P : PV) (n : Nat) (hn : n ≤ 8) (w : World) :
    Calls Try.prog 47 #[C.v, P.v, .int .i64 (n : Int)] w (GridOut C P n w) := by
  have HT : Held w ((w.alloc (.cells #[.int .i64 C.a, .int .i64 C.b, .int .i64 C.c, .int .i64 C.d, .bool C.e, .int .i64 C.f, .int .i64 C.g] 24)).alloc (.cells #[.int .i64 P.p0, .int .i64 P.p1, .int .i64 P.p2, .int .i64 P.p3, .int .i64 P.p4, .int .i64 P.p5, .int .i64 P.p6, .int .i64 P.p7, .int .i64 P.p8, .int .i64 P.x, .int .i64 P.y, .int .i64 P.z] 30)) [(w.heap.size + 1, [.int .i64 P.p0, .int .i64 P.p1, .int .i64 P.p2, .int .i64 P.p3, .int .i64 P.p4, .int .i64 P.p5, .int .i64 P.p6, .int .i64 P.p7, .int .i64 P.p8, .int .i64 P.x, .int .i64 P.y, .int .i64 P.z]), (w.heap.size, [.int .i64 C.a, .int .i64 C.b, .int .i64 C.c, .int .i64 C.d, .bool C.e, .int .i64 C.f, .int .i64 C.g])] := by
    have h := ((Held.nil w).new #[.int .i64 C.a, .int .i64 C.b, .int .i64 C.c, .int .i64 C.d, .bool C.e, .int .i64 C.f, .int .i64 C.g] 24).new #[.int .i64 P.p0, .int .i64 P.p1, .int .i64 P.p2, .int .i64 P.p3, .int .i64 P.p4, .int .i64 P.p5, .int .i64 P.p6, .int .i64 P.p7, .int .i64 P.p8, .int .i64 P.x, .int .i64 P.y, .int .i64 P.z] 30
    simpa only [World.size_alloc] using h
  have HO0 := own_row0 (size := 1) (w.alloc (.cells #[.int .i64 C.a, .int .i64 C.b, .int .i64 C.c, .int .i64 C.d, .bool C.e, .int .i64 C.f, .int .i64 C.g] 24) |>.alloc (.cells #[.int .i64 P.p0, .int .i64 P.p1, .int .i64 P.p2, .int .i64 P.p3, .int .i64 P.p4, .int .i64 P.p5, .int .i64 P.p6, .int .i64 P.p7, .int .i64 P.p8, .int .i64 P.x, .int .i64 P.y, .int .i64 P.z] 30)) 81
  have HT0 := HT.alloc (.cells #[] 81)
  simp only [World.size_alloc] at HO0
  have HG0 : Hid (GridAt C P n (w.heap.size + 2) _ _ 0) := Lib.hid ⟨[], rfl, HO0, fun r hv e => by simp at e⟩
  have HT0 := Lib.hid HT0
  have HN := Lib.hid hn
  clear HT HO0 hn
  go_enter Try.func47, Try.ntmps47
  go_wp2_with fail
  go_loopw [8, 9] (fun s i wr => ∃ j : Nat, j ≤ n + 1 ∧ i = .int .i64 j ∧ GridAt C P n (w.heap.size + 2) wr s j ∧ (∀ r, r < j → ∀ i, i ≤ n → gK C P 0 0 n ((i : Nat) : Int) ((r : Nat) : Int) = true) ∧ Held w wr [(w.heap.size + 1, [.int .i64 P.p0, .int .i64 P.p1, .int .i64 P.p2, .int .i64 P.p3, .int .i64 P.p4, .int .i64 P.p5, .int .i64 P.p6, .int .i64 P.p7, .int .i64 P.p8, .int .i64 P.x, .int .i64 P.y, .int .i64 P.z]), (w.heap.size, [.int .i64 C.a, .int .i64 C.b, .int .i64 C.c, .int .i64 C.d, .bool C.e, .int .i64 C.f, .int .i64 C.g])]) (fun _ i _ => n + 1 - (intOf i).toNat)
  case atStart => exact ⟨0, Nat.zero_le _, rfl, HG0.out, fun r h => absurd h (Nat.not_lt_zero _), HT0.out⟩
  case round =>
    obtain ⟨j, hj, rfl, hgr, hks, HT⟩ := hrel
    clear HG0 HT0
    have HGR := Lib.hid hgr
    have HKS := Lib.hid hks
    clear hgr hks
    by_cases hjn : j < n + 1
    · have hjn' : (j : Int) ≤ (n : Int) := by omega
      have HJN := Lib.hid hjn
      obtain ⟨W1, rfl⟩ : ∃ X, X = wr := ⟨_, rfl⟩
      have hbx : w.heap.size + 2 ≤ W1.heap.size := (HT.box 0).lt
      have HBX := Lib.hid hbx
      have HO0 := Lib.hid (own_row0 (size := 3) W1 27)
      have HT1 := Lib.hid (HT.alloc (.cells #[] 27))
      have HL1 := Lib.hid ((Held.nil W1).alloc (.cells #[] 27))
      have HTB := Lib.hid HT
      clear HT hbx hj
      go_wp2_with fail
      go_loopw [10, 11] (fun s i wr => ∃ k : Nat, k ≤ n + 1 ∧ i = .int .i64 k ∧ wr.ownsRow W1.heap.size 27 3 s k ((rowL C P n j k).flatMap vg) ∧ (∀ i, i < k → gK C P 0 0 n ((i : Nat) : Int) ((j : Nat) : Int) = true) ∧ Held w wr [(w.heap.size + 1, [.int .i64 P.p0, .int .i64 P.p1, .int .i64 P.p2, .int .i64 P.p3, .int .i64 P.p4, .int .i64 P.p5, .int .i64 P.p6, .int .i64 P.p7, .int .i64 P.p8, .int .i64 P.x, .int .i64 P.y, .int .i64 P.z]), (w.heap.size, [.int .i64 C.a, .int .i64 C.b, .int .i64 C.c, .int .i64 C.d, .bool C.e, .int .i64 C.f, .int .i64 C.g])] ∧ Held W1 wr []) (fun _ i _ => n + 1 - (intOf i).toNat)
      case atStart => exact ⟨0, Nat.zero_le _, rfl, HO0.out, fun i h => absurd h (Nat.not_lt_zero _), HT1.out, HL1.out⟩
      case round =>
        obtain ⟨k, hk, rfl, hown, hkk, HT, HL⟩ := hrel
        clear HO0 HT1 HL1
        have HO := Lib.hid hown
        have HKR := Lib.hid hkk
        have HL := Lib.hid HL
        clear hown hkk
        by_cases hkn : k < n + 1
        · have hkn' : (k : Int) ≤ (n : Int) := by omega
          have HKN := Lib.hid hkn
          obtain ⟨pt, HPT⟩ : ∃ pt, pt = P.at (k : Int) (j : Int) n := ⟨_, rfl⟩
          have HE : Hid (∀ w, Calls Try.prog 51 #[P.v, .int .i64 (k : Int), .int .i64 (j : Int), .int .i64 (n : Int)] w (VecIs pt w)) := Lib.hid (fun w => by rw [HPT]; exact sEvalP P _ _ n w)
          obtain ⟨kk, ekk⟩ : ∃ b, b = gK C P 0 0 n (k : Int) (j : Int) := ⟨_, rfl⟩
          obtain ⟨zz, ezz⟩ : ∃ z, z = zV kk (gV C P 0 0 n (k : Int) (j : Int)) := ⟨_, rfl⟩
          have HJ : Hid (∀ w, Calls Try.prog 50 #[C.v, v3v pt, .int .i64 0, .int .i64 0] w (SeenIs kk zz w)) := Lib.hid (fun w => by rw [ezz, ekk, HPT]; exact sProjC C _ 0 0 w)
          have HKK := Lib.hid ekk
          have HZZ := Lib.hid ezz
          have HQ : Held wr wr [(w.heap.size + 1, [.int .i64 P.p0, .int .i64 P.p1, .int .i64 P.p2, .int .i64 P.p3, .int .i64 P.p4, .int .i64 P.p5, .int .i64 P.p6, .int .i64 P.p7, .int .i64 P.p8, .int .i64 P.x, .int .i64 P.y, .int .i64 P.z]), (w.heap.size, [.int .i64 C.a, .int .i64 C.b, .int .i64 C.c, .int .i64 C.d, .bool C.e, .int .i64 C.f, .int .i64 C.g])] := ⟨Below.refl _ _, HT.2⟩
          have HTT := Lib.hid HT
          clear HPT ekk ezz HT hkn hk hjn
          go_upto_region 9 with fail
          have HC : ∀ W, Held wr W [(w.heap.size + 1, [.int .i64 P.p0, .int .i64 P.p1, .int .i64 P.p2, .int .i64 P.p3, .int .i64 P.p4, .int .i64 P.p5, .int .i64 P.p6, .int .i64 P.p7, .int .i64 P.p8, .int .i64 P.x, .int .i64 P.y, .int .i64 P.z]), (w.heap.size, [.int .i64 C.a, .int .i64 C.b, .int .i64 C.c, .int .i64 C.d, .bool C.e, .int .i64 C.f, .int .i64 C.g])] → (W.cell? ⟨w.heap.size, 0, none⟩ = some (.int .i64 C.a) ∧ W.cell? ⟨w.heap.size, 1, none⟩ = some (.int .i64 C.b) ∧ W.cell? ⟨w.heap.size, 2, none⟩ = some (.int .i64 C.c) ∧ W.cell? ⟨w.heap.size, 3, none⟩ = some (.int .i64 C.d) ∧ W.cell? ⟨w.heap.size, 4, none⟩ = some (.bool C.e) ∧ W.cell? ⟨w.heap.size, 5, none⟩ = some (.int .i64 C.f) ∧ W.cell? ⟨w.heap.size, 6, none⟩ = some (.int .i64 C.g) ∧ W.cell? ⟨w.heap.size + 1, 0, none⟩ = some (.int .i64 P.p0) ∧ W.cell? ⟨w.heap.size + 1, 1, none⟩ = some (.int .i64 P.p1) ∧ W.cell? ⟨w.heap.size + 1, 2, none⟩ = some (.int .i64 P.p2) ∧ W.cell? ⟨w.heap.size + 1, 3, none⟩ = some (.int .i64 P.p3) ∧ W.cell? ⟨w.heap.size + 1, 4, none⟩ = some (.int .i64 P.p4) ∧ W.cell? ⟨w.heap.size + 1, 5, none⟩ = some (.int .i64 P.p5) ∧ W.cell? ⟨w.heap.size + 1, 6, none⟩ = some (.int .i64 P.p6) ∧ W.cell? ⟨w.heap.size + 1, 7, none⟩ = some (.int .i64 P.p7) ∧ W.cell? ⟨w.heap.size + 1, 8, none⟩ = some (.int .i64 P.p8) ∧ W.cell? ⟨w.heap.size + 1, 9, none⟩ = some (.int .i64 P.x) ∧ W.cell? ⟨w.heap.size + 1, 10, none⟩ = some (.int .i64 P.y) ∧ W.cell? ⟨w.heap.size + 1, 11, none⟩ = some (.int .i64 P.z)) := fun W h => ⟨(h.box 1).c 0, (h.box 1).c 1, (h.box 1).c 2, (h.box 1).c 3, (h.box 1).c 4, (h.box 1).c 5, (h.box 1).c 6, (h.box 0).c 0, (h.box 0).c 1, (h.box 0).c 2, (h.box 0).c 3, (h.box 0).c 4, (h.box 0).c 5, (h.box 0).c 6, (h.box 0).c 7, (h.box 0).c 8, (h.box 0).c 9, (h.box 0).c 10, (h.box 0).c 11⟩
          have hz0 := (HQ.box 0).lt
          have hz1 := (HQ.box 1).lt
          go_cut [12, 13] from 21 to 41 (fun s x wx => ∃ gg : Nat, s = .pointer (some ⟨gg, 0, none⟩) ∧ x = .bool kk ∧ Mbox wx gg [.int .i64 zz.1, .int .i64 zz.2.1, .int .i64 zz.2.2] ∧ Below wr.heap.size wr wx)
          case first =>
            go_region_held3 (fun w' => w'.cell? ⟨w.heap.size, 0, none⟩ = some (.int .i64 C.a) ∧ w'.cell? ⟨w.heap.size, 1, none⟩ = some (.int .i64 C.b) ∧ w'.cell? ⟨w.heap.size, 2, none⟩ = some (.int .i64 C.c) ∧ w'.cell? ⟨w.heap.size, 3, none⟩ = some (.int .i64 C.d) ∧ w'.cell? ⟨w.heap.size, 4, none⟩ = some (.bool C.e) ∧ w'.cell? ⟨w.heap.size, 5, none⟩ = some (.int .i64 C.f) ∧ w'.cell? ⟨w.heap.size, 6, none⟩ = some (.int .i64 C.g) ∧ w'.cell? ⟨w.heap.size + 1, 0, none⟩ = some (.int .i64 P.p0) ∧ w'.cell? ⟨w.heap.size + 1, 1, none⟩ = some (.int .i64 P.p1) ∧ w'.cell? ⟨w.heap.size + 1, 2, none⟩ = some (.int .i64 P.p2) ∧ w'.cell? ⟨w.heap.size + 1, 3, none⟩ = some (.int .i64 P.p3) ∧ w'.cell? ⟨w.heap.size + 1, 4, none⟩ = some (.int .i64 P.p4) ∧ w'.cell? ⟨w.heap.size + 1, 5, none⟩ = some (.int .i64 P.p5) ∧ w'.cell? ⟨w.heap.size + 1, 6, none⟩ = some (.int .i64 P.p6) ∧ w'.cell? ⟨w.heap.size + 1, 7, none⟩ = some (.int .i64 P.p7) ∧ w'.cell? ⟨w.heap.size + 1, 8, none⟩ = some (.int .i64 P.p8) ∧ w'.cell? ⟨w.heap.size + 1, 9, none⟩ = some (.int .i64 P.x) ∧ w'.cell? ⟨w.heap.size + 1, 10, none⟩ = some (.int .i64 P.y) ∧ w'.cell? ⟨w.heap.size + 1, 11, none⟩ = some (.int .i64 P.z))
              (first | (with_reducible exact HC _ HQ) | (with_reducible exact HC _ HQ.drew) | (with_reducible exact HC _ (HQ.alloc _)) | (with_reducible exact HC _ (HQ.alloc _).drew) | (with_reducible exact HC _ (HQ.far3 (by omega) (by simp <;> omega) _ _ _)) | (with_reducible exact HC _ (HQ.far3 (by omega) (by simp <;> omega) _ _ _).drew))
              (first | (go_at_call 51; (with_reducible refine (HE.out _).mono ?_); rintro e w1 ⟨rfl, hb1⟩; (first | (have HQ := HQ.later hb1) | (have HQ := HQ.drew.later hb1) | (have HQ := (HQ.alloc _).later hb1) | (have HQ := (HQ.alloc _).drew.later hb1)); have hz0 := (HQ.box 0).lt; have hz1 := (HQ.box 1).lt; have hzs := HQ.size; (first | (have HG := (Mbox.newV _ (.int .i64 0) (.int .i64 0) (.int .i64 0) 27).later hb1) | (have HG := (Mbox.newV _ (.int .i64 0) (.int .i64 0) (.int .i64 0) 27).drew.later hb1) | (have HG := HG.later hb1) | skip); (try simp only [World.size_alloc] at HG); (try (have hg0 := HG.c 0; have gg0 := HG.f 0; have hg1 := HG.c 1; have gg1 := HG.f 1; have hg2 := HG.c 2; have gg2 := HG.f 2))) | (go_at_call 50; (with_reducible refine (HJ.out _).mono ?_); rintro e w1 ⟨rfl, hb1⟩; (first | (have HQ := HQ.later hb1) | (have HQ := HQ.drew.later hb1) | (have HQ := (HQ.alloc _).later hb1) | (have HQ := (HQ.alloc _).drew.later hb1)); have hz0 := (HQ.box 0).lt; have hz1 := (HQ.box 1).lt; have hzs := HQ.size; (first | (have HG := (Mbox.newV _ (.int .i64 0) (.int .i64 0) (.int .i64 0) 27).later hb1) | (have HG := (Mbox.newV _ (.int .i64 0) (.int .i64 0) (.int .i64 0) 27).drew.later hb1) | (have HG := HG.later hb1) | skip); (try simp only [World.size_alloc] at HG); (try (have hg0 := HG.c 0; have gg0 := HG.f 0; have hg1 := HG.c 1; have gg1 := HG.f 1; have hg2 := HG.c 2; have gg2 := HG.f 2))))
            all_goals (go_wp2_with fail; go_meet)
            all_goals (first | with_reducible exact ⟨_, rfl, rfl, Mbox.newV _ _ _ _ _, (HQ.alloc _).below⟩ | with_reducible exact ⟨_, rfl, rfl, HG.putV _ _ _, (HQ.far3 (by omega) (by simp <;> omega) _ _ _).below⟩)
          case rest =>
            clear HC HQ hz0 hz1
            obtain ⟨gg, rfl, rfl, HV, hbw⟩ := hcut
            have HT := HTT.out.later hbw
            have HO := Lib.hid (own_keep' HO.out hbw)
            have HL := Lib.hid (HL.out.later hbw)
            clear HTT hbw HE HJ
            have n0 := HV.c 0
            have n1 := HV.c 1
            have n2 := HV.c 2
            rcases kk with _ | _
            · have HNO : Hid (gridOk C P n = false) := Lib.hid (gridOk_not (Nat.le_of_lt_succ HKN.out) (Nat.le_of_lt_succ HJN.out) HKK.out.symm)
              go_wp2_with fail
              go_ret2
              exact ⟨_, by rw [HNO.out]; rfl, fun e => (by rw [HNO.out] at e; cases e), HT.below⟩
            · have HB1 := Lib.hid (HL.out.size)
              have hn8 := HN.out
              have hk4 := HKN.out
              go_wp2_with (at_builtin; refine wpList_app3 _ rfl _ _ 81 rfl W1.heap.size 27 (vec 0 0 0) 24 Try.underlying81 infoVec rfl _ _ _ (by rfl) HO.out _ _ _ (by rfl) ⟨by rfl, by rfl, by rfl⟩ (by unfold maxLen; omega) (by omega) HB1.out ?_)
              intro v' w4 ho4 hg4
              have HB4 := (Below.refl W1.heap.size _).grown hg4 HB1.out (own_block HO.out)
              have HT4 := Lib.hid (HT.laterS HB4 (Nat.le_trans (by omega) HBX.out) (by intro p hp; simp only [List.mem_cons, List.not_mem_nil, or_false] at hp; have := HBX.out; rcases hp with rfl | rfl <;> (show _ < _) <;> omega))
              have HL4 := Lib.hid (HL.out.laterS HB4 (Nat.le_refl _) (by simp))
              have HO4 : Hid (w4.ownsRow W1.heap.size 27 3 v' (k + 1) ((rowL C P n j (k + 1)).flatMap vg)) := Lib.hid (by
                rw [rowL_step, List.flatMap_append, ← zV_true (gV C P 0 0 n k j), ← HZZ.out]
                exact ho4)
              clear ho4 hg4 HB4 HT n0 n1 n2 HV HO HL
              go_wp2_with fail
              go_roundw
              case rel => exact ⟨k + 1, by omega, by go_num, HO4.out, fun i h => by
                by_cases e : i < k
                · exact HKR.out i e
                · obtain rfl : i = k := by omega
                  exact HKK.out.symm, HT4.out, HL4.out⟩
              case measure => have := HKN.out; simp [intOf]; omega
        · obtain rfl : k = n + 1 := by omega
          have hkn' : ¬ (((n + 1 : Nat) : Int) ≤ (n : Int)) := by omega
          obtain ⟨A1, c1, e1⟩ := own_shape HO.out
          subst e1
          have HGL := Lib.hid (HGR.out.later HL.out.below)
          obtain ⟨hs, hl, ho, hr⟩ := HGL.out
          have HOH := Lib.hid ho
          have HRR := Lib.hid hr
          have HLN := Lib.hid hl
          have HRW := Lib.hid (own_base HO.out HBX.out)
          have HBW := Lib.hid (Nat.le_trans HBX.out HL.out.size)
          have hn8 := HN.out
          have hj8 := HJN.out
          clear ho hr hl hk
          go_wp2_with (at_builtin; refine wpList_appR _ rfl _ _ 86 rfl (w.heap.size + 2) 81 (.slice none 0 0) 24 Try.underlying86 infoRow rfl _ _ _ (by rfl) HOH.out _ (by rfl) (by rfl) (by unfold maxLen; omega) (by omega) HBW.out ?_)
          intro v' w4 ho4 hg4
          have HG4 := Lib.hid (GridAt.push HLN.out HOH.out HRR.out HRW.out hg4 ho4)
          have HB4 := (Below.refl (w.heap.size + 2) _).grown hg4 HBW.out (own_block HOH.out)
          have HT4 := Lib.hid (HT.laterS HB4 (by omega) (by simp <;> omega))
          clear ho4 hg4 HB4 HT HGL HOH HRR HRW
          go_wp2_with fail
          go_roundw
          case rel => exact ⟨j + 1, by omega, by go_num, HG4.out, fun r h i hi => by
            by_cases e : r < j
            · exact HKS.out r e i hi
            · obtain rfl : r = j := by omega
              exact HKR.out i (by omega), HT4.out⟩
          case measure => simp [intOf]; omega
    · obtain rfl : j = n + 1 := by omega
      have hjn' : ¬ (((n + 1 : Nat) : Int) ≤ (n : Int)) := by omega
      have HYES : Hid (gridOk C P n = true) := Lib.hid ((gridOk_all C P n).2 fun i r hi hr => HKS.out r (by omega) i hi)
      clear hj hjn
      go_wp2_with fail
      go_ret2
      exact ⟨_, by rw [HYES.out]; rfl, fun _ => HGR.out.base (by omega), HT.below⟩
/-- all rates below n have been refused -/
def BadB (C : CV) (P : PV) (m : Int) (n : Nat) : Prop := (1 < n → rateOk C P m 1 = false) ∧ (2 < n → rateOk C P m 2 = false) ∧ (4 < n → rateOk C P m 4 = false)
theorem badB_next {C : CV} {P : PV} {m : Int} {n : Nat} (hn : n = 1 ∨ n = 2 ∨ n = 4) (h : BadB C P m n) (hno : rateOk C P m n = false) : BadB C P m (n * 2) := by
  obtain ⟨h1, h2, h4⟩ := h
  rcases hn with rfl | rfl | rfl
  · exact ⟨fun _ => hno, fun h => by omega, fun h => by omega⟩
  · exact ⟨fun _ => h1 (by omega), fun _ => hno, fun h => by omega⟩
  · exact ⟨fun _ => h1 (by omega), fun _ => h2 (by omega), fun _ => hno⟩
theorem rateB_found {C : CV} {P : PV} {m : Int} {n : Nat} (hi : rateIn C P m = true) (hn : n = 1 ∨ n = 2 ∨ n = 4) (h : BadB C P m n) (hyes : rateOk C P m n = true) : rateA C P m = n := by
  obtain ⟨h1, h2, h4⟩ := h
  unfold rateA rateV
  rw [if_pos hi]
  rcases hn with rfl | rfl | rfl
  · rw [if_pos hyes]; rfl
  · rw [if_neg (by rw [h1 (by omega)]; simp), if_pos hyes]; rfl
  · rw [if_neg (by rw [h1 (by omega)]; simp), if_neg (by rw [h2 (by omega)]; simp), if_pos hyes]; rfl
theorem rateB_none {C : CV} {P : PV} {m : Int} (hi : rateIn C P m = true) (h : BadB C P m 8) : rateA C P m = 8 := by
  obtain ⟨h1, h2, h4⟩ := h
  unfold rateA rateV
  rw [if_pos hi, if_neg (by rw [h1 (by omega)]; simp), if_neg (by rw [h2 (by omega)]; simp), if_neg (by rw [h4 (by omega)]; simp)]

theorem own_ptG {w : World} {base : Nat} {e : TypeId} {g n cap : Nat} {xs : List V3} (h : w.ownsRow base e 3 (.slice (some ⟨g, 0, none⟩) n cap) n (xs.flatMap vg)) {k : Nat} {v : V3} (hv : xs[k]? = some v) (hn : xs.length = n) :
    w.cell? ⟨g, k * 3, none⟩ = some (.int .i64 v.1) ∧ w.cell? ⟨g, k * 3 + 1, none⟩ = some (.int .i64 v.2.1) ∧ w.cell? ⟨g, k * 3 + 2, none⟩ = some (.int .i64 v.2.2) := by
  obtain ⟨hk, rfl⟩ := List.getElem?_eq_some_iff.1 hv
  have h0 := h.cellAt (k * 3) (by omega)
  have h1 := h.cellAt (k * 3 + 1) (by omega)
  have h2 := h.cellAt (k * 3 + 2) (by omega)
  rw [← Nat.add_zero (k * 3), flat_get vg_len xs k 0 hk (by omega)] at h0
  rw [flat_get vg_len xs k 1 hk (by omega)] at h1
  rw [flat_get vg_len xs k 2 hk (by omega)] at h2
  exact ⟨h0, h1, h2⟩
theorem own_someG {w : World} {base : Nat} {e : TypeId} {size n : Nat} {v : Value} {xs : List Value} (h : w.ownsRow base e size v n xs) (hn : 0 < n) : ∃ g cap, v = .slice (some ⟨g, 0, none⟩) n cap := by
  rcases h.2 with ⟨_, h0⟩ | ⟨g, cap, cur, h, _⟩
  · omega
  · exact ⟨g, cap, h⟩
/-- a whole grid, read -/
theorem GridAt.read {C : CV} {P : PV} {n B s : Nat} {W : World} {out : Value} (h : GridAt C P n B W out (n + 1)) (hs : s = n + 1) :
    ∃ G cap, out = .slice (some ⟨G, 0, none⟩) s cap ∧ ∀ j, j ≤ n → ∃ g c, W.cell? ⟨G, j, none⟩ = some (.slice (some ⟨g, 0, none⟩) s c) ∧ ∀ i : Nat, i ≤ n → W.cell? ⟨g, i * 3, none⟩ = some (.int .i64 (gV C P 0 0 n i j).1) ∧ W.cell? ⟨g, i * 3 + 1, none⟩ = some (.int .i64 (gV C P 0 0 n i j).2.1) ∧ W.cell? ⟨g, i * 3 + 2, none⟩ = some (.int .i64 (gV C P 0 0 n i j).2.2) := by
  subst hs
  obtain ⟨hs, hl, ho, hr⟩ := h
  obtain ⟨G, cap, rfl⟩ := own_someG ho (by omega)
  refine ⟨G, cap, rfl, fun j hj => ?_⟩
  have hjl : j < hs.length := by omega
  have e := List.getElem?_eq_getElem hjl
  have hrow := hr j _ e
  obtain ⟨g, c, hv⟩ := own_someG hrow (by omega)
  have hc := ho.cellAt j (by omega)
  rw [e, hv] at hc
  rw [hv] at hrow
  exact ⟨g, c, hc, fun i hi => own_ptG hrow (rowL_at C P n j (n + 1) i (by omega)) (rowL_len ..)⟩
def GridIs (k : Bool) (C : CV) (P : PV) (n : Nat) (w : World) (e : Ending) (w' : World) : Prop :=
  ∃ out, e = .returned (.tuple #[out, .bool k]) ∧ (k = true → GridAt C P n w.heap.size w' out (n + 1)) ∧ Below w.heap.size w w'
theorem sValidC (C : CV) (w : World) : Calls Try.prog 44 #[C.v] w (BoolIs C.ok w) := sIsValidCamera_any C.a C.b C.c C.d C.e C.f C.g w
theorem sValidP (P : PV) (w : World) : Calls Try.prog 45 #[P.v] w (BOut P.ok w) := sIsValidPatch_any P.p0 P.p1 P.p2 P.p3 P.p4 P.p5 P.p6 P.p7 P.p8 P.x P.y P.z w

set_option maxHeartbeats 4000000 in
theorem sDiceRate_bad (C : CV) (P : PV) (m : Int) (w : World) (hk : rateIn C P m = false) :
    Calls Try.prog 16 #[C.v, P.v, .int .i64 m] w (fun e w' => e = .returned (.int .i64 (rateA C P m)) ∧ Below w.heap.size w w') := by
  have HT : Held w ((w.alloc (.cells #[.int .i64 C.a, .int .i64 C.b, .int .i64 C.c, .int .i64 C.d, .bool C.e, .int .i64 C.f, .int .i64 C.g] 24)).alloc (.cells #[.int .i64 P.p0, .int .i64 P.p1, .int .i64 P.p2, .int .i64 P.p3, .int .i64 P.p4, .int .i64 P.p5, .int .i64 P.p6, .int .i64 P.p7, .int .i64 P.p8, .int .i64 P.x, .int .i64 P.y, .int .i64 P.z] 30)) [(w.heap.size + 1, [.int .i64 P.p0, .int .i64 P.p1, .int .i64 P.p2, .int .i64 P.p3, .int .i64 P.p4, .int .i64 P.p5, .int .i64 P.p6, .int .i64 P.p7, .int .i64 P.p8, .int .i64 P.x, .int .i64 P.y, .int .i64 P.z]), (w.heap.size, [.int .i64 C.a, .int .i64 C.b, .int .i64 C.c, .int .i64 C.d, .bool C.e, .int .i64 C.f, .int .i64 C.g])] := by
    have h := ((Held.nil w).new #[.int .i64 C.a, .int .i64 C.b, .int .i64 C.c, .int .i64 C.d, .bool C.e, .int .i64 C.f, .int .i64 C.g] 24).new #[.int .i64 P.p0, .int .i64 P.p1, .int .i64 P.p2, .int .i64 P.p3, .int .i64 P.p4, .int .i64 P.p5, .int .i64 P.p6, .int .i64 P.p7, .int .i64 P.p8, .int .i64 P.x, .int .i64 P.y, .int .i64 P.z] 30
    simpa only [World.size_alloc] using h
  rcases h0 : C.ok with _ | _
  · skip
    have HE : Hid (rateA C P m = 0) := Lib.hid (by unfold rateA rateIn; rw [h0] <;> rfl)
    go_enter Try.func16, Try.ntmps16
    go_wp2_with (first | (go_at_call 44; refine (sValidC _ _).mono ?_; rintro e w1 ⟨rfl, hb1⟩; have HT := HT.later hb1; clear hb1; rw [h0]; have b0 := (HT.box 0).c 0; have b1 := (HT.box 0).c 1; have b2 := (HT.box 0).c 2; have b3 := (HT.box 0).c 3; have b4 := (HT.box 0).c 4; have b5 := (HT.box 0).c 5; have b6 := (HT.box 0).c 6; have b7 := (HT.box 0).c 7; have b8 := (HT.box 0).c 8; have b9 := (HT.box 0).c 9; have b10 := (HT.box 0).c 10; have b11 := (HT.box 0).c 11) | (go_at_call 45; refine (sValidP _ _).mono ?_; rintro e w1 ⟨rfl, hb1⟩; have HT := HT.later hb1; clear hb1; rw [h1]) | (go_at_call 46; refine (l01In_any _ _ _ _).mono ?_; rintro x w' ⟨rfl, rfl⟩; (try simp only [h2])))
    go_ret
    rw [HE.out]
    exact ⟨rfl, HT.below⟩
  rcases h1 : P.ok with _ | _
  · skip
    have HE : Hid (rateA C P m = 0) := Lib.hid (by unfold rateA rateIn; rw [h0, h1] <;> rfl)
    go_enter Try.func16, Try.ntmps16
    go_wp2_with (first | (go_at_call 44; refine (sValidC _ _).mono ?_; rintro e w1 ⟨rfl, hb1⟩; have HT := HT.later hb1; clear hb1; rw [h0]; have b0 := (HT.box 0).c 0; have b1 := (HT.box 0).c 1; have b2 := (HT.box 0).c 2; have b3 := (HT.box 0).c 3; have b4 := (HT.box 0).c 4; have b5 := (HT.box 0).c 5; have b6 := (HT.box 0).c 6; have b7 := (HT.box 0).c 7; have b8 := (HT.box 0).c 8; have b9 := (HT.box 0).c 9; have b10 := (HT.box 0).c 10; have b11 := (HT.box 0).c 11) | (go_at_call 45; refine (sValidP _ _).mono ?_; rintro e w1 ⟨rfl, hb1⟩; have HT := HT.later hb1; clear hb1; rw [h1]) | (go_at_call 46; refine (l01In_any _ _ _ _).mono ?_; rintro x w' ⟨rfl, rfl⟩; (try simp only [h2])))
    go_ret
    rw [HE.out]
    exact ⟨rfl, HT.below⟩
  rcases h2 : inC 1 1000 m with _ | _
  · skip
    have HE : Hid (rateA C P m = 0) := Lib.hid (by unfold rateA rateIn; rw [h0, h1, h2] <;> rfl)
    go_enter Try.func16, Try.ntmps16
    go_wp2_with (first | (go_at_call 44; refine (sValidC _ _).mono ?_; rintro e w1 ⟨rfl, hb1⟩; have HT := HT.later hb1; clear hb1; rw [h0]; have b0 := (HT.box 0).c 0; have b1 := (HT.box 0).c 1; have b2 := (HT.box 0).c 2; have b3 := (HT.box 0).c 3; have b4 := (HT.box 0).c 4; have b5 := (HT.box 0).c 5; have b6 := (HT.box 0).c 6; have b7 := (HT.box 0).c 7; have b8 := (HT.box 0).c 8; have b9 := (HT.box 0).c 9; have b10 := (HT.box 0).c 10; have b11 := (HT.box 0).c 11) | (go_at_call 45; refine (sValidP _ _).mono ?_; rintro e w1 ⟨rfl, hb1⟩; have HT := HT.later hb1; clear hb1; rw [h1]) | (go_at_call 46; refine (l01In_any _ _ _ _).mono ?_; rintro x w' ⟨rfl, rfl⟩; (try simp only [h2])))
    go_ret
    rw [HE.out]
    exact ⟨rfl, HT.below⟩
  unfold rateIn at hk
  rw [h0, h1, h2] at hk
  cases hk

set_option maxRecDepth 100000 in
set_option maxHeartbeats 32000000 in
theorem sDiceRate_go (C : CV) (P : PV) (m : Int) (w : World) (hk : rateIn C P m = true) :
    Calls Try.prog 16 #[C.v, P.v, .int .i64 m] w (fun e w' => e = .returned (.int .i64 (rateA C P m)) ∧ Below w.heap.size w w') := by
  have HT : Held w ((w.alloc (.cells #[.int .i64 C.a, .int .i64 C.b, .int .i64 C.c, .int .i64 C.d, .bool C.e, .int .i64 C.f, .int .i64 C.g] 24)).alloc (.cells #[.int .i64 P.p0, .int .i64 P.p1, .int .i64 P.p2, .int .i64 P.p3, .int .i64 P.p4, .int .i64 P.p5, .int .i64 P.p6, .int .i64 P.p7, .int .i64 P.p8, .int .i64 P.x, .int .i64 P.y, .int .i64 P.z] 30)) [(w.heap.size + 1, [.int .i64 P.p0, .int .i64 P.p1, .int .i64 P.p2, .int .i64 P.p3, .int .i64 P.p4, .int .i64 P.p5, .int .i64 P.p6, .int .i64 P.p7, .int .i64 P.p8, .int .i64 P.x, .int .i64 P.y, .int .i64 P.z]), (w.heap.size, [.int .i64 C.a, .int .i64 C.b, .int .i64 C.c, .int .i64 C.d, .bool C.e, .int .i64 C.f, .int .i64 C.g])] := by
    have h := ((Held.nil w).new #[.int .i64 C.a, .int .i64 C.b, .int .i64 C.c, .int .i64 C.d, .bool C.e, .int .i64 C.f, .int .i64 C.g] 24).new #[.int .i64 P.p0, .int .i64 P.p1, .int .i64 P.p2, .int .i64 P.p3, .int .i64 P.p4, .int .i64 P.p5, .int .i64 P.p6, .int .i64 P.p7, .int .i64 P.p8, .int .i64 P.x, .int .i64 P.y, .int .i64 P.z] 30
    simpa only [World.size_alloc] using h
  have h0 : C.ok = true := by unfold rateIn at hk; simp only [Bool.and_eq_true] at hk; exact hk.1.1
  have h1 : P.ok = true := by unfold rateIn at hk; simp only [Bool.and_eq_true] at hk; exact hk.1.2
  have h2 : inC 1 1000 m = true := by unfold rateIn at hk; simp only [Bool.and_eq_true] at hk; exact hk.2
  have HRI := Lib.hid hk
  clear hk
  go_enter Try.func16, Try.ntmps16
  go_wp2_with (first | (go_at_call 44; refine (sValidC _ _).mono ?_; rintro e w1 ⟨rfl, hb1⟩; have HT := HT.later hb1; clear hb1; rw [h0]; have b0 := (HT.box 0).c 0; have b1 := (HT.box 0).c 1; have b2 := (HT.box 0).c 2; have b3 := (HT.box 0).c 3; have b4 := (HT.box 0).c 4; have b5 := (HT.box 0).c 5; have b6 := (HT.box 0).c 6; have b7 := (HT.box 0).c 7; have b8 := (HT.box 0).c 8; have b9 := (HT.box 0).c 9; have b10 := (HT.box 0).c 10; have b11 := (HT.box 0).c 11) | (go_at_call 45; refine (sValidP _ _).mono ?_; rintro e w1 ⟨rfl, hb1⟩; have HT := HT.later hb1; clear hb1; rw [h1]) | (go_at_call 46; refine (l01In_any _ _ _ _).mono ?_; rintro x w' ⟨rfl, rfl⟩; (try simp only [h2])))
  clear h0 h1 h2 b0 b1 b2 b3 b4 b5 b6 b7 b8 b9 b10 b11
  have HT0 := Lib.hid HT
  clear HT
  go_loopw [7] (fun nv wr => ∃ n : Nat, nv = .int .i64 n ∧ (n = 1 ∨ n = 2 ∨ n = 4 ∨ n = 8) ∧ BadB C P m n ∧ Held w wr [(w.heap.size + 1, [.int .i64 P.p0, .int .i64 P.p1, .int .i64 P.p2, .int .i64 P.p3, .int .i64 P.p4, .int .i64 P.p5, .int .i64 P.p6, .int .i64 P.p7, .int .i64 P.p8, .int .i64 P.x, .int .i64 P.y, .int .i64 P.z]), (w.heap.size, [.int .i64 C.a, .int .i64 C.b, .int .i64 C.c, .int .i64 C.d, .bool C.e, .int .i64 C.f, .int .i64 C.g])]) (fun nv _ => 16 - (intOf nv).toNat)
  case atStart => exact ⟨1, rfl, .inl rfl, ⟨fun h => absurd h (by omega), fun h => absurd h (by omega), fun h => absurd h (by omega)⟩, HT0.out⟩
  case round =>
    clear HT0
    obtain ⟨n, rfl, hn, hbad, HT⟩ := hrel
    by_cases h8 : n = 8
    · subst h8
      have HE : Hid (rateA C P m = 8) := Lib.hid (rateB_none HRI.out hbad)
      clear hbad hn
      go_wp2_with fail
      go_ret
      rw [HE.out]
      exact ⟨rfl, HT.below⟩
    · have hn4 : n = 1 ∨ n = 2 ∨ n = 4 := by omega
      have hn8 : (n : Int) < 8 := by omega
      have HN4 := Lib.hid hn4
      have HBAD := Lib.hid hbad
      have HNB : Hid (1 ≤ n ∧ n ≤ 4) := Lib.hid (by omega)
      obtain ⟨kk, ekk⟩ : ∃ b, b = gridOk C P n := ⟨_, rfl⟩
      have HD : Hid (∀ w, Calls Try.prog 47 #[C.v, P.v, .int .i64 (n : Int)] w (GridIs kk C P n w)) := Lib.hid (fun w => (l10Grid_any C P n (by have := HNB.out; omega) w).mono (by rintro e w' ⟨out, h1, h2, h3⟩; rw [ekk]; exact ⟨out, h1, h2, h3⟩))
      have HKK := Lib.hid ekk
      have b0_0 := (HT.box 1).c 0
      have b0_1 := (HT.box 1).c 1
      have b0_2 := (HT.box 1).c 2
      have b0_3 := (HT.box 1).c 3
      have b0_4 := (HT.box 1).c 4
      have b0_5 := (HT.box 1).c 5
      have b0_6 := (HT.box 1).c 6
      have b1_0 := (HT.box 0).c 0
      have b1_1 := (HT.box 0).c 1
      have b1_2 := (HT.box 0).c 2
      have b1_3 := (HT.box 0).c 3
      have b1_4 := (HT.box 0).c 4
      have b1_5 := (HT.box 0).c 5
      have b1_6 := (HT.box 0).c 6
      have b1_7 := (HT.box 0).c 7
      have b1_8 := (HT.box 0).c 8
      have b1_9 := (HT.box 0).c 9
      have b1_10 := (HT.box 0).c 10
      have b1_11 := (HT.box 0).c 11
      clear h8 hn hn4 hbad ekk
      go_wp2_with (go_at_call 47; (with_reducible refine (HD.out _).mono ?_); rintro e w1 ⟨out, rfl, hg, hb1⟩; have HT := HT.later hb1; have HG := Lib.hid hg; clear hb1 hg b0_0 b0_1 b0_2 b0_3 b0_4 b0_5 b0_6 b1_0 b1_1 b1_2 b1_3 b1_4 b1_5 b1_6 b1_7 b1_8 b1_9 b1_10 b1_11)
      have HT0 := Lib.hid HT
      clear HT HD
      go_loopw [9, 10] (fun b jv wr => ∃ (x : Bool) (j : Nat), b = .bool x ∧ jv = .int .i64 j ∧ j ≤ n + 1 ∧ (x = true → GridAt C P n 0 wr out (n + 1) ∧ gridOk C P n = true ∧ ∀ r, r < j → ∀ i, i ≤ n → pairOk C P m n i r) ∧ (x = false → rateOk C P m n = false) ∧ Held w wr [(w.heap.size + 1, [.int .i64 P.p0, .int .i64 P.p1, .int .i64 P.p2, .int .i64 P.p3, .int .i64 P.p4, .int .i64 P.p5, .int .i64 P.p6, .int .i64 P.p7, .int .i64 P.p8, .int .i64 P.x, .int .i64 P.y, .int .i64 P.z]), (w.heap.size, [.int .i64 C.a, .int .i64 C.b, .int .i64 C.c, .int .i64 C.d, .bool C.e, .int .i64 C.f, .int .i64 C.g])]) (fun _ j _ => n + 1 - (intOf j).toNat)
      case atStart => exact ⟨kk, 0, rfl, rfl, Nat.zero_le _, fun e => ⟨(HG.out e).base (Nat.zero_le _), HKK.out.symm.trans e, fun r h => absurd h (Nat.not_lt_zero _)⟩, fun e => rate_noGrid (HKK.out.symm.trans e), HT0.out⟩
      case round =>
        clear HT0 HG
        obtain ⟨x, j, rfl, rfl, hj, hyes, hno, HT⟩ := hrel
        by_cases hjn : j < n + 1
        · have hjn' : (j : Int) ≤ (n : Int) := by omega
          have HJN := Lib.hid hjn
          rcases x with _ | _
          · have HNX := Lib.hid (badB_next HN4.out HBAD.out (hno rfl))
            have hx2 : IntKind.i64.wrap (2 * (n : Int)) = ((n * 2 : Nat) : Int) := by rw [show 2 * (n : Int) = ((n * 2 : Nat) : Int) by omega]; exact wrap_in (by have := HNB.out; omega)
            clear hyes hno hj hjn
            go_wp2_with fail
            go_roundw
            case rel => exact ⟨n * 2, rfl, by have := HN4.out; omega, HNX.out, HT⟩
            case measure => have := HN4.out; simp [intOf]; omega
          · obtain ⟨hgr, hgk, hpr⟩ := hyes rfl
            have HGR0 := Lib.hid hgr
            have HGK := Lib.hid hgk
            have HPP := Lib.hid hpr
            have HT0 := Lib.hid HT
            clear hyes hno hj hjn hgr hgk hpr HT
            go_wp2_with fail
            go_loopw [9, 11] (fun b iv wr => ∃ (x : Bool) (i : Nat), b = .bool x ∧ iv = .int .i64 i ∧ i ≤ n + 1 ∧ GridAt C P n 0 wr out (n + 1) ∧ (x = true → ∀ i', i' < i → pairOk C P m n i' j) ∧ (x = false → rateOk C P m n = false) ∧ Held w wr [(w.heap.size + 1, [.int .i64 P.p0, .int .i64 P.p1, .int .i64 P.p2, .int .i64 P.p3, .int .i64 P.p4, .int .i64 P.p5, .int .i64 P.p6, .int .i64 P.p7, .int .i64 P.p8, .int .i64 P.x, .int .i64 P.y, .int .i64 P.z]), (w.heap.size, [.int .i64 C.a, .int .i64 C.b, .int .i64 C.c, .int .i64 C.d, .bool C.e, .int .i64 C.f, .int .i64 C.g])]) (fun _ i _ => n + 1 - (intOf i).toNat)
            case atStart => exact ⟨true, 0, rfl, rfl, Nat.zero_le _, HGR0.out, fun _ i' h => absurd h (Nat.not_lt_zero _), fun e => (by cases e), HT0.out⟩
            case round =>
              clear HT0 HGR0 hjn'
              obtain ⟨x, i, rfl, rfl, hi, hgr, hyes, hno, HT⟩ := hrel
              have HYES := Lib.hid hyes
              have HNO := Lib.hid hno
              have HGR := Lib.hid hgr
              have HTT := Lib.hid HT
              clear hyes hno HT
              by_cases hin : i < n + 1
              · have hin' : (i : Int) ≤ (n : Int) := by omega
                have HIN := Lib.hid hin
                clear hi hin
                go_upto_region 13 with fail
                clear hin'
                go_cut [94] from 44 to 94 (fun y wx => ∃ b : Bool, y = .bool b ∧ (b = false → pairOk C P m n i j) ∧ (b = true → rateOk C P m n = false) ∧ Below wr.heap.size wr wx)
                case first =>
                  obtain ⟨s, hs⟩ : ∃ x, x = n + 1 := ⟨_, rfl⟩
                  have HS := Lib.hid hs
                  obtain ⟨G, cap, rfl, hrow⟩ := hgr.read hs
                  obtain ⟨gj, cj, fj, hgi⟩ := hrow j (by have := HJN.out; omega)
                  have fv := hgi i (by have := HIN.out; omega)
                  obtain ⟨pv, epv⟩ : ∃ x, x = gV C P 0 0 n (i : Int) (j : Int) := ⟨_, rfl⟩
                  rw [← epv] at fv
                  have HPV := Lib.hid (show onS pv by rw [epv]; exact gV_on ..)
                  have HPVE := Lib.hid epv
                  have hi0 : (0 : Int) ≤ (i : Int) := by omega
                  have hj0 : (0 : Int) ≤ (j : Int) := by omega
                  have his : (i : Int) < (s : Int) := by have := HIN.out; omega
                  have hjs : (j : Int) < (s : Int) := by have := HJN.out; omega
                  clear hgr epv hs HTT HGR HYES HNO
                  by_cases hi : i < n
                  · have Hi := Lib.hid hi
                    obtain ⟨i1, hi1⟩ : ∃ x, x = i + 1 := ⟨_, rfl⟩
                    obtain ⟨pr, epr⟩ : ∃ x, x = gV C P 0 0 n (i1 : Int) (j : Int) := ⟨_, rfl⟩
                    have fr := hgi i1 (by omega)
                    rw [← epr] at fr
                    have HPR := Lib.hid (show onS pr by rw [epr]; exact gV_on ..)
                    have HPRE := Lib.hid epr
                    have HI1 := Lib.hid hi1
                    have ei1 : IntKind.i64.wrap ((i : Int) + 1) = (i1 : Int) := by rw [hi1, show ((i + 1 : Nat) : Int) = (i : Int) + 1 by omega]; exact wrap_in (by have := HNB.out; omega)
                    have hi1s : (i1 : Int) < (s : Int) := by have := HS.out; omega
                    have hi10 : (0 : Int) ≤ (i1 : Int) := by omega
                    clear epr hi1 hi
                    rcases hnr : near m pv pr with _ | _
                    · have HCR : Hid (∀ w, Calls Try.prog 48 #[v3v pv, v3v pr, .int .i64 m] w (BoolIs true w)) := Lib.hid (fun w => by have h := far_any pv pr m HPV.out HPR.out w; rw [hnr] at h; exact h)
                      have HYN : Hid (((true : Bool) = false → pairOk C P m n i j) ∧ ((true : Bool) = true → rateOk C P m n = false)) := Lib.hid ⟨fun e => (by cases e), fun _ => rate_noRight (i := i) (j := j) Hi.out (Nat.le_of_lt_succ HJN.out) (by rw [← HPVE.out, ← HI1.out, ← HPRE.out]; exact hnr)⟩
                      clear hnr hgi hrow
                      have HC2 : ∀ W', Below wr.heap.size wr W' → (W'.cell? ⟨G, j, none⟩ = some (.slice (some ⟨gj, 0, none⟩) s cj) ∧ W'.cell? ⟨gj, i * 3, none⟩ = some (.int .i64 pv.1) ∧ W'.cell? ⟨gj, i * 3 + 1, none⟩ = some (.int .i64 pv.2.1) ∧ W'.cell? ⟨gj, i * 3 + 2, none⟩ = some (.int .i64 pv.2.2) ∧ W'.cell? ⟨gj, i1 * 3, none⟩ = some (.int .i64 pr.1) ∧ W'.cell? ⟨gj, i1 * 3 + 1, none⟩ = some (.int .i64 pr.2.1) ∧ W'.cell? ⟨gj, i1 * 3 + 2, none⟩ = some (.int .i64 pr.2.2)) := fun W' h => ⟨(h.cell (World.block_lt_of_cell? wr _ (fj))).trans (fj), (h.cell (World.block_lt_of_cell? wr _ (fv.1))).trans (fv.1), (h.cell (World.block_lt_of_cell? wr _ (fv.2.1))).trans (fv.2.1), (h.cell (World.block_lt_of_cell? wr _ (fv.2.2))).trans (fv.2.2), (h.cell (World.block_lt_of_cell? wr _ (fr.1))).trans (fr.1), (h.cell (World.block_lt_of_cell? wr _ (fr.2.1))).trans (fr.2.1), (h.cell (World.block_lt_of_cell? wr _ (fr.2.2))).trans (fr.2.2)⟩
                      clear fj fv fr
                      have HQ := Held.nil wr
                      have hHC := HC2 _ HQ.drew.below
                      have HQ := HQ.drew
                      refine wp_region_held_drew (S := fun w' => w'.cell? ⟨G, j, none⟩ = some (.slice (some ⟨gj, 0, none⟩) s cj) ∧ w'.cell? ⟨gj, i * 3, none⟩ = some (.int .i64 pv.1) ∧ w'.cell? ⟨gj, i * 3 + 1, none⟩ = some (.int .i64 pv.2.1) ∧ w'.cell? ⟨gj, i * 3 + 2, none⟩ = some (.int .i64 pv.2.2) ∧ w'.cell? ⟨gj, i1 * 3, none⟩ = some (.int .i64 pr.1) ∧ w'.cell? ⟨gj, i1 * 3 + 1, none⟩ = some (.int .i64 pr.2.1) ∧ w'.cell? ⟨gj, i1 * 3 + 2, none⟩ = some (.int .i64 pr.2.2)) (by kernel_rfl) hHC (fun hHeld => ?_)
                      clear hHC
                      refine wpAnyH_take (i := 0) (oi := { dst := some 49, op := Op.move (Operand.tmp 11), type := 3, pos := "l10_dice.go:35", after := #[], guard := none }) (v := ?_) rfl (by kernel_rfl) (by kernel_rfl) (by kernel_rfl) (fun _ _ _ h => h) (Or.inl ⟨by rfl, ?_⟩) (by assumption) ?_
                      rotate_left 1
                      · (intro w hSw; (try dsimp only at hSw); go_simp <;> with_reducible rfl)
                      (try simp only [Act.put, List.setIfInBounds_toArray, List.set_cons_zero, List.set_cons_succ])
                      refine wpAnyH_take (i := 1) (oi := { dst := some 50, op := Op.move (Operand.tmp 7), type := 3, pos := "l10_dice.go:35", after := #[], guard := none }) (v := ?_) rfl (by kernel_rfl) (by kernel_rfl) (by kernel_rfl) (fun _ _ _ h => h) (Or.inl ⟨by rfl, ?_⟩) (by assumption) ?_
                      rotate_left 1
                      · (intro w hSw; (try dsimp only at hSw); go_simp <;> with_reducible rfl)
                      (try simp only [Act.put, List.setIfInBounds_toArray, List.set_cons_zero, List.set_cons_succ])
                      refine wpAnyH_take (i := 2) (oi := { dst := some 51, op := Op.binOp BinOp.lss 3 (Operand.tmp 49) (Operand.tmp 50) 3, type := 4, pos := "l10_dice.go:35", after := #[{ on := 0, ground := Ground.data }, { on := 1, ground := Ground.data }], guard := none }) (v := .bool true) rfl (by kernel_rfl) (by kernel_rfl) (by kernel_rfl) (fun _ _ _ h => h) (Or.inl ⟨by rfl, ?_⟩) (by assumption) ?_
                      · (intro w hSw; (try dsimp only at hSw); (go_simp; (try (first | exact Hi.out | (have h := Hi.out; omega)))))
                      (try simp only [Act.put, List.setIfInBounds_toArray, List.set_cons_zero, List.set_cons_succ])
                      refine wpAnyH_take (i := 3) (oi := { dst := some 52, op := Op.move (Operand.tmp 51), type := 4, pos := "l10_dice.go:35", after := #[{ on := 2, ground := Ground.data }], guard := none }) (v := ?_) rfl (by kernel_rfl) (by kernel_rfl) (by kernel_rfl) (fun _ _ _ h => h) (Or.inl ⟨by rfl, ?_⟩) (by assumption) ?_
                      rotate_left 1
                      · (intro w hSw; (try dsimp only at hSw); go_simp <;> with_reducible rfl)
                      (try simp only [Act.put, List.setIfInBounds_toArray, List.set_cons_zero, List.set_cons_succ])
                      refine wpAnyH_take (i := 4) (oi := { dst := some 53, op := Op.move (Operand.tmp 8), type := 86, pos := "l10_dice.go:35", after := #[{ on := 3, ground := Ground.guard }], guard := some (3, true) }) (v := ?_) rfl (by kernel_rfl) (by kernel_rfl) (by kernel_rfl) (fun _ _ _ h => h) (Or.inl ⟨by rfl, ?_⟩) (by assumption) ?_
                      rotate_left 1
                      · (intro w hSw; (try dsimp only at hSw); go_simp <;> with_reducible rfl)
                      (try simp only [Act.put, List.setIfInBounds_toArray, List.set_cons_zero, List.set_cons_succ])
                      refine wpAnyH_take (i := 5) (oi := { dst := some 54, op := Op.move (Operand.tmp 10), type := 3, pos := "l10_dice.go:35", after := #[{ on := 3, ground := Ground.guard }], guard := some (3, true) }) (v := ?_) rfl (by kernel_rfl) (by kernel_rfl) (by kernel_rfl) (fun _ _ _ h => h) (Or.inl ⟨by rfl, ?_⟩) (by assumption) ?_
                      rotate_left 1
                      · (intro w hSw; (try dsimp only at hSw); go_simp <;> with_reducible rfl)
                      (try simp only [Act.put, List.setIfInBounds_toArray, List.set_cons_zero, List.set_cons_succ])
                      refine wpAnyH_take (i := 6) (oi := { dst := some 55, op := Op.indexAddr 86 (Operand.tmp 53) (Operand.tmp 54), type := 0, pos := "l10_dice.go:35", after := #[{ on := 4, ground := Ground.data }, { on := 5, ground := Ground.data }, { on := 3, ground := Ground.guard }], guard := some (3, true) }) (v := ?_) rfl (by kernel_rfl) (by kernel_rfl) (by kernel_rfl) (fun _ _ _ h => h) (Or.inl ⟨by rfl, ?_⟩) (by assumption) ?_
                      rotate_left 1
                      · (intro w hSw; (try dsimp only at hSw); go_simp <;> with_reducible rfl)
                      (try simp only [Act.put, List.setIfInBounds_toArray, List.set_cons_zero, List.set_cons_succ])
                      refine wpAnyH_take (i := 7) (oi := { dst := some 56, op := Op.load 81 (Operand.tmp 55), type := 81, pos := "l10_dice.go:35", after := #[{ on := 6, ground := Ground.data }, { on := 3, ground := Ground.guard }], guard := some (3, true) }) (v := ?_) rfl (by kernel_rfl) (by kernel_rfl) (by kernel_rfl) (fun _ _ _ h => h) (Or.inl ⟨by rfl, ?_⟩) (by assumption) ?_
                      rotate_left 1
                      · (intro w hSw; (try dsimp only at hSw); go_simp <;> with_reducible rfl)
                      (try simp only [Act.put, List.setIfInBounds_toArray, List.set_cons_zero, List.set_cons_succ])
                      refine wpAnyH_take (i := 8) (oi := { dst := some 57, op := Op.move (Operand.tmp 11), type := 3, pos := "l10_dice.go:35", after := #[{ on := 3, ground := Ground.guard }], guard := some (3, true) }) (v := ?_) rfl (by kernel_rfl) (by kernel_rfl) (by kernel_rfl) (fun _ _ _ h => h) (Or.inl ⟨by rfl, ?_⟩) (by assumption) ?_
                      rotate_left 1
                      · (intro w hSw; (try dsimp only at hSw); go_simp <;> with_reducible rfl)
                      (try simp only [Act.put, List.setIfInBounds_toArray, List.set_cons_zero, List.set_cons_succ])
                      refine wpAnyH_take (i := 9) (oi := { dst := some 58, op := Op.indexAddr 81 (Operand.tmp 56) (Operand.tmp 57), type := 0, pos := "l10_dice.go:35", after := #[{ on := 7, ground := Ground.data }, { on := 8, ground := Ground.data }, { on := 3, ground := Ground.guard }], guard := some (3, true) }) (v := ?_) rfl (by kernel_rfl) (by kernel_rfl) (by kernel_rfl) (fun _ _ _ h => h) (Or.inl ⟨by rfl, ?_⟩) (by assumption) ?_
                      rotate_left 1
                      · (intro w hSw; (try dsimp only at hSw); go_simp <;> with_reducible rfl)
                      (try simp only [Act.put, List.setIfInBounds_toArray, List.set_cons_zero, List.set_cons_succ])
                      refine wpAnyH_take (i := 10) (oi := { dst := some 59, op := Op.load 27 (Operand.tmp 58), type := 27, pos := "l10_dice.go:35", after := #[{ on := 9, ground := Ground.data }, { on := 3, ground := Ground.guard }], guard := some (3, true) }) (v := ?_) rfl (by kernel_rfl) (by kernel_rfl) (by kernel_rfl) (fun _ _ _ h => h) (Or.inl ⟨by rfl, ?_⟩) (by assumption) ?_
                      rotate_left 1
                      · (intro w hSw; (try dsimp only at hSw); go_simp <;> with_reducible rfl)
                      (try simp only [Act.put, List.setIfInBounds_toArray, List.set_cons_zero, List.set_cons_succ])
                      refine wpAnyH_take (i := 11) (oi := { dst := some 60, op := Op.move (Operand.tmp 8), type := 86, pos := "l10_dice.go:35", after := #[{ on := 3, ground := Ground.guard }], guard := some (3, true) }) (v := ?_) rfl (by kernel_rfl) (by kernel_rfl) (by kernel_rfl) (fun _ _ _ h => h) (Or.inl ⟨by rfl, ?_⟩) (by assumption) ?_
                      rotate_left 1
                      · (intro w hSw; (try dsimp only at hSw); go_simp <;> with_reducible rfl)
                      (try simp only [Act.put, List.setIfInBounds_toArray, List.set_cons_zero, List.set_cons_succ])
                      refine wpAnyH_take (i := 12) (oi := { dst := some 61, op := Op.move (Operand.tmp 10), type := 3, pos := "l10_dice.go:35", after := #[{ on := 3, ground := Ground.guard }], guard := some (3, true) }) (v := ?_) rfl (by kernel_rfl) (by kernel_rfl) (by kernel_rfl) (fun _ _ _ h => h) (Or.inl ⟨by rfl, ?_⟩) (by assumption) ?_
                      rotate_left 1
                      · (intro w hSw; (try dsimp only at hSw); go_simp <;> with_reducible rfl)
                      (try simp only [Act.put, List.setIfInBounds_toArray, List.set_cons_zero, List.set_cons_succ])
                      refine wpAnyH_take (i := 13) (oi := { dst := some 62, op := Op.indexAddr 86 (Operand.tmp 60) (Operand.tmp 61), type := 0, pos := "l10_dice.go:35", after := #[{ on := 11, ground := Ground.data }, { on := 12, ground := Ground.data }, { on := 3, ground := Ground.guard }], guard := some (3, true) }) (v := ?_) rfl (by kernel_rfl) (by kernel_rfl) (by kernel_rfl) (fun _ _ _ h => h) (Or.inl ⟨by rfl, ?_⟩) (by assumption) ?_
                      rotate_left 1
                      · (intro w hSw; (try dsimp only at hSw); go_simp <;> with_reducible rfl)
                      (try simp only [Act.put, List.setIfInBounds_toArray, List.set_cons_zero, List.set_cons_succ])
                      refine wpAnyH_take (i := 14) (oi := { dst := some 63, op := Op.load 81 (Operand.tmp 62), type := 81, pos := "l10_dice.go:35", after := #[{ on := 13, ground := Ground.data }, { on := 3, ground := Ground.guard }], guard := some (3, true) }) (v := ?_) rfl (by kernel_rfl) (by kernel_rfl) (by kernel_rfl) (fun _ _ _ h => h) (Or.inl ⟨by rfl, ?_⟩) (by assumption) ?_
                      rotate_left 1
                      · (intro w hSw; (try dsimp only at hSw); go_simp <;> with_reducible rfl)
                      (try simp only [Act.put, List.setIfInBounds_toArray, List.set_cons_zero, List.set_cons_succ])
                      refine wpAnyH_take (i := 15) (oi := { dst := some 64, op := Op.move (Operand.tmp 11), type := 3, pos := "l10_dice.go:35", after := #[{ on := 3, ground := Ground.guard }], guard := some (3, true) }) (v := ?_) rfl (by kernel_rfl) (by kernel_rfl) (by kernel_rfl) (fun _ _ _ h => h) (Or.inl ⟨by rfl, ?_⟩) (by assumption) ?_
                      rotate_left 1
                      · (intro w hSw; (try dsimp only at hSw); go_simp <;> with_reducible rfl)
                      (try simp only [Act.put, List.setIfInBounds_toArray, List.set_cons_zero, List.set_cons_succ])
                      refine wpAnyH_take (i := 16) (oi := { dst := some 65, op := Op.binOp BinOp.add 3 (Operand.tmp 64) (Operand.const (Value.int IntKind.i64 1)) 3, type := 3, pos := "l10_dice.go:35", after := #[{ on := 15, ground := Ground.data }, { on := 3, ground := Ground.guard }], guard := some (3, true) }) (v := ?_) rfl (by kernel_rfl) (by kernel_rfl) (by kernel_rfl) (fun _ _ _ h => h) (Or.inl ⟨by rfl, ?_⟩) (by assumption) ?_
                      rotate_left 1
                      · (intro w hSw; (try dsimp only at hSw); go_simp <;> with_reducible rfl)
                      (try simp only [Act.put, List.setIfInBounds_toArray, List.set_cons_zero, List.set_cons_succ])
                      refine wpAnyH_take (i := 17) (oi := { dst := some 66, op := Op.indexAddr 81 (Operand.tmp 63) (Operand.tmp 65), type := 0, pos := "l10_dice.go:35", after := #[{ on := 14, ground := Ground.data }, { on := 16, ground := Ground.data }, { on := 3, ground := Ground.guard }], guard := some (3, true) }) (v := ?_) rfl (by kernel_rfl) (by kernel_rfl) (by kernel_rfl) (fun _ _ _ h => h) (Or.inl ⟨by rfl, ?_⟩) (by assumption) ?_
                      rotate_left 1
                      · (intro w hSw; (try dsimp only at hSw); go_simp <;> with_reducible rfl)
                      (try simp only [Act.put, List.setIfInBounds_toArray, List.set_cons_zero, List.set_cons_succ])
                      refine wpAnyH_take (i := 18) (oi := { dst := some 67, op := Op.load 27 (Operand.tmp 66), type := 27, pos := "l10_dice.go:35", after := #[{ on := 17, ground := Ground.data }, { on := 3, ground := Ground.guard }], guard := some (3, true) }) (v := ?_) rfl (by kernel_rfl) (by kernel_rfl) (by kernel_rfl) (fun _ _ _ h => h) (Or.inl ⟨by rfl, ?_⟩) (by assumption) ?_
                      rotate_left 1
                      · (intro w hSw; (try dsimp only at hSw); go_simp <;> with_reducible rfl)
                      (try simp only [Act.put, List.setIfInBounds_toArray, List.set_cons_zero, List.set_cons_succ])
                      refine wpAnyH_take (i := 19) (oi := { dst := some 68, op := Op.move (Operand.tmp 2), type := 3, pos := "l10_dice.go:35", after := #[{ on := 3, ground := Ground.guard }], guard := some (3, true) }) (v := ?_) rfl (by kernel_rfl) (by kernel_rfl) (by kernel_rfl) (fun _ _ _ h => h) (Or.inl ⟨by rfl, ?_⟩) (by assumption) ?_
                      rotate_left 1
                      · (intro w hSw; (try dsimp only at hSw); go_simp <;> with_reducible rfl)
                      (try simp only [Act.put, List.setIfInBounds_toArray, List.set_cons_zero, List.set_cons_succ])
                      refine wpAnyH_ready (rs := [20]) (by kernel_rfl) (by simp) ?_
                      refine AllReadyH.cons (o := { dst := some 69, op := Op.call { callee := Callee.value (Operand.func 48), args := #[Operand.tmp 59, Operand.tmp 67, Operand.tmp 68], argTypes := #[27, 27, 3] }, type := 4, pos := "l10_dice.go:35", after := #[{ on := 10, ground := Ground.data }, { on := 18, ground := Ground.data }, { on := 19, ground := Ground.data }, { on := 3, ground := Ground.chain }, { on := 3, ground := Ground.guard }], guard := some (3, true) }) rfl (fun K hK => ?_) ?_
                      · go_simp
                        (with_reducible refine (HCR.out _).mono ?_)
                        rintro e w1 ⟨rfl, hb1⟩
                        have HQ := HQ.later hb1
                        clear hb1
                        (try go_wp2_with fail)
                        refine hK.out _ _ (by (try dsimp only); with_reducible exact HC2 _ HQ.below) (fun hHeld => ?_)
                        clear hK K
                        (try simp only [Act.put, List.setIfInBounds_toArray, List.set_cons_zero, List.set_cons_succ])
                        refine wpAnyH_take (i := 21) (oi := { dst := some 70, op := Op.pick (Operand.tmp 52) (Operand.tmp 69) (Operand.const (Value.bool false)), type := 4, pos := "l10_dice.go:35", after := #[{ on := 3, ground := Ground.data }, { on := 20, ground := Ground.data }], guard := none }) (v := ?_) rfl (by kernel_rfl) (by kernel_rfl) (by kernel_rfl) (fun _ _ _ h => h) (Or.inl ⟨by rfl, ?_⟩) (by assumption) ?_
                        rotate_left 1
                        · (intro w hSw; (try dsimp only at hSw); go_simp <;> with_reducible rfl)
                        (try simp only [Act.put, List.setIfInBounds_toArray, List.set_cons_zero, List.set_cons_succ])
                        refine wpAnyH_take (i := 22) (oi := { dst := some 71, op := Op.move (Operand.tmp 70), type := 4, pos := "l10_dice.go:35", after := #[{ on := 21, ground := Ground.data }, { on := 20, ground := Ground.chain }], guard := none }) (v := ?_) rfl (by kernel_rfl) (by kernel_rfl) (by kernel_rfl) (fun _ _ _ h => h) (Or.inl ⟨by rfl, ?_⟩) (by assumption) ?_
                        rotate_left 1
                        · (intro w hSw; (try dsimp only at hSw); go_simp <;> with_reducible rfl)
                        (try simp only [Act.put, List.setIfInBounds_toArray, List.set_cons_zero, List.set_cons_succ])
                        refine wpAnyH_take (i := 23) (oi := { dst := some 72, op := Op.move (Operand.tmp 10), type := 3, pos := "l10_dice.go:35", after := #[{ on := 22, ground := Ground.guard }], guard := some (22, false) }) (v := undef) rfl (by kernel_rfl) (by kernel_rfl) (by kernel_rfl) (fun _ _ _ h => h) (Or.inr ⟨by rfl, rfl⟩) (by assumption) ?_
                        (try simp only [Act.put, List.setIfInBounds_toArray, List.set_cons_zero, List.set_cons_succ])
                        refine wpAnyH_take (i := 24) (oi := { dst := some 73, op := Op.move (Operand.tmp 7), type := 3, pos := "l10_dice.go:35", after := #[{ on := 22, ground := Ground.guard }], guard := some (22, false) }) (v := undef) rfl (by kernel_rfl) (by kernel_rfl) (by kernel_rfl) (fun _ _ _ h => h) (Or.inr ⟨by rfl, rfl⟩) (by assumption) ?_
                        (try simp only [Act.put, List.setIfInBounds_toArray, List.set_cons_zero, List.set_cons_succ])
                        refine wpAnyH_take (i := 25) (oi := { dst := some 74, op := Op.binOp BinOp.lss 3 (Operand.tmp 72) (Operand.tmp 73) 3, type := 4, pos := "l10_dice.go:35", after := #[{ on := 23, ground := Ground.data }, { on := 24, ground := Ground.data }, { on := 22, ground := Ground.guard }], guard := some (22, false) }) (v := undef) rfl (by kernel_rfl) (by kernel_rfl) (by kernel_rfl) (fun _ _ _ h => h) (Or.inr ⟨by rfl, rfl⟩) (by assumption) ?_
                        (try simp only [Act.put, List.setIfInBounds_toArray, List.set_cons_zero, List.set_cons_succ])
                        refine wpAnyH_take (i := 26) (oi := { dst := some 75, op := Op.move (Operand.tmp 74), type := 4, pos := "l10_dice.go:35", after := #[{ on := 25, ground := Ground.data }, { on := 22, ground := Ground.chain }, { on := 22, ground := Ground.guard }], guard := some (22, false) }) (v := undef) rfl (by kernel_rfl) (by kernel_rfl) (by kernel_rfl) (fun _ _ _ h => h) (Or.inr ⟨by rfl, rfl⟩) (by assumption) ?_
                        (try simp only [Act.put, List.setIfInBounds_toArray, List.set_cons_zero, List.set_cons_succ])
                        refine wpAnyH_take (i := 27) (oi := { dst := some 76, op := Op.move (Operand.tmp 8), type := 86, pos := "l10_dice.go:35", after := #[{ on := 26, ground := Ground.guard }], guard := some (26, true) }) (v := undef) rfl (by kernel_rfl) (by kernel_rfl) (by kernel_rfl) (fun _ _ _ h => h) (Or.inr ⟨by rfl, rfl⟩) (by assumption) ?_
                        (try simp only [Act.put, List.setIfInBounds_toArray, List.set_cons_zero, List.set_cons_succ])
                        refine wpAnyH_take (i := 28) (oi := { dst := some 77, op := Op.move (Operand.tmp 10), type := 3, pos := "l10_dice.go:35", after := #[{ on := 26, ground := Ground.guard }], guard := some (26, true) }) (v := undef) rfl (by kernel_rfl) (by kernel_rfl) (by kernel_rfl) (fun _ _ _ h => h) (Or.inr ⟨by rfl, rfl⟩) (by assumption) ?_
                        (try simp only [Act.put, List.setIfInBounds_toArray, List.set_cons_zero, List.set_cons_succ])
                        refine wpAnyH_take (i := 29) (oi := { dst := some 78, op := Op.indexAddr 86 (Operand.tmp 76) (Operand.tmp 77), type := 0, pos := "l10_dice.go:35", after := #[{ on := 27, ground := Ground.data }, { on := 28, ground := Ground.data }, { on := 26, ground := Ground.guard }], guard := some (26, true) }) (v := undef) rfl (by kernel_rfl) (by kernel_rfl) (by kernel_rfl) (fun _ _ _ h => h) (Or.inr ⟨by rfl, rfl⟩) (by assumption) ?_
                        (try simp only [Act.put, List.setIfInBounds_toArray, List.set_cons_zero, List.set_cons_succ])
                        refine wpAnyH_take (i := 30) (oi := { dst := some 79, op := Op.load 81 (Operand.tmp 78), type := 81, pos := "l10_dice.go:35", after := #[{ on := 29, ground := Ground.data }, { on := 26, ground := Ground.guard }], guard := some (26, true) }) (v := undef) rfl (by kernel_rfl) (by kernel_rfl) (by kernel_rfl) (fun _ _ _ h => h) (Or.inr ⟨by rfl, rfl⟩) (by assumption) ?_
                        (try simp only [Act.put, List.setIfInBounds_toArray, List.set_cons_zero, List.set_cons_succ])
                        refine wpAnyH_take (i := 31) (oi := { dst := some 80, op := Op.move (Operand.tmp 11), type := 3, pos := "l10_dice.go:35", after := #[{ on := 26, ground := Ground.guard }], guard := some (26, true) }) (v := undef) rfl (by kernel_rfl) (by kernel_rfl) (by kernel_rfl) (fun _ _ _ h => h) (Or.inr ⟨by rfl, rfl⟩) (by assumption) ?_
                        (try simp only [Act.put, List.setIfInBounds_toArray, List.set_cons_zero, List.set_cons_succ])
                        refine wpAnyH_take (i := 32) (oi := { dst := some 81, op := Op.indexAddr 81 (Operand.tmp 79) (Operand.tmp 80), type := 0, pos := "l10_dice.go:35", after := #[{ on := 30, ground := Ground.data }, { on := 31, ground := Ground.data }, { on := 26, ground := Ground.guard }], guard := some (26, true) }) (v := undef) rfl (by kernel_rfl) (by kernel_rfl) (by kernel_rfl) (fun _ _ _ h => h) (Or.inr ⟨by rfl, rfl⟩) (by assumption) ?_
                        (try simp only [Act.put, List.setIfInBounds_toArray, List.set_cons_zero, List.set_cons_succ])
                        refine wpAnyH_take (i := 33) (oi := { dst := some 82, op := Op.load 27 (Operand.tmp 81), type := 27, pos := "l10_dice.go:35", after := #[{ on := 32, ground := Ground.data }, { on := 26, ground := Ground.guard }], guard := some (26, true) }) (v := undef) rfl (by kernel_rfl) (by kernel_rfl) (by kernel_rfl) (fun _ _ _ h => h) (Or.inr ⟨by rfl, rfl⟩) (by assumption) ?_
                        (try simp only [Act.put, List.setIfInBounds_toArray, List.set_cons_zero, List.set_cons_succ])
                        refine wpAnyH_take (i := 34) (oi := { dst := some 83, op := Op.move (Operand.tmp 8), type := 86, pos := "l10_dice.go:35", after := #[{ on := 26, ground := Ground.guard }], guard := some (26, true) }) (v := undef) rfl (by kernel_rfl) (by kernel_rfl) (by kernel_rfl) (fun _ _ _ h => h) (Or.inr ⟨by rfl, rfl⟩) (by assumption) ?_
                        (try simp only [Act.put, List.setIfInBounds_toArray, List.set_cons_zero, List.set_cons_succ])
                        refine wpAnyH_take (i := 35) (oi := { dst := some 84, op := Op.move (Operand.tmp 10), type := 3, pos := "l10_dice.go:35", after := #[{ on := 26, ground := Ground.guard }], guard := some (26, true) }) (v := undef) rfl (by kernel_rfl) (by kernel_rfl) (by kernel_rfl) (fun _ _ _ h => h) (Or.inr ⟨by rfl, rfl⟩) (by assumption) ?_
                        (try simp only [Act.put, List.setIfInBounds_toArray, List.set_cons_zero, List.set_cons_succ])
                        refine wpAnyH_take (i := 36) (oi := { dst := some 85, op := Op.binOp BinOp.add 3 (Operand.tmp 84) (Operand.const (Value.int IntKind.i64 1)) 3, type := 3, pos := "l10_dice.go:35", after := #[{ on := 35, ground := Ground.data }, { on := 26, ground := Ground.guard }], guard := some (26, true) }) (v := undef) rfl (by kernel_rfl) (by kernel_rfl) (by kernel_rfl) (fun _ _ _ h => h) (Or.inr ⟨by rfl, rfl⟩) (by assumption) ?_
                        (try simp only [Act.put, List.setIfInBounds_toArray, List.set_cons_zero, List.set_cons_succ])
                        refine wpAnyH_take (i := 37) (oi := { dst := some 86, op := Op.indexAddr 86 (Operand.tmp 83) (Operand.tmp 85), type := 0, pos := "l10_dice.go:35", after := #[{ on := 34, ground := Ground.data }, { on := 36, ground := Ground.data }, { on := 26, ground := Ground.guard }], guard := some (26, true) }) (v := undef) rfl (by kernel_rfl) (by kernel_rfl) (by kernel_rfl) (fun _ _ _ h => h) (Or.inr ⟨by rfl, rfl⟩) (by assumption) ?_
                        (try simp only [Act.put, List.setIfInBounds_toArray, List.set_cons_zero, List.set_cons_succ])
                        refine wpAnyH_take (i := 38) (oi := { dst := some 87, op := Op.load 81 (Operand.tmp 86), type := 81, pos := "l10_dice.go:35", after := #[{ on := 37, ground := Ground.data }, { on := 26, ground := Ground.guard }], guard := some (26, true) }) (v := undef) rfl (by kernel_rfl) (by kernel_rfl) (by kernel_rfl) (fun _ _ _ h => h) (Or.inr ⟨by rfl, rfl⟩) (by assumption) ?_
                        (try simp only [Act.put, List.setIfInBounds_toArray, List.set_cons_zero, List.set_cons_succ])
                        refine wpAnyH_take (i := 39) (oi := { dst := some 88, op := Op.move (Operand.tmp 11), type := 3, pos := "l10_dice.go:35", after := #[{ on := 26, ground := Ground.guard }], guard := some (26, true) }) (v := undef) rfl (by kernel_rfl) (by kernel_rfl) (by kernel_rfl) (fun _ _ _ h => h) (Or.inr ⟨by rfl, rfl⟩) (by assumption) ?_
                        (try simp only [Act.put, List.setIfInBounds_toArray, List.set_cons_zero, List.set_cons_succ])
                        refine wpAnyH_take (i := 40) (oi := { dst := some 89, op := Op.indexAddr 81 (Operand.tmp 87) (Operand.tmp 88), type := 0, pos := "l10_dice.go:35", after := #[{ on := 38, ground := Ground.data }, { on := 39, ground := Ground.data }, { on := 26, ground := Ground.guard }], guard := some (26, true) }) (v := undef) rfl (by kernel_rfl) (by kernel_rfl) (by kernel_rfl) (fun _ _ _ h => h) (Or.inr ⟨by rfl, rfl⟩) (by assumption) ?_
                        (try simp only [Act.put, List.setIfInBounds_toArray, List.set_cons_zero, List.set_cons_succ])
                        refine wpAnyH_take (i := 41) (oi := { dst := some 90, op := Op.load 27 (Operand.tmp 89), type := 27, pos := "l10_dice.go:35", after := #[{ on := 40, ground := Ground.data }, { on := 26, ground := Ground.guard }], guard := some (26, true) }) (v := undef) rfl (by kernel_rfl) (by kernel_rfl) (by kernel_rfl) (fun _ _ _ h => h) (Or.inr ⟨by rfl, rfl⟩) (by assumption) ?_
                        (try simp only [Act.put, List.setIfInBounds_toArray, List.set_cons_zero, List.set_cons_succ])
                        refine wpAnyH_take (i := 42) (oi := { dst := some 91, op := Op.move (Operand.tmp 2), type := 3, pos := "l10_dice.go:35", after := #[{ on := 26, ground := Ground.guard }], guard := some (26, true) }) (v := undef) rfl (by kernel_rfl) (by kernel_rfl) (by kernel_rfl) (fun _ _ _ h => h) (Or.inr ⟨by rfl, rfl⟩) (by assumption) ?_
                        (try simp only [Act.put, List.setIfInBounds_toArray, List.set_cons_zero, List.set_cons_succ])
                        refine wpAnyH_take (i := 43) (oi := { dst := some 92, op := Op.call { callee := Callee.value (Operand.func 48), args := #[Operand.tmp 82, Operand.tmp 90, Operand.tmp 91], argTypes := #[27, 27, 3] }, type := 4, pos := "l10_dice.go:35", after := #[{ on := 33, ground := Ground.data }, { on := 41, ground := Ground.data }, { on := 42, ground := Ground.data }, { on := 26, ground := Ground.chain }, { on := 26, ground := Ground.guard }], guard := some (26, true) }) (v := undef) rfl (by kernel_rfl) (by kernel_rfl) (by kernel_rfl) (fun _ _ _ h => h) (Or.inr ⟨by rfl, rfl⟩) (by assumption) ?_
                        (try simp only [Act.put, List.setIfInBounds_toArray, List.set_cons_zero, List.set_cons_succ])
                        refine wpAnyH_take (i := 44) (oi := { dst := some 93, op := Op.pick (Operand.tmp 75) (Operand.tmp 92) (Operand.const (Value.bool false)), type := 4, pos := "l10_dice.go:35", after := #[{ on := 26, ground := Ground.data }, { on := 43, ground := Ground.data }, { on := 22, ground := Ground.guard }], guard := some (22, false) }) (v := undef) rfl (by kernel_rfl) (by kernel_rfl) (by kernel_rfl) (fun _ _ _ h => h) (Or.inr ⟨by rfl, rfl⟩) (by assumption) ?_
                        (try simp only [Act.put, List.setIfInBounds_toArray, List.set_cons_zero, List.set_cons_succ])
                        refine wpAnyH_take (i := 45) (oi := { dst := some 94, op := Op.pick (Operand.tmp 71) (Operand.const (Value.bool true)) (Operand.tmp 93), type := 4, pos := "l10_dice.go:35", after := #[{ on := 22, ground := Ground.data }, { on := 44, ground := Ground.data }], guard := none }) (v := ?_) rfl (by kernel_rfl) (by kernel_rfl) (by kernel_rfl) (fun _ _ _ h => h) (Or.inl ⟨by rfl, ?_⟩) (by assumption) ?_
                        rotate_left 1
                        · (intro w hSw; (try dsimp only at hSw); go_simp <;> with_reducible rfl)
                        (try simp only [Act.put, List.setIfInBounds_toArray, List.set_cons_zero, List.set_cons_succ])
                        refine wpAnyH_done (by kernel_rfl) ?_ _
                        clear hHeld
                        go_wp2
                        go_meet
                        exact ⟨_, rfl, fun h => (by first | cases h; done | exact HYN.out.1 h | exact HYN.out.1 trivial), fun h => (by first | cases h; done | exact HYN.out.2 h | exact HYN.out.2 trivial), HQ.below⟩
                      exact AllReadyH.nil
                    · have HCR : Hid (∀ w, Calls Try.prog 48 #[v3v pv, v3v pr, .int .i64 m] w (BoolIs false w)) := Lib.hid (fun w => by have h := far_any pv pr m HPV.out HPR.out w; rw [hnr] at h; exact h)
                      by_cases hj : j < n
                      · have Hj := Lib.hid hj
                        obtain ⟨j1, hj1⟩ : ∃ x, x = j + 1 := ⟨_, rfl⟩
                        obtain ⟨pb, epb⟩ : ∃ x, x = gV C P 0 0 n (i : Int) (j1 : Int) := ⟨_, rfl⟩
                        obtain ⟨gk, ck, fk, hgk⟩ := hrow j1 (by omega)
                        have fb := hgk i (by have := HIN.out; omega)
                        rw [← epb] at fb
                        have HPB := Lib.hid (show onS pb by rw [epb]; exact gV_on ..)
                        have HPBE := Lib.hid epb
                        have HJ1 := Lib.hid hj1
                        have ej1 : IntKind.i64.wrap ((j : Int) + 1) = (j1 : Int) := by rw [hj1, show ((j + 1 : Nat) : Int) = (j : Int) + 1 by omega]; exact wrap_in (by have := HNB.out; omega)
                        have hj1s : (j1 : Int) < (s : Int) := by have := HS.out; omega
                        have hj10 : (0 : Int) ≤ (j1 : Int) := by omega
                        clear epb hj1 hj hgk
                        rcases hnb : near m pv pb with _ | _
                        · have HCB : Hid (∀ w, Calls Try.prog 48 #[v3v pv, v3v pb, .int .i64 m] w (BoolIs true w)) := Lib.hid (fun w => by have h := far_any pv pb m HPV.out HPB.out w; rw [hnb] at h; exact h)
                          have HYN : Hid (((true : Bool) = false → pairOk C P m n i j) ∧ ((true : Bool) = true → rateOk C P m n = false)) := Lib.hid ⟨fun e => (by cases e), fun _ => rate_noBelow (i := i) (j := j) (Nat.le_of_lt_succ HIN.out) Hj.out (by rw [← HPVE.out, ← HJ1.out, ← HPBE.out]; exact hnb)⟩
                          clear hnr hnb hgi hrow
                          have HC2 : ∀ W', Below wr.heap.size wr W' → (W'.cell? ⟨G, j, none⟩ = some (.slice (some ⟨gj, 0, none⟩) s cj) ∧ W'.cell? ⟨gj, i * 3, none⟩ = some (.int .i64 pv.1) ∧ W'.cell? ⟨gj, i * 3 + 1, none⟩ = some (.int .i64 pv.2.1) ∧ W'.cell? ⟨gj, i * 3 + 2, none⟩ = some (.int .i64 pv.2.2) ∧ W'.cell? ⟨gj, i1 * 3, none⟩ = some (.int .i64 pr.1) ∧ W'.cell? ⟨gj, i1 * 3 + 1, none⟩ = some (.int .i64 pr.2.1) ∧ W'.cell? ⟨gj, i1 * 3 + 2, none⟩ = some (.int .i64 pr.2.2) ∧ W'.cell? ⟨G, j1, none⟩ = some (.slice (some ⟨gk, 0, none⟩) s ck) ∧ W'.cell? ⟨gk, i * 3, none⟩ = some (.int .i64 pb.1) ∧ W'.cell? ⟨gk, i * 3 + 1, none⟩ = some (.int .i64 pb.2.1) ∧ W'.cell? ⟨gk, i * 3 + 2, none⟩ = some (.int .i64 pb.2.2)) := fun W' h => ⟨(h.cell (World.block_lt_of_cell? wr _ (fj))).trans (fj), (h.cell (World.block_lt_of_cell? wr _ (fv.1))).trans (fv.1), (h.cell (World.block_lt_of_cell? wr _ (fv.2.1))).trans (fv.2.1), (h.cell (World.block_lt_of_cell? wr _ (fv.2.2))).trans (fv.2.2), (h.cell (World.block_lt_of_cell? wr _ (fr.1))).trans (fr.1), (h.cell (World.block_lt_of_cell? wr _ (fr.2.1))).trans (fr.2.1), (h.cell (World.block_lt_of_cell? wr _ (fr.2.2))).trans (fr.2.2), (h.cell (World.block_lt_of_cell? wr _ (fk))).trans (fk), (h.cell (World.block_lt_of_cell? wr _ (fb.1))).trans (fb.1), (h.cell (World.block_lt_of_cell? wr _ (fb.2.1))).trans (fb.2.1), (h.cell (World.block_lt_of_cell? wr _ (fb.2.2))).trans (fb.2.2)⟩
                          clear fj fv fr fk fb
                          have HQ := Held.nil wr
                          have hHC := HC2 _ HQ.drew.below
                          have HQ := HQ.drew
                          refine wp_region_held_drew (S := fun w' => w'.cell? ⟨G, j, none⟩ = some (.slice (some ⟨gj, 0, none⟩) s cj) ∧ w'.cell? ⟨gj, i * 3, none⟩ = some (.int .i64 pv.1) ∧ w'.cell? ⟨gj, i * 3 + 1, none⟩ = some (.int .i64 pv.2.1) ∧ w'.cell? ⟨gj, i * 3 + 2, none⟩ = some (.int .i64 pv.2.2) ∧ w'.cell? ⟨gj, i1 * 3, none⟩ = some (.int .i64 pr.1) ∧ w'.cell? ⟨gj, i1 * 3 + 1, none⟩ = some (.int .i64 pr.2.1) ∧ w'.cell? ⟨gj, i1 * 3 + 2, none⟩ = some (.int .i64 pr.2.2) ∧ w'.cell? ⟨G, j1, none⟩ = some (.slice (some ⟨gk, 0, none⟩) s ck) ∧ w'.cell? ⟨gk, i * 3, none⟩ = some (.int .i64 pb.1) ∧ w'.cell? ⟨gk, i * 3 + 1, none⟩ = some (.int .i64 pb.2.1) ∧ w'.cell? ⟨gk, i * 3 + 2, none⟩ = some (.int .i64 pb.2.2)) (by kernel_rfl) hHC (fun hHeld => ?_)
                          clear hHC
                          refine wpAnyH_take (i := 0) (oi := { dst := some 49, op := Op.move (Operand.tmp 11), type := 3, pos := "l10_dice.go:35", after := #[], guard := none }) (v := ?_) rfl (by kernel_rfl) (by kernel_rfl) (by kernel_rfl) (fun _ _ _ h => h) (Or.inl ⟨by rfl, ?_⟩) (by assumption) ?_
                          rotate_left 1
                          · (intro w hSw; (try dsimp only at hSw); go_simp <;> with_reducible rfl)
                          (try simp only [Act.put, List.setIfInBounds_toArray, List.set_cons_zero, List.set_cons_succ])
                          refine wpAnyH_take (i := 1) (oi := { dst := some 50, op := Op.move (Operand.tmp 7), type := 3, pos := "l10_dice.go:35", after := #[], guard := none }) (v := ?_) rfl (by kernel_rfl) (by kernel_rfl) (by kernel_rfl) (fun _ _ _ h => h) (Or.inl ⟨by rfl, ?_⟩) (by assumption) ?_
                          rotate_left 1
                          · (intro w hSw; (try dsimp only at hSw); go_simp <;> with_reducible rfl)
                          (try simp only [Act.put, List.setIfInBounds_toArray, List.set_cons_zero, List.set_cons_succ])
                          refine wpAnyH_take (i := 2) (oi := { dst := some 51, op := Op.binOp BinOp.lss 3 (Operand.tmp 49) (Operand.tmp 50) 3, type := 4, pos := "l10_dice.go:35", after := #[{ on := 0, ground := Ground.data }, { on := 1, ground := Ground.data }], guard := none }) (v := .bool true) rfl (by kernel_rfl) (by kernel_rfl) (by kernel_rfl) (fun _ _ _ h => h) (Or.inl ⟨by rfl, ?_⟩) (by assumption) ?_
                          · (intro w hSw; (try dsimp only at hSw); (go_simp; (try (first | exact Hi.out | (have h := Hi.out; omega)))))
                          (try simp only [Act.put, List.setIfInBounds_toArray, List.set_cons_zero, List.set_cons_succ])
                          refine wpAnyH_take (i := 3) (oi := { dst := some 52, op := Op.move (Operand.tmp 51), type := 4, pos := "l10_dice.go:35", after := #[{ on := 2, ground := Ground.data }], guard := none }) (v := ?_) rfl (by kernel_rfl) (by kernel_rfl) (by kernel_rfl) (fun _ _ _ h => h) (Or.inl ⟨by rfl, ?_⟩) (by assumption) ?_
                          rotate_left 1
                          · (intro w hSw; (try dsimp only at hSw); go_simp <;> with_reducible rfl)
                          (try simp only [Act.put, List.setIfInBounds_toArray, List.set_cons_zero, List.set_cons_succ])
                          refine wpAnyH_take (i := 4) (oi := { dst := some 53, op := Op.move (Operand.tmp 8), type := 86, pos := "l10_dice.go:35", after := #[{ on := 3, ground := Ground.guard }], guard := some (3, true) }) (v := ?_) rfl (by kernel_rfl) (by kernel_rfl) (by kernel_rfl) (fun _ _ _ h => h) (Or.inl ⟨by rfl, ?_⟩) (by assumption) ?_
                          rotate_left 1
                          · (intro w hSw; (try dsimp only at hSw); go_simp <;> with_reducible rfl)
                          (try simp only [Act.put, List.setIfInBounds_toArray, List.set_cons_zero, List.set_cons_succ])
                          refine wpAnyH_take (i := 5) (oi := { dst := some 54, op := Op.move (Operand.tmp 10), type := 3, pos := "l10_dice.go:35", after := #[{ on := 3, ground := Ground.guard }], guard := some (3, true) }) (v := ?_) rfl (by kernel_rfl) (by kernel_rfl) (by kernel_rfl) (fun _ _ _ h => h) (Or.inl ⟨by rfl, ?_⟩) (by assumption) ?_
                          rotate_left 1
                          · (intro w hSw; (try dsimp only at hSw); go_simp <;> with_reducible rfl)
                          (try simp only [Act.put, List.setIfInBounds_toArray, List.set_cons_zero, List.set_cons_succ])
                          refine wpAnyH_take (i := 6) (oi := { dst := some 55, op := Op.indexAddr 86 (Operand.tmp 53) (Operand.tmp 54), type := 0, pos := "l10_dice.go:35", after := #[{ on := 4, ground := Ground.data }, { on := 5, ground := Ground.data }, { on := 3, ground := Ground.guard }], guard := some (3, true) }) (v := ?_) rfl (by kernel_rfl) (by kernel_rfl) (by kernel_rfl) (fun _ _ _ h => h) (Or.inl ⟨by rfl, ?_⟩) (by assumption) ?_
                          rotate_left 1
                          · (intro w hSw; (try dsimp only at hSw); go_simp <;> with_reducible rfl)
                          (try simp only [Act.put, List.setIfInBounds_toArray, List.set_cons_zero, List.set_cons_succ])
                          refine wpAnyH_take (i := 7) (oi := { dst := some 56, op := Op.load 81 (Operand.tmp 55), type := 81, pos := "l10_dice.go:35", after := #[{ on := 6, ground := Ground.data }, { on := 3, ground := Ground.guard }], guard := some (3, true) }) (v := ?_) rfl (by kernel_rfl) (by kernel_rfl) (by kernel_rfl) (fun _ _ _ h => h) (Or.inl ⟨by rfl, ?_⟩) (by assumption) ?_
                          rotate_left 1
                          · (intro w hSw; (try dsimp only at hSw); go_simp <;> with_reducible rfl)
                          (try simp only [Act.put, List.setIfInBounds_toArray, List.set_cons_zero, List.set_cons_succ])
                          refine wpAnyH_take (i := 8) (oi := { dst := some 57, op := Op.move (Operand.tmp 11), type := 3, pos := "l10_dice.go:35", after := #[{ on := 3, ground := Ground.guard }], guard := some (3, true) }) (v := ?_) rfl (by kernel_rfl) (by kernel_rfl) (by kernel_rfl) (fun _ _ _ h => h) (Or.inl ⟨by rfl, ?_⟩) (by assumption) ?_
                          rotate_left 1
                          · (intro w hSw; (try dsimp only at hSw); go_simp <;> with_reducible rfl)
                          (try simp only [Act.put, List.setIfInBounds_toArray, List.set_cons_zero, List.set_cons_succ])
                          refine wpAnyH_take (i := 9) (oi := { dst := some 58, op := Op.indexAddr 81 (Operand.tmp 56) (Operand.tmp 57), type := 0, pos := "l10_dice.go:35", after := #[{ on := 7, ground := Ground.data }, { on := 8, ground := Ground.data }, { on := 3, ground := Ground.guard }], guard := some (3, true) }) (v := ?_) rfl (by kernel_rfl) (by kernel_rfl) (by kernel_rfl) (fun _ _ _ h => h) (Or.inl ⟨by rfl, ?_⟩) (by assumption) ?_
                          rotate_left 1
                          · (intro w hSw; (try dsimp only at hSw); go_simp <;> with_reducible rfl)
                          (try simp only [Act.put, List.setIfInBounds_toArray, List.set_cons_zero, List.set_cons_succ])
                          refine wpAnyH_take (i := 10) (oi := { dst := some 59, op := Op.load 27 (Operand.tmp 58), type := 27, pos := "l10_dice.go:35", after := #[{ on := 9, ground := Ground.data }, { on := 3, ground := Ground.guard }], guard := some (3, true) }) (v := ?_) rfl (by kernel_rfl) (by kernel_rfl) (by kernel_rfl) (fun _ _ _ h => h) (Or.inl ⟨by rfl, ?_⟩) (by assumption) ?_
                          rotate_left 1
                          · (intro w hSw; (try dsimp only at hSw); go_simp <;> with_reducible rfl)
                          (try simp only [Act.put, List.setIfInBounds_toArray, List.set_cons_zero, List.set_cons_succ])
                          refine wpAnyH_take (i := 11) (oi := { dst := some 60, op := Op.move (Operand.tmp 8), type := 86, pos := "l10_dice.go:35", after := #[{ on := 3, ground := Ground.guard }], guard := some (3, true) }) (v := ?_) rfl (by kernel_rfl) (by kernel_rfl) (by kernel_rfl) (fun _ _ _ h => h) (Or.inl ⟨by rfl, ?_⟩) (by assumption) ?_
                          rotate_left 1
                          · (intro w hSw; (try dsimp only at hSw); go_simp <;> with_reducible rfl)
                          (try simp only [Act.put, List.setIfInBounds_toArray, List.set_cons_zero, List.set_cons_succ])
                          refine wpAnyH_take (i := 12) (oi := { dst := some 61, op := Op.move (Operand.tmp 10), type := 3, pos := "l10_dice.go:35", after := #[{ on := 3, ground := Ground.guard }], guard := some (3, true) }) (v := ?_) rfl (by kernel_rfl) (by kernel_rfl) (by kernel_rfl) (fun _ _ _ h => h) (Or.inl ⟨by rfl, ?_⟩) (by assumption) ?_
                          rotate_left 1
                          · (intro w hSw; (try dsimp only at hSw); go_simp <;> with_reducible rfl)
                          (try simp only [Act.put, List.setIfInBounds_toArray, List.set_cons_zero, List.set_cons_succ])
                          refine wpAnyH_take (i := 13) (oi := { dst := some 62, op := Op.indexAddr 86 (Operand.tmp 60) (Operand.tmp 61), type := 0, pos := "l10_dice.go:35", after := #[{ on := 11, ground := Ground.data }, { on := 12, ground := Ground.data }, { on := 3, ground := Ground.guard }], guard := some (3, true) }) (v := ?_) rfl (by kernel_rfl) (by kernel_rfl) (by kernel_rfl) (fun _ _ _ h => h) (Or.inl ⟨by rfl, ?_⟩) (by assumption) ?_
                          rotate_left 1
                          · (intro w hSw; (try dsimp only at hSw); go_simp <;> with_reducible rfl)
                          (try simp only [Act.put, List.setIfInBounds_toArray, List.set_cons_zero, List.set_cons_succ])
                          refine wpAnyH_take (i := 14) (oi := { dst := some 63, op := Op.load 81 (Operand.tmp 62), type := 81, pos := "l10_dice.go:35", after := #[{ on := 13, ground := Ground.data }, { on := 3, ground := Ground.guard }], guard := some (3, true) }) (v := ?_) rfl (by kernel_rfl) (by kernel_rfl) (by kernel_rfl) (fun _ _ _ h => h) (Or.inl ⟨by rfl, ?_⟩) (by assumption) ?_
                          rotate_left 1
                          · (intro w hSw; (try dsimp only at hSw); go_simp <;> with_reducible rfl)
                          (try simp only [Act.put, List.setIfInBounds_toArray, List.set_cons_zero, List.set_cons_succ])
                          refine wpAnyH_take (i := 15) (oi := { dst := some 64, op := Op.move (Operand.tmp 11), type := 3, pos := "l10_dice.go:35", after := #[{ on := 3, ground := Ground.guard }], guard := some (3, true) }) (v := ?_) rfl (by kernel_rfl) (by kernel_rfl) (by kernel_rfl) (fun _ _ _ h => h) (Or.inl ⟨by rfl, ?_⟩) (by assumption) ?_
                          rotate_left 1
                          · (intro w hSw; (try dsimp only at hSw); go_simp <;> with_reducible rfl)
                          (try simp only [Act.put, List.setIfInBounds_toArray, List.set_cons_zero, List.set_cons_succ])
                          refine wpAnyH_take (i := 16) (oi := { dst := some 65, op := Op.binOp BinOp.add 3 (Operand.tmp 64) (Operand.const (Value.int IntKind.i64 1)) 3, type := 3, pos := "l10_dice.go:35", after := #[{ on := 15, ground := Ground.data }, { on := 3, ground := Ground.guard }], guard := some (3, true) }) (v := ?_) rfl (by kernel_rfl) (by kernel_rfl) (by kernel_rfl) (fun _ _ _ h => h) (Or.inl ⟨by rfl, ?_⟩) (by assumption) ?_
                          rotate_left 1
                          · (intro w hSw; (try dsimp only at hSw); go_simp <;> with_reducible rfl)
                          (try simp only [Act.put, List.setIfInBounds_toArray, List.set_cons_zero, List.set_cons_succ])
                          refine wpAnyH_take (i := 17) (oi := { dst := some 66, op := Op.indexAddr 81 (Operand.tmp 63) (Operand.tmp 65), type := 0, pos := "l10_dice.go:35", after := #[{ on := 14, ground := Ground.data }, { on := 16, ground := Ground.data }, { on := 3, ground := Ground.guard }], guard := some (3, true) }) (v := ?_) rfl (by kernel_rfl) (by kernel_rfl) (by kernel_rfl) (fun _ _ _ h => h) (Or.inl ⟨by rfl, ?_⟩) (by assumption) ?_
                          rotate_left 1
                          · (intro w hSw; (try dsimp only at hSw); go_simp <;> with_reducible rfl)
                          (try simp only [Act.put, List.setIfInBounds_toArray, List.set_cons_zero, List.set_cons_succ])
                          refine wpAnyH_take (i := 18) (oi := { dst := some 67, op := Op.load 27 (Operand.tmp 66), type := 27, pos := "l10_dice.go:35", after := #[{ on := 17, ground := Ground.data }, { on := 3, ground := Ground.guard }], guard := some (3, true) }) (v := ?_) rfl (by kernel_rfl) (by kernel_rfl) (by kernel_rfl) (fun _ _ _ h => h) (Or.inl ⟨by rfl, ?_⟩) (by assumption) ?_
                          rotate_left 1
                          · (intro w hSw; (try dsimp only at hSw); go_simp <;> with_reducible rfl)
                          (try simp only [Act.put, List.setIfInBounds_toArray, List.set_cons_zero, List.set_cons_succ])
                          refine wpAnyH_take (i := 19) (oi := { dst := some 68, op := Op.move (Operand.tmp 2), type := 3, pos := "l10_dice.go:35", after := #[{ on := 3, ground := Ground.guard }], guard := some (3, true) }) (v := ?_) rfl (by kernel_rfl) (by kernel_rfl) (by kernel_rfl) (fun _ _ _ h => h) (Or.inl ⟨by rfl, ?_⟩) (by assumption) ?_
                          rotate_left 1
                          · (intro w hSw; (try dsimp only at hSw); go_simp <;> with_reducible rfl)
                          (try simp only [Act.put, List.setIfInBounds_toArray, List.set_cons_zero, List.set_cons_succ])
                          refine wpAnyH_ready (rs := [20]) (by kernel_rfl) (by simp) ?_
                          refine AllReadyH.cons (o := { dst := some 69, op := Op.call { callee := Callee.value (Operand.func 48), args := #[Operand.tmp 59, Operand.tmp 67, Operand.tmp 68], argTypes := #[27, 27, 3] }, type := 4, pos := "l10_dice.go:35", after := #[{ on := 10, ground := Ground.data }, { on := 18, ground := Ground.data }, { on := 19, ground := Ground.data }, { on := 3, ground := Ground.chain }, { on := 3, ground := Ground.guard }], guard := some (3, true) }) rfl (fun K hK => ?_) ?_
                          · go_simp
                            (with_reducible refine (HCR.out _).mono ?_)
                            rintro e w1 ⟨rfl, hb1⟩
                            have HQ := HQ.later hb1
                            clear hb1
                            (try go_wp2_with fail)
                            refine hK.out _ _ (by (try dsimp only); with_reducible exact HC2 _ HQ.below) (fun hHeld => ?_)
                            clear hK K
                            (try simp only [Act.put, List.setIfInBounds_toArray, List.set_cons_zero, List.set_cons_succ])
                            refine wpAnyH_take (i := 21) (oi := { dst := some 70, op := Op.pick (Operand.tmp 52) (Operand.tmp 69) (Operand.const (Value.bool false)), type := 4, pos := "l10_dice.go:35", after := #[{ on := 3, ground := Ground.data }, { on := 20, ground := Ground.data }], guard := none }) (v := ?_) rfl (by kernel_rfl) (by kernel_rfl) (by kernel_rfl) (fun _ _ _ h => h) (Or.inl ⟨by rfl, ?_⟩) (by assumption) ?_
                            rotate_left 1
                            · (intro w hSw; (try dsimp only at hSw); go_simp <;> with_reducible rfl)
                            (try simp only [Act.put, List.setIfInBounds_toArray, List.set_cons_zero, List.set_cons_succ])
                            refine wpAnyH_take (i := 22) (oi := { dst := some 71, op := Op.move (Operand.tmp 70), type := 4, pos := "l10_dice.go:35", after := #[{ on := 21, ground := Ground.data }, { on := 20, ground := Ground.chain }], guard := none }) (v := ?_) rfl (by kernel_rfl) (by kernel_rfl) (by kernel_rfl) (fun _ _ _ h => h) (Or.inl ⟨by rfl, ?_⟩) (by assumption) ?_
                            rotate_left 1
                            · (intro w hSw; (try dsimp only at hSw); go_simp <;> with_reducible rfl)
                            (try simp only [Act.put, List.setIfInBounds_toArray, List.set_cons_zero, List.set_cons_succ])
                            refine wpAnyH_take (i := 23) (oi := { dst := some 72, op := Op.move (Operand.tmp 10), type := 3, pos := "l10_dice.go:35", after := #[{ on := 22, ground := Ground.guard }], guard := some (22, false) }) (v := ?_) rfl (by kernel_rfl) (by kernel_rfl) (by kernel_rfl) (fun _ _ _ h => h) (Or.inl ⟨by rfl, ?_⟩) (by assumption) ?_
                            rotate_left 1
                            · (intro w hSw; (try dsimp only at hSw); go_simp <;> with_reducible rfl)
                            (try simp only [Act.put, List.setIfInBounds_toArray, List.set_cons_zero, List.set_cons_succ])
                            refine wpAnyH_take (i := 24) (oi := { dst := some 73, op := Op.move (Operand.tmp 7), type := 3, pos := "l10_dice.go:35", after := #[{ on := 22, ground := Ground.guard }], guard := some (22, false) }) (v := ?_) rfl (by kernel_rfl) (by kernel_rfl) (by kernel_rfl) (fun _ _ _ h => h) (Or.inl ⟨by rfl, ?_⟩) (by assumption) ?_
                            rotate_left 1
                            · (intro w hSw; (try dsimp only at hSw); go_simp <;> with_reducible rfl)
                            (try simp only [Act.put, List.setIfInBounds_toArray, List.set_cons_zero, List.set_cons_succ])
                            refine wpAnyH_take (i := 25) (oi := { dst := some 74, op := Op.binOp BinOp.lss 3 (Operand.tmp 72) (Operand.tmp 73) 3, type := 4, pos := "l10_dice.go:35", after := #[{ on := 23, ground := Ground.data }, { on := 24, ground := Ground.data }, { on := 22, ground := Ground.guard }], guard := some (22, false) }) (v := .bool true) rfl (by kernel_rfl) (by kernel_rfl) (by kernel_rfl) (fun _ _ _ h => h) (Or.inl ⟨by rfl, ?_⟩) (by assumption) ?_
                            · (intro w hSw; (try dsimp only at hSw); (go_simp; (try (first | exact Hj.out | (have h := Hj.out; omega)))))
                            (try simp only [Act.put, List.setIfInBounds_toArray, List.set_cons_zero, List.set_cons_succ])
                            refine wpAnyH_take (i := 26) (oi := { dst := some 75, op := Op.move (Operand.tmp 74), type := 4, pos := "l10_dice.go:35", after := #[{ on := 25, ground := Ground.data }, { on := 22, ground := Ground.chain }, { on := 22, ground := Ground.guard }], guard := some (22, false) }) (v := ?_) rfl (by kernel_rfl) (by kernel_rfl) (by kernel_rfl) (fun _ _ _ h => h) (Or.inl ⟨by rfl, ?_⟩) (by assumption) ?_
                            rotate_left 1
                            · (intro w hSw; (try dsimp only at hSw); go_simp <;> with_reducible rfl)
                            (try simp only [Act.put, List.setIfInBounds_toArray, List.set_cons_zero, List.set_cons_succ])
                            refine wpAnyH_take (i := 27) (oi := { dst := some 76, op := Op.move (Operand.tmp 8), type := 86, pos := "l10_dice.go:35", after := #[{ on := 26, ground := Ground.guard }], guard := some (26, true) }) (v := ?_) rfl (by kernel_rfl) (by kernel_rfl) (by kernel_rfl) (fun _ _ _ h => h) (Or.inl ⟨by rfl, ?_⟩) (by assumption) ?_
                            rotate_left 1
                            · (intro w hSw; (try dsimp only at hSw); go_simp <;> with_reducible rfl)
                            (try simp only [Act.put, List.setIfInBounds_toArray, List.set_cons_zero, List.set_cons_succ])
                            refine wpAnyH_take (i := 28) (oi := { dst := some 77, op := Op.move (Operand.tmp 10), type := 3, pos := "l10_dice.go:35", after := #[{ on := 26, ground := Ground.guard }], guard := some (26, true) }) (v := ?_) rfl (by kernel_rfl) (by kernel_rfl) (by kernel_rfl) (fun _ _ _ h => h) (Or.inl ⟨by rfl, ?_⟩) (by assumption) ?_
                            rotate_left 1
                            · (intro w hSw; (try dsimp only at hSw); go_simp <;> with_reducible rfl)
                            (try simp only [Act.put, List.setIfInBounds_toArray, List.set_cons_zero, List.set_cons_succ])
                            refine wpAnyH_take (i := 29) (oi := { dst := some 78, op := Op.indexAddr 86 (Operand.tmp 76) (Operand.tmp 77), type := 0, pos := "l10_dice.go:35", after := #[{ on := 27, ground := Ground.data }, { on := 28, ground := Ground.data }, { on := 26, ground := Ground.guard }], guard := some (26, true) }) (v := ?_) rfl (by kernel_rfl) (by kernel_rfl) (by kernel_rfl) (fun _ _ _ h => h) (Or.inl ⟨by rfl, ?_⟩) (by assumption) ?_
                            rotate_left 1
                            · (intro w hSw; (try dsimp only at hSw); go_simp <;> with_reducible rfl)
                            (try simp only [Act.put, List.setIfInBounds_toArray, List.set_cons_zero, List.set_cons_succ])
                            refine wpAnyH_take (i := 30) (oi := { dst := some 79, op := Op.load 81 (Operand.tmp 78), type := 81, pos := "l10_dice.go:35", after := #[{ on := 29, ground := Ground.data }, { on := 26, ground := Ground.guard }], guard := some (26, true) }) (v := ?_) rfl (by kernel_rfl) (by kernel_rfl) (by kernel_rfl) (fun _ _ _ h => h) (Or.inl ⟨by rfl, ?_⟩) (by assumption) ?_
                            rotate_left 1
                            · (intro w hSw; (try dsimp only at hSw); go_simp <;> with_reducible rfl)
                            (try simp only [Act.put, List.setIfInBounds_toArray, List.set_cons_zero, List.set_cons_succ])
                            refine wpAnyH_take (i := 31) (oi := { dst := some 80, op := Op.move (Operand.tmp 11), type := 3, pos := "l10_dice.go:35", after := #[{ on := 26, ground := Ground.guard }], guard := some (26, true) }) (v := ?_) rfl (by kernel_rfl) (by kernel_rfl) (by kernel_rfl) (fun _ _ _ h => h) (Or.inl ⟨by rfl, ?_⟩) (by assumption) ?_
                            rotate_left 1
                            · (intro w hSw; (try dsimp only at hSw); go_simp <;> with_reducible rfl)
                            (try simp only [Act.put, List.setIfInBounds_toArray, List.set_cons_zero, List.set_cons_succ])
                            refine wpAnyH_take (i := 32) (oi := { dst := some 81, op := Op.indexAddr 81 (Operand.tmp 79) (Operand.tmp 80), type := 0, pos := "l10_dice.go:35", after := #[{ on := 30, ground := Ground.data }, { on := 31, ground := Ground.data }, { on := 26, ground := Ground.guard }], guard := some (26, true) }) (v := ?_) rfl (by kernel_rfl) (by kernel_rfl) (by kernel_rfl) (fun _ _ _ h => h) (Or.inl ⟨by rfl, ?_⟩) (by assumption) ?_
                            rotate_left 1
                            · (intro w hSw; (try dsimp only at hSw); go_simp <;> with_reducible rfl)
                            (try simp only [Act.put, List.setIfInBounds_toArray, List.set_cons_zero, List.set_cons_succ])
                            refine wpAnyH_take (i := 33) (oi := { dst := some 82, op := Op.load 27 (Operand.tmp 81), type := 27, pos := "l10_dice.go:35", after := #[{ on := 32, ground := Ground.data }, { on := 26, ground := Ground.guard }], guard := some (26, true) }) (v := ?_) rfl (by kernel_rfl) (by kernel_rfl) (by kernel_rfl) (fun _ _ _ h => h) (Or.inl ⟨by rfl, ?_⟩) (by assumption) ?_
                            rotate_left 1
                            · (intro w hSw; (try dsimp only at hSw); go_simp <;> with_reducible rfl)
                            (try simp only [Act.put, List.setIfInBounds_toArray, List.set_cons_zero, List.set_cons_succ])
                            refine wpAnyH_take (i := 34) (oi := { dst := some 83, op := Op.move (Operand.tmp 8), type := 86, pos := "l10_dice.go:35", after := #[{ on := 26, ground := Ground.guard }], guard := some (26, true) }) (v := ?_) rfl (by kernel_rfl) (by kernel_rfl) (by kernel_rfl) (fun _ _ _ h => h) (Or.inl ⟨by rfl, ?_⟩) (by assumption) ?_
                            rotate_left 1
                            · (intro w hSw; (try dsimp only at hSw); go_simp <;> with_reducible rfl)
                            (try simp only [Act.put, List.setIfInBounds_toArray, List.set_cons_zero, List.set_cons_succ])
                            refine wpAnyH_take (i := 35) (oi := { dst := some 84, op := Op.move (Operand.tmp 10), type := 3, pos := "l10_dice.go:35", after := #[{ on := 26, ground := Ground.guard }], guard := some (26, true) }) (v := ?_) rfl (by kernel_rfl) (by kernel_rfl) (by kernel_rfl) (fun _ _ _ h => h) (Or.inl ⟨by rfl, ?_⟩) (by assumption) ?_
                            rotate_left 1
                            · (intro w hSw; (try dsimp only at hSw); go_simp <;> with_reducible rfl)
                            (try simp only [Act.put, List.setIfInBounds_toArray, List.set_cons_zero, List.set_cons_succ])
                            refine wpAnyH_take (i := 36) (oi := { dst := some 85, op := Op.binOp BinOp.add 3 (Operand.tmp 84) (Operand.const (Value.int IntKind.i64 1)) 3, type := 3, pos := "l10_dice.go:35", after := #[{ on := 35, ground := Ground.data }, { on := 26, ground := Ground.guard }], guard := some (26, true) }) (v := ?_) rfl (by kernel_rfl) (by kernel_rfl) (by kernel_rfl) (fun _ _ _ h => h) (Or.inl ⟨by rfl, ?_⟩) (by assumption) ?_
                            rotate_left 1
                            · (intro w hSw; (try dsimp only at hSw); go_simp <;> with_reducible rfl)
                            (try simp only [Act.put, List.setIfInBounds_toArray, List.set_cons_zero, List.set_cons_succ])
                            refine wpAnyH_take (i := 37) (oi := { dst := some 86, op := Op.indexAddr 86 (Operand.tmp 83) (Operand.tmp 85), type := 0, pos := "l10_dice.go:35", after := #[{ on := 34, ground := Ground.data }, { on := 36, ground := Ground.data }, { on := 26, ground := Ground.guard }], guard := some (26, true) }) (v := ?_) rfl (by kernel_rfl) (by kernel_rfl) (by kernel_rfl) (fun _ _ _ h => h) (Or.inl ⟨by rfl, ?_⟩) (by assumption) ?_
                            rotate_left 1
                            · (intro w hSw; (try dsimp only at hSw); go_simp <;> with_reducible rfl)
                            (try simp only [Act.put, List.setIfInBounds_toArray, List.set_cons_zero, List.set_cons_succ])
                            refine wpAnyH_take (i := 38) (oi := { dst := some 87, op := Op.load 81 (Operand.tmp 86), type := 81, pos := "l10_dice.go:35", after := #[{ on := 37, ground := Ground.data }, { on := 26, ground := Ground.guard }], guard := some (26, true) }) (v := ?_) rfl (by kernel_rfl) (by kernel_rfl) (by kernel_rfl) (fun _ _ _ h => h) (Or.inl ⟨by rfl, ?_⟩) (by assumption) ?_
                            rotate_left 1
                            · (intro w hSw; (try dsimp only at hSw); go_simp <;> with_reducible rfl)
                            (try simp only [Act.put, List.setIfInBounds_toArray, List.set_cons_zero, List.set_cons_succ])
                            refine wpAnyH_take (i := 39) (oi := { dst := some 88, op := Op.move (Operand.tmp 11), type := 3, pos := "l10_dice.go:35", after := #[{ on := 26, ground := Ground.guard }], guard := some (26, true) }) (v := ?_) rfl (by kernel_rfl) (by kernel_rfl) (by kernel_rfl) (fun _ _ _ h => h) (Or.inl ⟨by rfl, ?_⟩) (by assumption) ?_
                            rotate_left 1
                            · (intro w hSw; (try dsimp only at hSw); go_simp <;> with_reducible rfl)
                            (try simp only [Act.put, List.setIfInBounds_toArray, List.set_cons_zero, List.set_cons_succ])
                            refine wpAnyH_take (i := 40) (oi := { dst := some 89, op := Op.indexAddr 81 (Operand.tmp 87) (Operand.tmp 88), type := 0, pos := "l10_dice.go:35", after := #[{ on := 38, ground := Ground.data }, { on := 39, ground := Ground.data }, { on := 26, ground := Ground.guard }], guard := some (26, true) }) (v := ?_) rfl (by kernel_rfl) (by kernel_rfl) (by kernel_rfl) (fun _ _ _ h => h) (Or.inl ⟨by rfl, ?_⟩) (by assumption) ?_
                            rotate_left 1
                            · (intro w hSw; (try dsimp only at hSw); go_simp <;> with_reducible rfl)
                            (try simp only [Act.put, List.setIfInBounds_toArray, List.set_cons_zero, List.set_cons_succ])
                            refine wpAnyH_take (i := 41) (oi := { dst := some 90, op := Op.load 27 (Operand.tmp 89), type := 27, pos := "l10_dice.go:35", after := #[{ on := 40, ground := Ground.data }, { on := 26, ground := Ground.guard }], guard := some (26, true) }) (v := ?_) rfl (by kernel_rfl) (by kernel_rfl) (by kernel_rfl) (fun _ _ _ h => h) (Or.inl ⟨by rfl, ?_⟩) (by assumption) ?_
                            rotate_left 1
                            · (intro w hSw; (try dsimp only at hSw); go_simp <;> with_reducible rfl)
                            (try simp only [Act.put, List.setIfInBounds_toArray, List.set_cons_zero, List.set_cons_succ])
                            refine wpAnyH_take (i := 42) (oi := { dst := some 91, op := Op.move (Operand.tmp 2), type := 3, pos := "l10_dice.go:35", after := #[{ on := 26, ground := Ground.guard }], guard := some (26, true) }) (v := ?_) rfl (by kernel_rfl) (by kernel_rfl) (by kernel_rfl) (fun _ _ _ h => h) (Or.inl ⟨by rfl, ?_⟩) (by assumption) ?_
                            rotate_left 1
                            · (intro w hSw; (try dsimp only at hSw); go_simp <;> with_reducible rfl)
                            (try simp only [Act.put, List.setIfInBounds_toArray, List.set_cons_zero, List.set_cons_succ])
                            refine wpAnyH_ready (rs := [43]) (by kernel_rfl) (by simp) ?_
                            refine AllReadyH.cons (o := { dst := some 92, op := Op.call { callee := Callee.value (Operand.func 48), args := #[Operand.tmp 82, Operand.tmp 90, Operand.tmp 91], argTypes := #[27, 27, 3] }, type := 4, pos := "l10_dice.go:35", after := #[{ on := 33, ground := Ground.data }, { on := 41, ground := Ground.data }, { on := 42, ground := Ground.data }, { on := 26, ground := Ground.chain }, { on := 26, ground := Ground.guard }], guard := some (26, true) }) rfl (fun K hK => ?_) ?_
                            · go_simp
                              (with_reducible refine (HCB.out _).mono ?_)
                              rintro e w1 ⟨rfl, hb1⟩
                              have HQ := HQ.later hb1
                              clear hb1
                              (try go_wp2_with fail)
                              refine hK.out _ _ (by (try dsimp only); with_reducible exact HC2 _ HQ.below) (fun hHeld => ?_)
                              clear hK K
                              (try simp only [Act.put, List.setIfInBounds_toArray, List.set_cons_zero, List.set_cons_succ])
                              refine wpAnyH_take (i := 44) (oi := { dst := some 93, op := Op.pick (Operand.tmp 75) (Operand.tmp 92) (Operand.const (Value.bool false)), type := 4, pos := "l10_dice.go:35", after := #[{ on := 26, ground := Ground.data }, { on := 43, ground := Ground.data }, { on := 22, ground := Ground.guard }], guard := some (22, false) }) (v := ?_) rfl (by kernel_rfl) (by kernel_rfl) (by kernel_rfl) (fun _ _ _ h => h) (Or.inl ⟨by rfl, ?_⟩) (by assumption) ?_
                              rotate_left 1
                              · (intro w hSw; (try dsimp only at hSw); go_simp <;> with_reducible rfl)
                              (try simp only [Act.put, List.setIfInBounds_toArray, List.set_cons_zero, List.set_cons_succ])
                              refine wpAnyH_take (i := 45) (oi := { dst := some 94, op := Op.pick (Operand.tmp 71) (Operand.const (Value.bool true)) (Operand.tmp 93), type := 4, pos := "l10_dice.go:35", after := #[{ on := 22, ground := Ground.data }, { on := 44, ground := Ground.data }], guard := none }) (v := ?_) rfl (by kernel_rfl) (by kernel_rfl) (by kernel_rfl) (fun _ _ _ h => h) (Or.inl ⟨by rfl, ?_⟩) (by assumption) ?_
                              rotate_left 1
                              · (intro w hSw; (try dsimp only at hSw); go_simp <;> with_reducible rfl)
                              (try simp only [Act.put, List.setIfInBounds_toArray, List.set_cons_zero, List.set_cons_succ])
                              refine wpAnyH_done (by kernel_rfl) ?_ _
                              clear hHeld
                              go_wp2
                              go_meet
                              exact ⟨_, rfl, fun h => (by first | cases h; done | exact HYN.out.1 h | exact HYN.out.1 trivial), fun h => (by first | cases h; done | exact HYN.out.2 h | exact HYN.out.2 trivial), HQ.below⟩
                            exact AllReadyH.nil
                          exact AllReadyH.nil
                        · have HCB : Hid (∀ w, Calls Try.prog 48 #[v3v pv, v3v pb, .int .i64 m] w (BoolIs false w)) := Lib.hid (fun w => by have h := far_any pv pb m HPV.out HPB.out w; rw [hnb] at h; exact h)
                          have HYN : Hid (((false : Bool) = false → pairOk C P m n i j) ∧ ((false : Bool) = true → rateOk C P m n = false)) := Lib.hid ⟨fun _ => ⟨fun h => by rw [← HPVE.out, ← HI1.out, ← HPRE.out]; exact hnr, fun h => by rw [← HPVE.out, ← HJ1.out, ← HPBE.out]; exact hnb⟩, fun e => (by cases e)⟩
                          clear hnr hnb hgi hrow
                          have HC2 : ∀ W', Below wr.heap.size wr W' → (W'.cell? ⟨G, j, none⟩ = some (.slice (some ⟨gj, 0, none⟩) s cj) ∧ W'.cell? ⟨gj, i * 3, none⟩ = some (.int .i64 pv.1) ∧ W'.cell? ⟨gj, i * 3 + 1, none⟩ = some (.int .i64 pv.2.1) ∧ W'.cell? ⟨gj, i * 3 + 2, none⟩ = some (.int .i64 pv.2.2) ∧ W'.cell? ⟨gj, i1 * 3, none⟩ = some (.int .i64 pr.1) ∧ W'.cell? ⟨gj, i1 * 3 + 1, none⟩ = some (.int .i64 pr.2.1) ∧ W'.cell? ⟨gj, i1 * 3 + 2, none⟩ = some (.int .i64 pr.2.2) ∧ W'.cell? ⟨G, j1, none⟩ = some (.slice (some ⟨gk, 0, none⟩) s ck) ∧ W'.cell? ⟨gk, i * 3, none⟩ = some (.int .i64 pb.1) ∧ W'.cell? ⟨gk, i * 3 + 1, none⟩ = some (.int .i64 pb.2.1) ∧ W'.cell? ⟨gk, i * 3 + 2, none⟩ = some (.int .i64 pb.2.2)) := fun W' h => ⟨(h.cell (World.block_lt_of_cell? wr _ (fj))).trans (fj), (h.cell (World.block_lt_of_cell? wr _ (fv.1))).trans (fv.1), (h.cell (World.block_lt_of_cell? wr _ (fv.2.1))).trans (fv.2.1), (h.cell (World.block_lt_of_cell? wr _ (fv.2.2))).trans (fv.2.2), (h.cell (World.block_lt_of_cell? wr _ (fr.1))).trans (fr.1), (h.cell (World.block_lt_of_cell? wr _ (fr.2.1))).trans (fr.2.1), (h.cell (World.block_lt_of_cell? wr _ (fr.2.2))).trans (fr.2.2), (h.cell (World.block_lt_of_cell? wr _ (fk))).trans (fk), (h.cell (World.block_lt_of_cell? wr _ (fb.1))).trans (fb.1), (h.cell (World.block_lt_of_cell? wr _ (fb.2.1))).trans (fb.2.1), (h.cell (World.block_lt_of_cell? wr _ (fb.2.2))).trans (fb.2.2)⟩
                          clear fj fv fr fk fb
                          have HQ := Held.nil wr
                          have hHC := HC2 _ HQ.drew.below
                          have HQ := HQ.drew
                          refine wp_region_held_drew (S := fun w' => w'.cell? ⟨G, j, none⟩ = some (.slice (some ⟨gj, 0, none⟩) s cj) ∧ w'.cell? ⟨gj, i * 3, none⟩ = some (.int .i64 pv.1) ∧ w'.cell? ⟨gj, i * 3 + 1, none⟩ = some (.int .i64 pv.2.1) ∧ w'.cell? ⟨gj, i * 3 + 2, none⟩ = some (.int .i64 pv.2.2) ∧ w'.cell? ⟨gj, i1 * 3, none⟩ = some (.int .i64 pr.1) ∧ w'.cell? ⟨gj, i1 * 3 + 1, none⟩ = some (.int .i64 pr.2.1) ∧ w'.cell? ⟨gj, i1 * 3 + 2, none⟩ = some (.int .i64 pr.2.2) ∧ w'.cell? ⟨G, j1, none⟩ = some (.slice (some ⟨gk, 0, none⟩) s ck) ∧ w'.cell? ⟨gk, i * 3, none⟩ = some (.int .i64 pb.1) ∧ w'.cell? ⟨gk, i * 3 + 1, none⟩ = some (.int .i64 pb.2.1) ∧ w'.cell? ⟨gk, i * 3 + 2, none⟩ = some (.int .i64 pb.2.2)) (by kernel_rfl) hHC (fun hHeld => ?_)
                          clear hHC
                          refine wpAnyH_take (i := 0) (oi := { dst := some 49, op := Op.move (Operand.tmp 11), type := 3, pos := "l10_dice.go:35", after := #[], guard := none }) (v := ?_) rfl (by kernel_rfl) (by kernel_rfl) (by kernel_rfl) (fun _ _ _ h => h) (Or.inl ⟨by rfl, ?_⟩) (by assumption) ?_
                          rotate_left 1
                          · (intro w hSw; (try dsimp only at hSw); go_simp <;> with_reducible rfl)
                          (try simp only [Act.put, List.setIfInBounds_toArray, List.set_cons_zero, List.set_cons_succ])
                          refine wpAnyH_take (i := 1) (oi := { dst := some 50, op := Op.move (Operand.tmp 7), type := 3, pos := "l10_dice.go:35", after := #[], guard := none }) (v := ?_) rfl (by kernel_rfl) (by kernel_rfl) (by kernel_rfl) (fun _ _ _ h => h) (Or.inl ⟨by rfl, ?_⟩) (by assumption) ?_
                          rotate_left 1
                          · (intro w hSw; (try dsimp only at hSw); go_simp <;> with_reducible rfl)
                          (try simp only [Act.put, List.setIfInBounds_toArray, List.set_cons_zero, List.set_cons_succ])
                          refine wpAnyH_take (i := 2) (oi := { dst := some 51, op := Op.binOp BinOp.lss 3 (Operand.tmp 49) (Operand.tmp 50) 3, type := 4, pos := "l10_dice.go:35", after := #[{ on := 0, ground := Ground.data }, { on := 1, ground := Ground.data }], guard := none }) (v := .bool true) rfl (by kernel_rfl) (by kernel_rfl) (by kernel_rfl) (fun _ _ _ h => h) (Or.inl ⟨by rfl, ?_⟩) (by assumption) ?_
                          · (intro w hSw; (try dsimp only at hSw); (go_simp; (try (first | exact Hi.out | (have h := Hi.out; omega)))))
                          (try simp only [Act.put, List.setIfInBounds_toArray, List.set_cons_zero, List.set_cons_succ])
                          refine wpAnyH_take (i := 3) (oi := { dst := some 52, op := Op.move (Operand.tmp 51), type := 4, pos := "l10_dice.go:35", after := #[{ on := 2, ground := Ground.data }], guard := none }) (v := ?_) rfl (by kernel_rfl) (by kernel_rfl) (by kernel_rfl) (fun _ _ _ h => h) (Or.inl ⟨by rfl, ?_⟩) (by assumption) ?_
                          rotate_left 1
                          · (intro w hSw; (try dsimp only at hSw); go_simp <;> with_reducible rfl)
                          (try simp only [Act.put, List.setIfInBounds_toArray, List.set_cons_zero, List.set_cons_succ])
                          refine wpAnyH_take (i := 4) (oi := { dst := some 53, op := Op.move (Operand.tmp 8), type := 86, pos := "l10_dice.go:35", after := #[{ on := 3, ground := Ground.guard }], guard := some (3, true) }) (v := ?_) rfl (by kernel_rfl) (by kernel_rfl) (by kernel_rfl) (fun _ _ _ h => h) (Or.inl ⟨by rfl, ?_⟩) (by assumption) ?_
                          rotate_left 1
                          · (intro w hSw; (try dsimp only at hSw); go_simp <;> with_reducible rfl)
                          (try simp only [Act.put, List.setIfInBounds_toArray, List.set_cons_zero, List.set_cons_succ])
                          refine wpAnyH_take (i := 5) (oi := { dst := some 54, op := Op.move (Operand.tmp 10), type := 3, pos := "l10_dice.go:35", after := #[{ on := 3, ground := Ground.guard }], guard := some (3, true) }) (v := ?_) rfl (by kernel_rfl) (by kernel_rfl) (by kernel_rfl) (fun _ _ _ h => h) (Or.inl ⟨by rfl, ?_⟩) (by assumption) ?_
                          rotate_left 1
                          · (intro w hSw; (try dsimp only at hSw); go_simp <;> with_reducible rfl)
                          (try simp only [Act.put, List.setIfInBounds_toArray, List.set_cons_zero, List.set_cons_succ])
                          refine wpAnyH_take (i := 6) (oi := { dst := some 55, op := Op.indexAddr 86 (Operand.tmp 53) (Operand.tmp 54), type := 0, pos := "l10_dice.go:35", after := #[{ on := 4, ground := Ground.data }, { on := 5, ground := Ground.data }, { on := 3, ground := Ground.guard }], guard := some (3, true) }) (v := ?_) rfl (by kernel_rfl) (by kernel_rfl) (by kernel_rfl) (fun _ _ _ h => h) (Or.inl ⟨by rfl, ?_⟩) (by assumption) ?_
                          rotate_left 1
                          · (intro w hSw; (try dsimp only at hSw); go_simp <;> with_reducible rfl)
                          (try simp only [Act.put, List.setIfInBounds_toArray, List.set_cons_zero, List.set_cons_succ])
                          refine wpAnyH_take (i := 7) (oi := { dst := some 56, op := Op.load 81 (Operand.tmp 55), type := 81, pos := "l10_dice.go:35", after := #[{ on := 6, ground := Ground.data }, { on := 3, ground := Ground.guard }], guard := some (3, true) }) (v := ?_) rfl (by kernel_rfl) (by kernel_rfl) (by kernel_rfl) (fun _ _ _ h => h) (Or.inl ⟨by rfl, ?_⟩) (by assumption) ?_
                          rotate_left 1
                          · (intro w hSw; (try dsimp only at hSw); go_simp <;> with_reducible rfl)
                          (try simp only [Act.put, List.setIfInBounds_toArray, List.set_cons_zero, List.set_cons_succ])
                          refine wpAnyH_take (i := 8) (oi := { dst := some 57, op := Op.move (Operand.tmp 11), type := 3, pos := "l10_dice.go:35", after := #[{ on := 3, ground := Ground.guard }], guard := some (3, true) }) (v := ?_) rfl (by kernel_rfl) (by kernel_rfl) (by kernel_rfl) (fun _ _ _ h => h) (Or.inl ⟨by rfl, ?_⟩) (by assumption) ?_
                          rotate_left 1
                          · (intro w hSw; (try dsimp only at hSw); go_simp <;> with_reducible rfl)
                          (try simp only [Act.put, List.setIfInBounds_toArray, List.set_cons_zero, List.set_cons_succ])
                          refine wpAnyH_take (i := 9) (oi := { dst := some 58, op := Op.indexAddr 81 (Operand.tmp 56) (Operand.tmp 57), type := 0, pos := "l10_dice.go:35", after := #[{ on := 7, ground := Ground.data }, { on := 8, ground := Ground.data }, { on := 3, ground := Ground.guard }], guard := some (3, true) }) (v := ?_) rfl (by kernel_rfl) (by kernel_rfl) (by kernel_rfl) (fun _ _ _ h => h) (Or.inl ⟨by rfl, ?_⟩) (by assumption) ?_
                          rotate_left 1
                          · (intro w hSw; (try dsimp only at hSw); go_simp <;> with_reducible rfl)
                          (try simp only [Act.put, List.setIfInBounds_toArray, List.set_cons_zero, List.set_cons_succ])
                          refine wpAnyH_take (i := 10) (oi := { dst := some 59, op := Op.load 27 (Operand.tmp 58), type := 27, pos := "l10_dice.go:35", after := #[{ on := 9, ground := Ground.data }, { on := 3, ground := Ground.guard }], guard := some (3, true) }) (v := ?_) rfl (by kernel_rfl) (by kernel_rfl) (by kernel_rfl) (fun _ _ _ h => h) (Or.inl ⟨by rfl, ?_⟩) (by assumption) ?_
                          rotate_left 1
                          · (intro w hSw; (try dsimp only at hSw); go_simp <;> with_reducible rfl)
                          (try simp only [Act.put, List.setIfInBounds_toArray, List.set_cons_zero, List.set_cons_succ])
                          refine wpAnyH_take (i := 11) (oi := { dst := some 60, op := Op.move (Operand.tmp 8), type := 86, pos := "l10_dice.go:35", after := #[{ on := 3, ground := Ground.guard }], guard := some (3, true) }) (v := ?_) rfl (by kernel_rfl) (by kernel_rfl) (by kernel_rfl) (fun _ _ _ h => h) (Or.inl ⟨by rfl, ?_⟩) (by assumption) ?_
                          rotate_left 1
                          · (intro w hSw; (try dsimp only at hSw); go_simp <;> with_reducible rfl)
                          (try simp only [Act.put, List.setIfInBounds_toArray, List.set_cons_zero, List.set_cons_succ])
                          refine wpAnyH_take (i := 12) (oi := { dst := some 61, op := Op.move (Operand.tmp 10), type := 3, pos := "l10_dice.go:35", after := #[{ on := 3, ground := Ground.guard }], guard := some (3, true) }) (v := ?_) rfl (by kernel_rfl) (by kernel_rfl) (by kernel_rfl) (fun _ _ _ h => h) (Or.inl ⟨by rfl, ?_⟩) (by assumption) ?_
                          rotate_left 1
                          · (intro w hSw; (try dsimp only at hSw); go_simp <;> with_reducible rfl)
                          (try simp only [Act.put, List.setIfInBounds_toArray, List.set_cons_zero, List.set_cons_succ])
                          refine wpAnyH_take (i := 13) (oi := { dst := some 62, op := Op.indexAddr 86 (Operand.tmp 60) (Operand.tmp 61), type := 0, pos := "l10_dice.go:35", after := #[{ on := 11, ground := Ground.data }, { on := 12, ground := Ground.data }, { on := 3, ground := Ground.guard }], guard := some (3, true) }) (v := ?_) rfl (by kernel_rfl) (by kernel_rfl) (by kernel_rfl) (fun _ _ _ h => h) (Or.inl ⟨by rfl, ?_⟩) (by assumption) ?_
                          rotate_left 1
                          · (intro w hSw; (try dsimp only at hSw); go_simp <;> with_reducible rfl)
                          (try simp only [Act.put, List.setIfInBounds_toArray, List.set_cons_zero, List.set_cons_succ])
                          refine wpAnyH_take (i := 14) (oi := { dst := some 63, op := Op.load 81 (Operand.tmp 62), type := 81, pos := "l10_dice.go:35", after := #[{ on := 13, ground := Ground.data }, { on := 3, ground := Ground.guard }], guard := some (3, true) }) (v := ?_) rfl (by kernel_rfl) (by kernel_rfl) (by kernel_rfl) (fun _ _ _ h => h) (Or.inl ⟨by rfl, ?_⟩) (by assumption) ?_
                          rotate_left 1
                          · (intro w hSw; (try dsimp only at hSw); go_simp <;> with_reducible rfl)
                          (try simp only [Act.put, List.setIfInBounds_toArray, List.set_cons_zero, List.set_cons_succ])
                          refine wpAnyH_take (i := 15) (oi := { dst := some 64, op := Op.move (Operand.tmp 11), type := 3, pos := "l10_dice.go:35", after := #[{ on := 3, ground := Ground.guard }], guard := some (3, true) }) (v := ?_) rfl (by kernel_rfl) (by kernel_rfl) (by kernel_rfl) (fun _ _ _ h => h) (Or.inl ⟨by rfl, ?_⟩) (by assumption) ?_
                          rotate_left 1
                          · (intro w hSw; (try dsimp only at hSw); go_simp <;> with_reducible rfl)
                          (try simp only [Act.put, List.setIfInBounds_toArray, List.set_cons_zero, List.set_cons_succ])
                          refine wpAnyH_take (i := 16) (oi := { dst := some 65, op := Op.binOp BinOp.add 3 (Operand.tmp 64) (Operand.const (Value.int IntKind.i64 1)) 3, type := 3, pos := "l10_dice.go:35", after := #[{ on := 15, ground := Ground.data }, { on := 3, ground := Ground.guard }], guard := some (3, true) }) (v := ?_) rfl (by kernel_rfl) (by kernel_rfl) (by kernel_rfl) (fun _ _ _ h => h) (Or.inl ⟨by rfl, ?_⟩) (by assumption) ?_
                          rotate_left 1
                          · (intro w hSw; (try dsimp only at hSw); go_simp <;> with_reducible rfl)
                          (try simp only [Act.put, List.setIfInBounds_toArray, List.set_cons_zero, List.set_cons_succ])
                          refine wpAnyH_take (i := 17) (oi := { dst := some 66, op := Op.indexAddr 81 (Operand.tmp 63) (Operand.tmp 65), type := 0, pos := "l10_dice.go:35", after := #[{ on := 14, ground := Ground.data }, { on := 16, ground := Ground.data }, { on := 3, ground := Ground.guard }], guard := some (3, true) }) (v := ?_) rfl (by kernel_rfl) (by kernel_rfl) (by kernel_rfl) (fun _ _ _ h => h) (Or.inl ⟨by rfl, ?_⟩) (by assumption) ?_
                          rotate_left 1
                          · (intro w hSw; (try dsimp only at hSw); go_simp <;> with_reducible rfl)
                          (try simp only [Act.put, List.setIfInBounds_toArray, List.set_cons_zero, List.set_cons_succ])
                          refine wpAnyH_take (i := 18) (oi := { dst := some 67, op := Op.load 27 (Operand.tmp 66), type := 27, pos := "l10_dice.go:35", after := #[{ on := 17, ground := Ground.data }, { on := 3, ground := Ground.guard }], guard := some (3, true) }) (v := ?_) rfl (by kernel_rfl) (by kernel_rfl) (by kernel_rfl) (fun _ _ _ h => h) (Or.inl ⟨by rfl, ?_⟩) (by assumption) ?_
                          rotate_left 1
                          · (intro w hSw; (try dsimp only at hSw); go_simp <;> with_reducible rfl)
                          (try simp only [Act.put, List.setIfInBounds_toArray, List.set_cons_zero, List.set_cons_succ])
                          refine wpAnyH_take (i := 19) (oi := { dst := some 68, op := Op.move (Operand.tmp 2), type := 3, pos := "l10_dice.go:35", after := #[{ on := 3, ground := Ground.guard }], guard := some (3, true) }) (v := ?_) rfl (by kernel_rfl) (by kernel_rfl) (by kernel_rfl) (fun _ _ _ h => h) (Or.inl ⟨by rfl, ?_⟩) (by assumption) ?_
                          rotate_left 1
                          · (intro w hSw; (try dsimp only at hSw); go_simp <;> with_reducible rfl)
                          (try simp only [Act.put, List.setIfInBounds_toArray, List.set_cons_zero, List.set_cons_succ])
                          refine wpAnyH_ready (rs := [20]) (by kernel_rfl) (by simp) ?_
                          refine AllReadyH.cons (o := { dst := some 69, op := Op.call { callee := Callee.value (Operand.func 48), args := #[Operand.tmp 59, Operand.tmp 67, Operand.tmp 68], argTypes := #[27, 27, 3] }, type := 4, pos := "l10_dice.go:35", after := #[{ on := 10, ground := Ground.data }, { on := 18, ground := Ground.data }, { on := 19, ground := Ground.data }, { on := 3, ground := Ground.chain }, { on := 3, ground := Ground.guard }], guard := some (3, true) }) rfl (fun K hK => ?_) ?_
                          · go_simp
                            (with_reducible refine (HCR.out _).mono ?_)
                            rintro e w1 ⟨rfl, hb1⟩
                            have HQ := HQ.later hb1
                            clear hb1
                            (try go_wp2_with fail)
                            refine hK.out _ _ (by (try dsimp only); with_reducible exact HC2 _ HQ.below) (fun hHeld => ?_)
                            clear hK K
                            (try simp only [Act.put, List.setIfInBounds_toArray, List.set_cons_zero, List.set_cons_succ])
                            refine wpAnyH_take (i := 21) (oi := { dst := some 70, op := Op.pick (Operand.tmp 52) (Operand.tmp 69) (Operand.const (Value.bool false)), type := 4, pos := "l10_dice.go:35", after := #[{ on := 3, ground := Ground.data }, { on := 20, ground := Ground.data }], guard := none }) (v := ?_) rfl (by kernel_rfl) (by kernel_rfl) (by kernel_rfl) (fun _ _ _ h => h) (Or.inl ⟨by rfl, ?_⟩) (by assumption) ?_
                            rotate_left 1
                            · (intro w hSw; (try dsimp only at hSw); go_simp <;> with_reducible rfl)
                            (try simp only [Act.put, List.setIfInBounds_toArray, List.set_cons_zero, List.set_cons_succ])
                            refine wpAnyH_take (i := 22) (oi := { dst := some 71, op := Op.move (Operand.tmp 70), type := 4, pos := "l10_dice.go:35", after := #[{ on := 21, ground := Ground.data }, { on := 20, ground := Ground.chain }], guard := none }) (v := ?_) rfl (by kernel_rfl) (by kernel_rfl) (by kernel_rfl) (fun _ _ _ h => h) (Or.inl ⟨by rfl, ?_⟩) (by assumption) ?_
                            rotate_left 1
                            · (intro w hSw; (try dsimp only at hSw); go_simp <;> with_reducible rfl)
                            (try simp only [Act.put, List.setIfInBounds_toArray, List.set_cons_zero, List.set_cons_succ])
                            refine wpAnyH_take (i := 23) (oi := { dst := some 72, op := Op.move (Operand.tmp 10), type := 3, pos := "l10_dice.go:35", after := #[{ on := 22, ground := Ground.guard }], guard := some (22, false) }) (v := ?_) rfl (by kernel_rfl) (by kernel_rfl) (by kernel_rfl) (fun _ _ _ h => h) (Or.inl ⟨by rfl, ?_⟩) (by assumption) ?_
                            rotate_left 1
                            · (intro w hSw; (try dsimp only at hSw); go_simp <;> with_reducible rfl)
                            (try simp only [Act.put, List.setIfInBounds_toArray, List.set_cons_zero, List.set_cons_succ])
                            refine wpAnyH_take (i := 24) (oi := { dst := some 73, op := Op.move (Operand.tmp 7), type := 3, pos := "l10_dice.go:35", after := #[{ on := 22, ground := Ground.guard }], guard := some (22, false) }) (v := ?_) rfl (by kernel_rfl) (by kernel_rfl) (by kernel_rfl) (fun _ _ _ h => h) (Or.inl ⟨by rfl, ?_⟩) (by assumption) ?_
                            rotate_left 1
                            · (intro w hSw; (try dsimp only at hSw); go_simp <;> with_reducible rfl)
                            (try simp only [Act.put, List.setIfInBounds_toArray, List.set_cons_zero, List.set_cons_succ])
                            refine wpAnyH_take (i := 25) (oi := { dst := some 74, op := Op.binOp BinOp.lss 3 (Operand.tmp 72) (Operand.tmp 73) 3, type := 4, pos := "l10_dice.go:35", after := #[{ on := 23, ground := Ground.data }, { on := 24, ground := Ground.data }, { on := 22, ground := Ground.guard }], guard := some (22, false) }) (v := .bool true) rfl (by kernel_rfl) (by kernel_rfl) (by kernel_rfl) (fun _ _ _ h => h) (Or.inl ⟨by rfl, ?_⟩) (by assumption) ?_
                            · (intro w hSw; (try dsimp only at hSw); (go_simp; (try (first | exact Hj.out | (have h := Hj.out; omega)))))
                            (try simp only [Act.put, List.setIfInBounds_toArray, List.set_cons_zero, List.set_cons_succ])
                            refine wpAnyH_take (i := 26) (oi := { dst := some 75, op := Op.move (Operand.tmp 74), type := 4, pos := "l10_dice.go:35", after := #[{ on := 25, ground := Ground.data }, { on := 22, ground := Ground.chain }, { on := 22, ground := Ground.guard }], guard := some (22, false) }) (v := ?_) rfl (by kernel_rfl) (by kernel_rfl) (by kernel_rfl) (fun _ _ _ h => h) (Or.inl ⟨by rfl, ?_⟩) (by assumption) ?_
                            rotate_left 1
                            · (intro w hSw; (try dsimp only at hSw); go_simp <;> with_reducible rfl)
                            (try simp only [Act.put, List.setIfInBounds_toArray, List.set_cons_zero, List.set_cons_succ])
                            refine wpAnyH_take (i := 27) (oi := { dst := some 76, op := Op.move (Operand.tmp 8), type := 86, pos := "l10_dice.go:35", after := #[{ on := 26, ground := Ground.guard }], guard := some (26, true) }) (v := ?_) rfl (by kernel_rfl) (by kernel_rfl) (by kernel_rfl) (fun _ _ _ h => h) (Or.inl ⟨by rfl, ?_⟩) (by assumption) ?_
                            rotate_left 1
                            · (intro w hSw; (try dsimp only at hSw); go_simp <;> with_reducible rfl)
                            (try simp only [Act.put, List.setIfInBounds_toArray, List.set_cons_zero, List.set_cons_succ])
                            refine wpAnyH_take (i := 28) (oi := { dst := some 77, op := Op.move (Operand.tmp 10), type := 3, pos := "l10_dice.go:35", after := #[{ on := 26, ground := Ground.guard }], guard := some (26, true) }) (v := ?_) rfl (by kernel_rfl) (by kernel_rfl) (by kernel_rfl) (fun _ _ _ h => h) (Or.inl ⟨by rfl, ?_⟩) (by assumption) ?_
                            rotate_left 1
                            · (intro w hSw; (try dsimp only at hSw); go_simp <;> with_reducible rfl)
                            (try simp only [Act.put, List.setIfInBounds_toArray, List.set_cons_zero, List.set_cons_succ])
                            refine wpAnyH_take (i := 29) (oi := { dst := some 78, op := Op.indexAddr 86 (Operand.tmp 76) (Operand.tmp 77), type := 0, pos := "l10_dice.go:35", after := #[{ on := 27, ground := Ground.data }, { on := 28, ground := Ground.data }, { on := 26, ground := Ground.guard }], guard := some (26, true) }) (v := ?_) rfl (by kernel_rfl) (by kernel_rfl) (by kernel_rfl) (fun _ _ _ h => h) (Or.inl ⟨by rfl, ?_⟩) (by assumption) ?_
                            rotate_left 1
                            · (intro w hSw; (try dsimp only at hSw); go_simp <;> with_reducible rfl)
                            (try simp only [Act.put, List.setIfInBounds_toArray, List.set_cons_zero, List.set_cons_succ])
                            refine wpAnyH_take (i := 30) (oi := { dst := some 79, op := Op.load 81 (Operand.tmp 78), type := 81, pos := "l10_dice.go:35", after := #[{ on := 29, ground := Ground.data }, { on := 26, ground := Ground.guard }], guard := some (26, true) }) (v := ?_) rfl (by kernel_rfl) (by kernel_rfl) (by kernel_rfl) (fun _ _ _ h => h) (Or.inl ⟨by rfl, ?_⟩) (by assumption) ?_
                            rotate_left 1
                            · (intro w hSw; (try dsimp only at hSw); go_simp <;> with_reducible rfl)
                            (try simp only [Act.put, List.setIfInBounds_toArray, List.set_cons_zero, List.set_cons_succ])
                            refine wpAnyH_take (i := 31) (oi := { dst := some 80, op := Op.move (Operand.tmp 11), type := 3, pos := "l10_dice.go:35", after := #[{ on := 26, ground := Ground.guard }], guard := some (26, true) }) (v := ?_) rfl (by kernel_rfl) (by kernel_rfl) (by kernel_rfl) (fun _ _ _ h => h) (Or.inl ⟨by rfl, ?_⟩) (by assumption) ?_
                            rotate_left 1
                            · (intro w hSw; (try dsimp only at hSw); go_simp <;> with_reducible rfl)
                            (try simp only [Act.put, List.setIfInBounds_toArray, List.set_cons_zero, List.set_cons_succ])
                            refine wpAnyH_take (i := 32) (oi := { dst := some 81, op := Op.indexAddr 81 (Operand.tmp 79) (Operand.tmp 80), type := 0, pos := "l10_dice.go:35", after := #[{ on := 30, ground := Ground.data }, { on := 31, ground := Ground.data }, { on := 26, ground := Ground.guard }], guard := some (26, true) }) (v := ?_) rfl (by kernel_rfl) (by kernel_rfl) (by kernel_rfl) (fun _ _ _ h => h) (Or.inl ⟨by rfl, ?_⟩) (by assumption) ?_
                            rotate_left 1
                            · (intro w hSw; (try dsimp only at hSw); go_simp <;> with_reducible rfl)
                            (try simp only [Act.put, List.setIfInBounds_toArray, List.set_cons_zero, List.set_cons_succ])
                            refine wpAnyH_take (i := 33) (oi := { dst := some 82, op := Op.load 27 (Operand.tmp 81), type := 27, pos := "l10_dice.go:35", after := #[{ on := 32, ground := Ground.data }, { on := 26, ground := Ground.guard }], guard := some (26, true) }) (v := ?_) rfl (by kernel_rfl) (by kernel_rfl) (by kernel_rfl) (fun _ _ _ h => h) (Or.inl ⟨by rfl, ?_⟩) (by assumption) ?_
                            rotate_left 1
                            · (intro w hSw; (try dsimp only at hSw); go_simp <;> with_reducible rfl)
                            (try simp only [Act.put, List.setIfInBounds_toArray, List.set_cons_zero, List.set_cons_succ])
                            refine wpAnyH_take (i := 34) (oi := { dst := some 83, op := Op.move (Operand.tmp 8), type := 86, pos := "l10_dice.go:35", after := #[{ on := 26, ground := Ground.guard }], guard := some (26, true) }) (v := ?_) rfl (by kernel_rfl) (by kernel_rfl) (by kernel_rfl) (fun _ _ _ h => h) (Or.inl ⟨by rfl, ?_⟩) (by assumption) ?_
                            rotate_left 1
                            · (intro w hSw; (try dsimp only at hSw); go_simp <;> with_reducible rfl)
                            (try simp only [Act.put, List.setIfInBounds_toArray, List.set_cons_zero, List.set_cons_succ])
                            refine wpAnyH_take (i := 35) (oi := { dst := some 84, op := Op.move (Operand.tmp 10), type := 3, pos := "l10_dice.go:35", after := #[{ on := 26, ground := Ground.guard }], guard := some (26, true) }) (v := ?_) rfl (by kernel_rfl) (by kernel_rfl) (by kernel_rfl) (fun _ _ _ h => h) (Or.inl ⟨by rfl, ?_⟩) (by assumption) ?_
                            rotate_left 1
                            · (intro w hSw; (try dsimp only at hSw); go_simp <;> with_reducible rfl)
                            (try simp only [Act.put, List.setIfInBounds_toArray, List.set_cons_zero, List.set_cons_succ])
                            refine wpAnyH_take (i := 36) (oi := { dst := some 85, op := Op.binOp BinOp.add 3 (Operand.tmp 84) (Operand.const (Value.int IntKind.i64 1)) 3, type := 3, pos := "l10_dice.go:35", after := #[{ on := 35, ground := Ground.data }, { on := 26, ground := Ground.guard }], guard := some (26, true) }) (v := ?_) rfl (by kernel_rfl) (by kernel_rfl) (by kernel_rfl) (fun _ _ _ h => h) (Or.inl ⟨by rfl, ?_⟩) (by assumption) ?_
                            rotate_left 1
                            · (intro w hSw; (try dsimp only at hSw); go_simp <;> with_reducible rfl)
                            (try simp only [Act.put, List.setIfInBounds_toArray, List.set_cons_zero, List.set_cons_succ])
                            refine wpAnyH_take (i := 37) (oi := { dst := some 86, op := Op.indexAddr 86 (Operand.tmp 83) (Operand.tmp 85), type := 0, pos := "l10_dice.go:35", after := #[{ on := 34, ground := Ground.data }, { on := 36, ground := Ground.data }, { on := 26, ground := Ground.guard }], guard := some (26, true) }) (v := ?_) rfl (by kernel_rfl) (by kernel_rfl) (by kernel_rfl) (fun _ _ _ h => h) (Or.inl ⟨by rfl, ?_⟩) (by assumption) ?_
                            rotate_left 1
                            · (intro w hSw; (try dsimp only at hSw); go_simp <;> with_reducible rfl)
                            (try simp only [Act.put, List.setIfInBounds_toArray, List.set_cons_zero, List.set_cons_succ])
                            refine wpAnyH_take (i := 38) (oi := { dst := some 87, op := Op.load 81 (Operand.tmp 86), type := 81, pos := "l10_dice.go:35", after := #[{ on := 37, ground := Ground.data }, { on := 26, ground := Ground.guard }], guard := some (26, true) }) (v := ?_) rfl (by kernel_rfl) (by kernel_rfl) (by kernel_rfl) (fun _ _ _ h => h) (Or.inl ⟨by rfl, ?_⟩) (by assumption) ?_
                            rotate_left 1
                            · (intro w hSw; (try dsimp only at hSw); go_simp <;> with_reducible rfl)
                            (try simp only [Act.put, List.setIfInBounds_toArray, List.set_cons_zero, List.set_cons_succ])
                            refine wpAnyH_take (i := 39) (oi := { dst := some 88, op := Op.move (Operand.tmp 11), type := 3, pos := "l10_dice.go:35", after := #[{ on := 26, ground := Ground.guard }], guard := some (26, true) }) (v := ?_) rfl (by kernel_rfl) (by kernel_rfl) (by kernel_rfl) (fun _ _ _ h => h) (Or.inl ⟨by rfl, ?_⟩) (by assumption) ?_
                            rotate_left 1
                            · (intro w hSw; (try dsimp only at hSw); go_simp <;> with_reducible rfl)
                            (try simp only [Act.put, List.setIfInBounds_toArray, List.set_cons_zero, List.set_cons_succ])
                            refine wpAnyH_take (i := 40) (oi := { dst := some 89, op := Op.indexAddr 81 (Operand.tmp 87) (Operand.tmp 88), type := 0, pos := "l10_dice.go:35", after := #[{ on := 38, ground := Ground.data }, { on := 39, ground := Ground.data }, { on := 26, ground := Ground.guard }], guard := some (26, true) }) (v := ?_) rfl (by kernel_rfl) (by kernel_rfl) (by kernel_rfl) (fun _ _ _ h => h) (Or.inl ⟨by rfl, ?_⟩) (by assumption) ?_
                            rotate_left 1
                            · (intro w hSw; (try dsimp only at hSw); go_simp <;> with_reducible rfl)
                            (try simp only [Act.put, List.setIfInBounds_toArray, List.set_cons_zero, List.set_cons_succ])
                            refine wpAnyH_take (i := 41) (oi := { dst := some 90, op := Op.load 27 (Operand.tmp 89), type := 27, pos := "l10_dice.go:35", after := #[{ on := 40, ground := Ground.data }, { on := 26, ground := Ground.guard }], guard := some (26, true) }) (v := ?_) rfl (by kernel_rfl) (by kernel_rfl) (by kernel_rfl) (fun _ _ _ h => h) (Or.inl ⟨by rfl, ?_⟩) (by assumption) ?_
                            rotate_left 1
                            · (intro w hSw; (try dsimp only at hSw); go_simp <;> with_reducible rfl)
                            (try simp only [Act.put, List.setIfInBounds_toArray, List.set_cons_zero, List.set_cons_succ])
                            refine wpAnyH_take (i := 42) (oi := { dst := some 91, op := Op.move (Operand.tmp 2), type := 3, pos := "l10_dice.go:35", after := #[{ on := 26, ground := Ground.guard }], guard := some (26, true) }) (v := ?_) rfl (by kernel_rfl) (by kernel_rfl) (by kernel_rfl) (fun _ _ _ h => h) (Or.inl ⟨by rfl, ?_⟩) (by assumption) ?_
                            rotate_left 1
                            · (intro w hSw; (try dsimp only at hSw); go_simp <;> with_reducible rfl)
                            (try simp only [Act.put, List.setIfInBounds_toArray, List.set_cons_zero, List.set_cons_succ])
                            refine wpAnyH_ready (rs := [43]) (by kernel_rfl) (by simp) ?_
                            refine AllReadyH.cons (o := { dst := some 92, op := Op.call { callee := Callee.value (Operand.func 48), args := #[Operand.tmp 82, Operand.tmp 90, Operand.tmp 91], argTypes := #[27, 27, 3] }, type := 4, pos := "l10_dice.go:35", after := #[{ on := 33, ground := Ground.data }, { on := 41, ground := Ground.data }, { on := 42, ground := Ground.data }, { on := 26, ground := Ground.chain }, { on := 26, ground := Ground.guard }], guard := some (26, true) }) rfl (fun K hK => ?_) ?_
                            · go_simp
                              (with_reducible refine (HCB.out _).mono ?_)
                              rintro e w1 ⟨rfl, hb1⟩
                              have HQ := HQ.later hb1
                              clear hb1
                              (try go_wp2_with fail)
                              refine hK.out _ _ (by (try dsimp only); with_reducible exact HC2 _ HQ.below) (fun hHeld => ?_)
                              clear hK K
                              (try simp only [Act.put, List.setIfInBounds_toArray, List.set_cons_zero, List.set_cons_succ])
                              refine wpAnyH_take (i := 44) (oi := { dst := some 93, op := Op.pick (Operand.tmp 75) (Operand.tmp 92) (Operand.const (Value.bool false)), type := 4, pos := "l10_dice.go:35", after := #[{ on := 26, ground := Ground.data }, { on := 43, ground := Ground.data }, { on := 22, ground := Ground.guard }], guard := some (22, false) }) (v := ?_) rfl (by kernel_rfl) (by kernel_rfl) (by kernel_rfl) (fun _ _ _ h => h) (Or.inl ⟨by rfl, ?_⟩) (by assumption) ?_
                              rotate_left 1
                              · (intro w hSw; (try dsimp only at hSw); go_simp <;> with_reducible rfl)
                              (try simp only [Act.put, List.setIfInBounds_toArray, List.set_cons_zero, List.set_cons_succ])
                              refine wpAnyH_take (i := 45) (oi := { dst := some 94, op := Op.pick (Operand.tmp 71) (Operand.const (Value.bool true)) (Operand.tmp 93), type := 4, pos := "l10_dice.go:35", after := #[{ on := 22, ground := Ground.data }, { on := 44, ground := Ground.data }], guard := none }) (v := ?_) rfl (by kernel_rfl) (by kernel_rfl) (by kernel_rfl) (fun _ _ _ h => h) (Or.inl ⟨by rfl, ?_⟩) (by assumption) ?_
                              rotate_left 1
                              · (intro w hSw; (try dsimp only at hSw); go_simp <;> with_reducible rfl)
                              (try simp only [Act.put, List.setIfInBounds_toArray, List.set_cons_zero, List.set_cons_succ])
                              refine wpAnyH_done (by kernel_rfl) ?_ _
                              clear hHeld
                              go_wp2
                              go_meet
                              exact ⟨_, rfl, fun h => (by first | cases h; done | exact HYN.out.1 h | exact HYN.out.1 trivial), fun h => (by first | cases h; done | exact HYN.out.2 h | exact HYN.out.2 trivial), HQ.below⟩
                            exact AllReadyH.nil
                          exact AllReadyH.nil
                      · have Hj := Lib.hid hj
                        have HYN : Hid (((false : Bool) = false → pairOk C P m n i j) ∧ ((false : Bool) = true → rateOk C P m n = false)) := Lib.hid ⟨fun _ => ⟨fun h => by rw [← HPVE.out, ← HI1.out, ← HPRE.out]; exact hnr, fun h => absurd h Hj.out⟩, fun e => (by cases e)⟩
                        clear hnr hgi hrow hj
                        have HC2 : ∀ W', Below wr.heap.size wr W' → (W'.cell? ⟨G, j, none⟩ = some (.slice (some ⟨gj, 0, none⟩) s cj) ∧ W'.cell? ⟨gj, i * 3, none⟩ = some (.int .i64 pv.1) ∧ W'.cell? ⟨gj, i * 3 + 1, none⟩ = some (.int .i64 pv.2.1) ∧ W'.cell? ⟨gj, i * 3 + 2, none⟩ = some (.int .i64 pv.2.2) ∧ W'.cell? ⟨gj, i1 * 3, none⟩ = some (.int .i64 pr.1) ∧ W'.cell? ⟨gj, i1 * 3 + 1, none⟩ = some (.int .i64 pr.2.1) ∧ W'.cell? ⟨gj, i1 * 3 + 2, none⟩ = some (.int .i64 pr.2.2)) := fun W' h => ⟨(h.cell (World.block_lt_of_cell? wr _ (fj))).trans (fj), (h.cell (World.block_lt_of_cell? wr _ (fv.1))).trans (fv.1), (h.cell (World.block_lt_of_cell? wr _ (fv.2.1))).trans (fv.2.1), (h.cell (World.block_lt_of_cell? wr _ (fv.2.2))).trans (fv.2.2), (h.cell (World.block_lt_of_cell? wr _ (fr.1))).trans (fr.1), (h.cell (World.block_lt_of_cell? wr _ (fr.2.1))).trans (fr.2.1), (h.cell (World.block_lt_of_cell? wr _ (fr.2.2))).trans (fr.2.2)⟩
                        clear fj fv fr
                        have HQ := Held.nil wr
                        have hHC := HC2 _ HQ.drew.below
                        have HQ := HQ.drew
                        refine wp_region_held_drew (S := fun w' => w'.cell? ⟨G, j, none⟩ = some (.slice (some ⟨gj, 0, none⟩) s cj) ∧ w'.cell? ⟨gj, i * 3, none⟩ = some (.int .i64 pv.1) ∧ w'.cell? ⟨gj, i * 3 + 1, none⟩ = some (.int .i64 pv.2.1) ∧ w'.cell? ⟨gj, i * 3 + 2, none⟩ = some (.int .i64 pv.2.2) ∧ w'.cell? ⟨gj, i1 * 3, none⟩ = some (.int .i64 pr.1) ∧ w'.cell? ⟨gj, i1 * 3 + 1, none⟩ = some (.int .i64 pr.2.1) ∧ w'.cell? ⟨gj, i1 * 3 + 2, none⟩ = some (.int .i64 pr.2.2)) (by kernel_rfl) hHC (fun hHeld => ?_)
                        clear hHC
                        refine wpAnyH_take (i := 0) (oi := { dst := some 49, op := Op.move (Operand.tmp 11), type := 3, pos := "l10_dice.go:35", after := #[], guard := none }) (v := ?_) rfl (by kernel_rfl) (by kernel_rfl) (by kernel_rfl) (fun _ _ _ h => h) (Or.inl ⟨by rfl, ?_⟩) (by assumption) ?_
                        rotate_left 1
                        · (intro w hSw; (try dsimp only at hSw); go_simp <;> with_reducible rfl)
                        (try simp only [Act.put, List.setIfInBounds_toArray, List.set_cons_zero, List.set_cons_succ])
                        refine wpAnyH_take (i := 1) (oi := { dst := some 50, op := Op.move (Operand.tmp 7), type := 3, pos := "l10_dice.go:35", after := #[], guard := none }) (v := ?_) rfl (by kernel_rfl) (by kernel_rfl) (by kernel_rfl) (fun _ _ _ h => h) (Or.inl ⟨by rfl, ?_⟩) (by assumption) ?_
                        rotate_left 1
                        · (intro w hSw; (try dsimp only at hSw); go_simp <;> with_reducible rfl)
                        (try simp only [Act.put, List.setIfInBounds_toArray, List.set_cons_zero, List.set_cons_succ])
                        refine wpAnyH_take (i := 2) (oi := { dst := some 51, op := Op.binOp BinOp.lss 3 (Operand.tmp 49) (Operand.tmp 50) 3, type := 4, pos := "l10_dice.go:35", after := #[{ on := 0, ground := Ground.data }, { on := 1, ground := Ground.data }], guard := none }) (v := .bool true) rfl (by kernel_rfl) (by kernel_rfl) (by kernel_rfl) (fun _ _ _ h => h) (Or.inl ⟨by rfl, ?_⟩) (by assumption) ?_
                        · (intro w hSw; (try dsimp only at hSw); (go_simp; (try (first | exact Hi.out | (have h := Hi.out; omega)))))
                        (try simp only [Act.put, List.setIfInBounds_toArray, List.set_cons_zero, List.set_cons_succ])
                        refine wpAnyH_take (i := 3) (oi := { dst := some 52, op := Op.move (Operand.tmp 51), type := 4, pos := "l10_dice.go:35", after := #[{ on := 2, ground := Ground.data }], guard := none }) (v := ?_) rfl (by kernel_rfl) (by kernel_rfl) (by kernel_rfl) (fun _ _ _ h => h) (Or.inl ⟨by rfl, ?_⟩) (by assumption) ?_
                        rotate_left 1
                        · (intro w hSw; (try dsimp only at hSw); go_simp <;> with_reducible rfl)
                        (try simp only [Act.put, List.setIfInBounds_toArray, List.set_cons_zero, List.set_cons_succ])
                        refine wpAnyH_take (i := 4) (oi := { dst := some 53, op := Op.move (Operand.tmp 8), type := 86, pos := "l10_dice.go:35", after := #[{ on := 3, ground := Ground.guard }], guard := some (3, true) }) (v := ?_) rfl (by kernel_rfl) (by kernel_rfl) (by kernel_rfl) (fun _ _ _ h => h) (Or.inl ⟨by rfl, ?_⟩) (by assumption) ?_
                        rotate_left 1
                        · (intro w hSw; (try dsimp only at hSw); go_simp <;> with_reducible rfl)
                        (try simp only [Act.put, List.setIfInBounds_toArray, List.set_cons_zero, List.set_cons_succ])
                        refine wpAnyH_take (i := 5) (oi := { dst := some 54, op := Op.move (Operand.tmp 10), type := 3, pos := "l10_dice.go:35", after := #[{ on := 3, ground := Ground.guard }], guard := some (3, true) }) (v := ?_) rfl (by kernel_rfl) (by kernel_rfl) (by kernel_rfl) (fun _ _ _ h => h) (Or.inl ⟨by rfl, ?_⟩) (by assumption) ?_
                        rotate_left 1
                        · (intro w hSw; (try dsimp only at hSw); go_simp <;> with_reducible rfl)
                        (try simp only [Act.put, List.setIfInBounds_toArray, List.set_cons_zero, List.set_cons_succ])
                        refine wpAnyH_take (i := 6) (oi := { dst := some 55, op := Op.indexAddr 86 (Operand.tmp 53) (Operand.tmp 54), type := 0, pos := "l10_dice.go:35", after := #[{ on := 4, ground := Ground.data }, { on := 5, ground := Ground.data }, { on := 3, ground := Ground.guard }], guard := some (3, true) }) (v := ?_) rfl (by kernel_rfl) (by kernel_rfl) (by kernel_rfl) (fun _ _ _ h => h) (Or.inl ⟨by rfl, ?_⟩) (by assumption) ?_
                        rotate_left 1
                        · (intro w hSw; (try dsimp only at hSw); go_simp <;> with_reducible rfl)
                        (try simp only [Act.put, List.setIfInBounds_toArray, List.set_cons_zero, List.set_cons_succ])
                        refine wpAnyH_take (i := 7) (oi := { dst := some 56, op := Op.load 81 (Operand.tmp 55), type := 81, pos := "l10_dice.go:35", after := #[{ on := 6, ground := Ground.data }, { on := 3, ground := Ground.guard }], guard := some (3, true) }) (v := ?_) rfl (by kernel_rfl) (by kernel_rfl) (by kernel_rfl) (fun _ _ _ h => h) (Or.inl ⟨by rfl, ?_⟩) (by assumption) ?_
                        rotate_left 1
                        · (intro w hSw; (try dsimp only at hSw); go_simp <;> with_reducible rfl)
                        (try simp only [Act.put, List.setIfInBounds_toArray, List.set_cons_zero, List.set_cons_succ])
                        refine wpAnyH_take (i := 8) (oi := { dst := some 57, op := Op.move (Operand.tmp 11), type := 3, pos := "l10_dice.go:35", after := #[{ on := 3, ground := Ground.guard }], guard := some (3, true) }) (v := ?_) rfl (by kernel_rfl) (by kernel_rfl) (by kernel_rfl) (fun _ _ _ h => h) (Or.inl ⟨by rfl, ?_⟩) (by assumption) ?_
                        rotate_left 1
                        · (intro w hSw; (try dsimp only at hSw); go_simp <;> with_reducible rfl)
                        (try simp only [Act.put, List.setIfInBounds_toArray, List.set_cons_zero, List.set_cons_succ])
                        refine wpAnyH_take (i := 9) (oi := { dst := some 58, op := Op.indexAddr 81 (Operand.tmp 56) (Operand.tmp 57), type := 0, pos := "l10_dice.go:35", after := #[{ on := 7, ground := Ground.data }, { on := 8, ground := Ground.data }, { on := 3, ground := Ground.guard }], guard := some (3, true) }) (v := ?_) rfl (by kernel_rfl) (by kernel_rfl) (by kernel_rfl) (fun _ _ _ h => h) (Or.inl ⟨by rfl, ?_⟩) (by assumption) ?_
                        rotate_left 1
                        · (intro w hSw; (try dsimp only at hSw); go_simp <;> with_reducible rfl)
                        (try simp only [Act.put, List.setIfInBounds_toArray, List.set_cons_zero, List.set_cons_succ])
                        refine wpAnyH_take (i := 10) (oi := { dst := some 59, op := Op.load 27 (Operand.tmp 58), type := 27, pos := "l10_dice.go:35", after := #[{ on := 9, ground := Ground.data }, { on := 3, ground := Ground.guard }], guard := some (3, true) }) (v := ?_) rfl (by kernel_rfl) (by kernel_rfl) (by kernel_rfl) (fun _ _ _ h => h) (Or.inl ⟨by rfl, ?_⟩) (by assumption) ?_
                        rotate_left 1
                        · (intro w hSw; (try dsimp only at hSw); go_simp <;> with_reducible rfl)
                        (try simp only [Act.put, List.setIfInBounds_toArray, List.set_cons_zero, List.set_cons_succ])
                        refine wpAnyH_take (i := 11) (oi := { dst := some 60, op := Op.move (Operand.tmp 8), type := 86, pos := "l10_dice.go:35", after := #[{ on := 3, ground := Ground.guard }], guard := some (3, true) }) (v := ?_) rfl (by kernel_rfl) (by kernel_rfl) (by kernel_rfl) (fun _ _ _ h => h) (Or.inl ⟨by rfl, ?_⟩) (by assumption) ?_
                        rotate_left 1
                        · (intro w hSw; (try dsimp only at hSw); go_simp <;> with_reducible rfl)
                        (try simp only [Act.put, List.setIfInBounds_toArray, List.set_cons_zero, List.set_cons_succ])
                        refine wpAnyH_take (i := 12) (oi := { dst := some 61, op := Op.move (Operand.tmp 10), type := 3, pos := "l10_dice.go:35", after := #[{ on := 3, ground := Ground.guard }], guard := some (3, true) }) (v := ?_) rfl (by kernel_rfl) (by kernel_rfl) (by kernel_rfl) (fun _ _ _ h => h) (Or.inl ⟨by rfl, ?_⟩) (by assumption) ?_
                        rotate_left 1
                        · (intro w hSw; (try dsimp only at hSw); go_simp <;> with_reducible rfl)
                        (try simp only [Act.put, List.setIfInBounds_toArray, List.set_cons_zero, List.set_cons_succ])
                        refine wpAnyH_take (i := 13) (oi := { dst := some 62, op := Op.indexAddr 86 (Operand.tmp 60) (Operand.tmp 61), type := 0, pos := "l10_dice.go:35", after := #[{ on := 11, ground := Ground.data }, { on := 12, ground := Ground.data }, { on := 3, ground := Ground.guard }], guard := some (3, true) }) (v := ?_) rfl (by kernel_rfl) (by kernel_rfl) (by kernel_rfl) (fun _ _ _ h => h) (Or.inl ⟨by rfl, ?_⟩) (by assumption) ?_
                        rotate_left 1
                        · (intro w hSw; (try dsimp only at hSw); go_simp <;> with_reducible rfl)
                        (try simp only [Act.put, List.setIfInBounds_toArray, List.set_cons_zero, List.set_cons_succ])
                        refine wpAnyH_take (i := 14) (oi := { dst := some 63, op := Op.load 81 (Operand.tmp 62), type := 81, pos := "l10_dice.go:35", after := #[{ on := 13, ground := Ground.data }, { on := 3, ground := Ground.guard }], guard := some (3, true) }) (v := ?_) rfl (by kernel_rfl) (by kernel_rfl) (by kernel_rfl) (fun _ _ _ h => h) (Or.inl ⟨by rfl, ?_⟩) (by assumption) ?_
                        rotate_left 1
                        · (intro w hSw; (try dsimp only at hSw); go_simp <;> with_reducible rfl)
                        (try simp only [Act.put, List.setIfInBounds_toArray, List.set_cons_zero, List.set_cons_succ])
                        refine wpAnyH_take (i := 15) (oi := { dst := some 64, op := Op.move (Operand.tmp 11), type := 3, pos := "l10_dice.go:35", after := #[{ on := 3, ground := Ground.guard }], guard := some (3, true) }) (v := ?_) rfl (by kernel_rfl) (by kernel_rfl) (by kernel_rfl) (fun _ _ _ h => h) (Or.inl ⟨by rfl, ?_⟩) (by assumption) ?_
                        rotate_left 1
                        · (intro w hSw; (try dsimp only at hSw); go_simp <;> with_reducible rfl)
                        (try simp only [Act.put, List.setIfInBounds_toArray, List.set_cons_zero, List.set_cons_succ])
                        refine wpAnyH_take (i := 16) (oi := { dst := some 65, op := Op.binOp BinOp.add 3 (Operand.tmp 64) (Operand.const (Value.int IntKind.i64 1)) 3, type := 3, pos := "l10_dice.go:35", after := #[{ on := 15, ground := Ground.data }, { on := 3, ground := Ground.guard }], guard := some (3, true) }) (v := ?_) rfl (by kernel_rfl) (by kernel_rfl) (by kernel_rfl) (fun _ _ _ h => h) (Or.inl ⟨by rfl, ?_⟩) (by assumption) ?_
                        rotate_left 1
                        · (intro w hSw; (try dsimp only at hSw); go_simp <;> with_reducible rfl)
                        (try simp only [Act.put, List.setIfInBounds_toArray, List.set_cons_zero, List.set_cons_succ])
                        refine wpAnyH_take (i := 17) (oi := { dst := some 66, op := Op.indexAddr 81 (Operand.tmp 63) (Operand.tmp 65), type := 0, pos := "l10_dice.go:35", after := #[{ on := 14, ground := Ground.data }, { on := 16, ground := Ground.data }, { on := 3, ground := Ground.guard }], guard := some (3, true) }) (v := ?_) rfl (by kernel_rfl) (by kernel_rfl) (by kernel_rfl) (fun _ _ _ h => h) (Or.inl ⟨by rfl, ?_⟩) (by assumption) ?_
                        rotate_left 1
                        · (intro w hSw; (try dsimp only at hSw); go_simp <;> with_reducible rfl)
                        (try simp only [Act.put, List.setIfInBounds_toArray, List.set_cons_zero, List.set_cons_succ])
                        refine wpAnyH_take (i := 18) (oi := { dst := some 67, op := Op.load 27 (Operand.tmp 66), type := 27, pos := "l10_dice.go:35", after := #[{ on := 17, ground := Ground.data }, { on := 3, ground := Ground.guard }], guard := some (3, true) }) (v := ?_) rfl (by kernel_rfl) (by kernel_rfl) (by kernel_rfl) (fun _ _ _ h => h) (Or.inl ⟨by rfl, ?_⟩) (by assumption) ?_
                        rotate_left 1
                        · (intro w hSw; (try dsimp only at hSw); go_simp <;> with_reducible rfl)
                        (try simp only [Act.put, List.setIfInBounds_toArray, List.set_cons_zero, List.set_cons_succ])
                        refine wpAnyH_take (i := 19) (oi := { dst := some 68, op := Op.move (Operand.tmp 2), type := 3, pos := "l10_dice.go:35", after := #[{ on := 3, ground := Ground.guard }], guard := some (3, true) }) (v := ?_) rfl (by kernel_rfl) (by kernel_rfl) (by kernel_rfl) (fun _ _ _ h => h) (Or.inl ⟨by rfl, ?_⟩) (by assumption) ?_
                        rotate_left 1
                        · (intro w hSw; (try dsimp only at hSw); go_simp <;> with_reducible rfl)
                        (try simp only [Act.put, List.setIfInBounds_toArray, List.set_cons_zero, List.set_cons_succ])
                        refine wpAnyH_ready (rs := [20]) (by kernel_rfl) (by simp) ?_
                        refine AllReadyH.cons (o := { dst := some 69, op := Op.call { callee := Callee.value (Operand.func 48), args := #[Operand.tmp 59, Operand.tmp 67, Operand.tmp 68], argTypes := #[27, 27, 3] }, type := 4, pos := "l10_dice.go:35", after := #[{ on := 10, ground := Ground.data }, { on := 18, ground := Ground.data }, { on := 19, ground := Ground.data }, { on := 3, ground := Ground.chain }, { on := 3, ground := Ground.guard }], guard := some (3, true) }) rfl (fun K hK => ?_) ?_
                        · go_simp
                          (with_reducible refine (HCR.out _).mono ?_)
                          rintro e w1 ⟨rfl, hb1⟩
                          have HQ := HQ.later hb1
                          clear hb1
                          (try go_wp2_with fail)
                          refine hK.out _ _ (by (try dsimp only); with_reducible exact HC2 _ HQ.below) (fun hHeld => ?_)
                          clear hK K
                          (try simp only [Act.put, List.setIfInBounds_toArray, List.set_cons_zero, List.set_cons_succ])
                          refine wpAnyH_take (i := 21) (oi := { dst := some 70, op := Op.pick (Operand.tmp 52) (Operand.tmp 69) (Operand.const (Value.bool false)), type := 4, pos := "l10_dice.go:35", after := #[{ on := 3, ground := Ground.data }, { on := 20, ground := Ground.data }], guard := none }) (v := ?_) rfl (by kernel_rfl) (by kernel_rfl) (by kernel_rfl) (fun _ _ _ h => h) (Or.inl ⟨by rfl, ?_⟩) (by assumption) ?_
                          rotate_left 1
                          · (intro w hSw; (try dsimp only at hSw); go_simp <;> with_reducible rfl)
                          (try simp only [Act.put, List.setIfInBounds_toArray, List.set_cons_zero, List.set_cons_succ])
                          refine wpAnyH_take (i := 22) (oi := { dst := some 71, op := Op.move (Operand.tmp 70), type := 4, pos := "l10_dice.go:35", after := #[{ on := 21, ground := Ground.data }, { on := 20, ground := Ground.chain }], guard := none }) (v := ?_) rfl (by kernel_rfl) (by kernel_rfl) (by kernel_rfl) (fun _ _ _ h => h) (Or.inl ⟨by rfl, ?_⟩) (by assumption) ?_
                          rotate_left 1
                          · (intro w hSw; (try dsimp only at hSw); go_simp <;> with_reducible rfl)
                          (try simp only [Act.put, List.setIfInBounds_toArray, List.set_cons_zero, List.set_cons_succ])
                          refine wpAnyH_take (i := 23) (oi := { dst := some 72, op := Op.move (Operand.tmp 10), type := 3, pos := "l10_dice.go:35", after := #[{ on := 22, ground := Ground.guard }], guard := some (22, false) }) (v := ?_) rfl (by kernel_rfl) (by kernel_rfl) (by kernel_rfl) (fun _ _ _ h => h) (Or.inl ⟨by rfl, ?_⟩) (by assumption) ?_
                          rotate_left 1
                          · (intro w hSw; (try dsimp only at hSw); go_simp <;> with_reducible rfl)
                          (try simp only [Act.put, List.setIfInBounds_toArray, List.set_cons_zero, List.set_cons_succ])
                          refine wpAnyH_take (i := 24) (oi := { dst := some 73, op := Op.move (Operand.tmp 7), type := 3, pos := "l10_dice.go:35", after := #[{ on := 22, ground := Ground.guard }], guard := some (22, false) }) (v := ?_) rfl (by kernel_rfl) (by kernel_rfl) (by kernel_rfl) (fun _ _ _ h => h) (Or.inl ⟨by rfl, ?_⟩) (by assumption) ?_
                          rotate_left 1
                          · (intro w hSw; (try dsimp only at hSw); go_simp <;> with_reducible rfl)
                          (try simp only [Act.put, List.setIfInBounds_toArray, List.set_cons_zero, List.set_cons_succ])
                          refine wpAnyH_take (i := 25) (oi := { dst := some 74, op := Op.binOp BinOp.lss 3 (Operand.tmp 72) (Operand.tmp 73) 3, type := 4, pos := "l10_dice.go:35", after := #[{ on := 23, ground := Ground.data }, { on := 24, ground := Ground.data }, { on := 22, ground := Ground.guard }], guard := some (22, false) }) (v := .bool false) rfl (by kernel_rfl) (by kernel_rfl) (by kernel_rfl) (fun _ _ _ h => h) (Or.inl ⟨by rfl, ?_⟩) (by assumption) ?_
                          · (intro w hSw; (try dsimp only at hSw); (go_simp; (try (first | exact Hj.out | (have h := Hj.out; omega)))))
                          (try simp only [Act.put, List.setIfInBounds_toArray, List.set_cons_zero, List.set_cons_succ])
                          refine wpAnyH_take (i := 26) (oi := { dst := some 75, op := Op.move (Operand.tmp 74), type := 4, pos := "l10_dice.go:35", after := #[{ on := 25, ground := Ground.data }, { on := 22, ground := Ground.chain }, { on := 22, ground := Ground.guard }], guard := some (22, false) }) (v := ?_) rfl (by kernel_rfl) (by kernel_rfl) (by kernel_rfl) (fun _ _ _ h => h) (Or.inl ⟨by rfl, ?_⟩) (by assumption) ?_
                          rotate_left 1
                          · (intro w hSw; (try dsimp only at hSw); go_simp <;> with_reducible rfl)
                          (try simp only [Act.put, List.setIfInBounds_toArray, List.set_cons_zero, List.set_cons_succ])
                          refine wpAnyH_take (i := 27) (oi := { dst := some 76, op := Op.move (Operand.tmp 8), type := 86, pos := "l10_dice.go:35", after := #[{ on := 26, ground := Ground.guard }], guard := some (26, true) }) (v := undef) rfl (by kernel_rfl) (by kernel_rfl) (by kernel_rfl) (fun _ _ _ h => h) (Or.inr ⟨by rfl, rfl⟩) (by assumption) ?_
                          (try simp only [Act.put, List.setIfInBounds_toArray, List.set_cons_zero, List.set_cons_succ])
                          refine wpAnyH_take (i := 28) (oi := { dst := some 77, op := Op.move (Operand.tmp 10), type := 3, pos := "l10_dice.go:35", after := #[{ on := 26, ground := Ground.guard }], guard := some (26, true) }) (v := undef) rfl (by kernel_rfl) (by kernel_rfl) (by kernel_rfl) (fun _ _ _ h => h) (Or.inr ⟨by rfl, rfl⟩) (by assumption) ?_
                          (try simp only [Act.put, List.setIfInBounds_toArray, List.set_cons_zero, List.set_cons_succ])
                          refine wpAnyH_take (i := 29) (oi := { dst := some 78, op := Op.indexAddr 86 (Operand.tmp 76) (Operand.tmp 77), type := 0, pos := "l10_dice.go:35", after := #[{ on := 27, ground := Ground.data }, { on := 28, ground := Ground.data }, { on := 26, ground := Ground.guard }], guard := some (26, true) }) (v := undef) rfl (by kernel_rfl) (by kernel_rfl) (by kernel_rfl) (fun _ _ _ h => h) (Or.inr ⟨by rfl, rfl⟩) (by assumption) ?_
                          (try simp only [Act.put, List.setIfInBounds_toArray, List.set_cons_zero, List.set_cons_succ])
                          refine wpAnyH_take (i := 30) (oi := { dst := some 79, op := Op.load 81 (Operand.tmp 78), type := 81, pos := "l10_dice.go:35", after := #[{ on := 29, ground := Ground.data }, { on := 26, ground := Ground.guard }], guard := some (26, true) }) (v := undef) rfl (by kernel_rfl) (by kernel_rfl) (by kernel_rfl) (fun _ _ _ h => h) (Or.inr ⟨by rfl, rfl⟩) (by assumption) ?_
                          (try simp only [Act.put, List.setIfInBounds_toArray, List.set_cons_zero, List.set_cons_succ])
                          refine wpAnyH_take (i := 31) (oi := { dst := some 80, op := Op.move (Operand.tmp 11), type := 3, pos := "l10_dice.go:35", after := #[{ on := 26, ground := Ground.guard }], guard := some (26, true) }) (v := undef) rfl (by kernel_rfl) (by kernel_rfl) (by kernel_rfl) (fun _ _ _ h => h) (Or.inr ⟨by rfl, rfl⟩) (by assumption) ?_
                          (try simp only [Act.put, List.setIfInBounds_toArray, List.set_cons_zero, List.set_cons_succ])
                          refine wpAnyH_take (i := 32) (oi := { dst := some 81, op := Op.indexAddr 81 (Operand.tmp 79) (Operand.tmp 80), type := 0, pos := "l10_dice.go:35", after := #[{ on := 30, ground := Ground.data }, { on := 31, ground := Ground.data }, { on := 26, ground := Ground.guard }], guard := some (26, true) }) (v := undef) rfl (by kernel_rfl) (by kernel_rfl) (by kernel_rfl) (fun _ _ _ h => h) (Or.inr ⟨by rfl, rfl⟩) (by assumption) ?_
                          (try simp only [Act.put, List.setIfInBounds_toArray, List.set_cons_zero, List.set_cons_succ])
                          refine wpAnyH_take (i := 33) (oi := { dst := some 82, op := Op.load 27 (Operand.tmp 81), type := 27, pos := "l10_dice.go:35", after := #[{ on := 32, ground := Ground.data }, { on := 26, ground := Ground.guard }], guard := some (26, true) }) (v := undef) rfl (by kernel_rfl) (by kernel_rfl) (by kernel_rfl) (fun _ _ _ h => h) (Or.inr ⟨by rfl, rfl⟩) (by assumption) ?_
                          (try simp only [Act.put, List.setIfInBounds_toArray, List.set_cons_zero, List.set_cons_succ])
                          refine wpAnyH_take (i := 34) (oi := { dst := some 83, op := Op.move (Operand.tmp 8), type := 86, pos := "l10_dice.go:35", after := #[{ on := 26, ground := Ground.guard }], guard := some (26, true) }) (v := undef) rfl (by kernel_rfl) (by kernel_rfl) (by kernel_rfl) (fun _ _ _ h => h) (Or.inr ⟨by rfl, rfl⟩) (by assumption) ?_
                          (try simp only [Act.put, List.setIfInBounds_toArray, List.set_cons_zero, List.set_cons_succ])
                          refine wpAnyH_take (i := 35) (oi := { dst := some 84, op := Op.move (Operand.tmp 10), type := 3, pos := "l10_dice.go:35", after := #[{ on := 26, ground := Ground.guard }], guard := some (26, true) }) (v := undef) rfl (by kernel_rfl) (by kernel_rfl) (by kernel_rfl) (fun _ _ _ h => h) (Or.inr ⟨by rfl, rfl⟩) (by assumption) ?_
                          (try simp only [Act.put, List.setIfInBounds_toArray, List.set_cons_zero, List.set_cons_succ])
                          refine wpAnyH_take (i := 36) (oi := { dst := some 85, op := Op.binOp BinOp.add 3 (Operand.tmp 84) (Operand.const (Value.int IntKind.i64 1)) 3, type := 3, pos := "l10_dice.go:35", after := #[{ on := 35, ground := Ground.data }, { on := 26, ground := Ground.guard }], guard := some (26, true) }) (v := undef) rfl (by kernel_rfl) (by kernel_rfl) (by kernel_rfl) (fun _ _ _ h => h) (Or.inr ⟨by rfl, rfl⟩) (by assumption) ?_
                          (try simp only [Act.put, List.setIfInBounds_toArray, List.set_cons_zero, List.set_cons_succ])
                          refine wpAnyH_take (i := 37) (oi := { dst := some 86, op := Op.indexAddr 86 (Operand.tmp 83) (Operand.tmp 85), type := 0, pos := "l10_dice.go:35", after := #[{ on := 34, ground := Ground.data }, { on := 36, ground := Ground.data }, { on := 26, ground := Ground.guard }], guard := some (26, true) }) (v := undef) rfl (by kernel_rfl) (by kernel_rfl) (by kernel_rfl) (fun _ _ _ h => h) (Or.inr ⟨by rfl, rfl⟩) (by assumption) ?_
                          (try simp only [Act.put, List.setIfInBounds_toArray, List.set_cons_zero, List.set_cons_succ])
                          refine wpAnyH_take (i := 38) (oi := { dst := some 87, op := Op.load 81 (Operand.tmp 86), type := 81, pos := "l10_dice.go:35", after := #[{ on := 37, ground := Ground.data }, { on := 26, ground := Ground.guard }], guard := some (26, true) }) (v := undef) rfl (by kernel_rfl) (by kernel_rfl) (by kernel_rfl) (fun _ _ _ h => h) (Or.inr ⟨by rfl, rfl⟩) (by assumption) ?_
                          (try simp only [Act.put, List.setIfInBounds_toArray, List.set_cons_zero, List.set_cons_succ])
                          refine wpAnyH_take (i := 39) (oi := { dst := some 88, op := Op.move (Operand.tmp 11), type := 3, pos := "l10_dice.go:35", after := #[{ on := 26, ground := Ground.guard }], guard := some (26, true) }) (v := undef) rfl (by kernel_rfl) (by kernel_rfl) (by kernel_rfl) (fun _ _ _ h => h) (Or.inr ⟨by rfl, rfl⟩) (by assumption) ?_
                          (try simp only [Act.put, List.setIfInBounds_toArray, List.set_cons_zero, List.set_cons_succ])
                          refine wpAnyH_take (i := 40) (oi := { dst := some 89, op := Op.indexAddr 81 (Operand.tmp 87) (Operand.tmp 88), type := 0, pos := "l10_dice.go:35", after := #[{ on := 38, ground := Ground.data }, { on := 39, ground := Ground.data }, { on := 26, ground := Ground.guard }], guard := some (26, true) }) (v := undef) rfl (by kernel_rfl) (by kernel_rfl) (by kernel_rfl) (fun _ _ _ h => h) (Or.inr ⟨by rfl, rfl⟩) (by assumption) ?_
                          (try simp only [Act.put, List.setIfInBounds_toArray, List.set_cons_zero, List.set_cons_succ])
                          refine wpAnyH_take (i := 41) (oi := { dst := some 90, op := Op.load 27 (Operand.tmp 89), type := 27, pos := "l10_dice.go:35", after := #[{ on := 40, ground := Ground.data }, { on := 26, ground := Ground.guard }], guard := some (26, true) }) (v := undef) rfl (by kernel_rfl) (by kernel_rfl) (by kernel_rfl) (fun _ _ _ h => h) (Or.inr ⟨by rfl, rfl⟩) (by assumption) ?_
                          (try simp only [Act.put, List.setIfInBounds_toArray, List.set_cons_zero, List.set_cons_succ])
                          refine wpAnyH_take (i := 42) (oi := { dst := some 91, op := Op.move (Operand.tmp 2), type := 3, pos := "l10_dice.go:35", after := #[{ on := 26, ground := Ground.guard }], guard := some (26, true) }) (v := undef) rfl (by kernel_rfl) (by kernel_rfl) (by kernel_rfl) (fun _ _ _ h => h) (Or.inr ⟨by rfl, rfl⟩) (by assumption) ?_
                          (try simp only [Act.put, List.setIfInBounds_toArray, List.set_cons_zero, List.set_cons_succ])
                          refine wpAnyH_take (i := 43) (oi := { dst := some 92, op := Op.call { callee := Callee.value (Operand.func 48), args := #[Operand.tmp 82, Operand.tmp 90, Operand.tmp 91], argTypes := #[27, 27, 3] }, type := 4, pos := "l10_dice.go:35", after := #[{ on := 33, ground := Ground.data }, { on := 41, ground := Ground.data }, { on := 42, ground := Ground.data }, { on := 26, ground := Ground.chain }, { on := 26, ground := Ground.guard }], guard := some (26, true) }) (v := undef) rfl (by kernel_rfl) (by kernel_rfl) (by kernel_rfl) (fun _ _ _ h => h) (Or.inr ⟨by rfl, rfl⟩) (by assumption) ?_
                          (try simp only [Act.put, List.setIfInBounds_toArray, List.set_cons_zero, List.set_cons_succ])
                          refine wpAnyH_take (i := 44) (oi := { dst := some 93, op := Op.pick (Operand.tmp 75) (Operand.tmp 92) (Operand.const (Value.bool false)), type := 4, pos := "l10_dice.go:35", after := #[{ on := 26, ground := Ground.data }, { on := 43, ground := Ground.data }, { on := 22, ground := Ground.guard }], guard := some (22, false) }) (v := ?_) rfl (by kernel_rfl) (by kernel_rfl) (by kernel_rfl) (fun _ _ _ h => h) (Or.inl ⟨by rfl, ?_⟩) (by assumption) ?_
                          rotate_left 1
                          · (intro w hSw; (try dsimp only at hSw); go_simp <;> with_reducible rfl)
                          (try simp only [Act.put, List.setIfInBounds_toArray, List.set_cons_zero, List.set_cons_succ])
                          refine wpAnyH_take (i := 45) (oi := { dst := some 94, op := Op.pick (Operand.tmp 71) (Operand.const (Value.bool true)) (Operand.tmp 93), type := 4, pos := "l10_dice.go:35", after := #[{ on := 22, ground := Ground.data }, { on := 44, ground := Ground.data }], guard := none }) (v := ?_) rfl (by kernel_rfl) (by kernel_rfl) (by kernel_rfl) (fun _ _ _ h => h) (Or.inl ⟨by rfl, ?_⟩) (by assumption) ?_
                          rotate_left 1
                          · (intro w hSw; (try dsimp only at hSw); go_simp <;> with_reducible rfl)
                          (try simp only [Act.put, List.setIfInBounds_toArray, List.set_cons_zero, List.set_cons_succ])
                          refine wpAnyH_done (by kernel_rfl) ?_ _
                          clear hHeld
                          go_wp2
                          go_meet
                          exact ⟨_, rfl, fun h => (by first | cases h; done | exact HYN.out.1 h | exact HYN.out.1 trivial), fun h => (by first | cases h; done | exact HYN.out.2 h | exact HYN.out.2 trivial), HQ.below⟩
                        exact AllReadyH.nil
                  · have Hi := Lib.hid hi
                    by_cases hj : j < n
                    · have Hj := Lib.hid hj
                      obtain ⟨j1, hj1⟩ : ∃ x, x = j + 1 := ⟨_, rfl⟩
                      obtain ⟨pb, epb⟩ : ∃ x, x = gV C P 0 0 n (i : Int) (j1 : Int) := ⟨_, rfl⟩
                      obtain ⟨gk, ck, fk, hgk⟩ := hrow j1 (by omega)
                      have fb := hgk i (by have := HIN.out; omega)
                      rw [← epb] at fb
                      have HPB := Lib.hid (show onS pb by rw [epb]; exact gV_on ..)
                      have HPBE := Lib.hid epb
                      have HJ1 := Lib.hid hj1
                      have ej1 : IntKind.i64.wrap ((j : Int) + 1) = (j1 : Int) := by rw [hj1, show ((j + 1 : Nat) : Int) = (j : Int) + 1 by omega]; exact wrap_in (by have := HNB.out; omega)
                      have hj1s : (j1 : Int) < (s : Int) := by have := HS.out; omega
                      have hj10 : (0 : Int) ≤ (j1 : Int) := by omega
                      clear epb hj1 hj hgk hi
                      rcases hnb : near m pv pb with _ | _
                      · have HCB : Hid (∀ w, Calls Try.prog 48 #[v3v pv, v3v pb, .int .i64 m] w (BoolIs true w)) := Lib.hid (fun w => by have h := far_any pv pb m HPV.out HPB.out w; rw [hnb] at h; exact h)
                        have HYN : Hid (((true : Bool) = false → pairOk C P m n i j) ∧ ((true : Bool) = true → rateOk C P m n = false)) := Lib.hid ⟨fun e => (by cases e), fun _ => rate_noBelow (i := i) (j := j) (Nat.le_of_lt_succ HIN.out) Hj.out (by rw [← HPVE.out, ← HJ1.out, ← HPBE.out]; exact hnb)⟩
                        clear hnb hgi hrow
                        have HC2 : ∀ W', Below wr.heap.size wr W' → (W'.cell? ⟨G, j, none⟩ = some (.slice (some ⟨gj, 0, none⟩) s cj) ∧ W'.cell? ⟨gj, i * 3, none⟩ = some (.int .i64 pv.1) ∧ W'.cell? ⟨gj, i * 3 + 1, none⟩ = some (.int .i64 pv.2.1) ∧ W'.cell? ⟨gj, i * 3 + 2, none⟩ = some (.int .i64 pv.2.2) ∧ W'.cell? ⟨G, j1, none⟩ = some (.slice (some ⟨gk, 0, none⟩) s ck) ∧ W'.cell? ⟨gk, i * 3, none⟩ = some (.int .i64 pb.1) ∧ W'.cell? ⟨gk, i * 3 + 1, none⟩ = some (.int .i64 pb.2.1) ∧ W'.cell? ⟨gk, i * 3 + 2, none⟩ = some (.int .i64 pb.2.2)) := fun W' h => ⟨(h.cell (World.block_lt_of_cell? wr _ (fj))).trans (fj), (h.cell (World.block_lt_of_cell? wr _ (fv.1))).trans (fv.1), (h.cell (World.block_lt_of_cell? wr _ (fv.2.1))).trans (fv.2.1), (h.cell (World.block_lt_of_cell? wr _ (fv.2.2))).trans (fv.2.2), (h.cell (World.block_lt_of_cell? wr _ (fk))).trans (fk), (h.cell (World.block_lt_of_cell? wr _ (fb.1))).trans (fb.1), (h.cell (World.block_lt_of_cell? wr _ (fb.2.1))).trans (fb.2.1), (h.cell (World.block_lt_of_cell? wr _ (fb.2.2))).trans (fb.2.2)⟩
                        clear fj fv fk fb
                        have HQ := Held.nil wr
                        have hHC := HC2 _ HQ.drew.below
                        have HQ := HQ.drew
                        refine wp_region_held_drew (S := fun w' => w'.cell? ⟨G, j, none⟩ = some (.slice (some ⟨gj, 0, none⟩) s cj) ∧ w'.cell? ⟨gj, i * 3, none⟩ = some (.int .i64 pv.1) ∧ w'.cell? ⟨gj, i * 3 + 1, none⟩ = some (.int .i64 pv.2.1) ∧ w'.cell? ⟨gj, i * 3 + 2, none⟩ = some (.int .i64 pv.2.2) ∧ w'.cell? ⟨G, j1, none⟩ = some (.slice (some ⟨gk, 0, none⟩) s ck) ∧ w'.cell? ⟨gk, i * 3, none⟩ = some (.int .i64 pb.1) ∧ w'.cell? ⟨gk, i * 3 + 1, none⟩ = some (.int .i64 pb.2.1) ∧ w'.cell? ⟨gk, i * 3 + 2, none⟩ = some (.int .i64 pb.2.2)) (by kernel_rfl) hHC (fun hHeld => ?_)
                        clear hHC
                        refine wpAnyH_take (i := 0) (oi := { dst := some 49, op := Op.move (Operand.tmp 11), type := 3, pos := "l10_dice.go:35", after := #[], guard := none }) (v := ?_) rfl (by kernel_rfl) (by kernel_rfl) (by kernel_rfl) (fun _ _ _ h => h) (Or.inl ⟨by rfl, ?_⟩) (by assumption) ?_
                        rotate_left 1
                        · (intro w hSw; (try dsimp only at hSw); go_simp <;> with_reducible rfl)
                        (try simp only [Act.put, List.setIfInBounds_toArray, List.set_cons_zero, List.set_cons_succ])
                        refine wpAnyH_take (i := 1) (oi := { dst := some 50, op := Op.move (Operand.tmp 7), type := 3, pos := "l10_dice.go:35", after := #[], guard := none }) (v := ?_) rfl (by kernel_rfl) (by kernel_rfl) (by kernel_rfl) (fun _ _ _ h => h) (Or.inl ⟨by rfl, ?_⟩) (by assumption) ?_
                        rotate_left 1
                        · (intro w hSw; (try dsimp only at hSw); go_simp <;> with_reducible rfl)
                        (try simp only [Act.put, List.setIfInBounds_toArray, List.set_cons_zero, List.set_cons_succ])
                        refine wpAnyH_take (i := 2) (oi := { dst := some 51, op := Op.binOp BinOp.lss 3 (Operand.tmp 49) (Operand.tmp 50) 3, type := 4, pos := "l10_dice.go:35", after := #[{ on := 0, ground := Ground.data }, { on := 1, ground := Ground.data }], guard := none }) (v := .bool false) rfl (by kernel_rfl) (by kernel_rfl) (by kernel_rfl) (fun _ _ _ h => h) (Or.inl ⟨by rfl, ?_⟩) (by assumption) ?_
                        · (intro w hSw; (try dsimp only at hSw); (go_simp; (try (first | exact Hi.out | (have h := Hi.out; omega)))))
                        (try simp only [Act.put, List.setIfInBounds_toArray, List.set_cons_zero, List.set_cons_succ])
                        refine wpAnyH_take (i := 3) (oi := { dst := some 52, op := Op.move (Operand.tmp 51), type := 4, pos := "l10_dice.go:35", after := #[{ on := 2, ground := Ground.data }], guard := none }) (v := ?_) rfl (by kernel_rfl) (by kernel_rfl) (by kernel_rfl) (fun _ _ _ h => h) (Or.inl ⟨by rfl, ?_⟩) (by assumption) ?_
                        rotate_left 1
                        · (intro w hSw; (try dsimp only at hSw); go_simp <;> with_reducible rfl)
                        (try simp only [Act.put, List.setIfInBounds_toArray, List.set_cons_zero, List.set_cons_succ])
                        refine wpAnyH_take (i := 4) (oi := { dst := some 53, op := Op.move (Operand.tmp 8), type := 86, pos := "l10_dice.go:35", after := #[{ on := 3, ground := Ground.guard }], guard := some (3, true) }) (v := undef) rfl (by kernel_rfl) (by kernel_rfl) (by kernel_rfl) (fun _ _ _ h => h) (Or.inr ⟨by rfl, rfl⟩) (by assumption) ?_
                        (try simp only [Act.put, List.setIfInBounds_toArray, List.set_cons_zero, List.set_cons_succ])
                        refine wpAnyH_take (i := 5) (oi := { dst := some 54, op := Op.move (Operand.tmp 10), type := 3, pos := "l10_dice.go:35", after := #[{ on := 3, ground := Ground.guard }], guard := some (3, true) }) (v := undef) rfl (by kernel_rfl) (by kernel_rfl) (by kernel_rfl) (fun _ _ _ h => h) (Or.inr ⟨by rfl, rfl⟩) (by assumption) ?_
                        (try simp only [Act.put, List.setIfInBounds_toArray, List.set_cons_zero, List.set_cons_succ])
                        refine wpAnyH_take (i := 6) (oi := { dst := some 55, op := Op.indexAddr 86 (Operand.tmp 53) (Operand.tmp 54), type := 0, pos := "l10_dice.go:35", after := #[{ on := 4, ground := Ground.data }, { on := 5, ground := Ground.data }, { on := 3, ground := Ground.guard }], guard := some (3, true) }) (v := undef) rfl (by kernel_rfl) (by kernel_rfl) (by kernel_rfl) (fun _ _ _ h => h) (Or.inr ⟨by rfl, rfl⟩) (by assumption) ?_
                        (try simp only [Act.put, List.setIfInBounds_toArray, List.set_cons_zero, List.set_cons_succ])
                        refine wpAnyH_take (i := 7) (oi := { dst := some 56, op := Op.load 81 (Operand.tmp 55), type := 81, pos := "l10_dice.go:35", after := #[{ on := 6, ground := Ground.data }, { on := 3, ground := Ground.guard }], guard := some (3, true) }) (v := undef) rfl (by kernel_rfl) (by kernel_rfl) (by kernel_rfl) (fun _ _ _ h => h) (Or.inr ⟨by rfl, rfl⟩) (by assumption) ?_
                        (try simp only [Act.put, List.setIfInBounds_toArray, List.set_cons_zero, List.set_cons_succ])
                        refine wpAnyH_take (i := 8) (oi := { dst := some 57, op := Op.move (Operand.tmp 11), type := 3, pos := "l10_dice.go:35", after := #[{ on := 3, ground := Ground.guard }], guard := some (3, true) }) (v := undef) rfl (by kernel_rfl) (by kernel_rfl) (by kernel_rfl) (fun _ _ _ h => h) (Or.inr ⟨by rfl, rfl⟩) (by assumption) ?_
                        (try simp only [Act.put, List.setIfInBounds_toArray, List.set_cons_zero, List.set_cons_succ])
                        refine wpAnyH_take (i := 9) (oi := { dst := some 58, op := Op.indexAddr 81 (Operand.tmp 56) (Operand.tmp 57), type := 0, pos := "l10_dice.go:35", after := #[{ on := 7, ground := Ground.data }, { on := 8, ground := Ground.data }, { on := 3, ground := Ground.guard }], guard := some (3, true) }) (v := undef) rfl (by kernel_rfl) (by kernel_rfl) (by kernel_rfl) (fun _ _ _ h => h) (Or.inr ⟨by rfl, rfl⟩) (by assumption) ?_
                        (try simp only [Act.put, List.setIfInBounds_toArray, List.set_cons_zero, List.set_cons_succ])
                        refine wpAnyH_take (i := 10) (oi := { dst := some 59, op := Op.load 27 (Operand.tmp 58), type := 27, pos := "l10_dice.go:35", after := #[{ on := 9, ground := Ground.data }, { on := 3, ground := Ground.guard }], guard := some (3, true) }) (v := undef) rfl (by kernel_rfl) (by kernel_rfl) (by kernel_rfl) (fun _ _ _ h => h) (Or.inr ⟨by rfl, rfl⟩) (by assumption) ?_
                        (try simp only [Act.put, List.setIfInBounds_toArray, List.set_cons_zero, List.set_cons_succ])
                        refine wpAnyH_take (i := 11) (oi := { dst := some 60, op := Op.move (Operand.tmp 8), type := 86, pos := "l10_dice.go:35", after := #[{ on := 3, ground := Ground.guard }], guard := some (3, true) }) (v := undef) rfl (by kernel_rfl) (by kernel_rfl) (by kernel_rfl) (fun _ _ _ h => h) (Or.inr ⟨by rfl, rfl⟩) (by assumption) ?_
                        (try simp only [Act.put, List.setIfInBounds_toArray, List.set_cons_zero, List.set_cons_succ])
                        refine wpAnyH_take (i := 12) (oi := { dst := some 61, op := Op.move (Operand.tmp 10), type := 3, pos := "l10_dice.go:35", after := #[{ on := 3, ground := Ground.guard }], guard := some (3, true) }) (v := undef) rfl (by kernel_rfl) (by kernel_rfl) (by kernel_rfl) (fun _ _ _ h => h) (Or.inr ⟨by rfl, rfl⟩) (by assumption) ?_
                        (try simp only [Act.put, List.setIfInBounds_toArray, List.set_cons_zero, List.set_cons_succ])
                        refine wpAnyH_take (i := 13) (oi := { dst := some 62, op := Op.indexAddr 86 (Operand.tmp 60) (Operand.tmp 61), type := 0, pos := "l10_dice.go:35", after := #[{ on := 11, ground := Ground.data }, { on := 12, ground := Ground.data }, { on := 3, ground := Ground.guard }], guard := some (3, true) }) (v := undef) rfl (by kernel_rfl) (by kernel_rfl) (by kernel_rfl) (fun _ _ _ h => h) (Or.inr ⟨by rfl, rfl⟩) (by assumption) ?_
                        (try simp only [Act.put, List.setIfInBounds_toArray, List.set_cons_zero, List.set_cons_succ])
                        refine wpAnyH_take (i := 14) (oi := { dst := some 63, op := Op.load 81 (Operand.tmp 62), type := 81, pos := "l10_dice.go:35", after := #[{ on := 13, ground := Ground.data }, { on := 3, ground := Ground.guard }], guard := some (3, true) }) (v := undef) rfl (by kernel_rfl) (by kernel_rfl) (by kernel_rfl) (fun _ _ _ h => h) (Or.inr ⟨by rfl, rfl⟩) (by assumption) ?_
                        (try simp only [Act.put, List.setIfInBounds_toArray, List.set_cons_zero, List.set_cons_succ])
                        refine wpAnyH_take (i := 15) (oi := { dst := some 64, op := Op.move (Operand.tmp 11), type := 3, pos := "l10_dice.go:35", after := #[{ on := 3, ground := Ground.guard }], guard := some (3, true) }) (v := undef) rfl (by kernel_rfl) (by kernel_rfl) (by kernel_rfl) (fun _ _ _ h => h) (Or.inr ⟨by rfl, rfl⟩) (by assumption) ?_
                        (try simp only [Act.put, List.setIfInBounds_toArray, List.set_cons_zero, List.set_cons_succ])
                        refine wpAnyH_take (i := 16) (oi := { dst := some 65, op := Op.binOp BinOp.add 3 (Operand.tmp 64) (Operand.const (Value.int IntKind.i64 1)) 3, type := 3, pos := "l10_dice.go:35", after := #[{ on := 15, ground := Ground.data }, { on := 3, ground := Ground.guard }], guard := some (3, true) }) (v := undef) rfl (by kernel_rfl) (by kernel_rfl) (by kernel_rfl) (fun _ _ _ h => h) (Or.inr ⟨by rfl, rfl⟩) (by assumption) ?_
                        (try simp only [Act.put, List.setIfInBounds_toArray, List.set_cons_zero, List.set_cons_succ])
                        refine wpAnyH_take (i := 17) (oi := { dst := some 66, op := Op.indexAddr 81 (Operand.tmp 63) (Operand.tmp 65), type := 0, pos := "l10_dice.go:35", after := #[{ on := 14, ground := Ground.data }, { on := 16, ground := Ground.data }, { on := 3, ground := Ground.guard }], guard := some (3, true) }) (v := undef) rfl (by kernel_rfl) (by kernel_rfl) (by kernel_rfl) (fun _ _ _ h => h) (Or.inr ⟨by rfl, rfl⟩) (by assumption) ?_
                        (try simp only [Act.put, List.setIfInBounds_toArray, List.set_cons_zero, List.set_cons_succ])
                        refine wpAnyH_take (i := 18) (oi := { dst := some 67, op := Op.load 27 (Operand.tmp 66), type := 27, pos := "l10_dice.go:35", after := #[{ on := 17, ground := Ground.data }, { on := 3, ground := Ground.guard }], guard := some (3, true) }) (v := undef) rfl (by kernel_rfl) (by kernel_rfl) (by kernel_rfl) (fun _ _ _ h => h) (Or.inr ⟨by rfl, rfl⟩) (by assumption) ?_
                        (try simp only [Act.put, List.setIfInBounds_toArray, List.set_cons_zero, List.set_cons_succ])
                        refine wpAnyH_take (i := 19) (oi := { dst := some 68, op := Op.move (Operand.tmp 2), type := 3, pos := "l10_dice.go:35", after := #[{ on := 3, ground := Ground.guard }], guard := some (3, true) }) (v := undef) rfl (by kernel_rfl) (by kernel_rfl) (by kernel_rfl) (fun _ _ _ h => h) (Or.inr ⟨by rfl, rfl⟩) (by assumption) ?_
                        (try simp only [Act.put, List.setIfInBounds_toArray, List.set_cons_zero, List.set_cons_succ])
                        refine wpAnyH_take (i := 20) (oi := { dst := some 69, op := Op.call { callee := Callee.value (Operand.func 48), args := #[Operand.tmp 59, Operand.tmp 67, Operand.tmp 68], argTypes := #[27, 27, 3] }, type := 4, pos := "l10_dice.go:35", after := #[{ on := 10, ground := Ground.data }, { on := 18, ground := Ground.data }, { on := 19, ground := Ground.data }, { on := 3, ground := Ground.chain }, { on := 3, ground := Ground.guard }], guard := some (3, true) }) (v := undef) rfl (by kernel_rfl) (by kernel_rfl) (by kernel_rfl) (fun _ _ _ h => h) (Or.inr ⟨by rfl, rfl⟩) (by assumption) ?_
                        (try simp only [Act.put, List.setIfInBounds_toArray, List.set_cons_zero, List.set_cons_succ])
                        refine wpAnyH_take (i := 21) (oi := { dst := some 70, op := Op.pick (Operand.tmp 52) (Operand.tmp 69) (Operand.const (Value.bool false)), type := 4, pos := "l10_dice.go:35", after := #[{ on := 3, ground := Ground.data }, { on := 20, ground := Ground.data }], guard := none }) (v := ?_) rfl (by kernel_rfl) (by kernel_rfl) (by kernel_rfl) (fun _ _ _ h => h) (Or.inl ⟨by rfl, ?_⟩) (by assumption) ?_
                        rotate_left 1
                        · (intro w hSw; (try dsimp only at hSw); go_simp <;> with_reducible rfl)
                        (try simp only [Act.put, List.setIfInBounds_toArray, List.set_cons_zero, List.set_cons_succ])
                        refine wpAnyH_take (i := 22) (oi := { dst := some 71, op := Op.move (Operand.tmp 70), type := 4, pos := "l10_dice.go:35", after := #[{ on := 21, ground := Ground.data }, { on := 20, ground := Ground.chain }], guard := none }) (v := ?_) rfl (by kernel_rfl) (by kernel_rfl) (by kernel_rfl) (fun _ _ _ h => h) (Or.inl ⟨by rfl, ?_⟩) (by assumption) ?_
                        rotate_left 1
                        · (intro w hSw; (try dsimp only at hSw); go_simp <;> with_reducible rfl)
                        (try simp only [Act.put, List.setIfInBounds_toArray, List.set_cons_zero, List.set_cons_succ])
                        refine wpAnyH_take (i := 23) (oi := { dst := some 72, op := Op.move (Operand.tmp 10), type := 3, pos := "l10_dice.go:35", after := #[{ on := 22, ground := Ground.guard }], guard := some (22, false) }) (v := ?_) rfl (by kernel_rfl) (by kernel_rfl) (by kernel_rfl) (fun _ _ _ h => h) (Or.inl ⟨by rfl, ?_⟩) (by assumption) ?_
                        rotate_left 1
                        · (intro w hSw; (try dsimp only at hSw); go_simp <;> with_reducible rfl)
                        (try simp only [Act.put, List.setIfInBounds_toArray, List.set_cons_zero, List.set_cons_succ])
                        refine wpAnyH_take (i := 24) (oi := { dst := some 73, op := Op.move (Operand.tmp 7), type := 3, pos := "l10_dice.go:35", after := #[{ on := 22, ground := Ground.guard }], guard := some (22, false) }) (v := ?_) rfl (by kernel_rfl) (by kernel_rfl) (by kernel_rfl) (fun _ _ _ h => h) (Or.inl ⟨by rfl, ?_⟩) (by assumption) ?_
                        rotate_left 1
                        · (intro w hSw; (try dsimp only at hSw); go_simp <;> with_reducible rfl)
                        (try simp only [Act.put, List.setIfInBounds_toArray, List.set_cons_zero, List.set_cons_succ])
                        refine wpAnyH_take (i := 25) (oi := { dst := some 74, op := Op.binOp BinOp.lss 3 (Operand.tmp 72) (Operand.tmp 73) 3, type := 4, pos := "l10_dice.go:35", after := #[{ on := 23, ground := Ground.data }, { on := 24, ground := Ground.data }, { on := 22, ground := Ground.guard }], guard := some (22, false) }) (v := .bool true) rfl (by kernel_rfl) (by kernel_rfl) (by kernel_rfl) (fun _ _ _ h => h) (Or.inl ⟨by rfl, ?_⟩) (by assumption) ?_
                        · (intro w hSw; (try dsimp only at hSw); (go_simp; (try (first | exact Hj.out | (have h := Hj.out; omega)))))
                        (try simp only [Act.put, List.setIfInBounds_toArray, List.set_cons_zero, List.set_cons_succ])
                        refine wpAnyH_take (i := 26) (oi := { dst := some 75, op := Op.move (Operand.tmp 74), type := 4, pos := "l10_dice.go:35", after := #[{ on := 25, ground := Ground.data }, { on := 22, ground := Ground.chain }, { on := 22, ground := Ground.guard }], guard := some (22, false) }) (v := ?_) rfl (by kernel_rfl) (by kernel_rfl) (by kernel_rfl) (fun _ _ _ h => h) (Or.inl ⟨by rfl, ?_⟩) (by assumption) ?_
                        rotate_left 1
                        · (intro w hSw; (try dsimp only at hSw); go_simp <;> with_reducible rfl)
                        (try simp only [Act.put, List.setIfInBounds_toArray, List.set_cons_zero, List.set_cons_succ])
                        refine wpAnyH_take (i := 27) (oi := { dst := some 76, op := Op.move (Operand.tmp 8), type := 86, pos := "l10_dice.go:35", after := #[{ on := 26, ground := Ground.guard }], guard := some (26, true) }) (v := ?_) rfl (by kernel_rfl) (by kernel_rfl) (by kernel_rfl) (fun _ _ _ h => h) (Or.inl ⟨by rfl, ?_⟩) (by assumption) ?_
                        rotate_left 1
                        · (intro w hSw; (try dsimp only at hSw); go_simp <;> with_reducible rfl)
                        (try simp only [Act.put, List.setIfInBounds_toArray, List.set_cons_zero, List.set_cons_succ])
                        refine wpAnyH_take (i := 28) (oi := { dst := some 77, op := Op.move (Operand.tmp 10), type := 3, pos := "l10_dice.go:35", after := #[{ on := 26, ground := Ground.guard }], guard := some (26, true) }) (v := ?_) rfl (by kernel_rfl) (by kernel_rfl) (by kernel_rfl) (fun _ _ _ h => h) (Or.inl ⟨by rfl, ?_⟩) (by assumption) ?_
                        rotate_left 1
                        · (intro w hSw; (try dsimp only at hSw); go_simp <;> with_reducible rfl)
                        (try simp only [Act.put, List.setIfInBounds_toArray, List.set_cons_zero, List.set_cons_succ])
                        refine wpAnyH_take (i := 29) (oi := { dst := some 78, op := Op.indexAddr 86 (Operand.tmp 76) (Operand.tmp 77), type := 0, pos := "l10_dice.go:35", after := #[{ on := 27, ground := Ground.data }, { on := 28, ground := Ground.data }, { on := 26, ground := Ground.guard }], guard := some (26, true) }) (v := ?_) rfl (by kernel_rfl) (by kernel_rfl) (by kernel_rfl) (fun _ _ _ h => h) (Or.inl ⟨by rfl, ?_⟩) (by assumption) ?_
                        rotate_left 1
                        · (intro w hSw; (try dsimp only at hSw); go_simp <;> with_reducible rfl)
                        (try simp only [Act.put, List.setIfInBounds_toArray, List.set_cons_zero, List.set_cons_succ])
                        refine wpAnyH_take (i := 30) (oi := { dst := some 79, op := Op.load 81 (Operand.tmp 78), type := 81, pos := "l10_dice.go:35", after := #[{ on := 29, ground := Ground.data }, { on := 26, ground := Ground.guard }], guard := some (26, true) }) (v := ?_) rfl (by kernel_rfl) (by kernel_rfl) (by kernel_rfl) (fun _ _ _ h => h) (Or.inl ⟨by rfl, ?_⟩) (by assumption) ?_
                        rotate_left 1
                        · (intro w hSw; (try dsimp only at hSw); go_simp <;> with_reducible rfl)
                        (try simp only [Act.put, List.setIfInBounds_toArray, List.set_cons_zero, List.set_cons_succ])
                        refine wpAnyH_take (i := 31) (oi := { dst := some 80, op := Op.move (Operand.tmp 11), type := 3, pos := "l10_dice.go:35", after := #[{ on := 26, ground := Ground.guard }], guard := some (26, true) }) (v := ?_) rfl (by kernel_rfl) (by kernel_rfl) (by kernel_rfl) (fun _ _ _ h => h) (Or.inl ⟨by rfl, ?_⟩) (by assumption) ?_
                        rotate_left 1
                        · (intro w hSw; (try dsimp only at hSw); go_simp <;> with_reducible rfl)
                        (try simp only [Act.put, List.setIfInBounds_toArray, List.set_cons_zero, List.set_cons_succ])
                        refine wpAnyH_take (i := 32) (oi := { dst := some 81, op := Op.indexAddr 81 (Operand.tmp 79) (Operand.tmp 80), type := 0, pos := "l10_dice.go:35", after := #[{ on := 30, ground := Ground.data }, { on := 31, ground := Ground.data }, { on := 26, ground := Ground.guard }], guard := some (26, true) }) (v := ?_) rfl (by kernel_rfl) (by kernel_rfl) (by kernel_rfl) (fun _ _ _ h => h) (Or.inl ⟨by rfl, ?_⟩) (by assumption) ?_
                        rotate_left 1
                        · (intro w hSw; (try dsimp only at hSw); go_simp <;> with_reducible rfl)
                        (try simp only [Act.put, List.setIfInBounds_toArray, List.set_cons_zero, List.set_cons_succ])
                        refine wpAnyH_take (i := 33) (oi := { dst := some 82, op := Op.load 27 (Operand.tmp 81), type := 27, pos := "l10_dice.go:35", after := #[{ on := 32, ground := Ground.data }, { on := 26, ground := Ground.guard }], guard := some (26, true) }) (v := ?_) rfl (by kernel_rfl) (by kernel_rfl) (by kernel_rfl) (fun _ _ _ h => h) (Or.inl ⟨by rfl, ?_⟩) (by assumption) ?_
                        rotate_left 1
                        · (intro w hSw; (try dsimp only at hSw); go_simp <;> with_reducible rfl)
                        (try simp only [Act.put, List.setIfInBounds_toArray, List.set_cons_zero, List.set_cons_succ])
                        refine wpAnyH_take (i := 34) (oi := { dst := some 83, op := Op.move (Operand.tmp 8), type := 86, pos := "l10_dice.go:35", after := #[{ on := 26, ground := Ground.guard }], guard := some (26, true) }) (v := ?_) rfl (by kernel_rfl) (by kernel_rfl) (by kernel_rfl) (fun _ _ _ h => h) (Or.inl ⟨by rfl, ?_⟩) (by assumption) ?_
                        rotate_left 1
                        · (intro w hSw; (try dsimp only at hSw); go_simp <;> with_reducible rfl)
                        (try simp only [Act.put, List.setIfInBounds_toArray, List.set_cons_zero, List.set_cons_succ])
                        refine wpAnyH_take (i := 35) (oi := { dst := some 84, op := Op.move (Operand.tmp 10), type := 3, pos := "l10_dice.go:35", after := #[{ on := 26, ground := Ground.guard }], guard := some (26, true) }) (v := ?_) rfl (by kernel_rfl) (by kernel_rfl) (by kernel_rfl) (fun _ _ _ h => h) (Or.inl ⟨by rfl, ?_⟩) (by assumption) ?_
                        rotate_left 1
                        · (intro w hSw; (try dsimp only at hSw); go_simp <;> with_reducible rfl)
                        (try simp only [Act.put, List.setIfInBounds_toArray, List.set_cons_zero, List.set_cons_succ])
                        refine wpAnyH_take (i := 36) (oi := { dst := some 85, op := Op.binOp BinOp.add 3 (Operand.tmp 84) (Operand.const (Value.int IntKind.i64 1)) 3, type := 3, pos := "l10_dice.go:35", after := #[{ on := 35, ground := Ground.data }, { on := 26, ground := Ground.guard }], guard := some (26, true) }) (v := ?_) rfl (by kernel_rfl) (by kernel_rfl) (by kernel_rfl) (fun _ _ _ h => h) (Or.inl ⟨by rfl, ?_⟩) (by assumption) ?_
                        rotate_left 1
                        · (intro w hSw; (try dsimp only at hSw); go_simp <;> with_reducible rfl)
                        (try simp only [Act.put, List.setIfInBounds_toArray, List.set_cons_zero, List.set_cons_succ])
                        refine wpAnyH_take (i := 37) (oi := { dst := some 86, op := Op.indexAddr 86 (Operand.tmp 83) (Operand.tmp 85), type := 0, pos := "l10_dice.go:35", after := #[{ on := 34, ground := Ground.data }, { on := 36, ground := Ground.data }, { on := 26, ground := Ground.guard }], guard := some (26, true) }) (v := ?_) rfl (by kernel_rfl) (by kernel_rfl) (by kernel_rfl) (fun _ _ _ h => h) (Or.inl ⟨by rfl, ?_⟩) (by assumption) ?_
                        rotate_left 1
                        · (intro w hSw; (try dsimp only at hSw); go_simp <;> with_reducible rfl)
                        (try simp only [Act.put, List.setIfInBounds_toArray, List.set_cons_zero, List.set_cons_succ])
                        refine wpAnyH_take (i := 38) (oi := { dst := some 87, op := Op.load 81 (Operand.tmp 86), type := 81, pos := "l10_dice.go:35", after := #[{ on := 37, ground := Ground.data }, { on := 26, ground := Ground.guard }], guard := some (26, true) }) (v := ?_) rfl (by kernel_rfl) (by kernel_rfl) (by kernel_rfl) (fun _ _ _ h => h) (Or.inl ⟨by rfl, ?_⟩) (by assumption) ?_
                        rotate_left 1
                        · (intro w hSw; (try dsimp only at hSw); go_simp <;> with_reducible rfl)
                        (try simp only [Act.put, List.setIfInBounds_toArray, List.set_cons_zero, List.set_cons_succ])
                        refine wpAnyH_take (i := 39) (oi := { dst := some 88, op := Op.move (Operand.tmp 11), type := 3, pos := "l10_dice.go:35", after := #[{ on := 26, ground := Ground.guard }], guard := some (26, true) }) (v := ?_) rfl (by kernel_rfl) (by kernel_rfl) (by kernel_rfl) (fun _ _ _ h => h) (Or.inl ⟨by rfl, ?_⟩) (by assumption) ?_
                        rotate_left 1
                        · (intro w hSw; (try dsimp only at hSw); go_simp <;> with_reducible rfl)
                        (try simp only [Act.put, List.setIfInBounds_toArray, List.set_cons_zero, List.set_cons_succ])
                        refine wpAnyH_take (i := 40) (oi := { dst := some 89, op := Op.indexAddr 81 (Operand.tmp 87) (Operand.tmp 88), type := 0, pos := "l10_dice.go:35", after := #[{ on := 38, ground := Ground.data }, { on := 39, ground := Ground.data }, { on := 26, ground := Ground.guard }], guard := some (26, true) }) (v := ?_) rfl (by kernel_rfl) (by kernel_rfl) (by kernel_rfl) (fun _ _ _ h => h) (Or.inl ⟨by rfl, ?_⟩) (by assumption) ?_
                        rotate_left 1
                        · (intro w hSw; (try dsimp only at hSw); go_simp <;> with_reducible rfl)
                        (try simp only [Act.put, List.setIfInBounds_toArray, List.set_cons_zero, List.set_cons_succ])
                        refine wpAnyH_take (i := 41) (oi := { dst := some 90, op := Op.load 27 (Operand.tmp 89), type := 27, pos := "l10_dice.go:35", after := #[{ on := 40, ground := Ground.data }, { on := 26, ground := Ground.guard }], guard := some (26, true) }) (v := ?_) rfl (by kernel_rfl) (by kernel_rfl) (by kernel_rfl) (fun _ _ _ h => h) (Or.inl ⟨by rfl, ?_⟩) (by assumption) ?_
                        rotate_left 1
                        · (intro w hSw; (try dsimp only at hSw); go_simp <;> with_reducible rfl)
                        (try simp only [Act.put, List.setIfInBounds_toArray, List.set_cons_zero, List.set_cons_succ])
                        refine wpAnyH_take (i := 42) (oi := { dst := some 91, op := Op.move (Operand.tmp 2), type := 3, pos := "l10_dice.go:35", after := #[{ on := 26, ground := Ground.guard }], guard := some (26, true) }) (v := ?_) rfl (by kernel_rfl) (by kernel_rfl) (by kernel_rfl) (fun _ _ _ h => h) (Or.inl ⟨by rfl, ?_⟩) (by assumption) ?_
                        rotate_left 1
                        · (intro w hSw; (try dsimp only at hSw); go_simp <;> with_reducible rfl)
                        (try simp only [Act.put, List.setIfInBounds_toArray, List.set_cons_zero, List.set_cons_succ])
                        refine wpAnyH_ready (rs := [43]) (by kernel_rfl) (by simp) ?_
                        refine AllReadyH.cons (o := { dst := some 92, op := Op.call { callee := Callee.value (Operand.func 48), args := #[Operand.tmp 82, Operand.tmp 90, Operand.tmp 91], argTypes := #[27, 27, 3] }, type := 4, pos := "l10_dice.go:35", after := #[{ on := 33, ground := Ground.data }, { on := 41, ground := Ground.data }, { on := 42, ground := Ground.data }, { on := 26, ground := Ground.chain }, { on := 26, ground := Ground.guard }], guard := some (26, true) }) rfl (fun K hK => ?_) ?_
                        · go_simp
                          (with_reducible refine (HCB.out _).mono ?_)
                          rintro e w1 ⟨rfl, hb1⟩
                          have HQ := HQ.later hb1
                          clear hb1
                          (try go_wp2_with fail)
                          refine hK.out _ _ (by (try dsimp only); with_reducible exact HC2 _ HQ.below) (fun hHeld => ?_)
                          clear hK K
                          (try simp only [Act.put, List.setIfInBounds_toArray, List.set_cons_zero, List.set_cons_succ])
                          refine wpAnyH_take (i := 44) (oi := { dst := some 93, op := Op.pick (Operand.tmp 75) (Operand.tmp 92) (Operand.const (Value.bool false)), type := 4, pos := "l10_dice.go:35", after := #[{ on := 26, ground := Ground.data }, { on := 43, ground := Ground.data }, { on := 22, ground := Ground.guard }], guard := some (22, false) }) (v := ?_) rfl (by kernel_rfl) (by kernel_rfl) (by kernel_rfl) (fun _ _ _ h => h) (Or.inl ⟨by rfl, ?_⟩) (by assumption) ?_
                          rotate_left 1
                          · (intro w hSw; (try dsimp only at hSw); go_simp <;> with_reducible rfl)
                          (try simp only [Act.put, List.setIfInBounds_toArray, List.set_cons_zero, List.set_cons_succ])
                          refine wpAnyH_take (i := 45) (oi := { dst := some 94, op := Op.pick (Operand.tmp 71) (Operand.const (Value.bool true)) (Operand.tmp 93), type := 4, pos := "l10_dice.go:35", after := #[{ on := 22, ground := Ground.data }, { on := 44, ground := Ground.data }], guard := none }) (v := ?_) rfl (by kernel_rfl) (by kernel_rfl) (by kernel_rfl) (fun _ _ _ h => h) (Or.inl ⟨by rfl, ?_⟩) (by assumption) ?_
                          rotate_left 1
                          · (intro w hSw; (try dsimp only at hSw); go_simp <;> with_reducible rfl)
                          (try simp only [Act.put, List.setIfInBounds_toArray, List.set_cons_zero, List.set_cons_succ])
                          refine wpAnyH_done (by kernel_rfl) ?_ _
                          clear hHeld
                          go_wp2
                          go_meet
                          exact ⟨_, rfl, fun h => (by first | cases h; done | exact HYN.out.1 h | exact HYN.out.1 trivial), fun h => (by first | cases h; done | exact HYN.out.2 h | exact HYN.out.2 trivial), HQ.below⟩
                        exact AllReadyH.nil
                      · have HCB : Hid (∀ w, Calls Try.prog 48 #[v3v pv, v3v pb, .int .i64 m] w (BoolIs false w)) := Lib.hid (fun w => by have h := far_any pv pb m HPV.out HPB.out w; rw [hnb] at h; exact h)
                        have HYN : Hid (((false : Bool) = false → pairOk C P m n i j) ∧ ((false : Bool) = true → rateOk C P m n = false)) := Lib.hid ⟨fun _ => ⟨fun h => absurd h Hi.out, fun h => by rw [← HPVE.out, ← HJ1.out, ← HPBE.out]; exact hnb⟩, fun e => (by cases e)⟩
                        clear hnb hgi hrow
                        have HC2 : ∀ W', Below wr.heap.size wr W' → (W'.cell? ⟨G, j, none⟩ = some (.slice (some ⟨gj, 0, none⟩) s cj) ∧ W'.cell? ⟨gj, i * 3, none⟩ = some (.int .i64 pv.1) ∧ W'.cell? ⟨gj, i * 3 + 1, none⟩ = some (.int .i64 pv.2.1) ∧ W'.cell? ⟨gj, i * 3 + 2, none⟩ = some (.int .i64 pv.2.2) ∧ W'.cell? ⟨G, j1, none⟩ = some (.slice (some ⟨gk, 0, none⟩) s ck) ∧ W'.cell? ⟨gk, i * 3, none⟩ = some (.int .i64 pb.1) ∧ W'.cell? ⟨gk, i * 3 + 1, none⟩ = some (.int .i64 pb.2.1) ∧ W'.cell? ⟨gk, i * 3 + 2, none⟩ = some (.int .i64 pb.2.2)) := fun W' h => ⟨(h.cell (World.block_lt_of_cell? wr _ (fj))).trans (fj), (h.cell (World.block_lt_of_cell? wr _ (fv.1))).trans (fv.1), (h.cell (World.block_lt_of_cell? wr _ (fv.2.1))).trans (fv.2.1), (h.cell (World.block_lt_of_cell? wr _ (fv.2.2))).trans (fv.2.2), (h.cell (World.block_lt_of_cell? wr _ (fk))).trans (fk), (h.cell (World.block_lt_of_cell? wr _ (fb.1))).trans (fb.1), (h.cell (World.block_lt_of_cell? wr _ (fb.2.1))).trans (fb.2.1), (h.cell (World.block_lt_of_cell? wr _ (fb.2.2))).trans (fb.2.2)⟩
                        clear fj fv fk fb
                        have HQ := Held.nil wr
                        have hHC := HC2 _ HQ.drew.below
                        have HQ := HQ.drew
                        refine wp_region_held_drew (S := fun w' => w'.cell? ⟨G, j, none⟩ = some (.slice (some ⟨gj, 0, none⟩) s cj) ∧ w'.cell? ⟨gj, i * 3, none⟩ = some (.int .i64 pv.1) ∧ w'.cell? ⟨gj, i * 3 + 1, none⟩ = some (.int .i64 pv.2.1) ∧ w'.cell? ⟨gj, i * 3 + 2, none⟩ = some (.int .i64 pv.2.2) ∧ w'.cell? ⟨G, j1, none⟩ = some (.slice (some ⟨gk, 0, none⟩) s ck) ∧ w'.cell? ⟨gk, i * 3, none⟩ = some (.int .i64 pb.1) ∧ w'.cell? ⟨gk, i * 3 + 1, none⟩ = some (.int .i64 pb.2.1) ∧ w'.cell? ⟨gk, i * 3 + 2, none⟩ = some (.int .i64 pb.2.2)) (by kernel_rfl) hHC (fun hHeld => ?_)
                        clear hHC
                        refine wpAnyH_take (i := 0) (oi := { dst := some 49, op := Op.move (Operand.tmp 11), type := 3, pos := "l10_dice.go:35", after := #[], guard := none }) (v := ?_) rfl (by kernel_rfl) (by kernel_rfl) (by kernel_rfl) (fun _ _ _ h => h) (Or.inl ⟨by rfl, ?_⟩) (by assumption) ?_
                        rotate_left 1
                        · (intro w hSw; (try dsimp only at hSw); go_simp <;> with_reducible rfl)
                        (try simp only [Act.put, List.setIfInBounds_toArray, List.set_cons_zero, List.set_cons_succ])
                        refine wpAnyH_take (i := 1) (oi := { dst := some 50, op := Op.move (Operand.tmp 7), type := 3, pos := "l10_dice.go:35", after := #[], guard := none }) (v := ?_) rfl (by kernel_rfl) (by kernel_rfl) (by kernel_rfl) (fun _ _ _ h => h) (Or.inl ⟨by rfl, ?_⟩) (by assumption) ?_
                        rotate_left 1
                        · (intro w hSw; (try dsimp only at hSw); go_simp <;> with_reducible rfl)
                        (try simp only [Act.put, List.setIfInBounds_toArray, List.set_cons_zero, List.set_cons_succ])
                        refine wpAnyH_take (i := 2) (oi := { dst := some 51, op := Op.binOp BinOp.lss 3 (Operand.tmp 49) (Operand.tmp 50) 3, type := 4, pos := "l10_dice.go:35", after := #[{ on := 0, ground := Ground.data }, { on := 1, ground := Ground.data }], guard := none }) (v := .bool false) rfl (by kernel_rfl) (by kernel_rfl) (by kernel_rfl) (fun _ _ _ h => h) (Or.inl ⟨by rfl, ?_⟩) (by assumption) ?_
                        · (intro w hSw; (try dsimp only at hSw); (go_simp; (try (first | exact Hi.out | (have h := Hi.out; omega)))))
                        (try simp only [Act.put, List.setIfInBounds_toArray, List.set_cons_zero, List.set_cons_succ])
                        refine wpAnyH_take (i := 3) (oi := { dst := some 52, op := Op.move (Operand.tmp 51), type := 4, pos := "l10_dice.go:35", after := #[{ on := 2, ground := Ground.data }], guard := none }) (v := ?_) rfl (by kernel_rfl) (by kernel_rfl) (by kernel_rfl) (fun _ _ _ h => h) (Or.inl ⟨by rfl, ?_⟩) (by assumption) ?_
                        rotate_left 1
                        · (intro w hSw; (try dsimp only at hSw); go_simp <;> with_reducible rfl)
                        (try simp only [Act.put, List.setIfInBounds_toArray, List.set_cons_zero, List.set_cons_succ])
                        refine wpAnyH_take (i := 4) (oi := { dst := some 53, op := Op.move (Operand.tmp 8), type := 86, pos := "l10_dice.go:35", after := #[{ on := 3, ground := Ground.guard }], guard := some (3, true) }) (v := undef) rfl (by kernel_rfl) (by kernel_rfl) (by kernel_rfl) (fun _ _ _ h => h) (Or.inr ⟨by rfl, rfl⟩) (by assumption) ?_
                        (try simp only [Act.put, List.setIfInBounds_toArray, List.set_cons_zero, List.set_cons_succ])
                        refine wpAnyH_take (i := 5) (oi := { dst := some 54, op := Op.move (Operand.tmp 10), type := 3, pos := "l10_dice.go:35", after := #[{ on := 3, ground := Ground.guard }], guard := some (3, true) }) (v := undef) rfl (by kernel_rfl) (by kernel_rfl) (by kernel_rfl) (fun _ _ _ h => h) (Or.inr ⟨by rfl, rfl⟩) (by assumption) ?_
                        (try simp only [Act.put, List.setIfInBounds_toArray, List.set_cons_zero, List.set_cons_succ])
                        refine wpAnyH_take (i := 6) (oi := { dst := some 55, op := Op.indexAddr 86 (Operand.tmp 53) (Operand.tmp 54), type := 0, pos := "l10_dice.go:35", after := #[{ on := 4, ground := Ground.data }, { on := 5, ground := Ground.data }, { on := 3, ground := Ground.guard }], guard := some (3, true) }) (v := undef) rfl (by kernel_rfl) (by kernel_rfl) (by kernel_rfl) (fun _ _ _ h => h) (Or.inr ⟨by rfl, rfl⟩) (by assumption) ?_
                        (try simp only [Act.put, List.setIfInBounds_toArray, List.set_cons_zero, List.set_cons_succ])
                        refine wpAnyH_take (i := 7) (oi := { dst := some 56, op := Op.load 81 (Operand.tmp 55), type := 81, pos := "l10_dice.go:35", after := #[{ on := 6, ground := Ground.data }, { on := 3, ground := Ground.guard }], guard := some (3, true) }) (v := undef) rfl (by kernel_rfl) (by kernel_rfl) (by kernel_rfl) (fun _ _ _ h => h) (Or.inr ⟨by rfl, rfl⟩) (by assumption) ?_
                        (try simp only [Act.put, List.setIfInBounds_toArray, List.set_cons_zero, List.set_cons_succ])
                        refine wpAnyH_take (i := 8) (oi := { dst := some 57, op := Op.move (Operand.tmp 11), type := 3, pos := "l10_dice.go:35", after := #[{ on := 3, ground := Ground.guard }], guard := some (3, true) }) (v := undef) rfl (by kernel_rfl) (by kernel_rfl) (by kernel_rfl) (fun _ _ _ h => h) (Or.inr ⟨by rfl, rfl⟩) (by assumption) ?_
                        (try simp only [Act.put, List.setIfInBounds_toArray, List.set_cons_zero, List.set_cons_succ])
                        refine wpAnyH_take (i := 9) (oi := { dst := some 58, op := Op.indexAddr 81 (Operand.tmp 56) (Operand.tmp 57), type := 0, pos := "l10_dice.go:35", after := #[{ on := 7, ground := Ground.data }, { on := 8, ground := Ground.data }, { on := 3, ground := Ground.guard }], guard := some (3, true) }) (v := undef) rfl (by kernel_rfl) (by kernel_rfl) (by kernel_rfl) (fun _ _ _ h => h) (Or.inr ⟨by rfl, rfl⟩) (by assumption) ?_
                        (try simp only [Act.put, List.setIfInBounds_toArray, List.set_cons_zero, List.set_cons_succ])
                        refine wpAnyH_take (i := 10) (oi := { dst := some 59, op := Op.load 27 (Operand.tmp 58), type := 27, pos := "l10_dice.go:35", after := #[{ on := 9, ground := Ground.data }, { on := 3, ground := Ground.guard }], guard := some (3, true) }) (v := undef) rfl (by kernel_rfl) (by kernel_rfl) (by kernel_rfl) (fun _ _ _ h => h) (Or.inr ⟨by rfl, rfl⟩) (by assumption) ?_
                        (try simp only [Act.put, List.setIfInBounds_toArray, List.set_cons_zero, List.set_cons_succ])
                        refine wpAnyH_take (i := 11) (oi := { dst := some 60, op := Op.move (Operand.tmp 8), type := 86, pos := "l10_dice.go:35", after := #[{ on := 3, ground := Ground.guard }], guard := some (3, true) }) (v := undef) rfl (by kernel_rfl) (by kernel_rfl) (by kernel_rfl) (fun _ _ _ h => h) (Or.inr ⟨by rfl, rfl⟩) (by assumption) ?_
                        (try simp only [Act.put, List.setIfInBounds_toArray, List.set_cons_zero, List.set_cons_succ])
                        refine wpAnyH_take (i := 12) (oi := { dst := some 61, op := Op.move (Operand.tmp 10), type := 3, pos := "l10_dice.go:35", after := #[{ on := 3, ground := Ground.guard }], guard := some (3, true) }) (v := undef) rfl (by kernel_rfl) (by kernel_rfl) (by kernel_rfl) (fun _ _ _ h => h) (Or.inr ⟨by rfl, rfl⟩) (by assumption) ?_
                        (try simp only [Act.put, List.setIfInBounds_toArray, List.set_cons_zero, List.set_cons_succ])
                        refine wpAnyH_take (i := 13) (oi := { dst := some 62, op := Op.indexAddr 86 (Operand.tmp 60) (Operand.tmp 61), type := 0, pos := "l10_dice.go:35", after := #[{ on := 11, ground := Ground.data }, { on := 12, ground := Ground.data }, { on := 3, ground := Ground.guard }], guard := some (3, true) }) (v := undef) rfl (by kernel_rfl) (by kernel_rfl) (by kernel_rfl) (fun _ _ _ h => h) (Or.inr ⟨by rfl, rfl⟩) (by assumption) ?_
                        (try simp only [Act.put, List.setIfInBounds_toArray, List.set_cons_zero, List.set_cons_succ])
                        refine wpAnyH_take (i := 14) (oi := { dst := some 63, op := Op.load 81 (Operand.tmp 62), type := 81, pos := "l10_dice.go:35", after := #[{ on := 13, ground := Ground.data }, { on := 3, ground := Ground.guard }], guard := some (3, true) }) (v := undef) rfl (by kernel_rfl) (by kernel_rfl) (by kernel_rfl) (fun _ _ _ h => h) (Or.inr ⟨by rfl, rfl⟩) (by assumption) ?_
                        (try simp only [Act.put, List.setIfInBounds_toArray, List.set_cons_zero, List.set_cons_succ])
                        refine wpAnyH_take (i := 15) (oi := { dst := some 64, op := Op.move (Operand.tmp 11), type := 3, pos := "l10_dice.go:35", after := #[{ on := 3, ground := Ground.guard }], guard := some (3, true) }) (v := undef) rfl (by kernel_rfl) (by kernel_rfl) (by kernel_rfl) (fun _ _ _ h => h) (Or.inr ⟨by rfl, rfl⟩) (by assumption) ?_
                        (try simp only [Act.put, List.setIfInBounds_toArray, List.set_cons_zero, List.set_cons_succ])
                        refine wpAnyH_take (i := 16) (oi := { dst := some 65, op := Op.binOp BinOp.add 3 (Operand.tmp 64) (Operand.const (Value.int IntKind.i64 1)) 3, type := 3, pos := "l10_dice.go:35", after := #[{ on := 15, ground := Ground.data }, { on := 3, ground := Ground.guard }], guard := some (3, true) }) (v := undef) rfl (by kernel_rfl) (by kernel_rfl) (by kernel_rfl) (fun _ _ _ h => h) (Or.inr ⟨by rfl, rfl⟩) (by assumption) ?_
                        (try simp only [Act.put, List.setIfInBounds_toArray, List.set_cons_zero, List.set_cons_succ])
                        refine wpAnyH_take (i := 17) (oi := { dst := some 66, op := Op.indexAddr 81 (Operand.tmp 63) (Operand.tmp 65), type := 0, pos := "l10_dice.go:35", after := #[{ on := 14, ground := Ground.data }, { on := 16, ground := Ground.data }, { on := 3, ground := Ground.guard }], guard := some (3, true) }) (v := undef) rfl (by kernel_rfl) (by kernel_rfl) (by kernel_rfl) (fun _ _ _ h => h) (Or.inr ⟨by rfl, rfl⟩) (by assumption) ?_
                        (try simp only [Act.put, List.setIfInBounds_toArray, List.set_cons_zero, List.set_cons_succ])
                        refine wpAnyH_take (i := 18) (oi := { dst := some 67, op := Op.load 27 (Operand.tmp 66), type := 27, pos := "l10_dice.go:35", after := #[{ on := 17, ground := Ground.data }, { on := 3, ground := Ground.guard }], guard := some (3, true) }) (v := undef) rfl (by kernel_rfl) (by kernel_rfl) (by kernel_rfl) (fun _ _ _ h => h) (Or.inr ⟨by rfl, rfl⟩) (by assumption) ?_
                        (try simp only [Act.put, List.setIfInBounds_toArray, List.set_cons_zero, List.set_cons_succ])
                        refine wpAnyH_take (i := 19) (oi := { dst := some 68, op := Op.move (Operand.tmp 2), type := 3, pos := "l10_dice.go:35", after := #[{ on := 3, ground := Ground.guard }], guard := some (3, true) }) (v := undef) rfl (by kernel_rfl) (by kernel_rfl) (by kernel_rfl) (fun _ _ _ h => h) (Or.inr ⟨by rfl, rfl⟩) (by assumption) ?_
                        (try simp only [Act.put, List.setIfInBounds_toArray, List.set_cons_zero, List.set_cons_succ])
                        refine wpAnyH_take (i := 20) (oi := { dst := some 69, op := Op.call { callee := Callee.value (Operand.func 48), args := #[Operand.tmp 59, Operand.tmp 67, Operand.tmp 68], argTypes := #[27, 27, 3] }, type := 4, pos := "l10_dice.go:35", after := #[{ on := 10, ground := Ground.data }, { on := 18, ground := Ground.data }, { on := 19, ground := Ground.data }, { on := 3, ground := Ground.chain }, { on := 3, ground := Ground.guard }], guard := some (3, true) }) (v := undef) rfl (by kernel_rfl) (by kernel_rfl) (by kernel_rfl) (fun _ _ _ h => h) (Or.inr ⟨by rfl, rfl⟩) (by assumption) ?_
                        (try simp only [Act.put, List.setIfInBounds_toArray, List.set_cons_zero, List.set_cons_succ])
                        refine wpAnyH_take (i := 21) (oi := { dst := some 70, op := Op.pick (Operand.tmp 52) (Operand.tmp 69) (Operand.const (Value.bool false)), type := 4, pos := "l10_dice.go:35", after := #[{ on := 3, ground := Ground.data }, { on := 20, ground := Ground.data }], guard := none }) (v := ?_) rfl (by kernel_rfl) (by kernel_rfl) (by kernel_rfl) (fun _ _ _ h => h) (Or.inl ⟨by rfl, ?_⟩) (by assumption) ?_
                        rotate_left 1
                        · (intro w hSw; (try dsimp only at hSw); go_simp <;> with_reducible rfl)
                        (try simp only [Act.put, List.setIfInBounds_toArray, List.set_cons_zero, List.set_cons_succ])
                        refine wpAnyH_take (i := 22) (oi := { dst := some 71, op := Op.move (Operand.tmp 70), type := 4, pos := "l10_dice.go:35", after := #[{ on := 21, ground := Ground.data }, { on := 20, ground := Ground.chain }], guard := none }) (v := ?_) rfl (by kernel_rfl) (by kernel_rfl) (by kernel_rfl) (fun _ _ _ h => h) (Or.inl ⟨by rfl, ?_⟩) (by assumption) ?_
                        rotate_left 1
                        · (intro w hSw; (try dsimp only at hSw); go_simp <;> with_reducible rfl)
                        (try simp only [Act.put, List.setIfInBounds_toArray, List.set_cons_zero, List.set_cons_succ])
                        refine wpAnyH_take (i := 23) (oi := { dst := some 72, op := Op.move (Operand.tmp 10), type := 3, pos := "l10_dice.go:35", after := #[{ on := 22, ground := Ground.guard }], guard := some (22, false) }) (v := ?_) rfl (by kernel_rfl) (by kernel_rfl) (by kernel_rfl) (fun _ _ _ h => h) (Or.inl ⟨by rfl, ?_⟩) (by assumption) ?_
                        rotate_left 1
                        · (intro w hSw; (try dsimp only at hSw); go_simp <;> with_reducible rfl)
                        (try simp only [Act.put, List.setIfInBounds_toArray, List.set_cons_zero, List.set_cons_succ])
                        refine wpAnyH_take (i := 24) (oi := { dst := some 73, op := Op.move (Operand.tmp 7), type := 3, pos := "l10_dice.go:35", after := #[{ on := 22, ground := Ground.guard }], guard := some (22, false) }) (v := ?_) rfl (by kernel_rfl) (by kernel_rfl) (by kernel_rfl) (fun _ _ _ h => h) (Or.inl ⟨by rfl, ?_⟩) (by assumption) ?_
                        rotate_left 1
                        · (intro w hSw; (try dsimp only at hSw); go_simp <;> with_reducible rfl)
                        (try simp only [Act.put, List.setIfInBounds_toArray, List.set_cons_zero, List.set_cons_succ])
                        refine wpAnyH_take (i := 25) (oi := { dst := some 74, op := Op.binOp BinOp.lss 3 (Operand.tmp 72) (Operand.tmp 73) 3, type := 4, pos := "l10_dice.go:35", after := #[{ on := 23, ground := Ground.data }, { on := 24, ground := Ground.data }, { on := 22, ground := Ground.guard }], guard := some (22, false) }) (v := .bool true) rfl (by kernel_rfl) (by kernel_rfl) (by kernel_rfl) (fun _ _ _ h => h) (Or.inl ⟨by rfl, ?_⟩) (by assumption) ?_
                        · (intro w hSw; (try dsimp only at hSw); (go_simp; (try (first | exact Hj.out | (have h := Hj.out; omega)))))
                        (try simp only [Act.put, List.setIfInBounds_toArray, List.set_cons_zero, List.set_cons_succ])
                        refine wpAnyH_take (i := 26) (oi := { dst := some 75, op := Op.move (Operand.tmp 74), type := 4, pos := "l10_dice.go:35", after := #[{ on := 25, ground := Ground.data }, { on := 22, ground := Ground.chain }, { on := 22, ground := Ground.guard }], guard := some (22, false) }) (v := ?_) rfl (by kernel_rfl) (by kernel_rfl) (by kernel_rfl) (fun _ _ _ h => h) (Or.inl ⟨by rfl, ?_⟩) (by assumption) ?_
                        rotate_left 1
                        · (intro w hSw; (try dsimp only at hSw); go_simp <;> with_reducible rfl)
                        (try simp only [Act.put, List.setIfInBounds_toArray, List.set_cons_zero, List.set_cons_succ])
                        refine wpAnyH_take (i := 27) (oi := { dst := some 76, op := Op.move (Operand.tmp 8), type := 86, pos := "l10_dice.go:35", after := #[{ on := 26, ground := Ground.guard }], guard := some (26, true) }) (v := ?_) rfl (by kernel_rfl) (by kernel_rfl) (by kernel_rfl) (fun _ _ _ h => h) (Or.inl ⟨by rfl, ?_⟩) (by assumption) ?_
                        rotate_left 1
                        · (intro w hSw; (try dsimp only at hSw); go_simp <;> with_reducible rfl)
                        (try simp only [Act.put, List.setIfInBounds_toArray, List.set_cons_zero, List.set_cons_succ])
                        refine wpAnyH_take (i := 28) (oi := { dst := some 77, op := Op.move (Operand.tmp 10), type := 3, pos := "l10_dice.go:35", after := #[{ on := 26, ground := Ground.guard }], guard := some (26, true) }) (v := ?_) rfl (by kernel_rfl) (by kernel_rfl) (by kernel_rfl) (fun _ _ _ h => h) (Or.inl ⟨by rfl, ?_⟩) (by assumption) ?_
                        rotate_left 1
                        · (intro w hSw; (try dsimp only at hSw); go_simp <;> with_reducible rfl)
                        (try simp only [Act.put, List.setIfInBounds_toArray, List.set_cons_zero, List.set_cons_succ])
                        refine wpAnyH_take (i := 29) (oi := { dst := some 78, op := Op.indexAddr 86 (Operand.tmp 76) (Operand.tmp 77), type := 0, pos := "l10_dice.go:35", after := #[{ on := 27, ground := Ground.data }, { on := 28, ground := Ground.data }, { on := 26, ground := Ground.guard }], guard := some (26, true) }) (v := ?_) rfl (by kernel_rfl) (by kernel_rfl) (by kernel_rfl) (fun _ _ _ h => h) (Or.inl ⟨by rfl, ?_⟩) (by assumption) ?_
                        rotate_left 1
                        · (intro w hSw; (try dsimp only at hSw); go_simp <;> with_reducible rfl)
                        (try simp only [Act.put, List.setIfInBounds_toArray, List.set_cons_zero, List.set_cons_succ])
                        refine wpAnyH_take (i := 30) (oi := { dst := some 79, op := Op.load 81 (Operand.tmp 78), type := 81, pos := "l10_dice.go:35", after := #[{ on := 29, ground := Ground.data }, { on := 26, ground := Ground.guard }], guard := some (26, true) }) (v := ?_) rfl (by kernel_rfl) (by kernel_rfl) (by kernel_rfl) (fun _ _ _ h => h) (Or.inl ⟨by rfl, ?_⟩) (by assumption) ?_
                        rotate_left 1
                        · (intro w hSw; (try dsimp only at hSw); go_simp <;> with_reducible rfl)
                        (try simp only [Act.put, List.setIfInBounds_toArray, List.set_cons_zero, List.set_cons_succ])
                        refine wpAnyH_take (i := 31) (oi := { dst := some 80, op := Op.move (Operand.tmp 11), type := 3, pos := "l10_dice.go:35", after := #[{ on := 26, ground := Ground.guard }], guard := some (26, true) }) (v := ?_) rfl (by kernel_rfl) (by kernel_rfl) (by kernel_rfl) (fun _ _ _ h => h) (Or.inl ⟨by rfl, ?_⟩) (by assumption) ?_
                        rotate_left 1
                        · (intro w hSw; (try dsimp only at hSw); go_simp <;> with_reducible rfl)
                        (try simp only [Act.put, List.setIfInBounds_toArray, List.set_cons_zero, List.set_cons_succ])
                        refine wpAnyH_take (i := 32) (oi := { dst := some 81, op := Op.indexAddr 81 (Operand.tmp 79) (Operand.tmp 80), type := 0, pos := "l10_dice.go:35", after := #[{ on := 30, ground := Ground.data }, { on := 31, ground := Ground.data }, { on := 26, ground := Ground.guard }], guard := some (26, true) }) (v := ?_) rfl (by kernel_rfl) (by kernel_rfl) (by kernel_rfl) (fun _ _ _ h => h) (Or.inl ⟨by rfl, ?_⟩) (by assumption) ?_
                        rotate_left 1
                        · (intro w hSw; (try dsimp only at hSw); go_simp <;> with_reducible rfl)
                        (try simp only [Act.put, List.setIfInBounds_toArray, List.set_cons_zero, List.set_cons_succ])
                        refine wpAnyH_take (i := 33) (oi := { dst := some 82, op := Op.load 27 (Operand.tmp 81), type := 27, pos := "l10_dice.go:35", after := #[{ on := 32, ground := Ground.data }, { on := 26, ground := Ground.guard }], guard := some (26, true) }) (v := ?_) rfl (by kernel_rfl) (by kernel_rfl) (by kernel_rfl) (fun _ _ _ h => h) (Or.inl ⟨by rfl, ?_⟩) (by assumption) ?_
                        rotate_left 1
                        · (intro w hSw; (try dsimp only at hSw); go_simp <;> with_reducible rfl)
                        (try simp only [Act.put, List.setIfInBounds_toArray, List.set_cons_zero, List.set_cons_succ])
                        refine wpAnyH_take (i := 34) (oi := { dst := some 83, op := Op.move (Operand.tmp 8), type := 86, pos := "l10_dice.go:35", after := #[{ on := 26, ground := Ground.guard }], guard := some (26, true) }) (v := ?_) rfl (by kernel_rfl) (by kernel_rfl) (by kernel_rfl) (fun _ _ _ h => h) (Or.inl ⟨by rfl, ?_⟩) (by assumption) ?_
                        rotate_left 1
                        · (intro w hSw; (try dsimp only at hSw); go_simp <;> with_reducible rfl)
                        (try simp only [Act.put, List.setIfInBounds_toArray, List.set_cons_zero, List.set_cons_succ])
                        refine wpAnyH_take (i := 35) (oi := { dst := some 84, op := Op.move (Operand.tmp 10), type := 3, pos := "l10_dice.go:35", after := #[{ on := 26, ground := Ground.guard }], guard := some (26, true) }) (v := ?_) rfl (by kernel_rfl) (by kernel_rfl) (by kernel_rfl) (fun _ _ _ h => h) (Or.inl ⟨by rfl, ?_⟩) (by assumption) ?_
                        rotate_left 1
                        · (intro w hSw; (try dsimp only at hSw); go_simp <;> with_reducible rfl)
                        (try simp only [Act.put, List.setIfInBounds_toArray, List.set_cons_zero, List.set_cons_succ])
                        refine wpAnyH_take (i := 36) (oi := { dst := some 85, op := Op.binOp BinOp.add 3 (Operand.tmp 84) (Operand.const (Value.int IntKind.i64 1)) 3, type := 3, pos := "l10_dice.go:35", after := #[{ on := 35, ground := Ground.data }, { on := 26, ground := Ground.guard }], guard := some (26, true) }) (v := ?_) rfl (by kernel_rfl) (by kernel_rfl) (by kernel_rfl) (fun _ _ _ h => h) (Or.inl ⟨by rfl, ?_⟩) (by assumption) ?_
                        rotate_left 1
                        · (intro w hSw; (try dsimp only at hSw); go_simp <;> with_reducible rfl)
                        (try simp only [Act.put, List.setIfInBounds_toArray, List.set_cons_zero, List.set_cons_succ])
                        refine wpAnyH_take (i := 37) (oi := { dst := some 86, op := Op.indexAddr 86 (Operand.tmp 83) (Operand.tmp 85), type := 0, pos := "l10_dice.go:35", after := #[{ on := 34, ground := Ground.data }, { on := 36, ground := Ground.data }, { on := 26, ground := Ground.guard }], guard := some (26, true) }) (v := ?_) rfl (by kernel_rfl) (by kernel_rfl) (by kernel_rfl) (fun _ _ _ h => h) (Or.inl ⟨by rfl, ?_⟩) (by assumption) ?_
                        rotate_left 1
                        · (intro w hSw; (try dsimp only at hSw); go_simp <;> with_reducible rfl)
                        (try simp only [Act.put, List.setIfInBounds_toArray, List.set_cons_zero, List.set_cons_succ])
                        refine wpAnyH_take (i := 38) (oi := { dst := some 87, op := Op.load 81 (Operand.tmp 86), type := 81, pos := "l10_dice.go:35", after := #[{ on := 37, ground := Ground.data }, { on := 26, ground := Ground.guard }], guard := some (26, true) }) (v := ?_) rfl (by kernel_rfl) (by kernel_rfl) (by kernel_rfl) (fun _ _ _ h => h) (Or.inl ⟨by rfl, ?_⟩) (by assumption) ?_
                        rotate_left 1
                        · (intro w hSw; (try dsimp only at hSw); go_simp <;> with_reducible rfl)
                        (try simp only [Act.put, List.setIfInBounds_toArray, List.set_cons_zero, List.set_cons_succ])
                        refine wpAnyH_take (i := 39) (oi := { dst := some 88, op := Op.move (Operand.tmp 11), type := 3, pos := "l10_dice.go:35", after := #[{ on := 26, ground := Ground.guard }], guard := some (26, true) }) (v := ?_) rfl (by kernel_rfl) (by kernel_rfl) (by kernel_rfl) (fun _ _ _ h => h) (Or.inl ⟨by rfl, ?_⟩) (by assumption) ?_
                        rotate_left 1
                        · (intro w hSw; (try dsimp only at hSw); go_simp <;> with_reducible rfl)
                        (try simp only [Act.put, List.setIfInBounds_toArray, List.set_cons_zero, List.set_cons_succ])
                        refine wpAnyH_take (i := 40) (oi := { dst := some 89, op := Op.indexAddr 81 (Operand.tmp 87) (Operand.tmp 88), type := 0, pos := "l10_dice.go:35", after := #[{ on := 38, ground := Ground.data }, { on := 39, ground := Ground.data }, { on := 26, ground := Ground.guard }], guard := some (26, true) }) (v := ?_) rfl (by kernel_rfl) (by kernel_rfl) (by kernel_rfl) (fun _ _ _ h => h) (Or.inl ⟨by rfl, ?_⟩) (by assumption) ?_
                        rotate_left 1
                        · (intro w hSw; (try dsimp only at hSw); go_simp <;> with_reducible rfl)
                        (try simp only [Act.put, List.setIfInBounds_toArray, List.set_cons_zero, List.set_cons_succ])
                        refine wpAnyH_take (i := 41) (oi := { dst := some 90, op := Op.load 27 (Operand.tmp 89), type := 27, pos := "l10_dice.go:35", after := #[{ on := 40, ground := Ground.data }, { on := 26, ground := Ground.guard }], guard := some (26, true) }) (v := ?_) rfl (by kernel_rfl) (by kernel_rfl) (by kernel_rfl) (fun _ _ _ h => h) (Or.inl ⟨by rfl, ?_⟩) (by assumption) ?_
                        rotate_left 1
                        · (intro w hSw; (try dsimp only at hSw); go_simp <;> with_reducible rfl)
                        (try simp only [Act.put, List.setIfInBounds_toArray, List.set_cons_zero, List.set_cons_succ])
                        refine wpAnyH_take (i := 42) (oi := { dst := some 91, op := Op.move (Operand.tmp 2), type := 3, pos := "l10_dice.go:35", after := #[{ on := 26, ground := Ground.guard }], guard := some (26, true) }) (v := ?_) rfl (by kernel_rfl) (by kernel_rfl) (by kernel_rfl) (fun _ _ _ h => h) (Or.inl ⟨by rfl, ?_⟩) (by assumption) ?_
                        rotate_left 1
                        · (intro w hSw; (try dsimp only at hSw); go_simp <;> with_reducible rfl)
                        (try simp only [Act.put, List.setIfInBounds_toArray, List.set_cons_zero, List.set_cons_succ])
                        refine wpAnyH_ready (rs := [43]) (by kernel_rfl) (by simp) ?_
                        refine AllReadyH.cons (o := { dst := some 92, op := Op.call { callee := Callee.value (Operand.func 48), args := #[Operand.tmp 82, Operand.tmp 90, Operand.tmp 91], argTypes := #[27, 27, 3] }, type := 4, pos := "l10_dice.go:35", after := #[{ on := 33, ground := Ground.data }, { on := 41, ground := Ground.data }, { on := 42, ground := Ground.data }, { on := 26, ground := Ground.chain }, { on := 26, ground := Ground.guard }], guard := some (26, true) }) rfl (fun K hK => ?_) ?_
                        · go_simp
                          (with_reducible refine (HCB.out _).mono ?_)
                          rintro e w1 ⟨rfl, hb1⟩
                          have HQ := HQ.later hb1
                          clear hb1
                          (try go_wp2_with fail)
                          refine hK.out _ _ (by (try dsimp only); with_reducible exact HC2 _ HQ.below) (fun hHeld => ?_)
                          clear hK K
                          (try simp only [Act.put, List.setIfInBounds_toArray, List.set_cons_zero, List.set_cons_succ])
                          refine wpAnyH_take (i := 44) (oi := { dst := some 93, op := Op.pick (Operand.tmp 75) (Operand.tmp 92) (Operand.const (Value.bool false)), type := 4, pos := "l10_dice.go:35", after := #[{ on := 26, ground := Ground.data }, { on := 43, ground := Ground.data }, { on := 22, ground := Ground.guard }], guard := some (22, false) }) (v := ?_) rfl (by kernel_rfl) (by kernel_rfl) (by kernel_rfl) (fun _ _ _ h => h) (Or.inl ⟨by rfl, ?_⟩) (by assumption) ?_
                          rotate_left 1
                          · (intro w hSw; (try dsimp only at hSw); go_simp <;> with_reducible rfl)
                          (try simp only [Act.put, List.setIfInBounds_toArray, List.set_cons_zero, List.set_cons_succ])
                          refine wpAnyH_take (i := 45) (oi := { dst := some 94, op := Op.pick (Operand.tmp 71) (Operand.const (Value.bool true)) (Operand.tmp 93), type := 4, pos := "l10_dice.go:35", after := #[{ on := 22, ground := Ground.data }, { on := 44, ground := Ground.data }], guard := none }) (v := ?_) rfl (by kernel_rfl) (by kernel_rfl) (by kernel_rfl) (fun _ _ _ h => h) (Or.inl ⟨by rfl, ?_⟩) (by assumption) ?_
                          rotate_left 1
                          · (intro w hSw; (try dsimp only at hSw); go_simp <;> with_reducible rfl)
                          (try simp only [Act.put, List.setIfInBounds_toArray, List.set_cons_zero, List.set_cons_succ])
                          refine wpAnyH_done (by kernel_rfl) ?_ _
                          clear hHeld
                          go_wp2
                          go_meet
                          exact ⟨_, rfl, fun h => (by first | cases h; done | exact HYN.out.1 h | exact HYN.out.1 trivial), fun h => (by first | cases h; done | exact HYN.out.2 h | exact HYN.out.2 trivial), HQ.below⟩
                        exact AllReadyH.nil
                    · have Hj := Lib.hid hj
                      have HYN : Hid (((false : Bool) = false → pairOk C P m n i j) ∧ ((false : Bool) = true → rateOk C P m n = false)) := Lib.hid ⟨fun _ => ⟨fun h => absurd h Hi.out, fun h => absurd h Hj.out⟩, fun e => (by cases e)⟩
                      clear hgi hrow hj hi
                      have HC2 : ∀ W', Below wr.heap.size wr W' → (W'.cell? ⟨G, j, none⟩ = some (.slice (some ⟨gj, 0, none⟩) s cj) ∧ W'.cell? ⟨gj, i * 3, none⟩ = some (.int .i64 pv.1) ∧ W'.cell? ⟨gj, i * 3 + 1, none⟩ = some (.int .i64 pv.2.1) ∧ W'.cell? ⟨gj, i * 3 + 2, none⟩ = some (.int .i64 pv.2.2)) := fun W' h => ⟨(h.cell (World.block_lt_of_cell? wr _ (fj))).trans (fj), (h.cell (World.block_lt_of_cell? wr _ (fv.1))).trans (fv.1), (h.cell (World.block_lt_of_cell? wr _ (fv.2.1))).trans (fv.2.1), (h.cell (World.block_lt_of_cell? wr _ (fv.2.2))).trans (fv.2.2)⟩
                      clear fj fv
                      have HQ := Held.nil wr
                      have hHC := HC2 _ HQ.drew.below
                      have HQ := HQ.drew
                      refine wp_region_held_drew (S := fun w' => w'.cell? ⟨G, j, none⟩ = some (.slice (some ⟨gj, 0, none⟩) s cj) ∧ w'.cell? ⟨gj, i * 3, none⟩ = some (.int .i64 pv.1) ∧ w'.cell? ⟨gj, i * 3 + 1, none⟩ = some (.int .i64 pv.2.1) ∧ w'.cell? ⟨gj, i * 3 + 2, none⟩ = some (.int .i64 pv.2.2)) (by kernel_rfl) hHC (fun hHeld => ?_)
                      clear hHC
                      refine wpAnyH_take (i := 0) (oi := { dst := some 49, op := Op.move (Operand.tmp 11), type := 3, pos := "l10_dice.go:35", after := #[], guard := none }) (v := ?_) rfl (by kernel_rfl) (by kernel_rfl) (by kernel_rfl) (fun _ _ _ h => h) (Or.inl ⟨by rfl, ?_⟩) (by assumption) ?_
                      rotate_left 1
                      · (intro w hSw; (try dsimp only at hSw); go_simp <;> with_reducible rfl)
                      (try simp only [Act.put, List.setIfInBounds_toArray, List.set_cons_zero, List.set_cons_succ])
                      refine wpAnyH_take (i := 1) (oi := { dst := some 50, op := Op.move (Operand.tmp 7), type := 3, pos := "l10_dice.go:35", after := #[], guard := none }) (v := ?_) rfl (by kernel_rfl) (by kernel_rfl) (by kernel_rfl) (fun _ _ _ h => h) (Or.inl ⟨by rfl, ?_⟩) (by assumption) ?_
                      rotate_left 1
                      · (intro w hSw; (try dsimp only at hSw); go_simp <;> with_reducible rfl)
                      (try simp only [Act.put, List.setIfInBounds_toArray, List.set_cons_zero, List.set_cons_succ])
                      refine wpAnyH_take (i := 2) (oi := { dst := some 51, op := Op.binOp BinOp.lss 3 (Operand.tmp 49) (Operand.tmp 50) 3, type := 4, pos := "l10_dice.go:35", after := #[{ on := 0, ground := Ground.data }, { on := 1, ground := Ground.data }], guard := none }) (v := .bool false) rfl (by kernel_rfl) (by kernel_rfl) (by kernel_rfl) (fun _ _ _ h => h) (Or.inl ⟨by rfl, ?_⟩) (by assumption) ?_
                      · (intro w hSw; (try dsimp only at hSw); (go_simp; (try (first | exact Hi.out | (have h := Hi.out; omega)))))
                      (try simp only [Act.put, List.setIfInBounds_toArray, List.set_cons_zero, List.set_cons_succ])
                      refine wpAnyH_take (i := 3) (oi := { dst := some 52, op := Op.move (Operand.tmp 51), type := 4, pos := "l10_dice.go:35", after := #[{ on := 2, ground := Ground.data }], guard := none }) (v := ?_) rfl (by kernel_rfl) (by kernel_rfl) (by kernel_rfl) (fun _ _ _ h => h) (Or.inl ⟨by rfl, ?_⟩) (by assumption) ?_
                      rotate_left 1
                      · (intro w hSw; (try dsimp only at hSw); go_simp <;> with_reducible rfl)
                      (try simp only [Act.put, List.setIfInBounds_toArray, List.set_cons_zero, List.set_cons_succ])
                      refine wpAnyH_take (i := 4) (oi := { dst := some 53, op := Op.move (Operand.tmp 8), type := 86, pos := "l10_dice.go:35", after := #[{ on := 3, ground := Ground.guard }], guard := some (3, true) }) (v := undef) rfl (by kernel_rfl) (by kernel_rfl) (by kernel_rfl) (fun _ _ _ h => h) (Or.inr ⟨by rfl, rfl⟩) (by assumption) ?_
                      (try simp only [Act.put, List.setIfInBounds_toArray, List.set_cons_zero, List.set_cons_succ])
                      refine wpAnyH_take (i := 5) (oi := { dst := some 54, op := Op.move (Operand.tmp 10), type := 3, pos := "l10_dice.go:35", after := #[{ on := 3, ground := Ground.guard }], guard := some (3, true) }) (v := undef) rfl (by kernel_rfl) (by kernel_rfl) (by kernel_rfl) (fun _ _ _ h => h) (Or.inr ⟨by rfl, rfl⟩) (by assumption) ?_
                      (try simp only [Act.put, List.setIfInBounds_toArray, List.set_cons_zero, List.set_cons_succ])
                      refine wpAnyH_take (i := 6) (oi := { dst := some 55, op := Op.indexAddr 86 (Operand.tmp 53) (Operand.tmp 54), type := 0, pos := "l10_dice.go:35", after := #[{ on := 4, ground := Ground.data }, { on := 5, ground := Ground.data }, { on := 3, ground := Ground.guard }], guard := some (3, true) }) (v := undef) rfl (by kernel_rfl) (by kernel_rfl) (by kernel_rfl) (fun _ _ _ h => h) (Or.inr ⟨by rfl, rfl⟩) (by assumption) ?_
                      (try simp only [Act.put, List.setIfInBounds_toArray, List.set_cons_zero, List.set_cons_succ])
                      refine wpAnyH_take (i := 7) (oi := { dst := some 56, op := Op.load 81 (Operand.tmp 55), type := 81, pos := "l10_dice.go:35", after := #[{ on := 6, ground := Ground.data }, { on := 3, ground := Ground.guard }], guard := some (3, true) }) (v := undef) rfl (by kernel_rfl) (by kernel_rfl) (by kernel_rfl) (fun _ _ _ h => h) (Or.inr ⟨by rfl, rfl⟩) (by assumption) ?_
                      (try simp only [Act.put, List.setIfInBounds_toArray, List.set_cons_zero, List.set_cons_succ])
                      refine wpAnyH_take (i := 8) (oi := { dst := some 57, op := Op.move (Operand.tmp 11), type := 3, pos := "l10_dice.go:35", after := #[{ on := 3, ground := Ground.guard }], guard := some (3, true) }) (v := undef) rfl (by kernel_rfl) (by kernel_rfl) (by kernel_rfl) (fun _ _ _ h => h) (Or.inr ⟨by rfl, rfl⟩) (by assumption) ?_
                      (try simp only [Act.put, List.setIfInBounds_toArray, List.set_cons_zero, List.set_cons_succ])
                      refine wpAnyH_take (i := 9) (oi := { dst := some 58, op := Op.indexAddr 81 (Operand.tmp 56) (Operand.tmp 57), type := 0, pos := "l10_dice.go:35", after := #[{ on := 7, ground := Ground.data }, { on := 8, ground := Ground.data }, { on := 3, ground := Ground.guard }], guard := some (3, true) }) (v := undef) rfl (by kernel_rfl) (by kernel_rfl) (by kernel_rfl) (fun _ _ _ h => h) (Or.inr ⟨by rfl, rfl⟩) (by assumption) ?_
                      (try simp only [Act.put, List.setIfInBounds_toArray, List.set_cons_zero, List.set_cons_succ])
                      refine wpAnyH_take (i := 10) (oi := { dst := some 59, op := Op.load 27 (Operand.tmp 58), type := 27, pos := "l10_dice.go:35", after := #[{ on := 9, ground := Ground.data }, { on := 3, ground := Ground.guard }], guard := some (3, true) }) (v := undef) rfl (by kernel_rfl) (by kernel_rfl) (by kernel_rfl) (fun _ _ _ h => h) (Or.inr ⟨by rfl, rfl⟩) (by assumption) ?_
                      (try simp only [Act.put, List.setIfInBounds_toArray, List.set_cons_zero, List.set_cons_succ])
                      refine wpAnyH_take (i := 11) (oi := { dst := some 60, op := Op.move (Operand.tmp 8), type := 86, pos := "l10_dice.go:35", after := #[{ on := 3, ground := Ground.guard }], guard := some (3, true) }) (v := undef) rfl (by kernel_rfl) (by kernel_rfl) (by kernel_rfl) (fun _ _ _ h => h) (Or.inr ⟨by rfl, rfl⟩) (by assumption) ?_
                      (try simp only [Act.put, List.setIfInBounds_toArray, List.set_cons_zero, List.set_cons_succ])
                      refine wpAnyH_take (i := 12) (oi := { dst := some 61, op := Op.move (Operand.tmp 10), type := 3, pos := "l10_dice.go:35", after := #[{ on := 3, ground := Ground.guard }], guard := some (3, true) }) (v := undef) rfl (by kernel_rfl) (by kernel_rfl) (by kernel_rfl) (fun _ _ _ h => h) (Or.inr ⟨by rfl, rfl⟩) (by assumption) ?_
                      (try simp only [Act.put, List.setIfInBounds_toArray, List.set_cons_zero, List.set_cons_succ])
                      refine wpAnyH_take (i := 13) (oi := { dst := some 62, op := Op.indexAddr 86 (Operand.tmp 60) (Operand.tmp 61), type := 0, pos := "l10_dice.go:35", after := #[{ on := 11, ground := Ground.data }, { on := 12, ground := Ground.data }, { on := 3, ground := Ground.guard }], guard := some (3, true) }) (v := undef) rfl (by kernel_rfl) (by kernel_rfl) (by kernel_rfl) (fun _ _ _ h => h) (Or.inr ⟨by rfl, rfl⟩) (by assumption) ?_
                      (try simp only [Act.put, List.setIfInBounds_toArray, List.set_cons_zero, List.set_cons_succ])
                      refine wpAnyH_take (i := 14) (oi := { dst := some 63, op := Op.load 81 (Operand.tmp 62), type := 81, pos := "l10_dice.go:35", after := #[{ on := 13, ground := Ground.data }, { on := 3, ground := Ground.guard }], guard := some (3, true) }) (v := undef) rfl (by kernel_rfl) (by kernel_rfl) (by kernel_rfl) (fun _ _ _ h => h) (Or.inr ⟨by rfl, rfl⟩) (by assumption) ?_
                      (try simp only [Act.put, List.setIfInBounds_toArray, List.set_cons_zero, List.set_cons_succ])
                      refine wpAnyH_take (i := 15) (oi := { dst := some 64, op := Op.move (Operand.tmp 11), type := 3, pos := "l10_dice.go:35", after := #[{ on := 3, ground := Ground.guard }], guard := some (3, true) }) (v := undef) rfl (by kernel_rfl) (by kernel_rfl) (by kernel_rfl) (fun _ _ _ h => h) (Or.inr ⟨by rfl, rfl⟩) (by assumption) ?_
                      (try simp only [Act.put, List.setIfInBounds_toArray, List.set_cons_zero, List.set_cons_succ])
                      refine wpAnyH_take (i := 16) (oi := { dst := some 65, op := Op.binOp BinOp.add 3 (Operand.tmp 64) (Operand.const (Value.int IntKind.i64 1)) 3, type := 3, pos := "l10_dice.go:35", after := #[{ on := 15, ground := Ground.data }, { on := 3, ground := Ground.guard }], guard := some (3, true) }) (v := undef) rfl (by kernel_rfl) (by kernel_rfl) (by kernel_rfl) (fun _ _ _ h => h) (Or.inr ⟨by rfl, rfl⟩) (by assumption) ?_
                      (try simp only [Act.put, List.setIfInBounds_toArray, List.set_cons_zero, List.set_cons_succ])
                      refine wpAnyH_take (i := 17) (oi := { dst := some 66, op := Op.indexAddr 81 (Operand.tmp 63) (Operand.tmp 65), type := 0, pos := "l10_dice.go:35", after := #[{ on := 14, ground := Ground.data }, { on := 16, ground := Ground.data }, { on := 3, ground := Ground.guard }], guard := some (3, true) }) (v := undef) rfl (by kernel_rfl) (by kernel_rfl) (by kernel_rfl) (fun _ _ _ h => h) (Or.inr ⟨by rfl, rfl⟩) (by assumption) ?_
                      (try simp only [Act.put, List.setIfInBounds_toArray, List.set_cons_zero, List.set_cons_succ])
                      refine wpAnyH_take (i := 18) (oi := { dst := some 67, op := Op.load 27 (Operand.tmp 66), type := 27, pos := "l10_dice.go:35", after := #[{ on := 17, ground := Ground.data }, { on := 3, ground := Ground.guard }], guard := some (3, true) }) (v := undef) rfl (by kernel_rfl) (by kernel_rfl) (by kernel_rfl) (fun _ _ _ h => h) (Or.inr ⟨by rfl, rfl⟩) (by assumption) ?_
                      (try simp only [Act.put, List.setIfInBounds_toArray, List.set_cons_zero, List.set_cons_succ])
                      refine wpAnyH_take (i := 19) (oi := { dst := some 68, op := Op.move (Operand.tmp 2), type := 3, pos := "l10_dice.go:35", after := #[{ on := 3, ground := Ground.guard }], guard := some (3, true) }) (v := undef) rfl (by kernel_rfl) (by kernel_rfl) (by kernel_rfl) (fun _ _ _ h => h) (Or.inr ⟨by rfl, rfl⟩) (by assumption) ?_
                      (try simp only [Act.put, List.setIfInBounds_toArray, List.set_cons_zero, List.set_cons_succ])
                      refine wpAnyH_take (i := 20) (oi := { dst := some 69, op := Op.call { callee := Callee.value (Operand.func 48), args := #[Operand.tmp 59, Operand.tmp 67, Operand.tmp 68], argTypes := #[27, 27, 3] }, type := 4, pos := "l10_dice.go:35", after := #[{ on := 10, ground := Ground.data }, { on := 18, ground := Ground.data }, { on := 19, ground := Ground.data }, { on := 3, ground := Ground.chain }, { on := 3, ground := Ground.guard }], guard := some (3, true) }) (v := undef) rfl (by kernel_rfl) (by kernel_rfl) (by kernel_rfl) (fun _ _ _ h => h) (Or.inr ⟨by rfl, rfl⟩) (by assumption) ?_
                      (try simp only [Act.put, List.setIfInBounds_toArray, List.set_cons_zero, List.set_cons_succ])
                      refine wpAnyH_take (i := 21) (oi := { dst := some 70, op := Op.pick (Operand.tmp 52) (Operand.tmp 69) (Operand.const (Value.bool false)), type := 4, pos := "l10_dice.go:35", after := #[{ on := 3, ground := Ground.data }, { on := 20, ground := Ground.data }], guard := none }) (v := ?_) rfl (by kernel_rfl) (by kernel_rfl) (by kernel_rfl) (fun _ _ _ h => h) (Or.inl ⟨by rfl, ?_⟩) (by assumption) ?_
                      rotate_left 1
                      · (intro w hSw; (try dsimp only at hSw); go_simp <;> with_reducible rfl)
                      (try simp only [Act.put, List.setIfInBounds_toArray, List.set_cons_zero, List.set_cons_succ])
                      refine wpAnyH_take (i := 22) (oi := { dst := some 71, op := Op.move (Operand.tmp 70), type := 4, pos := "l10_dice.go:35", after := #[{ on := 21, ground := Ground.data }, { on := 20, ground := Ground.chain }], guard := none }) (v := ?_) rfl (by kernel_rfl) (by kernel_rfl) (by kernel_rfl) (fun _ _ _ h => h) (Or.inl ⟨by rfl, ?_⟩) (by assumption) ?_
                      rotate_left 1
                      · (intro w hSw; (try dsimp only at hSw); go_simp <;> with_reducible rfl)
                      (try simp only [Act.put, List.setIfInBounds_toArray, List.set_cons_zero, List.set_cons_succ])
                      refine wpAnyH_take (i := 23) (oi := { dst := some 72, op := Op.move (Operand.tmp 10), type := 3, pos := "l10_dice.go:35", after := #[{ on := 22, ground := Ground.guard }], guard := some (22, false) }) (v := ?_) rfl (by kernel_rfl) (by kernel_rfl) (by kernel_rfl) (fun _ _ _ h => h) (Or.inl ⟨by rfl, ?_⟩) (by assumption) ?_
                      rotate_left 1
                      · (intro w hSw; (try dsimp only at hSw); go_simp <;> with_reducible rfl)
                      (try simp only [Act.put, List.setIfInBounds_toArray, List.set_cons_zero, List.set_cons_succ])
                      refine wpAnyH_take (i := 24) (oi := { dst := some 73, op := Op.move (Operand.tmp 7), type := 3, pos := "l10_dice.go:35", after := #[{ on := 22, ground := Ground.guard }], guard := some (22, false) }) (v := ?_) rfl (by kernel_rfl) (by kernel_rfl) (by kernel_rfl) (fun _ _ _ h => h) (Or.inl ⟨by rfl, ?_⟩) (by assumption) ?_
                      rotate_left 1
                      · (intro w hSw; (try dsimp only at hSw); go_simp <;> with_reducible rfl)
                      (try simp only [Act.put, List.setIfInBounds_toArray, List.set_cons_zero, List.set_cons_succ])
                      refine wpAnyH_take (i := 25) (oi := { dst := some 74, op := Op.binOp BinOp.lss 3 (Operand.tmp 72) (Operand.tmp 73) 3, type := 4, pos := "l10_dice.go:35", after := #[{ on := 23, ground := Ground.data }, { on := 24, ground := Ground.data }, { on := 22, ground := Ground.guard }], guard := some (22, false) }) (v := .bool false) rfl (by kernel_rfl) (by kernel_rfl) (by kernel_rfl) (fun _ _ _ h => h) (Or.inl ⟨by rfl, ?_⟩) (by assumption) ?_
                      · (intro w hSw; (try dsimp only at hSw); (go_simp; (try (first | exact Hj.out | (have h := Hj.out; omega)))))
                      (try simp only [Act.put, List.setIfInBounds_toArray, List.set_cons_zero, List.set_cons_succ])
                      refine wpAnyH_take (i := 26) (oi := { dst := some 75, op := Op.move (Operand.tmp 74), type := 4, pos := "l10_dice.go:35", after := #[{ on := 25, ground := Ground.data }, { on := 22, ground := Ground.chain }, { on := 22, ground := Ground.guard }], guard := some (22, false) }) (v := ?_) rfl (by kernel_rfl) (by kernel_rfl) (by kernel_rfl) (fun _ _ _ h => h) (Or.inl ⟨by rfl, ?_⟩) (by assumption) ?_
                      rotate_left 1
                      · (intro w hSw; (try dsimp only at hSw); go_simp <;> with_reducible rfl)
                      (try simp only [Act.put, List.setIfInBounds_toArray, List.set_cons_zero, List.set_cons_succ])
                      refine wpAnyH_take (i := 27) (oi := { dst := some 76, op := Op.move (Operand.tmp 8), type := 86, pos := "l10_dice.go:35", after := #[{ on := 26, ground := Ground.guard }], guard := some (26, true) }) (v := undef) rfl (by kernel_rfl) (by kernel_rfl) (by kernel_rfl) (fun _ _ _ h => h) (Or.inr ⟨by rfl, rfl⟩) (by assumption) ?_
                      (try simp only [Act.put, List.setIfInBounds_toArray, List.set_cons_zero, List.set_cons_succ])
                      refine wpAnyH_take (i := 28) (oi := { dst := some 77, op := Op.move (Operand.tmp 10), type := 3, pos := "l10_dice.go:35", after := #[{ on := 26, ground := Ground.guard }], guard := some (26, true) }) (v := undef) rfl (by kernel_rfl) (by kernel_rfl) (by kernel_rfl) (fun _ _ _ h => h) (Or.inr ⟨by rfl, rfl⟩) (by assumption) ?_
                      (try simp only [Act.put, List.setIfInBounds_toArray, List.set_cons_zero, List.set_cons_succ])
                      refine wpAnyH_take (i := 29) (oi := { dst := some 78, op := Op.indexAddr 86 (Operand.tmp 76) (Operand.tmp 77), type := 0, pos := "l10_dice.go:35", after := #[{ on := 27, ground := Ground.data }, { on := 28, ground := Ground.data }, { on := 26, ground := Ground.guard }], guard := some (26, true) }) (v := undef) rfl (by kernel_rfl) (by kernel_rfl) (by kernel_rfl) (fun _ _ _ h => h) (Or.inr ⟨by rfl, rfl⟩) (by assumption) ?_
                      (try simp only [Act.put, List.setIfInBounds_toArray, List.set_cons_zero, List.set_cons_succ])
                      refine wpAnyH_take (i := 30) (oi := { dst := some 79, op := Op.load 81 (Operand.tmp 78), type := 81, pos := "l10_dice.go:35", after := #[{ on := 29, ground := Ground.data }, { on := 26, ground := Ground.guard }], guard := some (26, true) }) (v := undef) rfl (by kernel_rfl) (by kernel_rfl) (by kernel_rfl) (fun _ _ _ h => h) (Or.inr ⟨by rfl, rfl⟩) (by assumption) ?_
                      (try simp only [Act.put, List.setIfInBounds_toArray, List.set_cons_zero, List.set_cons_succ])
                      refine wpAnyH_take (i := 31) (oi := { dst := some 80, op := Op.move (Operand.tmp 11), type := 3, pos := "l10_dice.go:35", after := #[{ on := 26, ground := Ground.guard }], guard := some (26, true) }) (v := undef) rfl (by kernel_rfl) (by kernel_rfl) (by kernel_rfl) (fun _ _ _ h => h) (Or.inr ⟨by rfl, rfl⟩) (by assumption) ?_
                      (try simp only [Act.put, List.setIfInBounds_toArray, List.set_cons_zero, List.set_cons_succ])
                      refine wpAnyH_take (i := 32) (oi := { dst := some 81, op := Op.indexAddr 81 (Operand.tmp 79) (Operand.tmp 80), type := 0, pos := "l10_dice.go:35", after := #[{ on := 30, ground := Ground.data }, { on := 31, ground := Ground.data }, { on := 26, ground := Ground.guard }], guard := some (26, true) }) (v := undef) rfl (by kernel_rfl) (by kernel_rfl) (by kernel_rfl) (fun _ _ _ h => h) (Or.inr ⟨by rfl, rfl⟩) (by assumption) ?_
                      (try simp only [Act.put, List.setIfInBounds_toArray, List.set_cons_zero, List.set_cons_succ])
                      refine wpAnyH_take (i := 33) (oi := { dst := some 82, op := Op.load 27 (Operand.tmp 81), type := 27, pos := "l10_dice.go:35", after := #[{ on := 32, ground := Ground.data }, { on := 26, ground := Ground.guard }], guard := some (26, true) }) (v := undef) rfl (by kernel_rfl) (by kernel_rfl) (by kernel_rfl) (fun _ _ _ h => h) (Or.inr ⟨by rfl, rfl⟩) (by assumption) ?_
                      (try simp only [Act.put, List.setIfInBounds_toArray, List.set_cons_zero, List.set_cons_succ])
                      refine wpAnyH_take (i := 34) (oi := { dst := some 83, op := Op.move (Operand.tmp 8), type := 86, pos := "l10_dice.go:35", after := #[{ on := 26, ground := Ground.guard }], guard := some (26, true) }) (v := undef) rfl (by kernel_rfl) (by kernel_rfl) (by kernel_rfl) (fun _ _ _ h => h) (Or.inr ⟨by rfl, rfl⟩) (by assumption) ?_
                      (try simp only [Act.put, List.setIfInBounds_toArray, List.set_cons_zero, List.set_cons_succ])
                      refine wpAnyH_take (i := 35) (oi := { dst := some 84, op := Op.move (Operand.tmp 10), type := 3, pos := "l10_dice.go:35", after := #[{ on := 26, ground := Ground.guard }], guard := some (26, true) }) (v := undef) rfl (by kernel_rfl) (by kernel_rfl) (by kernel_rfl) (fun _ _ _ h => h) (Or.inr ⟨by rfl, rfl⟩) (by assumption) ?_
                      (try simp only [Act.put, List.setIfInBounds_toArray, List.set_cons_zero, List.set_cons_succ])
                      refine wpAnyH_take (i := 36) (oi := { dst := some 85, op := Op.binOp BinOp.add 3 (Operand.tmp 84) (Operand.const (Value.int IntKind.i64 1)) 3, type := 3, pos := "l10_dice.go:35", after := #[{ on := 35, ground := Ground.data }, { on := 26, ground := Ground.guard }], guard := some (26, true) }) (v := undef) rfl (by kernel_rfl) (by kernel_rfl) (by kernel_rfl) (fun _ _ _ h => h) (Or.inr ⟨by rfl, rfl⟩) (by assumption) ?_
                      (try simp only [Act.put, List.setIfInBounds_toArray, List.set_cons_zero, List.set_cons_succ])
                      refine wpAnyH_take (i := 37) (oi := { dst := some 86, op := Op.indexAddr 86 (Operand.tmp 83) (Operand.tmp 85), type := 0, pos := "l10_dice.go:35", after := #[{ on := 34, ground := Ground.data }, { on := 36, ground := Ground.data }, { on := 26, ground := Ground.guard }], guard := some (26, true) }) (v := undef) rfl (by kernel_rfl) (by kernel_rfl) (by kernel_rfl) (fun _ _ _ h => h) (Or.inr ⟨by rfl, rfl⟩) (by assumption) ?_
                      (try simp only [Act.put, List.setIfInBounds_toArray, List.set_cons_zero, List.set_cons_succ])
                      refine wpAnyH_take (i := 38) (oi := { dst := some 87, op := Op.load 81 (Operand.tmp 86), type := 81, pos := "l10_dice.go:35", after := #[{ on := 37, ground := Ground.data }, { on := 26, ground := Ground.guard }], guard := some (26, true) }) (v := undef) rfl (by kernel_rfl) (by kernel_rfl) (by kernel_rfl) (fun _ _ _ h => h) (Or.inr ⟨by rfl, rfl⟩) (by assumption) ?_
                      (try simp only [Act.put, List.setIfInBounds_toArray, List.set_cons_zero, List.set_cons_succ])
                      refine wpAnyH_take (i := 39) (oi := { dst := some 88, op := Op.move (Operand.tmp 11), type := 3, pos := "l10_dice.go:35", after := #[{ on := 26, ground := Ground.guard }], guard := some (26, true) }) (v := undef) rfl (by kernel_rfl) (by kernel_rfl) (by kernel_rfl) (fun _ _ _ h => h) (Or.inr ⟨by rfl, rfl⟩) (by assumption) ?_
                      (try simp only [Act.put, List.setIfInBounds_toArray, List.set_cons_zero, List.set_cons_succ])
                      refine wpAnyH_take (i := 40) (oi := { dst := some 89, op := Op.indexAddr 81 (Operand.tmp 87) (Operand.tmp 88), type := 0, pos := "l10_dice.go:35", after := #[{ on := 38, ground := Ground.data }, { on := 39, ground := Ground.data }, { on := 26, ground := Ground.guard }], guard := some (26, true) }) (v := undef) rfl (by kernel_rfl) (by kernel_rfl) (by kernel_rfl) (fun _ _ _ h => h) (Or.inr ⟨by rfl, rfl⟩) (by assumption) ?_
                      (try simp only [Act.put, List.setIfInBounds_toArray, List.set_cons_zero, List.set_cons_succ])
                      refine wpAnyH_take (i := 41) (oi := { dst := some 90, op := Op.load 27 (Operand.tmp 89), type := 27, pos := "l10_dice.go:35", after := #[{ on := 40, ground := Ground.data }, { on := 26, ground := Ground.guard }], guard := some (26, true) }) (v := undef) rfl (by kernel_rfl) (by kernel_rfl) (by kernel_rfl) (fun _ _ _ h => h) (Or.inr ⟨by rfl, rfl⟩) (by assumption) ?_
                      (try simp only [Act.put, List.setIfInBounds_toArray, List.set_cons_zero, List.set_cons_succ])
                      refine wpAnyH_take (i := 42) (oi := { dst := some 91, op := Op.move (Operand.tmp 2), type := 3, pos := "l10_dice.go:35", after := #[{ on := 26, ground := Ground.guard }], guard := some (26, true) }) (v := undef) rfl (by kernel_rfl) (by kernel_rfl) (by kernel_rfl) (fun _ _ _ h => h) (Or.inr ⟨by rfl, rfl⟩) (by assumption) ?_
                      (try simp only [Act.put, List.setIfInBounds_toArray, List.set_cons_zero, List.set_cons_succ])
                      refine wpAnyH_take (i := 43) (oi := { dst := some 92, op := Op.call { callee := Callee.value (Operand.func 48), args := #[Operand.tmp 82, Operand.tmp 90, Operand.tmp 91], argTypes := #[27, 27, 3] }, type := 4, pos := "l10_dice.go:35", after := #[{ on := 33, ground := Ground.data }, { on := 41, ground := Ground.data }, { on := 42, ground := Ground.data }, { on := 26, ground := Ground.chain }, { on := 26, ground := Ground.guard }], guard := some (26, true) }) (v := undef) rfl (by kernel_rfl) (by kernel_rfl) (by kernel_rfl) (fun _ _ _ h => h) (Or.inr ⟨by rfl, rfl⟩) (by assumption) ?_
                      (try simp only [Act.put, List.setIfInBounds_toArray, List.set_cons_zero, List.set_cons_succ])
                      refine wpAnyH_take (i := 44) (oi := { dst := some 93, op := Op.pick (Operand.tmp 75) (Operand.tmp 92) (Operand.const (Value.bool false)), type := 4, pos := "l10_dice.go:35", after := #[{ on := 26, ground := Ground.data }, { on := 43, ground := Ground.data }, { on := 22, ground := Ground.guard }], guard := some (22, false) }) (v := ?_) rfl (by kernel_rfl) (by kernel_rfl) (by kernel_rfl) (fun _ _ _ h => h) (Or.inl ⟨by rfl, ?_⟩) (by assumption) ?_
                      rotate_left 1
                      · (intro w hSw; (try dsimp only at hSw); go_simp <;> with_reducible rfl)
                      (try simp only [Act.put, List.setIfInBounds_toArray, List.set_cons_zero, List.set_cons_succ])
                      refine wpAnyH_take (i := 45) (oi := { dst := some 94, op := Op.pick (Operand.tmp 71) (Operand.const (Value.bool true)) (Operand.tmp 93), type := 4, pos := "l10_dice.go:35", after := #[{ on := 22, ground := Ground.data }, { on := 44, ground := Ground.data }], guard := none }) (v := ?_) rfl (by kernel_rfl) (by kernel_rfl) (by kernel_rfl) (fun _ _ _ h => h) (Or.inl ⟨by rfl, ?_⟩) (by assumption) ?_
                      rotate_left 1
                      · (intro w hSw; (try dsimp only at hSw); go_simp <;> with_reducible rfl)
                      (try simp only [Act.put, List.setIfInBounds_toArray, List.set_cons_zero, List.set_cons_succ])
                      refine wpAnyH_done (by kernel_rfl) ?_ _
                      clear hHeld
                      go_wp2
                      go_meet
                      exact ⟨_, rfl, fun h => (by first | cases h; done | exact HYN.out.1 h | exact HYN.out.1 trivial), fun h => (by first | cases h; done | exact HYN.out.2 h | exact HYN.out.2 trivial), HQ.below⟩
                case rest =>
                  obtain ⟨b, rfl, hy, hn, hbw⟩ := hcut
                  have HT := HTT.out.later hbw
                  have HG := Lib.hid (HGR.out.later hbw)
                  clear hbw hgr HTT
                  rcases b with _ | _
                  · have HY := Lib.hid (hy rfl)
                    clear hy hn
                    have hb := HNB.out
                    have hil := HIN.out
                    go_wp2_with fail
                    go_roundw
                    case rel => exact ⟨x, i + 1, rfl, by go_num, HIN.out, HG.out, fun e i' h => by
                      by_cases e1 : i' < i
                      · exact HYES.out e i' e1
                      · obtain rfl : i' = i := by omega
                        exact HY.out, HNO.out, HT⟩
                    case measure => have := HIN.out; simp [intOf]; omega
                  · have HN := Lib.hid (hn rfl)
                    clear hy hn
                    have hb := HNB.out
                    have hil := HIN.out
                    go_wp2_with fail
                    go_roundw
                    case rel => exact ⟨false, i + 1, rfl, by go_num, HIN.out, HG.out, fun e => (by cases e), fun _ => HN.out, HT⟩
                    case measure => have := HIN.out; simp [intOf]; omega
              · obtain rfl : i = n + 1 := by omega
                have hin' : ¬ (((n + 1 : Nat) : Int) ≤ (n : Int)) := by omega
                clear hi hin hgr
                have hb := HNB.out
                have hjl := HJN.out
                go_wp2_with fail
                go_roundw
                case rel => exact ⟨x, j + 1, rfl, by go_num, HJN.out, fun e => ⟨HGR.out, HGK.out, fun r h i hi => by
                  by_cases e1 : r < j
                  · exact HPP.out r e1 i hi
                  · obtain rfl : r = j := by omega
                    exact HYES.out e i (by omega)⟩, HNO.out, HTT.out⟩
                case measure => have := HJN.out; simp [intOf]; omega
        · obtain rfl : j = n + 1 := by omega
          have hjn' : ¬ (((n + 1 : Nat) : Int) ≤ (n : Int)) := by omega
          rcases x with _ | _
          · have HNX := Lib.hid (badB_next HN4.out HBAD.out (hno rfl))
            have hx2 : IntKind.i64.wrap (2 * (n : Int)) = ((n * 2 : Nat) : Int) := by rw [show 2 * (n : Int) = ((n * 2 : Nat) : Int) by omega]; exact wrap_in (by have := HNB.out; omega)
            clear hyes hno hj hjn
            go_wp2_with fail
            go_roundw
            case rel => exact ⟨n * 2, rfl, by have := HN4.out; omega, HNX.out, HT⟩
            case measure => have := HN4.out; simp [intOf]; omega
          · obtain ⟨_, hgk, hpr⟩ := hyes rfl
            have HE : Hid (rateA C P m = n) := Lib.hid (rateB_found HRI.out HN4.out HBAD.out (rate_pairs hgk (fun i r hi hr => hpr r (by omega) i hi)))
            clear hyes hno hj hjn hgk hpr
            go_wp2_with fail
            go_ret
            rw [HE.out]
            exact ⟨rfl, HT.below⟩
theorem sDiceRate_any (C : CV) (P : PV) (m : Int) (w : World) : Calls Try.prog 16 #[C.v, P.v, .int .i64 m] w (fun e w' => e = .returned (.int .i64 (rateA C P m)) ∧ Below w.heap.size w w') := by
  rcases hk : rateIn C P m with _ | _
  · exact sDiceRate_bad C P m w hk
  · exact sDiceRate_go C P m w hk
end Go.Proofs.Ytmhcpjednogegaa
