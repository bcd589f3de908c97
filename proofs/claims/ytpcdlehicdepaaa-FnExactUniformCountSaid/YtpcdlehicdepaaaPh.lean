/- The laws' own helpers on programs: toProgram, eqProgram, szProgram. -/
import Derived.Test.YtpcdlehicdepaaaProg
import Derived.Test.YtpcdlehicdepaaaInts
import Derived.Test.YtpcdlehicdepaaaVbox
import Derived.Test.YtpcdlehicdepaaaHeld
import Derived.Test.YtpcdlehicdepaaaMem
import Derived.Test.YtpcdlehicdepaaaFlat
import Derived.Test.YtpcdlehicdepaaaRowC
import Derived.Test.YtpcdlehicdepaaaKS
import Derived.Test.YtpcdlehicdepaaaStrS
import Derived.Test.YtpcdlehicdepaaaIntS
import Derived.Test.YtpcdlehicdepaaaSS
import Derived.Test.YtpcdlehicdepaaaPg
import Derived.WalkKit
import Derived.WalkSpells
import Derived.WalkLawsBesides
import Derived.Lib.Hide
import Derived.Deep.RegionHeld3
import Derived.Deep.QuietTactic
import Derived.BigQuiet
import Derived.Handy
import Derived.Deep.DeepCutAuto
namespace Go.Proofs.Ytpcdlehicdepaaa
open Go.RowKit

/-- a node whose arguments lie in a block of their own: its cells -/
def nh (p : Nat × Nd) : List Value := [.int .i64 p.2.1, .string p.2.2.1, .int .i64 p.2.2.2.1, .slice (some ⟨p.1, 0, none⟩) p.2.2.2.2.length p.2.2.2.2.length]
theorem nh_len (p : Nat × Nd) : (nh p).length = 4 := rfl
def argL (p : Nat × Nd) : Nat × List Int := (p.1, p.2.2.2.2)
/-- nodes that a call made: their row in block g, the arguments in blocks of their own behind it -/
def NdGrid (w : World) (lo g : Nat) (ps : List (Nat × Nd)) : Prop :=
  lo ≤ g ∧ w.ownsRow lo 56 4 (.slice (some ⟨g, 0, none⟩) ps.length ps.length) ps.length (ps.flatMap nh) ∧ Lots w (ps.map argL) ∧ ∀ p ∈ ps, g < p.1
theorem NdGrid.row {w : World} {lo g : Nat} {ps : List (Nat × Nd)} (h : NdGrid w lo g ps) (hm : ∀ p ∈ ps, p.2.2.2.2.length ≤ maxLen) : NdRow w w.heap.size (some ⟨g, 0, none⟩) (ps.map Prod.snd) := fun h0 => by
  have hR := RowC.of_own nh_len h.2.1 rfl
  obtain ⟨b, o, e, hb, hc⟩ := hR (by simpa using h0)
  refine ⟨b, o, e, hb, fun k hk => ?_⟩
  have hk' : k < ps.length := by simpa using hk
  have c := hc k hk'
  have e2 : (ps.map Prod.snd)[k] = (ps[k]).2 := by simp
  rw [e2]
  refine ⟨some ⟨(ps[k]).1, 0, none⟩, (ps[k]).2.2.2.2.length, c 0 _ rfl, c 1 _ rfl, c 2 _ rfl, c 3 _ rfl, Nat.le_refl _, hm _ (List.getElem_mem hk'), ?_⟩
  exact h.2.2.1.row (p := argL ps[k]) (List.mem_map.2 ⟨_, List.getElem_mem hk', rfl⟩)
theorem infoNode : (Try.prog.info? 56).map (fun i => (i.zero, i.size, i.bytes)) = some (some (.agg #[.int .i64 0, .string ⟨#[]⟩, .int .i64 0, .slice none 0 0]), 4, 56) := by kernel_rfl
theorem infoAsg : (Try.prog.info? 58).map (fun i => (i.zero, i.size, i.bytes)) = some (some (.agg #[.string ⟨#[]⟩, .int .i64 0]), 2, 24) := by kernel_rfl
/-- the letters of names, and arguments -/
def szN : List Nd → Nat
  | [] => 0
  | x :: xs => x.2.1.size + x.2.2.2.length + szN xs
theorem szN_take (xs : List Nd) : ∀ (k : Nat) (h : k < xs.length), szN (xs.take (k + 1)) = szN (xs.take k) + ((xs[k]).2.1.size + (xs[k]).2.2.2.length) := by
  induction xs with
  | nil => intro k h; simp at h
  | cons x xs ih =>
    intro k h
    match k, h with
    | 0, _ => simp [szN]
    | k + 1, h =>
      have := ih k (by simpa using h)
      simp only [List.take_succ_cons, szN, List.getElem_cons_succ, this]
      omega
theorem szN_le (xs : List Nd) (k : Nat) : szN (xs.take k) ≤ szN xs := by
  induction xs generalizing k with
  | nil => simp [szN]
  | cons x xs ih =>
    match k with
    | 0 => simp [szN]
    | k + 1 =>
      have := ih k
      simp only [List.take_succ_cons, szN]
      omega
theorem szN_mem {xs : List Nd} {x : Nd} (h : x ∈ xs) : x.2.1.size + x.2.2.2.length ≤ szN xs := by
  induction xs with
  | nil => cases h
  | cons y ys ih =>
    rcases List.mem_cons.1 h with rfl | h
    · exact Nat.le_add_right _ _
    · exact Nat.le_trans (ih h) (Nat.le_add_left _ _)
def szA : List As → Nat
  | [] => 0
  | x :: xs => x.1.size + szA xs
theorem szA_take (xs : List As) : ∀ (k : Nat) (h : k < xs.length), szA (xs.take (k + 1)) = szA (xs.take k) + (xs[k]).1.size := by
  induction xs with
  | nil => intro k h; simp at h
  | cons x xs ih =>
    intro k h
    match k, h with
    | 0, _ => simp [szA]
    | k + 1, h =>
      have := ih k (by simpa using h)
      simp only [List.take_succ_cons, szA, List.getElem_cons_succ, this]
      omega
theorem szA_le (xs : List As) (k : Nat) : szA (xs.take k) ≤ szA xs := by
  induction xs generalizing k with
  | nil => simp [szA]
  | cons x xs ih =>
    match k with
    | 0 => simp [szA]
    | k + 1 =>
      have := ih k
      simp only [List.take_succ_cons, szA]
      omega
theorem szA_mem {xs : List As} {x : As} (h : x ∈ xs) : x.1.size ≤ szA xs := by
  induction xs with
  | nil => cases h
  | cons y ys ih =>
    rcases List.mem_cons.1 h with rfl | h
    · exact Nat.le_add_right _ _
    · exact Nat.le_trans (ih h) (Nat.le_add_left _ _)
/-- what a size's count answers: what is left, or -1; not more than was there -/
def SzOutP (L n : Nat) (w : World) (e : Ending) (w' : World) : Prop := Below w.heap.size w w' ∧ ((n ≤ L ∧ e = .returned (.int .i64 (L - n : Nat))) ∨ (L < n ∧ e = .returned (.int .i64 (-1))))

theorem szIntP_any (A : Option Addr) (c n L : Nat) (w : World) (hL : L ≤ 1099511627776) (hn : n ≤ 9223372036854775807) :
    Calls Try.prog 68 #[.slice A n c, .int .i64 L] w (SzOutP L n w) := by
  by_cases h0 : (L : Int) - (n : Int) < 0
  · go_enter Try.func68, Try.ntmps68
    go_wp2_with fail
    go_ret
    exact ⟨Below.refl _ _, .inr ⟨by omega, rfl⟩⟩
  · have he : (L : Int) - (n : Int) = ((L - n : Nat) : Int) := by omega
    have HE := Lib.hid he
    clear he
    go_enter Try.func68, Try.ntmps68
    go_wp2_with fail
    go_ret
    exact ⟨Below.refl _ _, .inl ⟨by omega, by rw [← HE.out]; rfl⟩⟩

set_option maxHeartbeats 2000000 in
theorem szNode_any (v0 v2 : Int) (s : ByteArray) (A : Option Addr) (c n L : Nat) (w : World) (hL : L ≤ 1099511627776) (hn : n ≤ 9223372036854775807) (hs : s.size ≤ 9223372036854775807) :
    Calls Try.prog 49 #[.agg #[.int .i64 v0, .string s, .int .i64 v2, .slice A n c], .int .i64 L] w (SzOutP L (s.size + n) w) := by
  by_cases h0 : (L : Int) - (s.size : Int) < 0
  · go_enter Try.func49, Try.ntmps49
    go_wp2_with fail
    go_ret
    exact ⟨by go_grown, .inr ⟨by omega, rfl⟩⟩
  · have he : (L : Int) - (s.size : Int) = ((L - s.size : Nat) : Int) := by omega
    have hsz := fun W => szIntP_any A c n (L - s.size) W (by omega) hn
    rw [← he] at hsz
    have HSZ := Lib.hid hsz
    have HE := Lib.hid he
    clear hsz he
    go_enter Try.func49, Try.ntmps49
    go_wp2_with fail
    refine (HSZ.out _).mono ?_
    rintro e w1 ⟨hb1, h1⟩
    have HB := Lib.hid hb1
    clear hb1
    rcases h1 with ⟨h1, rfl⟩ | ⟨h1, rfl⟩
    · have h2 : (L - s.size - n : Nat) = L - (s.size + n) := by omega
      rw [h2]
      go_wp2_with fail
      go_ret
      exact ⟨((Below.refl w.heap.size w).alloc (Nat.le_refl _) _).trans (HB.out.mono (by simp)), .inl ⟨by omega, rfl⟩⟩
    · go_wp2_with fail
      go_ret
      exact ⟨((Below.refl w.heap.size w).alloc (Nat.le_refl _) _).trans (HB.out.mono (by simp)), .inr ⟨by omega, rfl⟩⟩

set_option maxHeartbeats 4000000 in
theorem szNodeS_any (A : Option Addr) (c L : Nat) (xs : List Nd) (w : World) (hR : NdRow w w.heap.size A xs) (hm : ∀ x ∈ xs, NdOk x) (hl : xs.length ≤ 9223372036854775807) (hL : L ≤ 1099511627776) :
    Calls Try.prog 28 #[.slice A xs.length c, .int .i64 L] w (SzOutP L (xs.length + szN xs) w) := by
  by_cases h0 : (L : Int) - xs.length < 0
  · go_enter Try.func28, Try.ntmps28
    go_wp2
    go_ret
    exact ⟨Below.refl _ _, .inr ⟨by omega, rfl⟩⟩
  · go_enter Try.func28, Try.ntmps28
    go_wp2
    go_loopw [1, 5] (fun m i wr => ∃ k : Nat, k ≤ xs.length ∧ i = .int .i64 k ∧ m = .int .i64 ((L : Int) - xs.length - szN (xs.take k)) ∧ 0 ≤ (L : Int) - xs.length - szN (xs.take k) ∧ Below w.heap.size w wr) (fun _ i _ => xs.length - (intOf i).toNat)
    case atStart => exact ⟨0, Nat.zero_le _, rfl, by simp [szN], by simp [szN]; omega, Below.refl _ _⟩
    case round =>
      obtain ⟨k, hk, rfl, rfl, hge, hb⟩ := hrel
      by_cases hlt : k < xs.length
      · obtain ⟨b, o, rfl, hbl, a, cc, q0, q1, q2, q3, q4, q5, q6⟩ := hR.at hlt
        have c0 := (hb.cell (p := ⟨b, o + k * 4, none⟩) hbl).trans q0
        have c1 := (hb.cell (p := ⟨b, o + k * 4 + 1, none⟩) hbl).trans q1
        have c2 := (hb.cell (p := ⟨b, o + k * 4 + 2, none⟩) hbl).trans q2
        have c3 := (hb.cell (p := ⟨b, o + k * 4 + 3, none⟩) hbl).trans q3
        have hx1 := hm xs[k] (List.getElem_mem _)
        have hst := szN_take xs k hlt
        have hmo := szN_le xs (k + 1)
        obtain ⟨x, hx⟩ : ∃ x, x = xs[k] := ⟨_, rfl⟩
        rw [← hx] at c0 c1 c2 c3 hst hx1
        obtain ⟨z, hz⟩ : ∃ z, z = szN (xs.take k) := ⟨_, rfl⟩
        rw [← hz] at hst hge ⊢
        obtain ⟨q, hq⟩ : ∃ q : Nat, (L : Int) - xs.length - z = (q : Int) := ⟨L - xs.length - z, by omega⟩
        have hqn : q = L - xs.length - z := by omega
        have hqb : q ≤ 1099511627776 := by omega
        rw [hq]
        have hno := hx1.2.1
        have hao := hx1.2.2.2.1
        unfold maxLen at hno hao
        have HSZ := Lib.hid (fun W => szNode_any x.1 x.2.2.1 x.2.1 a cc x.2.2.2.length q W hqb hao hno)
        have HQ := Lib.hid hq
        have HST := Lib.hid hst
        have HMO := Lib.hid hmo
        have HB := Lib.hid hb
        have hlt' : (k : Int) < (xs.length : Int) := by omega
        have hge' : (0 : Int) ≤ (k : Int) := by omega
        have h00 : Hid (0 ≤ (L : Int) - xs.length) := Lib.hid (by omega)
        clear hx hz hR hm hst hmo hq hb q0 q1 q2 q3 q4 q5 q6 hx1 hno hao hqn hge h0
        go_wp2_with fail
        refine (HSZ.out _).mono ?_
        rintro e w2 ⟨hb2, he⟩
        have HB2 := Lib.hid (bcall HB.out hb2 HB.out.size)
        clear hb2 HB c0 c1 c2 c3
        rcases he with ⟨h1, rfl⟩ | ⟨h1, rfl⟩
        · obtain ⟨r, hr⟩ : ∃ r, r = q - (x.2.1.size + x.2.2.2.length) := ⟨_, rfl⟩
          rw [← hr]
          have hrb : r ≤ 1099511627776 := by omega
          have HR2 := Lib.hid (show (q : Int) = r + (x.2.1.size + x.2.2.2.length : Nat) by omega)
          clear hr
          go_wp2
          go_roundw
          case rel => exact ⟨k + 1, by omega, by go_num, by rw [HST.out]; have := HQ.out; have := HR2.out; have := h00.out; rw [show (L : Int) - (xs.length : Int) - ((z + (x.2.1.size + x.2.2.2.length) : Nat) : Int) = (r : Int) by omega], by rw [HST.out]; have := HQ.out; have := h00.out; have := HR2.out; omega, HB2.out⟩
          case measure => simp [intOf]; omega
        · go_wp2
          go_ret
          exact ⟨HB2.out, .inr ⟨by have := HQ.out; have := HST.out; have := HMO.out; have := h00.out; omega, rfl⟩⟩
      · have HE : Hid (k = xs.length) := Lib.hid (by omega)
        have HB := Lib.hid hb
        rw [show k = xs.length from HE.out, List.take_length] at hge ⊢
        have he : (L : Int) - xs.length - szN xs = ((L - (xs.length + szN xs) : Nat) : Int) := by omega
        rw [he]
        have hle : xs.length + szN xs ≤ L := by omega
        clear hR hm hb he hge hlt
        go_wp2
        go_ret
        exact ⟨HB.out, .inl ⟨hle, rfl⟩⟩

set_option maxHeartbeats 2000000 in
theorem szAsg_any (v1 : Int) (s : ByteArray) (L : Nat) (w : World) (hL : L ≤ 1099511627776) (hs : s.size ≤ 9223372036854775807) :
    Calls Try.prog 50 #[.agg #[.string s, .int .i64 v1], .int .i64 L] w (SzOutP L s.size w) := by
  by_cases h0 : (L : Int) - (s.size : Int) < 0
  · go_enter Try.func50, Try.ntmps50
    go_wp2_with fail
    go_ret
    exact ⟨by go_grown, .inr ⟨by omega, rfl⟩⟩
  · have he : (L : Int) - (s.size : Int) = ((L - s.size : Nat) : Int) := by omega
    have HE := Lib.hid he
    clear he
    go_enter Try.func50, Try.ntmps50
    go_wp2_with fail
    go_ret
    exact ⟨by go_grown, .inl ⟨by omega, by rw [← HE.out]; rfl⟩⟩

set_option maxHeartbeats 4000000 in
theorem szAsgS_any (A : Option Addr) (c L : Nat) (xs : List As) (w : World) (hR : RowC 2 asg w w.heap.size A xs) (hm : ∀ x ∈ xs, AsOk x) (hl : xs.length ≤ 9223372036854775807) (hL : L ≤ 1099511627776) :
    Calls Try.prog 29 #[.slice A xs.length c, .int .i64 L] w (SzOutP L (xs.length + szA xs) w) := by
  by_cases h0 : (L : Int) - xs.length < 0
  · go_enter Try.func29, Try.ntmps29
    go_wp2
    go_ret
    exact ⟨Below.refl _ _, .inr ⟨by omega, rfl⟩⟩
  · go_enter Try.func29, Try.ntmps29
    go_wp2
    go_loopw [1, 5] (fun m i wr => ∃ k : Nat, k ≤ xs.length ∧ i = .int .i64 k ∧ m = .int .i64 ((L : Int) - xs.length - szA (xs.take k)) ∧ 0 ≤ (L : Int) - xs.length - szA (xs.take k) ∧ Below w.heap.size w wr) (fun _ i _ => xs.length - (intOf i).toNat)
    case atStart => exact ⟨0, Nat.zero_le _, rfl, by simp [szA], by simp [szA]; omega, Below.refl _ _⟩
    case round =>
      obtain ⟨k, hk, rfl, rfl, hge, hb⟩ := hrel
      by_cases hlt : k < xs.length
      · obtain ⟨b, o, rfl, hbl, hc⟩ := hR.at hlt
        obtain ⟨q0, q1⟩ := asg_at hc
        have c0 := (hb.cell (p := ⟨b, o + k * 2, none⟩) hbl).trans q0
        have c1 := (hb.cell (p := ⟨b, o + k * 2 + 1, none⟩) hbl).trans q1
        have hx1 := hm xs[k] (List.getElem_mem _)
        have hst := szA_take xs k hlt
        have hmo := szA_le xs (k + 1)
        obtain ⟨x, hx⟩ : ∃ x, x = xs[k] := ⟨_, rfl⟩
        rw [← hx] at c0 c1 hst hx1
        obtain ⟨z, hz⟩ : ∃ z, z = szA (xs.take k) := ⟨_, rfl⟩
        rw [← hz] at hst hge ⊢
        obtain ⟨q, hq⟩ : ∃ q : Nat, (L : Int) - xs.length - z = (q : Int) := ⟨L - xs.length - z, by omega⟩
        have hqn : q = L - xs.length - z := by omega
        have hqb : q ≤ 1099511627776 := by omega
        rw [hq]
        have hno := hx1.1
        unfold maxLen at hno
        have HSZ := Lib.hid (fun W => szAsg_any x.2 x.1 q W hqb hno)
        have HQ := Lib.hid hq
        have HST := Lib.hid hst
        have HMO := Lib.hid hmo
        have HB := Lib.hid hb
        have hlt' : (k : Int) < (xs.length : Int) := by omega
        have hge' : (0 : Int) ≤ (k : Int) := by omega
        have h00 : Hid (0 ≤ (L : Int) - xs.length) := Lib.hid (by omega)
        clear hx hz hR hm hst hmo hq hb q0 q1 hc hx1 hno hqn hge h0
        go_wp2_with fail
        refine (HSZ.out _).mono ?_
        rintro e w2 ⟨hb2, he⟩
        have HB2 := Lib.hid (bcall HB.out hb2 HB.out.size)
        clear hb2 HB c0 c1
        rcases he with ⟨h1, rfl⟩ | ⟨h1, rfl⟩
        · obtain ⟨r, hr⟩ : ∃ r, r = q - x.1.size := ⟨_, rfl⟩
          rw [← hr]
          have hrb : r ≤ 1099511627776 := by omega
          have HR2 := Lib.hid (show (q : Int) = r + (x.1.size : Nat) by omega)
          clear hr
          go_wp2
          go_roundw
          case rel => exact ⟨k + 1, by omega, by go_num, by rw [HST.out]; have := HQ.out; have := HR2.out; have := h00.out; rw [show (L : Int) - (xs.length : Int) - ((z + x.1.size : Nat) : Int) = (r : Int) by omega], by rw [HST.out]; have := HQ.out; have := h00.out; have := HR2.out; omega, HB2.out⟩
          case measure => simp [intOf]; omega
        · go_wp2
          go_ret
          exact ⟨HB2.out, .inr ⟨by have := HQ.out; have := HST.out; have := HMO.out; have := h00.out; omega, rfl⟩⟩
      · have HE : Hid (k = xs.length) := Lib.hid (by omega)
        have HB := Lib.hid hb
        rw [show k = xs.length from HE.out, List.take_length] at hge ⊢
        have he : (L : Int) - xs.length - szA xs = ((L - (xs.length + szA xs) : Nat) : Int) := by omega
        rw [he]
        have hle : xs.length + szA xs ≤ L := by omega
        clear hR hm hb he hge hlt
        go_wp2
        go_ret
        exact ⟨HB.out, .inl ⟨hle, rfl⟩⟩

set_option maxHeartbeats 4000000 in
theorem szProg_any (A A' : Option Addr) (c c' L : Nat) (xs : List Nd) (ys : List As) (w : World) (hR : ProgIn w w.heap.size A A' xs ys) (hm : ∀ x ∈ xs, NdOk x) (hm' : ∀ x ∈ ys, AsOk x) (hl : xs.length ≤ 9223372036854775807) (hl' : ys.length ≤ 9223372036854775807) (hL : L ≤ 1099511627776) :
    Calls Try.prog 16 #[pgv A A' xs.length c ys.length c', .int .i64 L] w (SzOutP L (xs.length + szN xs + (ys.length + szA ys)) w) := by
  have h1 := fun (W : World) (h : ProgIn W W.heap.size A A' xs ys) => szNodeS_any A c L xs W h.1 hm hl hL
  have h2 := fun (W : World) (K : Nat) (hK : K ≤ 1099511627776) (h : ProgIn W W.heap.size A A' xs ys) => szAsgS_any A' c' K ys W h.2 hm' hl' hK
  have H1 := Lib.hid h1
  have H2 := Lib.hid h2
  have HR := Lib.hid (hR.alloc (Nat.le_refl _) (.cells #[.slice A xs.length c, .slice A' ys.length c'] 29))
  have HT : Held w (w.alloc (.cells #[.slice A xs.length c, .slice A' ys.length c'] 29)) [(w.heap.size, [.slice A xs.length c, .slice A' ys.length c'])] := by
    have h := (Held.nil w).new #[.slice A xs.length c, .slice A' ys.length c'] 29
    simpa only [World.size_alloc] using h
  clear h1 h2 hR hm hm'
  go_enter Try.func16, Try.ntmps16
  go_wp2_with fail
  refine (H1.out _ (HR.out.more (by simp))).mono ?_
  rintro e w1 ⟨hb1, he⟩
  have HT := HT.later hb1
  have HR1 : Hid (ProgIn w1 w1.heap.size A A' xs ys) := Lib.hid ((HR.out.more (by simp)).later hb1)
  clear hb1 HR
  rcases he with ⟨h1, rfl⟩ | ⟨h1, rfl⟩
  · obtain ⟨K, hK⟩ : ∃ K, K = L - (xs.length + szN xs) := ⟨_, rfl⟩
    rw [← hK]
    have hKb : K ≤ 1099511627776 := by omega
    have HK := Lib.hid hK
    clear hK
    have c1 := (HT.box 0).c 1
    go_wp2_with fail
    refine (H2.out _ K hKb HR1.out).mono ?_
    rintro e w2 ⟨hb2, he⟩
    have HT := HT.later hb2
    clear hb2 c1 HR1
    rcases he with ⟨h2, rfl⟩ | ⟨h2, rfl⟩
    · go_wp2_with fail
      go_ret
      exact ⟨HT.below, .inl ⟨by have := HK.out; omega, by rw [show L - (xs.length + szN xs + (ys.length + szA ys)) = K - (ys.length + szA ys) by have := HK.out; omega]; rfl⟩⟩
    · go_wp2_with fail
      go_ret
      exact ⟨HT.below, .inr ⟨by have := HK.out; omega, rfl⟩⟩
  · go_wp2_with fail
    go_ret
    exact ⟨HT.below, .inr ⟨by omega, rfl⟩⟩

theorem row_up {α : Type} {f : α → Value} {w W : World} {A : Option Addr} {xs : List α} (h : Row f w w.heap.size A xs) (hb : Below w.heap.size w W) : Row f W W.heap.size A xs := (h.below hb).more hb.size

set_option maxHeartbeats 2000000 in
theorem eqNode_same (v0 v2 : Int) (s : ByteArray) (A A' : Option Addr) (c c' : Nat) (xs : List Int) (w : World) (hR : Row I64 w w.heap.size A xs) (hR' : Row I64 w w.heap.size A' xs) (hl : xs.length ≤ 1152921504606846976) :
    Calls Try.prog 63 #[.agg #[.int .i64 v0, .string s, .int .i64 v2, .slice A xs.length c], .agg #[.int .i64 v0, .string s, .int .i64 v2, .slice A' xs.length c']] w fun e w' => e = .returned (.bool true) ∧ Below w.heap.size w w' := by
  have HR := Lib.hid (fun W (h : Below w.heap.size w W) => row_up hR h)
  have HR' := Lib.hid (fun W (h : Below w.heap.size w W) => row_up hR' h)
  clear hR hR'
  go_enter Try.func63, Try.ntmps63
  go_wp2_with fail
  refine (eqIntS_same _ _ _ _ xs _ (HR.out _ (by go_grown)) (HR'.out _ (by go_grown)) hl).mono ?_
  rintro e w1 ⟨rfl, hb1⟩
  have HB := Lib.hid hb1
  clear hb1
  go_wp2_with fail
  go_ret
  exact ⟨rfl, (((Below.refl w.heap.size w).alloc (Nat.le_refl _) _).alloc (by simp) _).trans (HB.out.mono (by simp; omega))⟩

set_option maxHeartbeats 4000000 in
theorem eqNodeS_same (A A' : Option Addr) (c c' : Nat) (xs : List Nd) (w : World) (hR : NdRow w w.heap.size A xs) (hR' : NdRow w w.heap.size A' xs) (hl : xs.length ≤ 1099511627776) (hm : ∀ x ∈ xs, x.2.2.2.length ≤ 1099511627776) :
    Calls Try.prog 37 #[.slice A xs.length c, .slice A' xs.length c'] w fun e w' => e = .returned (.bool true) ∧ Below w.heap.size w w' := by
  go_enter Try.func37, Try.ntmps37
  go_wp2
  go_loopw [5] (fun i wr => ∃ k : Nat, k ≤ xs.length ∧ i = .int .i64 k ∧ Below w.heap.size w wr) (fun i _ => xs.length - (intOf i).toNat)
  case atStart => exact ⟨0, Nat.zero_le _, rfl, Below.refl _ _⟩
  case round =>
    obtain ⟨k, hk, rfl, HB⟩ := hrel
    by_cases hlt : k < xs.length
    · obtain ⟨b, o, rfl, hbl, a, ca, c0, c1, c2, c3, _, _, c6⟩ := hR.at hlt
      obtain ⟨b', o', rfl, hbl', a', ca', d0, d1, d2, d3, _, _, d6⟩ := hR'.at hlt
      have hvl := hm xs[k] (List.getElem_mem _)
      obtain ⟨v, hv⟩ : ∃ v, v = xs[k] := ⟨_, rfl⟩
      rw [← hv] at c0 c1 c2 c3 c6 d0 d1 d2 d3 d6 hvl
      have HC : ∀ W, Below w.heap.size w W → ((W.cell? ⟨b, o + k * 4, none⟩ = some (.int .i64 v.1) ∧ W.cell? ⟨b, o + k * 4 + 1, none⟩ = some (.string v.2.1) ∧ W.cell? ⟨b, o + k * 4 + 2, none⟩ = some (.int .i64 v.2.2.1) ∧ W.cell? ⟨b, o + k * 4 + 3, none⟩ = some (.slice a v.2.2.2.length ca)) ∧ W.cell? ⟨b', o' + k * 4, none⟩ = some (.int .i64 v.1) ∧ W.cell? ⟨b', o' + k * 4 + 1, none⟩ = some (.string v.2.1) ∧ W.cell? ⟨b', o' + k * 4 + 2, none⟩ = some (.int .i64 v.2.2.1) ∧ W.cell? ⟨b', o' + k * 4 + 3, none⟩ = some (.slice a' v.2.2.2.length ca')) := fun W h =>
        ⟨⟨(h.cell (p := ⟨b, o + k * 4, none⟩) hbl).trans c0, (h.cell (p := ⟨b, o + k * 4 + 1, none⟩) hbl).trans c1, (h.cell (p := ⟨b, o + k * 4 + 2, none⟩) hbl).trans c2, (h.cell (p := ⟨b, o + k * 4 + 3, none⟩) hbl).trans c3⟩, (h.cell (p := ⟨b', o' + k * 4, none⟩) hbl').trans d0, (h.cell (p := ⟨b', o' + k * 4 + 1, none⟩) hbl').trans d1, (h.cell (p := ⟨b', o' + k * 4 + 2, none⟩) hbl').trans d2, (h.cell (p := ⟨b', o' + k * 4 + 3, none⟩) hbl').trans d3⟩
      have HE := Lib.hid (fun (W : World) (h : Below w.heap.size w W) => eqNode_same v.1 v.2.2.1 v.2.1 a a' ca ca' v.2.2.2 W (row_up c6 h) (row_up d6 h) (by omega))
      have hlt' : (k : Int) < (xs.length : Int) := by omega
      have hge' : (0 : Int) ≤ (k : Int) := by omega
      clear hv hR hR' hm hvl c0 c1 c2 c3 c6 d0 d1 d2 d3 d6 hbl hbl'
      go_wp2_with fail
      go_region_held3 (fun w' => (w'.cell? ⟨b, o + k * 4, none⟩ = some (.int .i64 v.1) ∧ w'.cell? ⟨b, o + k * 4 + 1, none⟩ = some (.string v.2.1) ∧ w'.cell? ⟨b, o + k * 4 + 2, none⟩ = some (.int .i64 v.2.2.1) ∧ w'.cell? ⟨b, o + k * 4 + 3, none⟩ = some (.slice a v.2.2.2.length ca)) ∧ w'.cell? ⟨b', o' + k * 4, none⟩ = some (.int .i64 v.1) ∧ w'.cell? ⟨b', o' + k * 4 + 1, none⟩ = some (.string v.2.1) ∧ w'.cell? ⟨b', o' + k * 4 + 2, none⟩ = some (.int .i64 v.2.2.1) ∧ w'.cell? ⟨b', o' + k * 4 + 3, none⟩ = some (.slice a' v.2.2.2.length ca'))
        (first | (with_reducible exact HC _ HB) | (with_reducible exact HC _ HB.drew))
        (first | (go_at_call 63; refine (HE.out _ (by first | with_reducible exact HB | with_reducible exact HB.drew)).mono ?_; rintro e w1 ⟨rfl, hb1⟩; (first | (have HB := bcall HB hb1 HB.size) | (have HB := bcall HB.drew hb1 HB.size))))
      clear HC
      go_wp2
      go_roundw
      case rel => exact ⟨k + 1, by omega, by go_num, HB⟩
      case measure => simp [intOf]; omega
    · clear hR hR' hm
      go_wp2
      go_ret
      exact ⟨rfl, HB⟩

theorem eqAsg_same (v1 : Int) (s : ByteArray) (w : World) :
    Calls Try.prog 64 #[.agg #[.string s, .int .i64 v1], .agg #[.string s, .int .i64 v1]] w fun e w' => e = .returned (.bool true) ∧ Below w.heap.size w w' := by
  go_enter Try.func64, Try.ntmps64
  go_wp2_with fail
  go_ret
  exact ⟨rfl, by go_grown⟩

set_option maxHeartbeats 4000000 in
theorem eqAsgS_same (A A' : Option Addr) (c c' : Nat) (xs : List As) (w : World) (hR : RowC 2 asg w w.heap.size A xs) (hR' : RowC 2 asg w w.heap.size A' xs) (hl : xs.length ≤ 1099511627776) :
    Calls Try.prog 38 #[.slice A xs.length c, .slice A' xs.length c'] w fun e w' => e = .returned (.bool true) ∧ Below w.heap.size w w' := by
  go_enter Try.func38, Try.ntmps38
  go_wp2
  go_loopw [5] (fun i wr => ∃ k : Nat, k ≤ xs.length ∧ i = .int .i64 k ∧ Below w.heap.size w wr) (fun i _ => xs.length - (intOf i).toNat)
  case atStart => exact ⟨0, Nat.zero_le _, rfl, Below.refl _ _⟩
  case round =>
    obtain ⟨k, hk, rfl, HB⟩ := hrel
    by_cases hlt : k < xs.length
    · obtain ⟨b, o, rfl, hbl, hc⟩ := hR.at hlt
      obtain ⟨b', o', rfl, hbl', hc'⟩ := hR'.at hlt
      obtain ⟨c0, c1⟩ := asg_at hc
      obtain ⟨d0, d1⟩ := asg_at hc'
      obtain ⟨v, hv⟩ : ∃ v, v = xs[k] := ⟨_, rfl⟩
      rw [← hv] at c0 c1 d0 d1
      have HC : ∀ W, Below w.heap.size w W → ((W.cell? ⟨b, o + k * 2, none⟩ = some (.string v.1) ∧ W.cell? ⟨b, o + k * 2 + 1, none⟩ = some (.int .i64 v.2)) ∧ W.cell? ⟨b', o' + k * 2, none⟩ = some (.string v.1) ∧ W.cell? ⟨b', o' + k * 2 + 1, none⟩ = some (.int .i64 v.2)) := fun W h =>
        ⟨⟨(h.cell (p := ⟨b, o + k * 2, none⟩) hbl).trans c0, (h.cell (p := ⟨b, o + k * 2 + 1, none⟩) hbl).trans c1⟩, (h.cell (p := ⟨b', o' + k * 2, none⟩) hbl').trans d0, (h.cell (p := ⟨b', o' + k * 2 + 1, none⟩) hbl').trans d1⟩
      have hlt' : (k : Int) < (xs.length : Int) := by omega
      have hge' : (0 : Int) ≤ (k : Int) := by omega
      clear hv hR hR' hc hc' c0 c1 d0 d1 hbl hbl'
      go_wp2_with fail
      go_region_held3 (fun w' => (w'.cell? ⟨b, o + k * 2, none⟩ = some (.string v.1) ∧ w'.cell? ⟨b, o + k * 2 + 1, none⟩ = some (.int .i64 v.2)) ∧ w'.cell? ⟨b', o' + k * 2, none⟩ = some (.string v.1) ∧ w'.cell? ⟨b', o' + k * 2 + 1, none⟩ = some (.int .i64 v.2))
        (first | (with_reducible exact HC _ HB) | (with_reducible exact HC _ HB.drew))
        (first | (go_at_call 64; refine (eqAsg_same _ _ _).mono ?_; rintro e w1 ⟨rfl, hb1⟩; (first | (have HB := bcall HB hb1 HB.size) | (have HB := bcall HB.drew hb1 HB.size))))
      clear HC
      go_wp2
      go_roundw
      case rel => exact ⟨k + 1, by omega, by go_num, HB⟩
      case measure => simp [intOf]; omega
    · clear hR hR'
      go_wp2
      go_ret
      exact ⟨rfl, HB⟩

set_option maxHeartbeats 4000000 in
theorem eqProg_same (A A' B B' : Option Addr) (c c' d d' : Nat) (xs : List Nd) (ys : List As) (w : World) (hR : ProgIn w w.heap.size A A' xs ys) (hR' : ProgIn w w.heap.size B B' xs ys) (hl : xs.length ≤ 1099511627776) (hl' : ys.length ≤ 1099511627776) (hm : ∀ x ∈ xs, x.2.2.2.length ≤ 1099511627776) :
    Calls Try.prog 20 #[pgv A A' xs.length c ys.length c', pgv B B' xs.length d ys.length d'] w fun e w' => e = .returned (.bool true) ∧ Below w.heap.size w w' := by
  have H1 := Lib.hid (fun (W : World) (h : Below w.heap.size w W) => eqNodeS_same A B c d xs W ((hR.1.below h).more h.size) ((hR'.1.below h).more h.size) hl hm)
  have H2 := Lib.hid (fun (W : World) (h : Below w.heap.size w W) => eqAsgS_same A' B' c' d' ys W ((hR.2.below h).more h.size) ((hR'.2.below h).more h.size) hl')
  have HT : Held w ((w.alloc (.cells #[.slice A xs.length c, .slice A' ys.length c'] 35)).alloc (.cells #[.slice B xs.length d, .slice B' ys.length d'] 35)) [(w.heap.size + 1, [.slice B xs.length d, .slice B' ys.length d']), (w.heap.size, [.slice A xs.length c, .slice A' ys.length c'])] := by
    have h := ((Held.nil w).new #[.slice A xs.length c, .slice A' ys.length c'] 35).new #[.slice B xs.length d, .slice B' ys.length d'] 35
    simpa only [World.size_alloc] using h
  clear hR hR' hm
  go_enter Try.func20, Try.ntmps20
  go_wp2_with fail
  refine (H1.out _ HT.below).mono ?_
  rintro e w1 ⟨rfl, hb1⟩
  have HT := HT.later hb1
  clear hb1
  have c0 := (HT.box 1).c 1
  have c1 := (HT.box 0).c 1
  go_wp2_with fail
  refine (H2.out _ HT.below).mono ?_
  rintro e w2 ⟨rfl, hb2⟩
  have HT := HT.later hb2
  clear hb2 c0 c1
  go_wp2_with fail
  go_ret
  exact ⟨rfl, HT.below⟩
end Go.Proofs.Ytpcdlehicdepaaa
