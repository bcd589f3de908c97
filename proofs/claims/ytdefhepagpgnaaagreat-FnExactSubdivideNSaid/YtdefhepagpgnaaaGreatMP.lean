/- l06Put: a pair put in order into a slice of pairs (the model). -/
import Derived.Test.YtdefhepagpgnaaaGreatProg
import Derived.Test.YtdefhepagpgnaaaGreatInts
import Derived.Test.YtdefhepagpgnaaaGreatVbox
import Derived.Test.YtdefhepagpgnaaaGreatVec
import Derived.Test.YtdefhepagpgnaaaGreatHeld
import Derived.Test.YtdefhepagpgnaaaGreatMem
import Derived.Test.YtdefhepagpgnaaaGreatRowC
import Derived.Test.YtdefhepagpgnaaaGreatIntS
import Derived.Test.YtdefhepagpgnaaaGreatVecS
import Derived.Test.YtdefhepagpgnaaaGreatSS
import Derived.Test.YtdefhepagpgnaaaGreatMkA
import Derived.Test.YtdefhepagpgnaaaGreatMkB
import Derived.Test.YtdefhepagpgnaaaGreatMkC
import Derived.Test.YtdefhepagpgnaaaGreatMkD
import Derived.Test.YtdefhepagpgnaaaGreatMF
import Derived.Test.YtdefhepagpgnaaaGreatMG
import Derived.Test.YtdefhepagpgnaaaGreatMH
import Derived.Test.YtdefhepagpgnaaaGreatMM
import Derived.Test.YtdefhepagpgnaaaGreatMN
import Derived.Test.YtdefhepagpgnaaaGreatMT
import Derived.Test.YtdefhepagpgnaaaGreatMSo
import Derived.WalkKit
import Derived.WalkSpells
import Derived.WalkLawsBesides
import Derived.Lib.Hide
import Derived.Deep.RegionHeld3
import Derived.Deep.QuietTactic
import Derived.BigQuiet
import Derived.Handy
import Derived.Deep.DeepCutAuto
import Derived.OwnWalk
import Derived.Maps.RangeWalk
import Derived.Maps.Ext
import Derived.Maps.OwnOps
import Derived.Maps.Views
import Derived.Maps.AppendAt
import Derived.WideKeyEntry
import Derived.DeepKeys5
import Derived.ChangeKeysEq
import Derived.WalkArith
import Derived.OpenShut
namespace Go.Proofs.YtdefhepagpgnaaaGreat
open Go.RowKit


/-- an edge put into a list of edges -/
def insE (e : E2) : List E2 → List E2
  | [] => [e]
  | a :: l => if ltE a e then a :: insE e l else if a = e then a :: l else e :: a :: l
theorem insE_mem (e : E2) : ∀ (l : List E2) (x : E2), x ∈ insE e l ↔ x = e ∨ x ∈ l
  | [], x => by simp [insE]
  | a :: l, x => by
    unfold insE
    split
    · rw [List.mem_cons, insE_mem e l x, List.mem_cons]
      constructor
      · rintro (h | h | h)
        · exact .inr (.inl h)
        · exact .inl h
        · exact .inr (.inr h)
      · rintro (h | h | h)
        · exact .inr (.inl h)
        · exact .inl h
        · exact .inr (.inr h)
    · split
      · rename_i h
        subst h
        simp
      · simp
theorem insE_up (e : E2) : ∀ {l : List E2}, UpE l → UpE (insE e l)
  | [], _ => by simp [insE]
  | a :: l, h => by
    have h' := List.pairwise_cons.1 h
    unfold insE
    split
    · rename_i hlt
      refine List.pairwise_cons.2 ⟨fun x hx => ?_, insE_up e h'.2⟩
      rcases (insE_mem e l x).1 hx with q | q
      · rw [q]; exact hlt
      · exact h'.1 x q
    · split
      · exact h
      · rename_i h1 h2
        have hea : ltE e a = true := by
          cases hh : ltE e a
          · exact absurd (ltE_total (by simpa using h1) hh) h2
          · rfl
        exact List.pairwise_cons.2 ⟨fun x hx => by
          rcases List.mem_cons.1 hx with q | q
          · rw [q]; exact hea
          · exact ltE_trans hea (h'.1 x q), h⟩
theorem insE_same (e : E2) : ∀ (l : List E2) (k : Nat) (h : k < l.length), (∀ i (hi : i < l.length), i < k → ltE l[i] e = true) → l[k] = e → insE e l = l
  | [], k, h, _, _ => by simp at h
  | a :: l, 0, _, _, he => by
    have he : a = e := he
    subst he
    unfold insE
    rw [if_neg (by rw [ltE_irrefl]; simp), if_pos rfl]
  | a :: l, k + 1, h, hlt, he => by
    have h0 : ltE a e = true := hlt 0 (by simp) (by omega)
    unfold insE
    rw [if_pos h0, insE_same e l k (by simpa using h) (fun i hi hk => hlt (i + 1) (by simpa using hi) (by omega)) he]
theorem insE_new (e : E2) : ∀ (l : List E2) (k : Nat), k ≤ l.length → (∀ i (hi : i < l.length), i < k → ltE l[i] e = true) → (∀ h : k < l.length, ltE l[k] e = false ∧ l[k] ≠ e) → insE e l = l.take k ++ e :: l.drop k
  | [], k, h, _, _ => by simp at h; subst h; rfl
  | a :: l, 0, _, _, hn => by
    have h1 := hn (by simp)
    have h2 : ltE a e = false ∧ a ≠ e := h1
    unfold insE
    rw [if_neg (by rw [h2.1]; simp), if_neg h2.2]
    rfl
  | a :: l, k + 1, h, hlt, hn => by
    have h0 : ltE a e = true := hlt 0 (by simp) (by omega)
    unfold insE
    rw [if_pos h0, insE_new e l k (by simpa using h) (fun i hi hk => hlt (i + 1) (by simpa using hi) (by omega)) (fun hh => hn (by simpa using hh))]
    rfl
theorem insE_len (e : E2) (l : List E2) : (insE e l).length ≤ l.length + 1 := by
  induction l with
  | nil => simp [insE]
  | cons a l ih => unfold insE; split <;> (try split) <;> simp <;> omega
/-- values that read as pairs -/
def SV (w : World) (B : Nat) (vs : List Value) (l : List E2) : Prop :=
  vs.length = l.length ∧ ∀ k (h : k < vs.length) (h' : k < l.length), ∃ a c, vs[k] = .slice a 2 c ∧ 2 ≤ c ∧ c ≤ maxLen ∧ Row I64 w B a (pr l[k])
section
variable {w w' : World} {B B' : Nat} {vs us : List Value} {l m : List E2}
theorem SV.nil : SV w B [] [] := ⟨rfl, fun k h => by simp at h⟩
theorem SV.keep (h : SV w B vs l) (hk : ∀ p : Addr, p.block < B → w'.cell? p = w.cell? p) : SV w' B vs l := ⟨h.1, fun k h1 h2 => by
  obtain ⟨a, c, e, h3, h4, h5⟩ := h.2 k h1 h2
  exact ⟨a, c, e, h3, h4, h5.keep hk⟩⟩
theorem SV.more (h : SV w B vs l) (hB : B ≤ B') : SV w B' vs l := ⟨h.1, fun k h1 h2 => by
  obtain ⟨a, c, e, h3, h4, h5⟩ := h.2 k h1 h2
  exact ⟨a, c, e, h3, h4, h5.more hB⟩⟩
theorem SV.below (h : SV w B vs l) (hb : Below B w w') : SV w' B vs l := h.keep fun _ hp => hb.cell hp
theorem SV.later (h : SV w w.heap.size vs l) (hb : Below w.heap.size w w') : SV w' w'.heap.size vs l := (h.below hb).more hb.size
theorem SV.app (h : SV w B vs l) (k : SV w B us m) : SV w B (vs ++ us) (l ++ m) := ⟨by simp [h.1, k.1], fun i h1 h2 => by
  by_cases hi : i < vs.length
  · obtain ⟨a, c, e, h3⟩ := h.2 i hi (by rw [← h.1]; exact hi)
    refine ⟨a, c, by rw [List.getElem_append_left hi]; exact e, ?_⟩
    rw [List.getElem_append_left (by rw [← h.1]; exact hi)]
    exact h3
  · have hu : i - vs.length < us.length := by simp at h1; omega
    obtain ⟨a, c, e, h3⟩ := k.2 (i - vs.length) hu (by rw [← k.1]; exact hu)
    refine ⟨a, c, by rw [List.getElem_append_right (by omega)]; exact e, ?_⟩
    rw [List.getElem_append_right (by rw [← h.1]; omega)]
    simp only [← h.1]
    exact h3⟩
theorem SV.take (h : SV w B vs l) (n : Nat) : SV w B (vs.take n) (l.take n) := ⟨by simp [h.1], fun i h1 h2 => by
  simp at h1 h2
  obtain ⟨a, c, e, h3⟩ := h.2 i (by omega) (by omega)
  refine ⟨a, c, by rw [List.getElem_take]; exact e, ?_⟩
  rw [List.getElem_take]
  exact h3⟩
theorem SV.drop (h : SV w B vs l) (n : Nat) : SV w B (vs.drop n) (l.drop n) := ⟨by simp [h.1], fun i h1 h2 => by
  simp at h1 h2
  obtain ⟨a, c, e, h3⟩ := h.2 (n + i) (by omega) (by omega)
  refine ⟨a, c, by rw [List.getElem_drop]; exact e, ?_⟩
  rw [List.getElem_drop]
  exact h3⟩
theorem SV.one {g : Nat} {e : E2} (hm : Mbox w g ((pr e).map I64)) (hg : g < B) : SV w B [.slice (some ⟨g, 0, none⟩) 2 2] [e] := ⟨rfl, fun k h1 h2 => by
  simp at h1
  subst h1
  refine ⟨_, 2, rfl, Nat.le_refl _, by unfold maxLen; omega, fun _ => ⟨g, 0, rfl, hg, fun k hk => ?_⟩⟩
  rw [Nat.zero_add]
  exact hm.c k (by simp only [List.getElem_cons_zero] at hk ⊢; simp [hk])⟩
theorem SV.one' (h : SV w B vs l) : ∀ u ∈ vs, u.oneCell' = true := fun u hu => by
  obtain ⟨k, hk, rfl⟩ := List.getElem_of_mem hu
  obtain ⟨a, c, e, _⟩ := h.2 k hk (by rw [← h.1]; exact hk)
  rw [e]; rfl
end
/-- append of the elements of a slice that is read -/
theorem wpList_appM {P : Program} {ops : Array Oper} {rest : List Oper} {o : Oper} {a : Act} {Q : Exit → Act → World → Prop} (w : World) (hgd : o.guard = none) (s x : Operand) (t : TypeId)
    (ho : o.op = .call { callee := .builtin .append, args := #[s, x], argTypes := #[t, t] }) (base : Nat) (e : TypeId) (z : Value) (bytes : Nat)
    (ht : P.underlying t = some (.slice e)) (hinfo : (P.info? e).map (fun i => (i.zero, i.size, i.bytes)) = some (some z, 1, bytes)) (hzs : z.cells.size = 1)
    (v : Value) (n : Nat) (xs : List Value) (hs : a.eval s = v) (hown : w.ownsRow base e 1 v n xs) (g off m c B : Nat) (us : List Value) (hx : a.eval x = .slice (some ⟨g, off, none⟩) m c) (hl : us.length = m) (hc : Row id w B (some ⟨g, off, none⟩) us) (hu : ∀ u ∈ us, u.oneCell' = true)
    (h63 : n + m ≤ maxLen) (hbytes : (n + m) * bytes ≤ 140737488355328) (hbase : base ≤ w.heap.size)
    (h : ∀ v' w', w'.ownsRow base e 1 v' (n + m) (xs ++ us) → w.grownBy w' v.ownBlock → (v' = .slice none 0 0 ↔ v = .slice none 0 0 ∧ m = 0) → wpList P ops Q rest (a.put o.dst v') w') : wpList P ops Q (o :: rest) a w := by
  obtain ⟨i0, hi, hz0, hz1, hz2⟩ := info_parts hinfo
  refine wpList_append_own _ hgd s x t ho base e i0 z 1 bytes ht hi hz0 hz1 hz2 hzs (by omega) v n xs hs hown ⟨g, off, none⟩ m c us hx (by omega) ?_ hu h63 hbytes hbase h
  intro j y hj
  obtain ⟨hj1, hj2⟩ := List.getElem?_eq_some_iff.1 hj
  obtain ⟨b1, o1, e1, _, hcell⟩ := hc.at hj1
  simp only [Option.some.injEq, Addr.mk.injEq, and_true] at e1
  obtain ⟨rfl, rfl⟩ := e1
  rw [Addr.add_mid, hcell, hj2]
  rfl
theorem Row.takeR {w : World} {B : Nat} {g off k : Nat} {vs : List Value} (h : Row id w B (some ⟨g, off, none⟩) vs) : Row id w B (some ⟨g, off, none⟩) (vs.take k) := fun h0 => by
  obtain ⟨b1, o1, e1, hb1, hc1⟩ := h (by simp at h0; omega)
  refine ⟨b1, o1, e1, hb1, fun j hj => ?_⟩
  simp at hj
  rw [hc1 j (by omega), List.getElem_take]
theorem Row.dropR {w : World} {B : Nat} {g off k : Nat} {vs : List Value} (h : Row id w B (some ⟨g, off, none⟩) vs) : Row id w B (some ⟨g, off + k, none⟩) (vs.drop k) := fun h0 => by
  simp at h0
  obtain ⟨b1, o1, e1, hb1, hc1⟩ := h (by omega)
  simp only [Option.some.injEq, Addr.mk.injEq, and_true] at e1
  obtain ⟨rfl, rfl⟩ := e1
  refine ⟨g, off + k, rfl, hb1, fun j hj => ?_⟩
  simp at hj
  rw [Nat.add_assoc, hc1 (k + j) (by omega), List.getElem_drop]
/-- a slice of pairs that is only read -/
def PairsIn (w : World) (v : Value) (l : List E2) : Prop :=
  ∃ g off c vs, v = .slice (some ⟨g, off, none⟩) l.length c ∧ l.length ≤ c ∧ c ≤ maxLen ∧ Row id w w.heap.size (some ⟨g, off, none⟩) vs ∧ SV w w.heap.size vs l
theorem PairsIn.later {w w' : World} {v : Value} {l : List E2} (h : PairsIn w v l) (hb : Below w.heap.size w w') : PairsIn w' v l := by
  obtain ⟨g, off, c, vs, h1, h2, h3, h4, h5⟩ := h
  exact ⟨g, off, c, vs, h1, h2, h3, h4.later hb, h5.later hb⟩
theorem PairsIn.rowSS {w : World} {A : Option Addr} {n c : Nat} {l : List E2} (h : PairsIn w (.slice A n c) l) : n = l.length ∧ RowSS w w.heap.size A (l.map pr) := by
  obtain ⟨g, off, c1, vs, h1, h2, h3, h4, h5⟩ := h
  injection h1 with h1 h6 h7
  subst h1
  refine ⟨h6, fun h0 => ?_⟩
  simp at h0
  obtain ⟨b, o1, e, hb, hc⟩ := h4 (by rw [h5.1]; exact h0)
  refine ⟨b, o1, e, hb, fun k hk => ?_⟩
  have hk' : k < l.length := by simpa using hk
  have hkv : k < vs.length := by rw [h5.1]; exact hk'
  obtain ⟨a, c2, e2, h8, h9, h10⟩ := h5.2 k hkv hk'
  exact ⟨a, c2, by rw [hc k hkv, e2]; simp [pr], by simpa [pr] using h8, h9, by simpa using h10⟩
def PairsOut (w : World) (l : List E2) (e : Ending) (w' : World) : Prop := ∃ v, e = .returned v ∧ PairsIn w' v l ∧ Below w.heap.size w w'
set_option maxRecDepth 100000 in
set_option maxHeartbeats 16000000 in
theorem put_any (g off c : Nat) (vs : List Value) (l : List E2) (a b : Int) (w : World) (hR : Row id w w.heap.size (some ⟨g, off, none⟩) vs) (hV : SV w w.heap.size vs l) (hc : l.length ≤ c) (hcm : c ≤ maxLen) (hl : l.length ≤ 1048576) :
    Calls Tryz.prog 40 #[.slice (some ⟨g, off, none⟩) l.length c, .int .i64 a, .int .i64 b] w (PairsOut w (insE (a, b) l)) := by
  have HRW := Lib.hid hR
  have HRW0 : Hid (Row id (w.alloc (.cells #[] 45)) w.heap.size (some ⟨g, off, none⟩) vs) := Lib.hid (hR.alloc (Nat.le_refl _) _)
  have HSV := Lib.hid hV
  have HVL := Lib.hid hV.1
  have HO0 := Lib.hid (made_none w 45)
  have HB0 : Hid (Below w.heap.size w (w.alloc (.cells #[] 45))) := Lib.hid (by go_grown)
  have hcm' : (c : Int) ≤ 9223372036854775807 := by unfold maxLen at hcm; omega
  have HCM := Lib.hid hcm
  clear hR hV hcm
  go_enter Tryz.func40, Tryz.ntmps40
  go_wp2
  go_loop [7] (fun i => ∃ k : Nat, k ≤ l.length ∧ i = .int .i64 k ∧ ∀ i (hi : i < l.length), i < k → ltE l[i] (a, b) = true) (fun i => l.length - (intOf i).toNat)
  case atStart => exact ⟨0, Nat.zero_le _, rfl, fun i hi h => by omega⟩
  case round =>
    obtain ⟨k, hk, rfl, hlts⟩ := hrel
    have HLT := Lib.hid hlts
    clear hlts
    by_cases hlt : k < l.length
    · have hkv : k < vs.length := by rw [HVL.out]; exact hlt
      obtain ⟨b1, o1, e1, _, hcell⟩ := HRW.out.at hkv
      simp only [Option.some.injEq, Addr.mk.injEq, and_true] at e1
      obtain ⟨rfl, rfl⟩ := e1
      obtain ⟨a1, c1, e1, h21, _, hrow⟩ := HSV.out.2 k hkv hlt
      rw [e1] at hcell
      simp only [id] at hcell
      obtain ⟨g1, o2, rfl, _, hin⟩ := hrow (by simp [pr])
      have d0 := hin 0 (by simp [pr])
      have d1 := hin 1 (by simp [pr])
      have HNX : Hid (ltE l[k] (a, b) = true → ∀ i (hi : i < l.length), i < k + 1 → ltE l[i] (a, b) = true) := Lib.hid fun h i hi hik => by
        by_cases e : i = k
        · subst e; exact h
        · exact HLT.out i hi (by omega)
      have HSA : Hid (l[k] = (a, b) → insE (a, b) l = l) := Lib.hid fun h => insE_same (a, b) l k hlt HLT.out h
      have HNW : Hid (ltE l[k] (a, b) = false → l[k] ≠ (a, b) → insE (a, b) l = l.take k ++ (a, b) :: l.drop k) := Lib.hid fun h1 h2 => insE_new (a, b) l k hk HLT.out (fun _ => ⟨h1, h2⟩)
      obtain ⟨ed, hed⟩ : ∃ e, e = l[k] := ⟨_, rfl⟩
      simp only [← hed] at HNX HSA HNW d0 d1
      obtain ⟨x, y⟩ := ed
      simp only [pr, List.getElem_cons_zero, List.getElem_cons_succ, Nat.add_zero] at d0 d1
      have hkc : (k : Int) ≤ (c : Int) := by omega
      have hkc2 : (k : Int) < (l.length : Int) := by omega
      clear hed hin hkv e1
      by_cases hM : ltE (x, y) (a, b) = true
      · have HN1 := Lib.hid (HNX.out hM)
        clear HNX HSA HNW HLT
        simp only [ltE, decide_eq_true_eq] at hM
        by_cases h1 : x < a
        · have q1 : decide (x < a) = true := by simpa using h1
          clear hM
          go_wp2_with fail
          go_round
          case rel => exact ⟨k + 1, by omega, by go_num, HN1.out⟩
          case measure => simp [intOf]; omega
        · have q1 : decide (x < a) = false := by simpa using h1
          obtain ⟨h2, h3⟩ : x = a ∧ y < b := by omega
          have q2 : (x == a) = true := by simpa using h2
          have q3 : decide (y < b) = true := by simpa using h3
          clear hM h1 h2 h3
          go_wp2_with fail
          go_round
          case rel => exact ⟨k + 1, by omega, by go_num, HN1.out⟩
          case measure => simp [intOf]; omega
      · clear HNX
        by_cases hE : (x, y) = (a, b)
        · have HS1 := Lib.hid (HSA.out hE)
          injection hE with h1 h2
          have q1 : decide (x < a) = false := by simp; omega
          have q2 : (x == a) = true := by simpa using h1
          have q3 : decide (y < b) = false := by simp; omega
          have q4 : (y == b) = true := by simpa using h2
          clear hM HSA HNW HLT h1 h2
          go_wp2_with fail
          go_ret
          rw [HS1.out]
          exact ⟨_, rfl, ⟨g, off, c, vs, rfl, hc, HCM.out, HRW.out, HSV.out⟩, Below.refl _ _⟩
        · have HNEW := Lib.hid (HNW.out (by simpa using hM) hE)
          have hM' : ltE (x, y) (a, b) = false := by simpa using hM
          simp only [ltE, decide_eq_false_iff_not] at hM'
          have q1 : decide (x < a) = false := by simp; omega
          clear HSA HNW hM
          by_cases h1 : x = a
          · have q2 : (x == a) = true := by simpa using h1
            have h2 : y ≠ b := fun h2 => hE (by rw [h1, h2])
            have q3 : decide (y < b) = false := by simp; omega
            have q4 : (y == b) = false := by simpa using h2
            clear hE hM' h1 h2
            clear HLT
            go_wp2_with (at_builtin; refine wpList_appM (w.alloc (.cells #[] 45)) rfl _ _ 23 rfl w.heap.size 45 nilS 24 Tryz.underlying23 infoSS rfl _ 0 [] (by rfl) HO0.out g off k c w.heap.size (vs.take k) (by rfl) (by simp; have := HVL.out; omega) (HRW0.out.takeR) (fun u hu => HSV.out.one' u (List.mem_of_mem_take hu)) (by unfold maxLen; omega) (by omega) (by simp) ?_)
            intro v1 w1 ho1 hg1 hn1
            have hb1 : Below w.heap.size w w1 := (HB0.out).grown hg1 (by simp) (own_block HO0.out)
            have HO1 : Hid ((w1.alloc (.cells #[.int .i64 a, .int .i64 b] 3)).ownsRow w.heap.size 45 1 v1 k (vs.take k)) := Lib.hid (by simpa using ho1.alloc (.cells #[.int .i64 a, .int .i64 b] 3))
            have HB1 := Lib.hid (hb1.alloc hb1.size (.cells #[.int .i64 a, .int .i64 b] 3))
            have HP1 : Hid (Mbox (w1.alloc (.cells #[.int .i64 a, .int .i64 b] 3)) w1.heap.size ((pr (a, b)).map I64)) := Lib.hid (Mbox.new w1 #[.int .i64 a, .int .i64 b] 3)
            have hwl1 := hb1.size
            have HNB : Hid (∀ q, v1.ownBlock = some q → q ≠ w1.heap.size) := Lib.hid fun q hq => by have := (ho1.lt q hq).2; omega
            clear ho1 hg1 hb1 hn1 HO0 HB0
            go_wp2_with (at_builtin; refine wpList_app1_at _ rfl _ _ 23 rfl w.heap.size 45 nilS 24 Tryz.underlying23 infoSS rfl _ _ _ (by rfl) (HO1.out.alloc (.cells #[.slice (some ⟨w1.heap.size, 0, none⟩) 2 2] 45)) (w1.heap.size + 1) (.slice (some ⟨w1.heap.size, 0, none⟩) 2 2) (by rfl) (by simp) (by rfl) (by unfold maxLen; omega) (by omega) (by simp; omega) ?_)
            intro v2 w2 ho2 hg2 hat2
            have HB2 := Lib.hid (below_own (HB1.out.alloc HB1.out.size (.cells #[.slice (some ⟨w1.heap.size, 0, none⟩) 2 2] 45)) hg2 (by simp; omega) (fun q hq => own_block HO1.out q hq))
            have HP2 := Lib.hid ((HP1.out.alloc (.cells #[.slice (some ⟨w1.heap.size, 0, none⟩) 2 2] 45)).keep (w' := w2) fun hl => hg2.block _ hl (fun e => HNB.out _ e.symm rfl))
            have HNB2 : Hid (∀ q, v2.ownBlock = some q → q ≠ w1.heap.size) := Lib.hid fun q hq => by
              rcases hat2 with h | h
              · rw [h] at hq; exact HNB.out q hq
              · rw [h] at hq; simp at hq; omega
            have HO2 := Lib.hid ho2
            have hwl2 : w1.heap.size + 2 ≤ w2.heap.size := by have := hg2.size; simpa using this
            have HRW2 := Lib.hid (HRW.out.below HB2.out)
            clear ho2 hg2 hat2 HO1 HB1 HP1 HNB
            go_wp2_with (at_builtin; refine wpList_appM _ rfl _ _ 23 rfl w.heap.size 45 nilS 24 Tryz.underlying23 infoSS rfl _ _ _ (by rfl) HO2.out g (off + k) (l.length - k) (c - k) w.heap.size (vs.drop k) (by first | rfl | simp | (simp; omega)) (by simp; have := HVL.out; omega) HRW2.out.dropR (fun u hu => HSV.out.one' u (List.mem_of_mem_drop hu)) (by unfold maxLen; omega) (by omega) (by have := HB2.out.size; omega) ?_)
            intro v3 w3 ho3 hg3 hn3
            have HFIN : Hid (PairsOut w (insE (a, b) l) (.returned v3) w3) := Lib.hid (by
              have hb3 := below_own HB2.out hg3 HB2.out.size (fun q hq => own_block HO2.out q hq)
              have hp3 := HP2.out.keep (w' := w3) fun hl => hg3.block _ hl (fun e => HNB2.out _ e.symm rfl)
              have hs3 := hg3.size
              have hsv : SV w3 w3.heap.size (vs.take k ++ [.slice (some ⟨w1.heap.size, 0, none⟩) 2 2] ++ vs.drop k) (l.take k ++ [(a, b)] ++ l.drop k) :=
                ((((HSV.out.take k).below hb3).more hb3.size).app (SV.one hp3 (by omega))).app (((HSV.out.drop k).below hb3).more hb3.size)
              have hll : (insE (a, b) l).length = l.length + 1 := by rw [HNEW.out]; simp; omega
              have ho3 : w3.ownsRow w.heap.size 45 1 v3 (l.length + 1) (vs.take k ++ [.slice (some ⟨w1.heap.size, 0, none⟩) 2 2] ++ vs.drop k) := by rw [show l.length + 1 = k + 1 + (l.length - k) by omega]; simpa using ho3
              rcases ho3.2 with ⟨_, h0⟩ | ⟨g3, cap3, cur, hv3, _, _, hc3, hm3, _⟩
              · omega
              · subst hv3
                refine ⟨_, rfl, ⟨g3, 0, cap3, _, by rw [hll], by omega, hm3, Row.of_own (f := id) (xs := vs.take k ++ [.slice (some ⟨w1.heap.size, 0, none⟩) 2 2] ++ vs.drop k) (by simpa using ho3), ?_⟩, hb3⟩
                rw [HNEW.out]
                simpa using hsv)
            clear ho3 hg3 hn3 HO2 HP2 HRW2
            go_wp2_with fail
            go_ret
            exact HFIN.out
          · have q2 : (x == a) = false := by simpa using h1
            clear hE hM' h1
            clear HLT
            go_wp2_with (at_builtin; refine wpList_appM (w.alloc (.cells #[] 45)) rfl _ _ 23 rfl w.heap.size 45 nilS 24 Tryz.underlying23 infoSS rfl _ 0 [] (by rfl) HO0.out g off k c w.heap.size (vs.take k) (by rfl) (by simp; have := HVL.out; omega) (HRW0.out.takeR) (fun u hu => HSV.out.one' u (List.mem_of_mem_take hu)) (by unfold maxLen; omega) (by omega) (by simp) ?_)
            intro v1 w1 ho1 hg1 hn1
            have hb1 : Below w.heap.size w w1 := (HB0.out).grown hg1 (by simp) (own_block HO0.out)
            have HO1 : Hid ((w1.alloc (.cells #[.int .i64 a, .int .i64 b] 3)).ownsRow w.heap.size 45 1 v1 k (vs.take k)) := Lib.hid (by simpa using ho1.alloc (.cells #[.int .i64 a, .int .i64 b] 3))
            have HB1 := Lib.hid (hb1.alloc hb1.size (.cells #[.int .i64 a, .int .i64 b] 3))
            have HP1 : Hid (Mbox (w1.alloc (.cells #[.int .i64 a, .int .i64 b] 3)) w1.heap.size ((pr (a, b)).map I64)) := Lib.hid (Mbox.new w1 #[.int .i64 a, .int .i64 b] 3)
            have hwl1 := hb1.size
            have HNB : Hid (∀ q, v1.ownBlock = some q → q ≠ w1.heap.size) := Lib.hid fun q hq => by have := (ho1.lt q hq).2; omega
            clear ho1 hg1 hb1 hn1 HO0 HB0
            go_wp2_with (at_builtin; refine wpList_app1_at _ rfl _ _ 23 rfl w.heap.size 45 nilS 24 Tryz.underlying23 infoSS rfl _ _ _ (by rfl) (HO1.out.alloc (.cells #[.slice (some ⟨w1.heap.size, 0, none⟩) 2 2] 45)) (w1.heap.size + 1) (.slice (some ⟨w1.heap.size, 0, none⟩) 2 2) (by rfl) (by simp) (by rfl) (by unfold maxLen; omega) (by omega) (by simp; omega) ?_)
            intro v2 w2 ho2 hg2 hat2
            have HB2 := Lib.hid (below_own (HB1.out.alloc HB1.out.size (.cells #[.slice (some ⟨w1.heap.size, 0, none⟩) 2 2] 45)) hg2 (by simp; omega) (fun q hq => own_block HO1.out q hq))
            have HP2 := Lib.hid ((HP1.out.alloc (.cells #[.slice (some ⟨w1.heap.size, 0, none⟩) 2 2] 45)).keep (w' := w2) fun hl => hg2.block _ hl (fun e => HNB.out _ e.symm rfl))
            have HNB2 : Hid (∀ q, v2.ownBlock = some q → q ≠ w1.heap.size) := Lib.hid fun q hq => by
              rcases hat2 with h | h
              · rw [h] at hq; exact HNB.out q hq
              · rw [h] at hq; simp at hq; omega
            have HO2 := Lib.hid ho2
            have hwl2 : w1.heap.size + 2 ≤ w2.heap.size := by have := hg2.size; simpa using this
            have HRW2 := Lib.hid (HRW.out.below HB2.out)
            clear ho2 hg2 hat2 HO1 HB1 HP1 HNB
            go_wp2_with (at_builtin; refine wpList_appM _ rfl _ _ 23 rfl w.heap.size 45 nilS 24 Tryz.underlying23 infoSS rfl _ _ _ (by rfl) HO2.out g (off + k) (l.length - k) (c - k) w.heap.size (vs.drop k) (by first | rfl | simp | (simp; omega)) (by simp; have := HVL.out; omega) HRW2.out.dropR (fun u hu => HSV.out.one' u (List.mem_of_mem_drop hu)) (by unfold maxLen; omega) (by omega) (by have := HB2.out.size; omega) ?_)
            intro v3 w3 ho3 hg3 hn3
            have HFIN : Hid (PairsOut w (insE (a, b) l) (.returned v3) w3) := Lib.hid (by
              have hb3 := below_own HB2.out hg3 HB2.out.size (fun q hq => own_block HO2.out q hq)
              have hp3 := HP2.out.keep (w' := w3) fun hl => hg3.block _ hl (fun e => HNB2.out _ e.symm rfl)
              have hs3 := hg3.size
              have hsv : SV w3 w3.heap.size (vs.take k ++ [.slice (some ⟨w1.heap.size, 0, none⟩) 2 2] ++ vs.drop k) (l.take k ++ [(a, b)] ++ l.drop k) :=
                ((((HSV.out.take k).below hb3).more hb3.size).app (SV.one hp3 (by omega))).app (((HSV.out.drop k).below hb3).more hb3.size)
              have hll : (insE (a, b) l).length = l.length + 1 := by rw [HNEW.out]; simp; omega
              have ho3 : w3.ownsRow w.heap.size 45 1 v3 (l.length + 1) (vs.take k ++ [.slice (some ⟨w1.heap.size, 0, none⟩) 2 2] ++ vs.drop k) := by rw [show l.length + 1 = k + 1 + (l.length - k) by omega]; simpa using ho3
              rcases ho3.2 with ⟨_, h0⟩ | ⟨g3, cap3, cur, hv3, _, _, hc3, hm3, _⟩
              · omega
              · subst hv3
                refine ⟨_, rfl, ⟨g3, 0, cap3, _, by rw [hll], by omega, hm3, Row.of_own (f := id) (xs := vs.take k ++ [.slice (some ⟨w1.heap.size, 0, none⟩) 2 2] ++ vs.drop k) (by simpa using ho3), ?_⟩, hb3⟩
                rw [HNEW.out]
                simpa using hsv)
            clear ho3 hg3 hn3 HO2 HP2 HRW2
            go_wp2_with fail
            go_ret
            exact HFIN.out
    · have e : k = l.length := by omega
      have hkc : (k : Int) ≤ (c : Int) := by omega
      have hkc2 : ¬ (k : Int) < (l.length : Int) := by omega
      have HNEW := Lib.hid (insE_new (a, b) l k hk HLT.out (fun h => absurd h hlt))
      have HE := Lib.hid e
      clear e
      by_cases hcc : c = k
      · subst c
        clear HLT
        go_wp2_with (at_builtin; refine wpList_appM (w.alloc (.cells #[] 45)) rfl _ _ 23 rfl w.heap.size 45 nilS 24 Tryz.underlying23 infoSS rfl _ 0 [] (by rfl) HO0.out g off k k w.heap.size (vs.take k) (by rfl) (by simp; have := HVL.out; omega) (HRW0.out.takeR) (fun u hu => HSV.out.one' u (List.mem_of_mem_take hu)) (by unfold maxLen; omega) (by omega) (by simp) ?_)
        intro v1 w1 ho1 hg1 hn1
        have hb1 : Below w.heap.size w w1 := (HB0.out).grown hg1 (by simp) (own_block HO0.out)
        have HO1 : Hid ((w1.alloc (.cells #[.int .i64 a, .int .i64 b] 3)).ownsRow w.heap.size 45 1 v1 k (vs.take k)) := Lib.hid (by simpa using ho1.alloc (.cells #[.int .i64 a, .int .i64 b] 3))
        have HB1 := Lib.hid (hb1.alloc hb1.size (.cells #[.int .i64 a, .int .i64 b] 3))
        have HP1 : Hid (Mbox (w1.alloc (.cells #[.int .i64 a, .int .i64 b] 3)) w1.heap.size ((pr (a, b)).map I64)) := Lib.hid (Mbox.new w1 #[.int .i64 a, .int .i64 b] 3)
        have hwl1 := hb1.size
        have HNB : Hid (∀ q, v1.ownBlock = some q → q ≠ w1.heap.size) := Lib.hid fun q hq => by have := (ho1.lt q hq).2; omega
        clear ho1 hg1 hb1 hn1 HO0 HB0
        go_wp2_with (at_builtin; refine wpList_app1_at _ rfl _ _ 23 rfl w.heap.size 45 nilS 24 Tryz.underlying23 infoSS rfl _ _ _ (by rfl) (HO1.out.alloc (.cells #[.slice (some ⟨w1.heap.size, 0, none⟩) 2 2] 45)) (w1.heap.size + 1) (.slice (some ⟨w1.heap.size, 0, none⟩) 2 2) (by rfl) (by simp) (by rfl) (by unfold maxLen; omega) (by omega) (by simp; omega) ?_)
        intro v2 w2 ho2 hg2 hat2
        have HB2 := Lib.hid (below_own (HB1.out.alloc HB1.out.size (.cells #[.slice (some ⟨w1.heap.size, 0, none⟩) 2 2] 45)) hg2 (by simp; omega) (fun q hq => own_block HO1.out q hq))
        have HP2 := Lib.hid ((HP1.out.alloc (.cells #[.slice (some ⟨w1.heap.size, 0, none⟩) 2 2] 45)).keep (w' := w2) fun hl => hg2.block _ hl (fun e => HNB.out _ e.symm rfl))
        have HNB2 : Hid (∀ q, v2.ownBlock = some q → q ≠ w1.heap.size) := Lib.hid fun q hq => by
          rcases hat2 with h | h
          · rw [h] at hq; exact HNB.out q hq
          · rw [h] at hq; simp at hq; omega
        have HO2 := Lib.hid ho2
        have hwl2 : w1.heap.size + 2 ≤ w2.heap.size := by have := hg2.size; simpa using this
        have HRW2 := Lib.hid (HRW.out.below HB2.out)
        clear ho2 hg2 hat2 HO1 HB1 HP1 HNB
        go_wp2_with (at_builtin; refine wpList_appM _ rfl _ _ 23 rfl w.heap.size 45 nilS 24 Tryz.underlying23 infoSS rfl _ _ _ (by rfl) HO2.out g off 0 0 w.heap.size (vs.drop k) (by first | rfl | simp | (simp; omega)) (by simp; have := HVL.out; omega) (fun h0 => by simp at h0; have := HVL.out; omega) (fun u hu => HSV.out.one' u (List.mem_of_mem_drop hu)) (by unfold maxLen; omega) (by omega) (by have := HB2.out.size; omega) ?_)
        intro v3 w3 ho3 hg3 hn3
        have HFIN : Hid (PairsOut w (insE (a, b) l) (.returned v3) w3) := Lib.hid (by
          have hb3 := below_own HB2.out hg3 HB2.out.size (fun q hq => own_block HO2.out q hq)
          have hp3 := HP2.out.keep (w' := w3) fun hl => hg3.block _ hl (fun e => HNB2.out _ e.symm rfl)
          have hs3 := hg3.size
          have hsv : SV w3 w3.heap.size (vs.take k ++ [.slice (some ⟨w1.heap.size, 0, none⟩) 2 2] ++ vs.drop k) (l.take k ++ [(a, b)] ++ l.drop k) :=
            ((((HSV.out.take k).below hb3).more hb3.size).app (SV.one hp3 (by omega))).app (((HSV.out.drop k).below hb3).more hb3.size)
          have hll : (insE (a, b) l).length = l.length + 1 := by rw [HNEW.out]; simp; omega
          have ho3 : w3.ownsRow w.heap.size 45 1 v3 (l.length + 1) (vs.take k ++ [.slice (some ⟨w1.heap.size, 0, none⟩) 2 2] ++ vs.drop k) := by rw [show l.length + 1 = k + 1 + 0 by (have := HE.out; omega)]; simpa using ho3
          rcases ho3.2 with ⟨_, h0⟩ | ⟨g3, cap3, cur, hv3, _, _, hc3, hm3, _⟩
          · omega
          · subst hv3
            refine ⟨_, rfl, ⟨g3, 0, cap3, _, by rw [hll], by omega, hm3, Row.of_own (f := id) (xs := vs.take k ++ [.slice (some ⟨w1.heap.size, 0, none⟩) 2 2] ++ vs.drop k) (by simpa using ho3), ?_⟩, hb3⟩
            rw [HNEW.out]
            simpa using hsv)
        clear ho3 hg3 hn3 HO2 HP2 HRW2
        go_wp2_with fail
        go_ret
        exact HFIN.out
      · clear HLT
        go_wp2_with (at_builtin; refine wpList_appM (w.alloc (.cells #[] 45)) rfl _ _ 23 rfl w.heap.size 45 nilS 24 Tryz.underlying23 infoSS rfl _ 0 [] (by rfl) HO0.out g off k c w.heap.size (vs.take k) (by rfl) (by simp; have := HVL.out; omega) (HRW0.out.takeR) (fun u hu => HSV.out.one' u (List.mem_of_mem_take hu)) (by unfold maxLen; omega) (by omega) (by simp) ?_)
        intro v1 w1 ho1 hg1 hn1
        have hb1 : Below w.heap.size w w1 := (HB0.out).grown hg1 (by simp) (own_block HO0.out)
        have HO1 : Hid ((w1.alloc (.cells #[.int .i64 a, .int .i64 b] 3)).ownsRow w.heap.size 45 1 v1 k (vs.take k)) := Lib.hid (by simpa using ho1.alloc (.cells #[.int .i64 a, .int .i64 b] 3))
        have HB1 := Lib.hid (hb1.alloc hb1.size (.cells #[.int .i64 a, .int .i64 b] 3))
        have HP1 : Hid (Mbox (w1.alloc (.cells #[.int .i64 a, .int .i64 b] 3)) w1.heap.size ((pr (a, b)).map I64)) := Lib.hid (Mbox.new w1 #[.int .i64 a, .int .i64 b] 3)
        have hwl1 := hb1.size
        have HNB : Hid (∀ q, v1.ownBlock = some q → q ≠ w1.heap.size) := Lib.hid fun q hq => by have := (ho1.lt q hq).2; omega
        clear ho1 hg1 hb1 hn1 HO0 HB0
        go_wp2_with (at_builtin; refine wpList_app1_at _ rfl _ _ 23 rfl w.heap.size 45 nilS 24 Tryz.underlying23 infoSS rfl _ _ _ (by rfl) (HO1.out.alloc (.cells #[.slice (some ⟨w1.heap.size, 0, none⟩) 2 2] 45)) (w1.heap.size + 1) (.slice (some ⟨w1.heap.size, 0, none⟩) 2 2) (by rfl) (by simp) (by rfl) (by unfold maxLen; omega) (by omega) (by simp; omega) ?_)
        intro v2 w2 ho2 hg2 hat2
        have HB2 := Lib.hid (below_own (HB1.out.alloc HB1.out.size (.cells #[.slice (some ⟨w1.heap.size, 0, none⟩) 2 2] 45)) hg2 (by simp; omega) (fun q hq => own_block HO1.out q hq))
        have HP2 := Lib.hid ((HP1.out.alloc (.cells #[.slice (some ⟨w1.heap.size, 0, none⟩) 2 2] 45)).keep (w' := w2) fun hl => hg2.block _ hl (fun e => HNB.out _ e.symm rfl))
        have HNB2 : Hid (∀ q, v2.ownBlock = some q → q ≠ w1.heap.size) := Lib.hid fun q hq => by
          rcases hat2 with h | h
          · rw [h] at hq; exact HNB.out q hq
          · rw [h] at hq; simp at hq; omega
        have HO2 := Lib.hid ho2
        have hwl2 : w1.heap.size + 2 ≤ w2.heap.size := by have := hg2.size; simpa using this
        have HRW2 := Lib.hid (HRW.out.below HB2.out)
        clear ho2 hg2 hat2 HO1 HB1 HP1 HNB
        go_wp2_with (at_builtin; refine wpList_appM _ rfl _ _ 23 rfl w.heap.size 45 nilS 24 Tryz.underlying23 infoSS rfl _ _ _ (by rfl) HO2.out g (off + k) (l.length - k) (c - k) w.heap.size (vs.drop k) (by first | rfl | simp | (simp; omega)) (by simp; have := HVL.out; omega) (fun h0 => by simp at h0; have := HVL.out; omega) (fun u hu => HSV.out.one' u (List.mem_of_mem_drop hu)) (by unfold maxLen; omega) (by omega) (by have := HB2.out.size; omega) ?_)
        intro v3 w3 ho3 hg3 hn3
        have HFIN : Hid (PairsOut w (insE (a, b) l) (.returned v3) w3) := Lib.hid (by
          have hb3 := below_own HB2.out hg3 HB2.out.size (fun q hq => own_block HO2.out q hq)
          have hp3 := HP2.out.keep (w' := w3) fun hl => hg3.block _ hl (fun e => HNB2.out _ e.symm rfl)
          have hs3 := hg3.size
          have hsv : SV w3 w3.heap.size (vs.take k ++ [.slice (some ⟨w1.heap.size, 0, none⟩) 2 2] ++ vs.drop k) (l.take k ++ [(a, b)] ++ l.drop k) :=
            ((((HSV.out.take k).below hb3).more hb3.size).app (SV.one hp3 (by omega))).app (((HSV.out.drop k).below hb3).more hb3.size)
          have hll : (insE (a, b) l).length = l.length + 1 := by rw [HNEW.out]; simp; omega
          have ho3 : w3.ownsRow w.heap.size 45 1 v3 (l.length + 1) (vs.take k ++ [.slice (some ⟨w1.heap.size, 0, none⟩) 2 2] ++ vs.drop k) := by rw [show l.length + 1 = k + 1 + (l.length - k) by omega]; simpa using ho3
          rcases ho3.2 with ⟨_, h0⟩ | ⟨g3, cap3, cur, hv3, _, _, hc3, hm3, _⟩
          · omega
          · subst hv3
            refine ⟨_, rfl, ⟨g3, 0, cap3, _, by rw [hll], by omega, hm3, Row.of_own (f := id) (xs := vs.take k ++ [.slice (some ⟨w1.heap.size, 0, none⟩) 2 2] ++ vs.drop k) (by simpa using ho3), ?_⟩, hb3⟩
            rw [HNEW.out]
            simpa using hsv)
        clear ho3 hg3 hn3 HO2 HP2 HRW2
        go_wp2_with fail
        go_ret
        exact HFIN.out


end Go.Proofs.YtdefhepagpgnaaaGreat
