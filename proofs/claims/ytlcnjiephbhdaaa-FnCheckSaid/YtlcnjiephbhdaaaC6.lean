/- Merged texts: Sq Sr St. -/
import Derived.Test.YtlcnjiephbhdaaaProg
import Derived.Test.YtlcnjiephbhdaaaC0
import Derived.Test.YtlcnjiephbhdaaaC1
import Derived.Test.YtlcnjiephbhdaaaC2
import Derived.Test.YtlcnjiephbhdaaaC3
import Derived.Test.YtlcnjiephbhdaaaC5
import Derived.Test.YtlcnjiephbhdaaaC4
import Derived.WalkKit
import Derived.WalkSpells
import Derived.WalkLawsBesides
import Derived.Lib.Hide
import Derived.Deep.RegionHeld3
import Derived.Deep.QuietTactic
import Derived.BigQuiet
import Derived.Handy
import Derived.Deep.DeepCutAuto
import Derived.OwnWalk
import Derived.Shelf.Abstract
import Derived.Maps.RangeWalk
import Derived.Maps.Ext
import Derived.Maps.OwnOps
import Derived.Maps.Views
import Derived.Maps.Keyed
import Derived.StringKeys
import Derived.OpenShut
namespace Go.Proofs.Ytlcnjiephbhdaaa
section
open Go.RowKit Go.Shelf Go.Maps

abbrev BoolU : Bool → Value := Value.bool
/-- a map's element read as the value that it is -/
def rawU (v : Value) : Option (DataW Value × List MemPlace) := some (.held v, [])
theorem rawU_inv {v : Value} {z : DataW Value × List MemPlace} (h : rawU v = some z) : z = (.held v, []) := by unfold rawU at h; injection h with h; exact h.symm
def keyU (s : ByteArray) : Lit := .string s.data.toList
theorem keyU_inj {s u : ByteArray} (h : keyU s = keyU u) : s = u := by
  unfold keyU at h
  injection h with h
  cases s
  cases u
  congr 1
  exact Array.toList_inj.1 h
/-- block b is a map that tells of each name what f tells -/
def NmMap (w : World) (b n : Nat) (f : ByteArray → Bool) : Prop :=
  ∃ D : DataW Value, w.ownsMap Try.prog 9 rawU b n D ∧ IsMap D ∧ ∀ s : ByteArray, s.size ≤ maxLen → D.atKey (keyU s) (.held (.bool false)) = .held (.bool (f s))
theorem NmMap.made (w : World) : NmMap (w.alloc (.map #[] 0)) w.heap.size 0 (fun _ => false) :=
  ⟨.map [], World.ownsMap_made _ _ _ _, isMap_empty, fun _ _ => rfl⟩
theorem NmMap.kept {w w' : World} {row : Option Nat} {b n : Nat} {f : ByteArray → Bool} (h : NmMap w b n f) (hg : w.grownBy w' row) (hne : some b ≠ row) : NmMap w' b n f := by
  obtain ⟨D, h1, h2⟩ := h
  exact ⟨D, h1.kept hg hne, h2⟩
theorem NmMap.later {w w' : World} {b n : Nat} {f : ByteArray → Bool} (h : NmMap w b n f) (hb : Below w.heap.size w w') : NmMap w' b n f := h.kept (gb_of_below hb (row := none)) (by simp)
theorem NmMap.lt {w : World} {b n : Nat} {f : ByteArray → Bool} (h : NmMap w b n f) : b < w.heap.size := by
  obtain ⟨D, h1, _⟩ := h
  exact h1.lt
theorem NmMap.look {w : World} {b n : Nat} {f : ByteArray → Bool} (h : NmMap w b n f) (s : ByteArray) (hs : s.size ≤ maxLen) :
    (Instr.lookup 70 (.map (some b)) (.string s) false).run Try.prog w = .ok (.bool (f s)) w := by
  obtain ⟨D, h1, _, h3⟩ := h
  obtain ⟨v, ps, hr, hv⟩ := h1.lookup (Maps.string_keyed Try.underlying9) Try.underlying70 (z := .bool false) (by kernel_rfl) (zd := .held (.bool false)) rfl (WideMaps.keyOf_string_mk Try.underlying9 hs)
  have h4 := h3 s hs
  unfold keyU at h4
  rw [h4] at hv
  have h5 := rawU_inv hv
  simp only [Prod.mk.injEq, DataW.held.injEq] at h5
  rw [hr, ← h5.1]
theorem NmMap.put {w : World} {b n : Nat} {f : ByteArray → Bool} (h : NmMap w b n f) (hn : n < maxLen) (s : ByteArray) (hs : s.size ≤ maxLen) (x : Bool) :
    ∃ w', (Instr.mapUpdate 70 (.map (some b)) (.string s) (.bool x)).run Try.prog w = .ok () w' ∧ NmMap w' b (n + 1) (fun u => if u = s then x else f u) ∧ w.grownBy w' (some b) := by
  obtain ⟨D, h1, h2, h3⟩ := h
  obtain ⟨w', hr, ho, hg⟩ := h1.update (Maps.string_keyed Try.underlying9) Try.underlying70 hn (val := .bool x) (WideMaps.keyOf_string_mk Try.underlying9 hs) (d := .held (.bool x)) (ps := []) rfl
  refine ⟨w', hr, ⟨_, ho, h2.put _ _, fun u hu => ?_⟩, hg⟩
  by_cases c : u = s
  · subst c
    show (D.put (keyU u) _).atKey (keyU u) _ = _
    rw [atKey_put_same h2 (by unfold keyU; trivial)]
    simp
  · show (D.put (keyU s) _).atKey (keyU u) _ = _
    rw [atKey_put_other (fun h => c (keyU_inj h)), h3 u hu]
    simp [c]
/-- what isUniformOver answers -/
def uOver (v0 : Int) (v1 : ByteArray) (v3 : List Int) (us : List Bool) (f : ByteArray → Bool) : Bool :=
  if v0 = 2 then f v1 else if v0 = 8 ∧ v1 = ⟨#[116, 101, 120]⟩ then false else v3.all fun a => us.getD a.toNat false

set_option maxRecDepth 100000 in
set_option maxHeartbeats 8000000 in
theorem over_any (v0 : Int) (v1 : ByteArray) (a : Option Addr) (ca : Nat) (v3 : List Int) (AU : Option Addr) (cu : Nat) (us : List Bool) (bm nm : Nat) (f : ByteArray → Bool) (w : World)
    (hsz : v1.size ≤ maxLen) (h0 : v0 = 1 → v3 = []) (h3 : v3.length ≤ 1048576) (hin : ∀ x ∈ v3, 0 ≤ x ∧ x.toNat < us.length) (hR : Row I64 w w.heap.size a v3) (hW : Row BoolU w w.heap.size AU us) (hM : NmMap w bm nm f) :
    Calls Try.prog 36 #[exV v0 v1 (.slice a v3.length ca), .slice AU us.length cu, .map (some bm)] w fun e w' => e = .returned (.bool (uOver v0 v1 v3 us f)) ∧ Below w.heap.size w w' := by
  by_cases h2 : v0 = 2
  · subst h2
    have hX : exV 2 v1 (.slice a v3.length ca) = .iface 89 (.agg #[.string v1]) := by simp [exV]
    have HV : Hid (uOver 2 v1 v3 us f = f v1) := Lib.hid (by simp [uOver])
    rw [hX]
    have ta := is_var v1
    have hb : Below w.heap.size w (w.alloc (.cells #[.string v1] 89)) := by go_grown
    have M := Mbox.new w #[.string v1] 89
    have hlk := (hM.later hb).look v1 hsz
    obtain ⟨W1, hW1⟩ : ∃ W, W = w.alloc (.cells #[.string v1] 89) := ⟨_, rfl⟩
    rw [← hW1] at M hb hlk
    have HB := Lib.hid hb
    obtain ⟨q, hq⟩ : ∃ q, q = f v1 := ⟨_, rfl⟩
    rw [← hq] at hlk HV
    have m0 := M.c 0
    clear hX hb M hR hW hM hq hin
    go_enter Try.func36, Try.ntmps36
    go_upto_region 4 with fail
    rw [← hW1]
    clear hW1
    go_wp2_with fail
    go_ret
    exact ⟨by rw [HV.out]; rfl, HB.out⟩
  by_cases h8 : v0 = 8
  · subst h8
    have hX : exV 8 v1 (.slice a v3.length ca) = .iface 93 (.agg #[.slice a v3.length ca, .string v1]) := by simp [exV]
    rw [hX]
    have ta := not_var 93 (.agg #[.slice a v3.length ca, .string v1]) (by decide)
    have tb := is_call a v3.length ca v1
    have hb : Below w.heap.size w (w.alloc (.cells #[.slice a v3.length ca, .string v1] 93)) := by go_grown
    have M := Mbox.new w #[.slice a v3.length ca, .string v1] 93
    have hR1 := hR.later hb
    have hW1' := hW.later hb
    obtain ⟨W1, hW1⟩ : ∃ W, W = w.alloc (.cells #[.slice a v3.length ca, .string v1] 93) := ⟨_, rfl⟩
    rw [← hW1] at M hb hR1 hW1'
    have HB1 := Lib.hid hb
    have HRO1 := Lib.hid hR1
    have HRW1 := Lib.hid hW1'
    have HIN := Lib.hid hin
    have m1 := M.c 1
    clear hX hb M hR hW hM hR1 hW1' hin
    by_cases hx : v1 = ⟨#[116, 101, 120]⟩
    · have bx : (v1.toList == [116, 101, 120]) = true := by rw [str_isQ]; exact decide_eq_true hx
      have HV : Hid (uOver 8 v1 v3 us f = false) := Lib.hid (by unfold uOver; rw [if_neg (by omega), if_pos ⟨rfl, hx⟩])
      clear hx
      go_enter Try.func36, Try.ntmps36
      go_upto_region 7 with fail
      rw [← hW1]
      clear hW1
      go_wp2_with fail
      go_ret
      exact ⟨by rw [HV.out]; rfl, HB1.out⟩
    · have bx : (v1.toList == [116, 101, 120]) = false := str_nots hx
      have HUO : Hid (uOver 8 v1 v3 us f = v3.all fun a => us.getD a.toNat false) := Lib.hid (by unfold uOver; rw [if_neg (by omega), if_neg (fun h => hx h.2)])
      obtain ⟨v0, hv0⟩ : ∃ v0 : Int, v0 = 8 := ⟨_, rfl⟩
      rw [← hv0] at HUO ⊢
      clear hx hv0
      go_enter Try.func36, Try.ntmps36
      go_upto_region 7 with fail
      rw [← hW1]
      clear hW1
      go_wp2_with fail
      refine (oops_any a v3.length ca W1).mono ?_
      rintro e w1 ⟨rfl, hb1⟩
      have HB := Lib.hid (HB1.out.trans (hb1.mono HB1.out.size))
      have HRO := Lib.hid (HRO1.out.later hb1)
      have HRW := Lib.hid (HRW1.out.later hb1)
      clear hb1 m1
      go_wp2_with fail
      go_loopw [28] (fun i wr => ∃ k : Nat, k ≤ v3.length ∧ i = .int .i64 k ∧ wr = w1 ∧ ∀ j (h : j < v3.length), j < k → us.getD (v3[j]).toNat false = true) (fun i _ => v3.length - (intOf i).toNat)
      case atStart => exact ⟨0, Nat.zero_le _, rfl, rfl, fun j _ h => by omega⟩
      case round =>
        obtain ⟨k, hk, rfl, rfl, hno⟩ := hrel
        have HNO := Lib.hid hno
        clear hno
        by_cases hlt : k < v3.length
        · obtain ⟨b, o, rfl, _, hc⟩ := HRO.out.at hlt
          have hin := HIN.out _ (List.getElem_mem hlt)
          obtain ⟨m, hm⟩ : ∃ m : Nat, v3[k] = (m : Int) := ⟨(v3[k]).toNat, by omega⟩
          have e2 : ((m : Int)).toNat = m := by omega
          rw [hm] at hc hin
          rw [e2] at hin
          have hmu : m < us.length := hin.2
          obtain ⟨b2, o2, rfl, _, hd⟩ := HRW.out.at hmu
          obtain ⟨u, hu⟩ : ∃ u, u = us[m] := ⟨_, rfl⟩
          rw [← hu] at hd
          have HU : Hid (us.getD (v3[k]).toNat false = u) := Lib.hid (by rw [hm, e2, getD_at hmu]; exact hu.symm)
          have hlt' : (k : Int) < (v3.length : Int) := by omega
          have hge' : (0 : Int) ≤ (k : Int) := by omega
          have hmlt : (m : Int) < (us.length : Int) := by omega
          have hmge : (0 : Int) ≤ (m : Int) := by omega
          clear hm hin e2 hu hmu
          cases u with
          | false =>
            have HV : Hid (uOver v0 v1 v3 us f = false) := Lib.hid (by
              rw [HUO.out, List.all_eq_false]
              exact ⟨v3[k], List.getElem_mem hlt, by rw [HU.out]; simp⟩)
            go_wp2_with fail
            go_ret
            exact ⟨by rw [HV.out]; rfl, HB.out⟩
          | true =>
            have HN2 : Hid (∀ j (h : j < v3.length), j < k + 1 → us.getD (v3[j]).toNat false = true) := Lib.hid (fun j h hj => by
              by_cases e : j = k
              · subst e
                exact HU.out
              · exact HNO.out j h (by omega))
            go_wp2_with fail
            go_roundw
            case rel => exact ⟨k + 1, by omega, by go_num, by first | rfl | trivial, HN2.out⟩
            case measure => simp [intOf]; omega
        · obtain rfl : k = v3.length := by omega
          have HV : Hid (uOver v0 v1 v3 us f = true) := Lib.hid (by
            rw [HUO.out, List.all_eq_true]
            intro a ha
            obtain ⟨j, hj, rfl⟩ := List.getElem_of_mem ha
            exact HNO.out j hj hj)
          have hge2 : ¬ ((v3.length : Nat) : Int) < ((v3.length : Nat) : Int) := by omega
          go_wp2_with fail
          go_ret
          exact ⟨by rw [HV.out]; rfl, HB.out⟩
  · have HUO : Hid (uOver v0 v1 v3 us f = v3.all fun a => us.getD a.toNat false) := Lib.hid (by unfold uOver; rw [if_neg h2, if_neg (fun h => h8 h.1)])
    by_cases h1 : v0 = 1
    · have hX : exV v0 v1 (.slice a v3.length ca) = .iface 95 (.agg #[]) := by simp [exV, h1]
      rw [hX]
      have ta := not_var 95 (.agg #[]) (by decide)
      have tb := not_call 95 (.agg #[]) (by decide)
      have HV : Hid (uOver v0 v1 v3 us f = true) := Lib.hid (by rw [HUO.out, h0 h1]; rfl)
      clear hX h2 h8 h1 h0 hR hW hM hin
      go_enter Try.func36, Try.ntmps36
      go_wp2_with fail
      refine (cops_any w).mono ?_
      rintro e w1 ⟨rfl, hb1⟩
      have HB := Lib.hid hb1
      clear hb1
      go_wp2_with fail
      go_loopw [28] (fun i wr => i = .int .i64 0 ∧ wr = w1) (fun i _ => 0)
      case atStart => exact ⟨rfl, rfl⟩
      case round =>
        obtain ⟨rfl, rfl⟩ := hrel
        go_wp2_with fail
        go_ret
        exact ⟨by rw [HV.out]; rfl, HB.out⟩
    · have hX : exV v0 v1 (.slice a v3.length ca) = .iface 91 (.agg #[.slice a v3.length ca]) := by simp [exV, h1, h2, h8]
      rw [hX]
      have ta := not_var 91 (.agg #[.slice a v3.length ca]) (by decide)
      have tb := not_call 91 (.agg #[.slice a v3.length ca]) (by decide)
      have HRO1 := Lib.hid hR
      have HRW1 := Lib.hid hW
      have HIN := Lib.hid hin
      clear hX h2 h8 h1 h0 hR hW hM hin
      go_enter Try.func36, Try.ntmps36
      go_wp2_with fail
      refine (oops_any a v3.length ca w).mono ?_
      rintro e w1 ⟨rfl, hb1⟩
      have HB := Lib.hid hb1
      have HRO := Lib.hid (HRO1.out.later hb1)
      have HRW := Lib.hid (HRW1.out.later hb1)
      clear hb1
      go_wp2_with fail
      go_loopw [28] (fun i wr => ∃ k : Nat, k ≤ v3.length ∧ i = .int .i64 k ∧ wr = w1 ∧ ∀ j (h : j < v3.length), j < k → us.getD (v3[j]).toNat false = true) (fun i _ => v3.length - (intOf i).toNat)
      case atStart => exact ⟨0, Nat.zero_le _, rfl, rfl, fun j _ h => by omega⟩
      case round =>
        obtain ⟨k, hk, rfl, rfl, hno⟩ := hrel
        have HNO := Lib.hid hno
        clear hno
        by_cases hlt : k < v3.length
        · obtain ⟨b, o, rfl, _, hc⟩ := HRO.out.at hlt
          have hin := HIN.out _ (List.getElem_mem hlt)
          obtain ⟨m, hm⟩ : ∃ m : Nat, v3[k] = (m : Int) := ⟨(v3[k]).toNat, by omega⟩
          have e2 : ((m : Int)).toNat = m := by omega
          rw [hm] at hc hin
          rw [e2] at hin
          have hmu : m < us.length := hin.2
          obtain ⟨b2, o2, rfl, _, hd⟩ := HRW.out.at hmu
          obtain ⟨u, hu⟩ : ∃ u, u = us[m] := ⟨_, rfl⟩
          rw [← hu] at hd
          have HU : Hid (us.getD (v3[k]).toNat false = u) := Lib.hid (by rw [hm, e2, getD_at hmu]; exact hu.symm)
          have hlt' : (k : Int) < (v3.length : Int) := by omega
          have hge' : (0 : Int) ≤ (k : Int) := by omega
          have hmlt : (m : Int) < (us.length : Int) := by omega
          have hmge : (0 : Int) ≤ (m : Int) := by omega
          clear hm hin e2 hu hmu
          cases u with
          | false =>
            have HV : Hid (uOver v0 v1 v3 us f = false) := Lib.hid (by
              rw [HUO.out, List.all_eq_false]
              exact ⟨v3[k], List.getElem_mem hlt, by rw [HU.out]; simp⟩)
            go_wp2_with fail
            go_ret
            exact ⟨by rw [HV.out]; rfl, HB.out⟩
          | true =>
            have HN2 : Hid (∀ j (h : j < v3.length), j < k + 1 → us.getD (v3[j]).toNat false = true) := Lib.hid (fun j h hj => by
              by_cases e : j = k
              · subst e
                exact HU.out
              · exact HNO.out j h (by omega))
            go_wp2_with fail
            go_roundw
            case rel => exact ⟨k + 1, by omega, by go_num, by first | rfl | trivial, HN2.out⟩
            case measure => simp [intOf]; omega
        · obtain rfl : k = v3.length := by omega
          have HV : Hid (uOver v0 v1 v3 us f = true) := Lib.hid (by
            rw [HUO.out, List.all_eq_true]
            intro a ha
            obtain ⟨j, hj, rfl⟩ := List.getElem_of_mem ha
            exact HNO.out j hj hj)
          have hge2 : ¬ ((v3.length : Nat) : Int) < ((v3.length : Nat) : Int) := by omega
          go_wp2_with fail
          go_ret
          exact ⟨by rw [HV.out]; rfl, HB.out⟩
end

section
open Go.RowKit Go.Shelf Go.Maps

def tN : ByteArray := ⟨#[116]⟩
/-- what the map of names tells when k assignments are done -/
def fK (xs : List Nd) (ys : List As) : Nat → ByteArray → Bool
  | 0, s => if s = tN then true else false
  | k + 1, s => if s = (ys.getD k (⟨#[]⟩, 0)).1 then uV xs ys (ys.getD k (⟨#[]⟩, 0)).2.toNat else fK xs ys k s
section
variable {xs : List Nd} {ys : List As}
theorem fK_asg (s : ByteArray) (K : Nat) : ∀ k, k ≤ K → k ≤ ys.length → fK xs ys k s = if 0 ≤ asgF ys s (K : Int) k then uV xs ys (ys.getD (asgF ys s (K : Int) k).toNat (⟨#[]⟩, 0)).2.toNat else (if s = tN then true else false) := by
  intro k
  induction k with
  | zero => intro _ _; simp [fK, asgF]
  | succ k ih =>
    intro hK hk
    by_cases he : (ys.getD k (⟨#[]⟩, 0)).1 = s
    · have ea : asgF ys s (K : Int) (k + 1) = (k : Int) := by rw [asgF, if_pos ⟨by omega, he⟩]
      rw [ea, if_pos (by omega), fK, if_pos he.symm]
      rfl
    · have ea : asgF ys s (K : Int) (k + 1) = asgF ys s (K : Int) k := by rw [asgF, if_neg (fun h => he h.2)]
      rw [ea, fK, if_neg (fun h => he h.symm), ih (by omega) (by omega)]
theorem asgF_cut (s : ByteArray) (k : Nat) : ∀ n, k ≤ n → asgF ys s (k : Int) n = asgF ys s (k : Int) k := by
  intro n
  induction n with
  | zero => intro h; rw [show k = 0 by omega]
  | succ n ih =>
    intro h
    by_cases e : k = n + 1
    · rw [e]
    · conv => lhs; unfold asgF
      rw [if_neg (fun c => by have := c.1; omega), ih (by omega)]
theorem fK_eq (s : ByteArray) {k : Nat} (hk : k ≤ ys.length) : fK xs ys k s = if 0 ≤ asgd ys s (k : Int) then uV xs ys (ys.getD (asgd ys s (k : Int)).toNat (⟨#[]⟩, 0)).2.toNat else (if s = tN then true else false) := by
  rw [fK_asg s k k (Nat.le_refl _) hk]
  unfold asgd
  rw [asgF_cut s k ys.length hk]
theorem asgd_var (hS : ∀ k, k < ys.length → badS ys k = false) {s : ByteArray} (hv : varB s = true) (b : Int) : ¬ 0 ≤ asgd ys s b := fun h => by
  obtain ⟨i, hi, _, _, _, he⟩ := asgF_in _ (Nat.le_refl _) h
  have h2 := hS i hi
  unfold badS at h2
  rw [getD_at hi, he, hv] at h2
  simp at h2
theorem uOver_eq (h : okPr xs ys) (hb : ∀ i, i < xs.length → badN xs ys i = false) (hS : ∀ k, k < ys.length → badS ys k = false) {i k : Nat} (hi : i < xs.length) (ho : ownV xs ys i = (k : Int)) (hk : k ≤ ys.length) :
    uOver (ndA xs i).1 (ndA xs i).2.1 (ndA xs i).2.2.2 (outL xs ys k i) (fK xs ys k) = uV xs ys i := by
  rw [uV_step h hb hi]
  unfold uOver
  by_cases h2 : (ndA xs i).1 = 2
  · rw [if_pos h2, if_pos h2, fK_eq _ hk]
    by_cases et : (ndA xs i).2.1 = tN
    · have et' : (ndA xs i).2.1 = ⟨#[116]⟩ := et
      rw [if_neg (asgd_var hS (by rw [et]; rfl) _), if_pos et, if_pos et']
    · rw [if_neg et]
      have et' : ¬ (ndA xs i).2.1 = ⟨#[116]⟩ := et
      rw [if_neg et']
      cases hv : varB (ndA xs i).2.1 with
      | true => rw [if_neg (asgd_var hS hv _)]; rfl
      | false =>
        obtain ⟨q, hq, hqa, _⟩ := ref_before h hb hi h2 hv
        rw [ho] at hqa
        rw [ho, hqa, if_pos (by omega)]
        rfl
  · rw [if_neg h2, if_neg h2]
    split
    · rfl
    · have hn : ndA xs i = xs[i] := by unfold ndA; rw [getD_at hi]
      have hall : ∀ a ∈ (ndA xs i).2.2.2, (outL xs ys k i).getD a.toNat false = uV xs ys a.toNat := fun a ha => by
        rw [hn] at ha
        have hin := arg_in h hi ha
        have hov := ownV_arg h hi ha
        have hl : a.toNat < (outL xs ys k i).length := by rw [outL_len]; omega
        rw [getD_at hl, outL_at]
        unfold visB
        rw [hov, ho, decide_eq_true hin.2]
        simp
      rw [Bool.eq_iff_iff, List.all_eq_true, List.all_eq_true]
      exact ⟨fun hh a ha => by rw [← hall a ha]; exact hh a ha, fun hh a ha => by rw [hall a ha]; exact hh a ha⟩
end
theorem NmMap.congr {w : World} {b n : Nat} {f g : ByteArray → Bool} (h : NmMap w b n f) (e : f = g) : NmMap w b n g := e ▸ h
theorem uniP_yes {xs : List Nd} {ys : List As} (h : chkP xs ys = (0, 0)) {n : Nat} (hn : n < xs.length) : uniP xs ys (n : Int) = uV xs ys n := by
  unfold uniP
  rw [if_pos ⟨h, by omega, by omega⟩]
  rfl

set_option maxRecDepth 100000 in
set_option maxHeartbeats 4000000 in
theorem uniNo_any (A A' : Option Addr) (c c' : Nat) (xs : List Nd) (ys : List As) (w : World) (hR : ProgIn w w.heap.size A A' xs ys) (hl : xs.length ≤ 1048576) (hl2 : ys.length ≤ 1048576) (hz : ys.length + (argsL xs).length ≤ 1099511627776) (hx : ∀ x ∈ xs, x.2.1.size ≤ 1048576 ∧ x.2.2.2.length ≤ 1048576) (hy : ∀ y ∈ ys, y.1.size ≤ 1048576) (h0 : chkP xs ys ≠ (0, 0)) :
    Calls Try.prog 21 #[pgv A A' xs.length c ys.length c'] w fun e w' => e = .returned (.slice none 0 0) ∧ Below w.heap.size w w' := by
  have hck := fun W (h : ProgIn W W.heap.size A A' xs ys) => check_any A A' c c' xs ys W h hl hl2 hz hx hy
  obtain ⟨q, hq⟩ : ∃ q, q = (chkP xs ys).1 := ⟨_, rfl⟩
  have hq0 : (q != 0) = true := by
    rw [bne_iff_ne]
    intro e
    exact h0 (chk_zero (by rw [← hq]; exact e))
  rw [← hq] at hck
  have HCK := Lib.hid hck
  clear hz hx hy hck h0 hq
  obtain ⟨W1, hW1⟩ : ∃ W, W = w.alloc (.cells #[.slice A xs.length c, .slice A' ys.length c'] 26) := ⟨_, rfl⟩
  have M := Mbox.new w #[.slice A xs.length c, .slice A' ys.length c'] 26
  have hB : Below w.heap.size w (w.alloc (.cells #[.slice A xs.length c, .slice A' ys.length c'] 26)) := by go_grown
  have hR1 := (hR.alloc (Nat.le_refl _) (.cells #[.slice A xs.length c, .slice A' ys.length c'] 26)).more (B' := (w.alloc (.cells #[.slice A xs.length c, .slice A' ys.length c'] 26)).heap.size) (by simp)
  rw [← hW1] at M hB hR1
  have HM := Lib.hid M
  have HB := Lib.hid hB
  have HR := Lib.hid hR1
  clear M hB hR hR1
  go_enter Try.func21, Try.ntmps21
  go_upto_region 1 with fail
  rw [← hW1]
  clear hW1
  have m0 := HM.out.c 0
  have m1 := HM.out.c 1
  go_wp2_with fail
  refine (HCK.out _ HR.out).mono ?_
  rintro e w2 ⟨rfl, hb2⟩
  have HB2 := Lib.hid (HB.out.trans (hb2.mono HB.out.size))
  clear hb2 m0 m1
  go_wp2_with fail
  go_ret
  exact ⟨rfl, HB2.out⟩
set_option maxRecDepth 100000 in
set_option maxHeartbeats 16000000 in
theorem uniYes_any (A A' : Option Addr) (c c' : Nat) (xs : List Nd) (ys : List As) (w : World) (hR : ProgIn w w.heap.size A A' xs ys) (hl : xs.length ≤ 1048576) (hl2 : ys.length ≤ 1048576) (hz : ys.length + (argsL xs).length ≤ 1099511627776) (hx : ∀ x ∈ xs, x.2.1.size ≤ 1048576 ∧ x.2.2.2.length ≤ 1048576) (hy : ∀ y ∈ ys, y.1.size ≤ 1048576) (h0 : chkP xs ys = (0, 0)) :
    Calls Try.prog 21 #[pgv A A' xs.length c ys.length c'] w (UniOut xs ys w) := by
  have hck := fun W (h : ProgIn W W.heap.size A A' xs ys) => check_any A A' c c' xs ys W h hl hl2 hz hx hy
  rw [h0] at hck
  have HCK := Lib.hid hck
  have HXS := Lib.hid (fun x (h : x ∈ xs) => (And.intro (hx x h).1 (hx x h).2))
  have HYS := Lib.hid hy
  obtain ⟨i0, hi0, hz0, hz1, hz2⟩ := info_parts infoBoolU
  obtain ⟨hok, hbn, _, hbs, _⟩ := chk_ok h0
  have h60 : xs.length ≤ 60 := hok.1
  have hy60 : ys.length ≤ 60 := by have := okPr_len hok; omega
  have HOK := Lib.hid hok
  have HUO := Lib.hid (fun i k (hi : i < xs.length) ho hk => uOver_eq hok hbn hbs (i := i) (k := k) hi ho hk)
  clear hck hx hy hok hbn hbs h0 hz
  obtain ⟨W1, hW1⟩ : ∃ W, W = w.alloc (.cells #[.slice A xs.length c, .slice A' ys.length c'] 26) := ⟨_, rfl⟩
  have M := Mbox.new w #[.slice A xs.length c, .slice A' ys.length c'] 26
  have hB : Below w.heap.size w (w.alloc (.cells #[.slice A xs.length c, .slice A' ys.length c'] 26)) := by go_grown
  have hR1 := (hR.alloc (Nat.le_refl _) (.cells #[.slice A xs.length c, .slice A' ys.length c'] 26)).more (B' := (w.alloc (.cells #[.slice A xs.length c, .slice A' ys.length c'] 26)).heap.size) (by simp)
  rw [← hW1] at M hB hR1
  have HM := Lib.hid M
  have HB := Lib.hid hB
  have HR := Lib.hid hR1
  clear M hB hR hR1
  go_enter Try.func21, Try.ntmps21
  go_upto_region 1 with fail
  rw [← hW1]
  clear hW1
  have m0 := HM.out.c 0
  have m1 := HM.out.c 1
  go_wp2_with fail
  refine (HCK.out _ HR.out).mono ?_
  rintro e w2 ⟨rfl, hb2⟩
  have HM2 := Lib.hid (HM.out.later hb2)
  have HB2 := Lib.hid (HB.out.trans (hb2.mono HB.out.size))
  have HR2 := Lib.hid (HR.out.later hb2)
  clear hb2 m0 m1 HR HB HM
  have m0 := HM2.out.c 0
  have m1 := HM2.out.c 1
  obtain ⟨D0, hD0⟩ : ∃ D, D = w2.heap.size := ⟨_, rfl⟩
  have HDD := Lib.hid hD0
  clear hD0
  go_wp2_with (at_make; refine wpList_make_full _ rfl _ _ 51 rfl w2.heap.size 4 i0 (.bool false) 1 Try.underlying51 hi0 hz0 hz1 .i64 .i64 _ _ xs.length rfl rfl rfl rfl (by rw [hz2]; omega) (by unfold maxLen; omega) (by omega) ?_)
  intro w4 hown hgrow
  have hb4 : Below w2.heap.size w2 w4 := (Below.refl _ _).grown hgrow (Nat.le_refl _) (fun k h => by cases h)
  rw [← HDD.out] at hown hb4 ⊢
  have hown : w4.ownsRow D0 4 1 (.slice (some ⟨D0, 0, none⟩) xs.length xs.length) xs.length ((outL xs ys 0 0).map BoolU) := by
    rw [outL_0 HOK.out, List.map_replicate, ← made_one]; exact hown
  have hd4 : D0 < w4.heap.size := (hown.lt D0 (by rfl)).2
  obtain ⟨w5, hr5, hn5, hg5⟩ := (NmMap.made w4).put (show 0 < maxLen by unfold maxLen; omega) tN (by unfold maxLen; decide) true
  have hO5 := (hown.alloc (.map #[] 0)).kept hg5 (.inr (by simp only [Value.ownBlock]; intro e; injection e with e; omega))
  have hB5 : Below D0 w2 w5 := (hb4.alloc (Nat.le_of_lt hd4) (.map #[] 0)).grown hg5 (by simp; omega) (fun k e => by injection e with e; omega)
  have hs5 : w4.heap.size + 1 ≤ w5.heap.size := by have := hg5.size; simpa using this
  obtain ⟨bm, hbm⟩ : ∃ b, b = w4.heap.size := ⟨_, rfl⟩
  have HBM := Lib.hid hbm
  have hn5 := hn5.congr (show _ = fK xs ys 0 by funext u; rfl)
  rw [← hbm] at hn5
  have HN5 := Lib.hid hn5
  have HO5 := Lib.hid hO5
  have HB5 := Lib.hid hB5
  have hmm := @run_makeMap Try.prog
  have hr5 : (Instr.mapUpdate 70 (.map (some w4.heap.size)) (.string ⟨#[116]⟩) (.bool true)).run Try.prog (w4.alloc (.map #[] 0)) = .ok () w5 := hr5
  have HLT := Lib.hid (show D0 < bm ∧ bm < w5.heap.size by omega)
  have m0 := (HM2.out.later (by rw [← HDD.out]; exact hB5)).c 0
  have m1 := (HM2.out.later (by rw [← HDD.out]; exact hB5)).c 1
  clear hown hgrow hb4 hd4 hO5 hB5 hg5 hs5 hn5 hbm
  go_wp2_with fail
  have hb5' : Below w2.heap.size w2 w5 := by rw [← HDD.out]; exact HB5.out
  refine (ownersQ_any A A' c c' xs ys w5 (HR2.out.later hb5') HOK.out).mono ?_
  rintro e w6 ⟨A5, rfl, ho6, hb6⟩
  rw [← HBM.out]
  obtain ⟨O0, hO0⟩ : ∃ o, o = w5.heap.size := ⟨_, rfl⟩
  have hlt := HLT.out
  rw [← hO0] at ho6 hlt
  have hB6 : Below D0 w2 w6 := HB5.out.trans (hb6.mono (by omega))
  have HORD := Lib.hid hlt
  have HINI : Hid (w6.ownsRow D0 4 1 (.slice (some ⟨D0, 0, none⟩) xs.length xs.length) xs.length ((outL xs ys 0 0).map BoolU) ∧ NmMap w6 bm (0 + 1) (fK xs ys 0) ∧ w6.ownsRow O0 3 1 (.slice A5 xs.length xs.length) xs.length (((List.range xs.length).map (ownV xs ys)).map I64) ∧ Below D0 w2 w6) := Lib.hid ⟨own_keep' HO5.out hb6, HN5.out.later hb6, ho6, hB6⟩
  have m0 := (HM2.out.later (by rw [← HDD.out]; exact hB6)).c 0
  have m1 := (HM2.out.later (by rw [← HDD.out]; exact hB6)).c 1
  clear hmm hr5 hlt hO0 ho6 hb6 hB6 hb5' HN5 HO5 HB5 HLT HBM
  go_wp2_with fail
  go_loopw [30] (fun kv wr => ∃ k : Nat, k ≤ ys.length ∧ kv = .int .i64 k ∧ wr.ownsRow D0 4 1 (.slice (some ⟨D0, 0, none⟩) xs.length xs.length) xs.length ((outL xs ys k 0).map BoolU) ∧ NmMap wr bm (k + 1) (fK xs ys k) ∧ wr.ownsRow O0 3 1 (.slice A5 xs.length xs.length) xs.length (((List.range xs.length).map (ownV xs ys)).map I64) ∧ Below D0 w2 wr) (fun kv _ => ys.length - (intOf kv).toNat)
  case atStart => exact ⟨0, Nat.zero_le _, rfl, HINI.out⟩
  case round =>
    clear m0 m1 HINI
    obtain ⟨k, hk, rfl, hr0, hrm, hro, hb⟩ := hrel
    by_cases hlt : k < ys.length
    · have hlt' : (k : Int) < (ys.length : Int) := by omega
      have hge' : (0 : Int) ≤ (k : Int) := by omega
      have hb' : Below w2.heap.size w2 wr := by rw [← HDD.out]; exact hb
      obtain ⟨bq, oq, hAq, hbq, hcq⟩ := HR2.out.2.at hlt
      obtain ⟨q0, q1⟩ := asg_at hcq
      have q0 := (hb'.cell (p := ⟨bq, oq + k * 2, none⟩) hbq).trans q0
      have q1 := (hb'.cell (p := ⟨bq, oq + k * 2 + 1, none⟩) hbq).trans q1
      have hin := okPr_root HOK.out hlt
      have hrt := ownV_root HOK.out hlt
      have hns := HYS.out _ (List.getElem_mem hlt)
      obtain ⟨r, hr⟩ : ∃ r : Nat, (ys[k]).2 = (r : Int) := ⟨((ys[k]).2).toNat, by omega⟩
      obtain ⟨nm, hnm⟩ : ∃ s, s = (ys[k]).1 := ⟨_, rfl⟩
      have HGK : Hid (ys.getD k (⟨#[]⟩, 0) = (nm, (r : Int))) := Lib.hid (by rw [getD_at hlt, hnm, ← hr])
      rw [hr] at q1 hin hrt
      rw [← hnm] at q0 hns
      have e2 : ((r : Int)).toNat = r := by omega
      rw [e2] at hrt
      have HROW := Lib.hid (And.intro hrt (And.intro hns (show r < xs.length by omega)))
      have hm := HM2.out.later hb'
      have hb2 : Below wr.heap.size wr (wr.alloc (.cells #[.string nm, .int .i64 r] 33)) := by go_grown
      have M7 := Mbox.new wr #[.string nm, .int .i64 r] 33
      have hm7 := hm.later hb2
      have hd0 := (hr0.lt D0 (by rfl)).2
      have hbl := hrm.lt
      have hINI : (wr.alloc (.cells #[.string nm, .int .i64 r] 33)).ownsRow D0 4 1 (.slice (some ⟨D0, 0, none⟩) xs.length xs.length) xs.length ((outL xs ys k 0).map BoolU) ∧ NmMap (wr.alloc (.cells #[.string nm, .int .i64 r] 33)) bm (k + 1) (fK xs ys k) ∧ (wr.alloc (.cells #[.string nm, .int .i64 r] 33)).ownsRow O0 3 1 (.slice A5 xs.length xs.length) xs.length (((List.range xs.length).map (ownV xs ys)).map I64) ∧ Below D0 w2 (wr.alloc (.cells #[.string nm, .int .i64 r] 33)) := ⟨own_keep' hr0 hb2, hrm.later hb2, own_keep' hro hb2, hb.trans (hb2.mono (Nat.le_of_lt hd0))⟩
      rw [hAq]
      clear hr hnm hin hrt hns e2 hcq hbq hr0 hrm hro hb hm hb2 hb'
      go_upto_region 10 with fail
      obtain ⟨W7, hW7⟩ : ∃ W, W = wr.alloc (.cells #[.string nm, .int .i64 r] 33) := ⟨_, rfl⟩
      obtain ⟨g7, hg7⟩ : ∃ g, g = wr.heap.size := ⟨_, rfl⟩
      rw [← hW7] at M7 hm7 hINI ⊢
      rw [← hg7] at M7 hd0 hbl ⊢
      have HG7 := Lib.hid (And.intro hd0 hbl)
      have HINI := Lib.hid (And.intro hINI M7)
      have m0 := hm7.c 0
      have m1 := hm7.c 1
      clear hW7 hg7 hINI M7 hd0 hbl q0 q1 hm7
      go_wp2_with fail
      go_loopw [38] (fun iv wr => ∃ i : Nat, i ≤ xs.length ∧ iv = .int .i64 i ∧ (wr.ownsRow D0 4 1 (.slice (some ⟨D0, 0, none⟩) xs.length xs.length) xs.length ((outL xs ys k i).map BoolU) ∧ NmMap wr bm (k + 1) (fK xs ys k) ∧ wr.ownsRow O0 3 1 (.slice A5 xs.length xs.length) xs.length (((List.range xs.length).map (ownV xs ys)).map I64) ∧ Below D0 w2 wr) ∧ Mbox wr g7 [.string nm, .int .i64 r]) (fun iv _ => xs.length - (intOf iv).toNat)
      case atStart => exact ⟨0, Nat.zero_le _, rfl, HINI.out⟩
      case round =>
        clear m0 m1 HINI
        obtain ⟨i, hi', rfl, ⟨hr0, hrm, hro, hb⟩, hM7⟩ := hrel
        have hb' : Below w2.heap.size w2 wr := by rw [← HDD.out]; exact hb
        by_cases hi : i < xs.length
        · obtain ⟨bb, o, rfl, hbl, a, ca, c0, c1, c2, c3, hca1, hca2, hrow⟩ := HR2.out.1.at hi
          obtain ⟨b3, o3, rfl, hbl3, hz3⟩ := (Row.of_own (f := I64) (xs := (List.range xs.length).map (ownV xs ys)) hro).at (k := i) (by simp; omega)
          obtain ⟨z, hzz⟩ : ∃ z, z = ownV xs ys i := ⟨_, rfl⟩
          have hz : wr.cell? ⟨b3, o3 + i, none⟩ = some (.int .i64 z) := by rw [hzz]; simpa using hz3
          have HZZ := Lib.hid hzz
          have c0 := (hb'.cell (p := ⟨bb, o + i * 4, none⟩) hbl).trans c0
          have c1 := (hb'.cell (p := ⟨bb, o + i * 4 + 1, none⟩) hbl).trans c1
          have c2 := (hb'.cell (p := ⟨bb, o + i * 4 + 2, none⟩) hbl).trans c2
          have c3 := (hb'.cell (p := ⟨bb, o + i * 4 + 3, none⟩) hbl).trans c3
          have hrow := (hrow.below hb').more hb'.size
          have hl3 := HXS.out _ (List.getElem_mem hi)
          have hsh := (HOK.out.2.1 i hi).1
          have hV : ndA xs i = xs[i] := by unfold ndA; rw [getD_at hi]
          have hargs : ∀ x ∈ (xs[i]).2.2.2, 0 ≤ x ∧ x.toNat < (outL xs ys k i).length := fun x hx => by
            have := arg_in HOK.out hi hx
            rw [outL_len]
            omega
          have huo := fun ho => HUO.out i k hi ho hk
          rw [hV] at huo
          obtain ⟨v, hv⟩ : ∃ v, v = xs[i] := ⟨_, rfl⟩
          rw [← hv] at c0 c1 c2 c3 hl3 hrow hsh hargs huo
          obtain ⟨v0, v1, v2, v3⟩ := v
          unfold shapeN at hsh
          dsimp only at c0 c1 c2 c3 hl3 hrow hsh hargs huo
          have h10 : v0 = 1 → v3 = [] := fun e => List.eq_nil_of_length_eq_zero (by omega)
          have HARG := Lib.hid (And.intro h10 hargs)
          have HUV := Lib.hid huo
          have HL3 := Lib.hid hl3
          have hlt2 : (i : Int) < (xs.length : Int) := by omega
          have hge2 : (0 : Int) ≤ (i : Int) := by omega
          have hb2 : Below wr.heap.size wr (wr.alloc (.cells #[.int .i64 v0, .string v1, .int .i64 v2, .slice a v3.length ca] 44)) := by go_grown
          have hz := (hb2.cell (p := ⟨b3, o3 + i, none⟩) hbl3).trans hz
          have M2 := Mbox.new wr #[.int .i64 v0, .string v1, .int .i64 v2, .slice a v3.length ca] 44
          have hd0 := (hr0.lt D0 (by rfl)).2
          have hbs := hrm.lt
          have HIN0 : Hid (((wr.alloc (.cells #[.int .i64 v0, .string v1, .int .i64 v2, .slice a v3.length ca] 44)).ownsRow D0 4 1 (.slice (some ⟨D0, 0, none⟩) xs.length xs.length) xs.length ((outL xs ys k i).map BoolU) ∧ NmMap (wr.alloc (.cells #[.int .i64 v0, .string v1, .int .i64 v2, .slice a v3.length ca] 44)) bm (k + 1) (fK xs ys k) ∧ (wr.alloc (.cells #[.int .i64 v0, .string v1, .int .i64 v2, .slice a v3.length ca] 44)).ownsRow O0 3 1 (.slice (some ⟨b3, o3, none⟩) xs.length xs.length) xs.length (((List.range xs.length).map (ownV xs ys)).map I64) ∧ Below D0 w2 (wr.alloc (.cells #[.int .i64 v0, .string v1, .int .i64 v2, .slice a v3.length ca] 44))) ∧ Mbox (wr.alloc (.cells #[.int .i64 v0, .string v1, .int .i64 v2, .slice a v3.length ca] 44)) g7 [.string nm, .int .i64 r]) := Lib.hid ⟨⟨own_keep' hr0 hb2, hrm.later hb2, own_keep' hro hb2, hb.trans (hb2.mono (Nat.le_of_lt hd0))⟩, hM7.later hb2⟩
          have hrow2 := hrow.later hb2
          clear hrow hv hca1 hca2 hbl hbl3 hz3 hb2 hb' hb hr0 hrm hro hM7 hsh h10 hargs huo hl3 hV hzz hd0 hbs
          go_upto_region 13 with fail
          obtain ⟨W2, hW2⟩ : ∃ W, W = wr.alloc (.cells #[.int .i64 v0, .string v1, .int .i64 v2, .slice a v3.length ca] 44) := ⟨_, rfl⟩
          obtain ⟨g, hg⟩ : ∃ g, g = wr.heap.size := ⟨_, rfl⟩
          rw [← hW2] at M2 HIN0 hz hrow2 ⊢
          rw [← hg] at M2 ⊢
          have n0 := M2.c 0
          have n1 := M2.c 1
          have n2 := M2.c 2
          have n3 := M2.c 3
          have HRV := Lib.hid hrow2
          clear hW2 hg c0 c1 c2 c3 M2 hrow2
          by_cases hoi : z = (k : Int)
          · have HOI : Hid (ownV xs ys i = (k : Int)) := Lib.hid (by rw [← HZZ.out]; exact hoi)
            have HUI := Lib.hid (HUV.out HOI.out)
            subst hoi
            clear HZZ HUV
            have HOV : Hid (∀ W, Below W2.heap.size W2 W → Calls Try.prog 36 #[exV v0 v1 (.slice a v3.length ca), (.slice (some ⟨D0, 0, none⟩) xs.length xs.length), .map (some bm)] W fun e w' => e = .returned (.bool (uV xs ys i)) ∧ Below W.heap.size W w') := Lib.hid (fun W h => by
              have hrw := Row.of_own (f := BoolU) (xs := outL xs ys k i) (own_keep' HIN0.out.1.1 h)
              have h1 := over_any v0 v1 a ca v3 (some ⟨D0, 0, none⟩) xs.length (outL xs ys k i) bm (k + 1) (fK xs ys k) W (by have := HL3.out.1; unfold maxLen; omega) HARG.out.1 HL3.out.2 HARG.out.2 (HRV.out.later h) hrw (HIN0.out.1.2.1.later h)
              rw [HUI.out, outL_len] at h1
              exact h1)
            obtain ⟨ui, hui⟩ : ∃ u, u = uV xs ys i := ⟨_, rfl⟩
            rw [← hui] at HOV
            have HUE := Lib.hid hui
            clear hui HUI HL3 HARG
            go_wp2_with fail
            refine (expr_any v0 v1 v2 a v3.length ca W2).mono ?_
            rintro e w8 ⟨rfl, hb8⟩
            have HOV8 := Lib.hid (HOV.out w8 hb8)
            obtain ⟨X, hX⟩ : ∃ X, X = exV v0 v1 (.slice a v3.length ca) := ⟨_, rfl⟩
            rw [← hX] at HOV8 ⊢
            have HB8 := Lib.hid hb8
            clear hX hb8 n0 n1 n2 n3 HOV
            go_wp2_with fail
            refine HOV8.out.mono ?_
            rintro e w9 ⟨rfl, hb9⟩
            have hb89 := HB8.out.trans (hb9.mono HB8.out.size)
            have ho9 := own_keep' HIN0.out.1.1 hb89
            have hd := ho9.cellAt i (by omega)
            have hf := ho9.frozenAt i
            rw [List.getElem?_map, List.getElem?_eq_getElem (by rw [outL_len]; exact hi), Option.map_some] at hd
            obtain ⟨zo, hzo⟩ : ∃ z, z = (outL xs ys k i)[i]'(by rw [outL_len]; exact hi) := ⟨_, rfl⟩
            rw [← hzo] at hd
            have hs := (ho9.stored i (.bool ui)).1
            rw [← List.map_set, HUE.out, ← outL_take HOI.out] at hs
            have hs2 : (w9.setCell ⟨D0, i, none⟩ (.bool ui)).ownsRow D0 4 1 (.slice (some ⟨D0, 0, none⟩) xs.length xs.length) xs.length ((outL xs ys k (i + 1)).map BoolU) := by rw [HUE.out]; exact hs
            have HEN : Hid (((w9.setCell ⟨D0, i, none⟩ (.bool ui)).ownsRow D0 4 1 (.slice (some ⟨D0, 0, none⟩) xs.length xs.length) xs.length ((outL xs ys k (i + 1)).map BoolU) ∧ NmMap (w9.setCell ⟨D0, i, none⟩ (.bool ui)) bm (k + 1) (fK xs ys k) ∧ (w9.setCell ⟨D0, i, none⟩ (.bool ui)).ownsRow O0 3 1 (.slice (some ⟨b3, o3, none⟩) xs.length xs.length) xs.length (((List.range xs.length).map (ownV xs ys)).map I64) ∧ Below D0 w2 (w9.setCell ⟨D0, i, none⟩ (.bool ui))) ∧ Mbox (w9.setCell ⟨D0, i, none⟩ (.bool ui)) g7 [.string nm, .int .i64 r]) := Lib.hid ⟨⟨hs2, (HIN0.out.1.2.1.later hb89).kept (gb_set (gb_refl w9 (some D0)) _) (by intro e; injection e with e; have := HORD.out; omega), ownsRow_setCell_other (own_keep' HIN0.out.1.2.2.1 hb89) (a := ⟨D0, i, none⟩) (by have h1 := own_block HIN0.out.1.2.2.1 b3 (by rfl); have h2 := HORD.out; simp [Value.ownBlock]; omega) _, (HIN0.out.1.2.2.2.trans (hb89.mono (Nat.le_of_lt ((HIN0.out.1.1).lt D0 (by rfl)).2))).setCell (p := ⟨D0, i, none⟩) (Nat.le_refl _) _⟩, (HIN0.out.2.later hb89).far (by have := HG7.out; omega) _⟩
            clear hb89 ho9 hzo hs hs2 hb9 HB8 HIN0 HRV
            go_wp2_with fail
            go_roundw
            case rel => exact ⟨i + 1, by omega, by go_num, HEN.out⟩
            case measure => simp [intOf]; omega
          · have hne : (z == (k : Int)) = false := by simpa using hoi
            have hno : ownV xs ys i ≠ (k : Int) := by rw [← HZZ.out]; exact hoi
            have HEN := HIN0
            rw [← outL_skip hno] at HEN
            clear n0 n1 n2 n3 hno
            go_wp2_with fail
            go_roundw
            case rel => exact ⟨i + 1, by omega, by go_num, HEN.out⟩
            case measure => simp [intOf]; omega
        · obtain rfl : i = xs.length := by omega
          have hge2 : ¬ ((xs.length : Nat) : Int) < ((xs.length : Nat) : Int) := by omega
          rw [outL_next] at hr0
          have hr0 := World.ownsRow.drew hr0
          have hS0 : wr.drew.cell? ⟨g7, 0, none⟩ = some (.string nm) := hM7.c 0
          have hS1 : wr.drew.cell? ⟨g7, 1, none⟩ = some (.int .i64 r) := hM7.c 1
          have hrn := HROW.out.2.2
          obtain ⟨ur, hur⟩ : ∃ u, u = uV xs ys r := ⟨_, rfl⟩
          have hS2 : wr.drew.cell? ⟨D0, r, none⟩ = some (.bool ur) := by
            have h1 := hr0.cellAt r (by omega)
            rw [List.getElem?_map, List.getElem?_eq_getElem (by rw [outL_len]; exact hrn), Option.map_some, outL_at] at h1
            unfold visB at h1
            rw [HROW.out.1, decide_eq_true (show (k : Int) < ((k + 1 : Nat) : Int) by omega)] at h1
            rw [hur]
            simpa using h1
          have hrmd : NmMap wr.drew bm (k + 1) (fK xs ys k) := hrm
          obtain ⟨w', hrun, hnm, hg'⟩ := hrmd.put (show k + 1 < maxLen by unfold maxLen; omega) nm (by have := HROW.out.2.1; unfold maxLen; omega) ur
          have hnm := hnm.congr (show _ = fK xs ys (k + 1) by
            funext u
            show _ = if u = (ys.getD k (⟨#[]⟩, 0)).1 then uV xs ys (ys.getD k (⟨#[]⟩, 0)).2.toNat else fK xs ys k u
            rw [HGK.out, hur]
            rfl)
          have HSA : Hid (w'.cell? ⟨g7, 0, none⟩ = some (.string nm) ∧ w'.cell? ⟨g7, 1, none⟩ = some (.int .i64 r) ∧ w'.cell? ⟨D0, r, none⟩ = some (.bool ur)) := Lib.hid (by
            have hlt7 : g7 < wr.heap.size := hM7.lt
            have hltD : D0 < wr.heap.size := (hr0.lt D0 (by rfl)).2
            have h7 := hg'.block g7 hlt7 (by intro e; injection e with e; have := HG7.out; omega)
            have hD := hg'.block D0 hltD (by intro e; injection e with e; have := HORD.out; omega)
            exact ⟨(World.cell?_of_block (a := ⟨g7, 0, none⟩) h7).trans hS0, (World.cell?_of_block (a := ⟨g7, 1, none⟩) h7).trans hS1, (World.cell?_of_block (a := ⟨D0, r, none⟩) hD).trans hS2⟩)
          have HEN : Hid (w'.ownsRow D0 4 1 (.slice (some ⟨D0, 0, none⟩) xs.length xs.length) xs.length ((outL xs ys (k + 1) 0).map BoolU) ∧ NmMap w' bm ((k + 1) + 1) (fK xs ys (k + 1)) ∧ w'.ownsRow O0 3 1 (.slice A5 xs.length xs.length) xs.length (((List.range xs.length).map (ownV xs ys)).map I64) ∧ Below D0 w2 w') := Lib.hid ⟨hr0.kept hg' (.inr (by simp only [Value.ownBlock]; intro e; injection e with e; have := HORD.out; omega)), hnm, (World.ownsRow.drew hro).kept hg' (by
            rcases hvb : (Value.slice A5 xs.length xs.length).ownBlock with _ | bb
            · exact .inl rfl
            · refine .inr (fun e => ?_)
              injection e with e
              have h1 := own_block hro bb hvb
              have h2 := HORD.out
              omega), (hb.drew).grown hg' (by show D0 ≤ wr.heap.size; exact Nat.le_of_lt (hr0.lt D0 (by rfl)).2) (fun x e => by injection e with e; have := HORD.out; omega)⟩
          have hrlt : (r : Int) < (xs.length : Int) := by omega
          have hrge : (0 : Int) ≤ (r : Int) := by omega
          clear hr0 hrm hrmd hro hb hb' hM7 hur hnm hg'
          go_wp2_with fail
          refine wp_region_held_drew (S := fun W' => W'.cell? ⟨g7, 0, none⟩ = some (.string nm) ∧ W'.cell? ⟨g7, 1, none⟩ = some (.int .i64 r) ∧ W'.cell? ⟨D0, r, none⟩ = some (.bool ur)) (by kernel_rfl) ⟨hS0, hS1, hS2⟩ (fun hHeld => ?_)
          refine wpAnyH_take (i := 0) (oi := { dst := some 58, op := Op.move (Operand.tmp 6), type := 70, pos := "l14_checker.go:209", after := #[], guard := none }) (v := ?_) rfl (by kernel_rfl) (by kernel_rfl) (by kernel_rfl) (fun _ _ _ h => h) (Or.inl ⟨by rfl, ?_⟩) (by assumption) ?_
          rotate_left 1
          · (intro w hSw; (try dsimp only at hSw); go_simp <;> with_reducible rfl)
          (try simp only [Act.put, List.setIfInBounds_toArray, List.set_cons_zero, List.set_cons_succ])
          refine wpAnyH_take (i := 1) (oi := { dst := some 59, op := Op.fieldAddr 33 (Operand.tmp 9) 0, type := 0, pos := "l14_checker.go:209", after := #[], guard := none }) (v := ?_) rfl (by kernel_rfl) (by kernel_rfl) (by kernel_rfl) (fun _ _ _ h => h) (Or.inl ⟨by rfl, ?_⟩) (by assumption) ?_
          rotate_left 1
          · (intro w hSw; (try dsimp only at hSw); go_simp <;> with_reducible rfl)
          (try simp only [Act.put, List.setIfInBounds_toArray, List.set_cons_zero, List.set_cons_succ])
          refine wpAnyH_take (i := 2) (oi := { dst := some 60, op := Op.load 9 (Operand.tmp 59), type := 9, pos := "l14_checker.go:209", after := #[{ on := 1, ground := Ground.data }], guard := none }) (v := ?_) rfl (by kernel_rfl) (by kernel_rfl) (by kernel_rfl) (fun _ _ _ h => h) (Or.inl ⟨by rfl, ?_⟩) (by assumption) ?_
          rotate_left 1
          · (intro w hSw; (try dsimp only at hSw); go_simp <;> with_reducible rfl)
          (try simp only [Act.put, List.setIfInBounds_toArray, List.set_cons_zero, List.set_cons_succ])
          refine wpAnyH_take (i := 3) (oi := { dst := some 61, op := Op.move (Operand.tmp 5), type := 51, pos := "l14_checker.go:209", after := #[], guard := none }) (v := ?_) rfl (by kernel_rfl) (by kernel_rfl) (by kernel_rfl) (fun _ _ _ h => h) (Or.inl ⟨by rfl, ?_⟩) (by assumption) ?_
          rotate_left 1
          · (intro w hSw; (try dsimp only at hSw); go_simp <;> with_reducible rfl)
          (try simp only [Act.put, List.setIfInBounds_toArray, List.set_cons_zero, List.set_cons_succ])
          refine wpAnyH_take (i := 4) (oi := { dst := some 62, op := Op.fieldAddr 33 (Operand.tmp 9) 1, type := 0, pos := "l14_checker.go:209", after := #[], guard := none }) (v := ?_) rfl (by kernel_rfl) (by kernel_rfl) (by kernel_rfl) (fun _ _ _ h => h) (Or.inl ⟨by rfl, ?_⟩) (by assumption) ?_
          rotate_left 1
          · (intro w hSw; (try dsimp only at hSw); go_simp <;> with_reducible rfl)
          (try simp only [Act.put, List.setIfInBounds_toArray, List.set_cons_zero, List.set_cons_succ])
          refine wpAnyH_take (i := 5) (oi := { dst := some 63, op := Op.load 3 (Operand.tmp 62), type := 3, pos := "l14_checker.go:209", after := #[{ on := 4, ground := Ground.data }], guard := none }) (v := ?_) rfl (by kernel_rfl) (by kernel_rfl) (by kernel_rfl) (fun _ _ _ h => h) (Or.inl ⟨by rfl, ?_⟩) (by assumption) ?_
          rotate_left 1
          · (intro w hSw; (try dsimp only at hSw); go_simp <;> with_reducible rfl)
          (try simp only [Act.put, List.setIfInBounds_toArray, List.set_cons_zero, List.set_cons_succ])
          refine wpAnyH_take (i := 6) (oi := { dst := some 64, op := Op.indexAddr 51 (Operand.tmp 61) (Operand.tmp 63), type := 0, pos := "l14_checker.go:209", after := #[{ on := 3, ground := Ground.data }, { on := 5, ground := Ground.data }], guard := none }) (v := ?_) rfl (by kernel_rfl) (by kernel_rfl) (by kernel_rfl) (fun _ _ _ h => h) (Or.inl ⟨by rfl, ?_⟩) (by assumption) ?_
          rotate_left 1
          · (intro w hSw; (try dsimp only at hSw); go_simp <;> with_reducible rfl)
          (try simp only [Act.put, List.setIfInBounds_toArray, List.set_cons_zero, List.set_cons_succ])
          refine wpAnyH_take (i := 7) (oi := { dst := some 65, op := Op.load 4 (Operand.tmp 64), type := 4, pos := "l14_checker.go:209", after := #[{ on := 6, ground := Ground.data }], guard := none }) (v := ?_) rfl (by kernel_rfl) (by kernel_rfl) (by kernel_rfl) (fun _ _ _ h => h) (Or.inl ⟨by rfl, ?_⟩) (by assumption) ?_
          rotate_left 1
          · (intro w hSw; (try dsimp only at hSw); go_simp <;> with_reducible rfl)
          (try simp only [Act.put, List.setIfInBounds_toArray, List.set_cons_zero, List.set_cons_succ])
          refine wpAnyH_ready (rs := [8]) (by kernel_rfl) (by simp) ?_
          refine AllReadyH.cons (o := { dst := none, op := Op.mapUpdate 70 (Operand.tmp 58) (Operand.tmp 60) (Operand.tmp 65), type := 0, pos := "l14_checker.go:209", after := #[{ on := 0, ground := Ground.data }, { on := 2, ground := Ground.data }, { on := 7, ground := Ground.data }, { on := 0, ground := Ground.phase }, { on := 1, ground := Ground.phase }, { on := 2, ground := Ground.phase }, { on := 3, ground := Ground.phase }, { on := 4, ground := Ground.phase }, { on := 5, ground := Ground.phase }, { on := 6, ground := Ground.phase }, { on := 7, ground := Ground.phase }], guard := none }) rfl (fun K hK => ?_) ?_
          · go_simp
            refine hK.out _ _ (by (try dsimp only); exact HSA.out) (fun hHeld => ?_)
            clear hK K
            (try simp only [Act.put, List.setIfInBounds_toArray, List.set_cons_zero, List.set_cons_succ])
            refine wpAnyH_done (by kernel_rfl) ?_ _
            clear hHeld
            go_wp2_with fail
            go_roundw
            case rel => exact ⟨k + 1, by omega, by go_num, HEN.out⟩
            case measure => simp [intOf]; omega
          exact AllReadyH.nil
    · obtain rfl : k = ys.length := by omega
      have hrw : Row BoolV wr wr.heap.size (some ⟨D0, 0, none⟩) ((List.range xs.length).map (uV xs ys)) := by
        rw [outL_end HOK.out] at hr0
        exact Row.of_own (f := BoolV) (xs := (List.range xs.length).map (uV xs ys)) (c := xs.length) (by simpa only [List.length_map, List.length_range] using hr0)
      have HRW := Lib.hid hrw
      have hbz : Below w2.heap.size w2 wr := by rw [← HDD.out]; exact hb
      have HBF := Lib.hid (HB2.out.trans (hbz.mono HB2.out.size))
      have hge2 : ¬ ((ys.length : Nat) : Int) < ((ys.length : Nat) : Int) := by omega
      clear hr0 hrm hro hb hrw hbz
      go_wp2_with fail
      go_ret
      exact ⟨_, rfl, HRW.out, HBF.out⟩
end

section
open Go.RowKit Go.Shelf Go.Maps

theorem cntU_no {xs : List Nd} {ys : List As} (h : chkP xs ys ≠ (0, 0)) (k : Nat) : cntU xs ys k = 0 := by
  unfold cntU
  rw [List.countP_eq_zero]
  intro i _
  rw [uniP_no h]
  simp

set_option maxRecDepth 100000 in
set_option maxHeartbeats 4000000 in
theorem isUni_any (A A' : Option Addr) (c c' : Nat) (xs : List Nd) (ys : List As) (i : Int) (w : World) (hR : ProgIn w w.heap.size A A' xs ys) (hl : xs.length ≤ 1048576) (hl2 : ys.length ≤ 1048576) (hz : ys.length + (argsL xs).length ≤ 1099511627776) (hx : ∀ x ∈ xs, x.2.1.size ≤ 1048576 ∧ x.2.2.2.length ≤ 1048576) (hy : ∀ y ∈ ys, y.1.size ≤ 1048576) :
    Calls Try.prog 7 #[pgv A A' xs.length c ys.length c', .int .i64 i] w fun e w' => e = .returned (.bool (uniP xs ys i)) ∧ Below w.heap.size w w' := by
  have HNO := Lib.hid (fun (h0 : chkP xs ys ≠ (0, 0)) W (h : ProgIn W W.heap.size A A' xs ys) => uniNo_any A A' c c' xs ys W h hl hl2 hz hx hy h0)
  have HYE := Lib.hid (fun (h0 : chkP xs ys = (0, 0)) W (h : ProgIn W W.heap.size A A' xs ys) => uniYes_any A A' c c' xs ys W h hl hl2 hz hx hy h0)
  clear hz hx hy
  obtain ⟨W1, hW1⟩ : ∃ W, W = w.alloc (.cells #[.slice A xs.length c, .slice A' ys.length c'] 26) := ⟨_, rfl⟩
  have M := Mbox.new w #[.slice A xs.length c, .slice A' ys.length c'] 26
  have hB : Below w.heap.size w (w.alloc (.cells #[.slice A xs.length c, .slice A' ys.length c'] 26)) := by go_grown
  have hR1 := (hR.alloc (Nat.le_refl _) (.cells #[.slice A xs.length c, .slice A' ys.length c'] 26)).more (B' := (w.alloc (.cells #[.slice A xs.length c, .slice A' ys.length c'] 26)).heap.size) (by simp)
  rw [← hW1] at M hB hR1
  have HM := Lib.hid M
  have HB := Lib.hid hB
  have HR := Lib.hid hR1
  clear M hB hR hR1
  go_enter Try.func7, Try.ntmps7
  go_upto_region 1 with fail
  rw [← hW1]
  clear hW1
  have m0 := HM.out.c 0
  have m1 := HM.out.c 1
  by_cases h0 : chkP xs ys = (0, 0)
  · have HC := Lib.hid (HYE.out h0 _ HR.out)
    have HH := Lib.hid h0
    clear h0
    go_wp2_with fail
    refine HC.out.mono ?_
    rintro e w2 ⟨A2, rfl, hrow, hb2⟩
    have HB2 := Lib.hid (HB.out.trans (hb2.mono HB.out.size))
    have HQ := Lib.hid (isWithinQ i 0 ((xs.length : Int) - 1) w2)
    clear hb2 m0 m1
    by_cases hin : 0 ≤ i ∧ i < xs.length
    · have hq : inQ 0 ((xs.length : Int) - 1) i = true := (inQ_iff ..).2 (by omega)
      rw [hq] at HQ
      obtain ⟨n, rfl⟩ : ∃ n : Nat, i = (n : Int) := ⟨i.toNat, by omega⟩
      have HP := Lib.hid (uniP_yes HH.out (show n < xs.length by omega))
      obtain ⟨b, o, rfl, hbl, hc0⟩ := hrow.at (k := n) (by simp; omega)
      have hc : w2.cell? ⟨b, o + n, none⟩ = some (.bool (uV xs ys n)) := by simpa using hc0
      have hnlt : (n : Int) < (xs.length : Int) := by omega
      have hnge : (0 : Int) ≤ (n : Int) := by omega
      obtain ⟨z, hz⟩ : ∃ z, z = uV xs ys n := ⟨_, rfl⟩
      rw [← hz] at hc HP
      clear hq hc0 hrow hz hin
      go_wp2_with fail
      refine HQ.out.mono ?_
      rintro e w3 ⟨rfl, rfl⟩
      go_wp2_with fail
      go_ret
      exact ⟨by rw [HP.out]; rfl, HB2.out⟩
    · have hq : inQ 0 ((xs.length : Int) - 1) i = false := by
        apply Bool.eq_false_iff.2
        intro e
        have := (inQ_iff ..).1 e
        omega
      rw [hq] at HQ
      have HP : Hid (uniP xs ys i = false) := Lib.hid (by unfold uniP; rw [if_neg (fun k => hin k.2)])
      clear hq hin hrow
      go_wp2_with fail
      refine HQ.out.mono ?_
      rintro e w3 ⟨rfl, rfl⟩
      go_wp2_with fail
      go_ret
      exact ⟨by rw [HP.out]; rfl, HB2.out⟩
  · have HC := Lib.hid (HNO.out h0 _ HR.out)
    have HP := Lib.hid (uniP_no h0 i)
    clear h0
    go_wp2_with fail
    refine HC.out.mono ?_
    rintro e w2 ⟨rfl, hb2⟩
    have HB2 := Lib.hid (HB.out.trans (hb2.mono HB.out.size))
    have HQ := Lib.hid (isWithinQ i 0 (-1) w2)
    have hq : inQ 0 (-1) i = false := by
      apply Bool.eq_false_iff.2
      intro e
      have := (inQ_iff ..).1 e
      omega
    rw [hq] at HQ
    clear hb2 m0 m1 hq
    go_wp2_with fail
    refine HQ.out.mono ?_
    rintro e w3 ⟨rfl, rfl⟩
    go_wp2_with fail
    go_ret
    exact ⟨by rw [HP.out]; rfl, HB2.out⟩

set_option maxRecDepth 100000 in
set_option maxHeartbeats 4000000 in
theorem uniCount_any (A A' : Option Addr) (c c' : Nat) (xs : List Nd) (ys : List As) (w : World) (hR : ProgIn w w.heap.size A A' xs ys) (hl : xs.length ≤ 1048576) (hl2 : ys.length ≤ 1048576) (hz : ys.length + (argsL xs).length ≤ 1099511627776) (hx : ∀ x ∈ xs, x.2.1.size ≤ 1048576 ∧ x.2.2.2.length ≤ 1048576) (hy : ∀ y ∈ ys, y.1.size ≤ 1048576) :
    Calls Try.prog 8 #[pgv A A' xs.length c ys.length c'] w fun e w' => e = .returned (.int .i64 ((cntU xs ys xs.length : Nat) : Int)) ∧ Below w.heap.size w w' := by
  have HNO := Lib.hid (fun (h0 : chkP xs ys ≠ (0, 0)) W (h : ProgIn W W.heap.size A A' xs ys) => uniNo_any A A' c c' xs ys W h hl hl2 hz hx hy h0)
  have HYE := Lib.hid (fun (h0 : chkP xs ys = (0, 0)) W (h : ProgIn W W.heap.size A A' xs ys) => uniYes_any A A' c c' xs ys W h hl hl2 hz hx hy h0)
  clear hz hx hy
  obtain ⟨W1, hW1⟩ : ∃ W, W = w.alloc (.cells #[.slice A xs.length c, .slice A' ys.length c'] 26) := ⟨_, rfl⟩
  have M := Mbox.new w #[.slice A xs.length c, .slice A' ys.length c'] 26
  have hB : Below w.heap.size w (w.alloc (.cells #[.slice A xs.length c, .slice A' ys.length c'] 26)) := by go_grown
  have hR1 := (hR.alloc (Nat.le_refl _) (.cells #[.slice A xs.length c, .slice A' ys.length c'] 26)).more (B' := (w.alloc (.cells #[.slice A xs.length c, .slice A' ys.length c'] 26)).heap.size) (by simp)
  rw [← hW1] at M hB hR1
  have HM := Lib.hid M
  have HB := Lib.hid hB
  have HR := Lib.hid hR1
  clear M hB hR hR1
  go_enter Try.func8, Try.ntmps8
  go_upto_region 1 with fail
  rw [← hW1]
  clear hW1
  have m0 := HM.out.c 0
  have m1 := HM.out.c 1
  by_cases h0 : chkP xs ys = (0, 0)
  · have HC := Lib.hid (HYE.out h0 _ HR.out)
    have HH := Lib.hid h0
    clear h0
    go_wp2_with fail
    refine HC.out.mono ?_
    rintro e w2 ⟨A2, rfl, hrow, hb2⟩
    have HB2 := Lib.hid (HB.out.trans (hb2.mono HB.out.size))
    have HRW := Lib.hid hrow
    clear hb2 m0 m1 hrow
    go_wp2_with fail
    go_loopw [3, 9] (fun v i wr => ∃ k : Nat, k ≤ xs.length ∧ i = .int .i64 k ∧ v = .int .i64 ((cntU xs ys k : Nat) : Int) ∧ wr = w2) (fun _ i _ => xs.length - (intOf i).toNat)
    case atStart => exact ⟨0, Nat.zero_le _, rfl, by simp [cntU], rfl⟩
    case round =>
      obtain ⟨k, hk, rfl, rfl, rfl⟩ := hrel
      have hst := cntU_step xs ys k
      have hle := cntU_le xs ys k
      by_cases hlt : k < xs.length
      · rw [uniP_yes HH.out hlt] at hst
        obtain ⟨q, hq⟩ : ∃ q, q = cntU xs ys k := ⟨_, rfl⟩
        rw [← hq] at hst hle ⊢
        obtain ⟨b, o, rfl, hbl, hc0⟩ := HRW.out.at (k := k) (by simp; omega)
        have hc : wr.cell? ⟨b, o + k, none⟩ = some (.bool (uV xs ys k)) := by simpa using hc0
        obtain ⟨u, hu⟩ : ∃ u, u = uV xs ys k := ⟨_, rfl⟩
        rw [← hu] at hc hst
        have HST := Lib.hid hst
        have hlt' : (k : Int) < (xs.length : Int) := by omega
        have hge' : (0 : Int) ≤ (k : Int) := by omega
        clear hc0 hst hq hu
        cases u with
        | true =>
          go_wp2_with fail
          go_roundw
          case rel => exact ⟨k + 1, by omega, by go_num, by rw [HST.out]; go_num, by first | rfl | trivial⟩
          case measure => simp [intOf]; omega
        | false =>
          go_wp2_with fail
          go_roundw
          case rel => exact ⟨k + 1, by omega, by go_num, by rw [HST.out]; go_num, by first | rfl | trivial⟩
          case measure => simp [intOf]; omega
      · obtain rfl : k = xs.length := by omega
        have hge2 : ¬ ((xs.length : Nat) : Int) < ((xs.length : Nat) : Int) := by omega
        clear hst
        go_wp2_with fail
        go_ret
        exact ⟨rfl, HB2.out⟩
  · have HC := Lib.hid (HNO.out h0 _ HR.out)
    have HP := Lib.hid (cntU_no h0 xs.length)
    clear h0
    go_wp2_with fail
    refine HC.out.mono ?_
    rintro e w2 ⟨rfl, hb2⟩
    have HB2 := Lib.hid (HB.out.trans (hb2.mono HB.out.size))
    clear hb2 m0 m1
    go_wp2_with fail
    go_loopw [3, 9] (fun v i wr => i = .int .i64 0 ∧ v = .int .i64 0 ∧ wr = w2) (fun _ _ _ => 0)
    case atStart => exact ⟨rfl, rfl, rfl⟩
    case round =>
      obtain ⟨rfl, rfl, rfl⟩ := hrel
      go_wp2_with fail
      go_ret
      exact ⟨by rw [HP.out]; rfl, HB2.out⟩
end
end Go.Proofs.Ytlcnjiephbhdaaa
