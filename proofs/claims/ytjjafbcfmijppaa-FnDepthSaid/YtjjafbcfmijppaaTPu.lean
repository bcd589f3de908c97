/- What a triangle covers: its parts around a covered place cover every other place exactly as often as it does (no program). -/
import Derived.Test.YtjjafbcfmijppaaProg
import Derived.Test.YtjjafbcfmijppaaInts
import Derived.Test.YtjjafbcfmijppaaVbox
import Derived.Test.YtjjafbcfmijppaaVec
import Derived.Test.YtjjafbcfmijppaaCam
import Derived.Test.YtjjafbcfmijppaaCPrj
import Derived.Test.YtjjafbcfmijppaaTEd
import Derived.Test.YtjjafbcfmijppaaTCl
import Derived.Test.YtjjafbcfmijppaaTAr
import Derived.WalkKit
import Derived.WalkSpells
import Derived.WalkLawsBesides
import Derived.Lib.Hide
import Derived.Handy
namespace Go.Proofs.Ytjjafbcfmijppaa
open Go.RowKit
/-- all three edges have the place on their left -/
def covT (a b c d e f x y : Int) : Bool := leftP a b c d x y && (leftP c d e f x y && leftP e f a b x y)
/-- a triangle covers a place -/
def covP (a b c d e f x y : Int) : Bool :=
  !(decide (arP a b c d e f = 0)) && ((inC (-100000) 100000 x && inC (-100000) 100000 y) &&
    (if arP a b c d e f < 0 then covT (scr a) (scr b) (scr e) (scr f) (scr c) (scr d) x y else covT (scr a) (scr b) (scr c) (scr d) (scr e) (scr f) x y))
/-- the side of a place moved by a little: it is above 0 where the place lies left of the edge -/
def sgP (ax ay bx b_ x y : Int) : Int := 1000000000000 * sdP ax ay bx b_ x y - 1000000 * (b_ - ay) + (bx - ax)
theorem left_sg {ax ay bx b_ x y : Int} (h0 : inS ax) (h1 : inS ay) (h2 : inS bx) (h3 : inS b_) : leftP ax ay bx b_ x y = decide (0 < sgP ax ay bx b_ x y) := by
  unfold leftP sgP inclP inS at *
  generalize sdP ax ay bx b_ x y = s
  rw [Bool.eq_iff_iff]
  simp only [Bool.or_eq_true, Bool.and_eq_true, decide_eq_true_eq]
  omega
theorem sg_zero {ax ay bx b_ x y : Int} (h0 : inS ax) (h1 : inS ay) (h2 : inS bx) (h3 : inS b_) (h : sgP ax ay bx b_ x y = 0) : ax = bx ∧ ay = b_ := by
  unfold sgP inS at *
  generalize sdP ax ay bx b_ x y = s at h
  omega
theorem sg_anti (ax ay bx b_ x y : Int) : sgP bx b_ ax ay x y = -sgP ax ay bx b_ x y := by unfold sgP sdP; grind
theorem sd_sum (ax ay bx b_ cx cy x y : Int) : sdP ax ay bx b_ x y + sdP bx b_ cx cy x y + sdP cx cy ax ay x y = sdP ax ay bx b_ cx cy := by unfold sdP; grind
theorem sg_sum (ax ay bx b_ cx cy x y : Int) : sgP ax ay bx b_ x y + sgP bx b_ cx cy x y + sgP cx cy ax ay x y = 1000000000000 * sdP ax ay bx b_ cx cy := by unfold sgP sdP; grind
theorem sg_bary (ax ay bx b_ cx cy px py x y : Int) :
    sdP bx b_ cx cy px py * sgP px py ax ay x y + sdP cx cy ax ay px py * sgP px py bx b_ x y + sdP ax ay bx b_ px py * sgP px py cx cy x y = 0 := by unfold sgP sdP; grind
theorem sg_in (ax ay bx b_ cx cy px py x y : Int) :
    sdP ax ay bx b_ px py * sgP bx b_ cx cy x y = sgP bx b_ px py x y * sdP ax ay bx b_ cx cy + sgP ax ay bx b_ x y * sdP bx b_ cx cy px py := by unfold sgP sdP; grind
theorem sg_in' (ax ay bx b_ cx cy px py x y : Int) :
    sdP ax ay bx b_ px py * sgP cx cy ax ay x y = sgP px py ax ay x y * sdP ax ay bx b_ cx cy + sgP ax ay bx b_ x y * sdP cx cy ax ay px py := by unfold sgP sdP; grind
theorem pos_of_mul {s u v : Int} (hs : 0 < s) (hv : 0 < v) (e : s * u = v) : 0 < u := by
  rcases Int.lt_or_le 0 u with h | h
  · exact h
  · have := Int.mul_nonpos_of_nonneg_of_nonpos (Int.le_of_lt hs) h
    omega
theorem sd_rot (ax ay bx b_ cx cy : Int) : sdP bx b_ cx cy ax ay = sdP ax ay bx b_ cx cy := by unfold sdP; grind
theorem sd_flip (ax ay bx b_ cx cy : Int) : sdP ax ay cx cy bx b_ = -sdP ax ay bx b_ cx cy := by unfold sdP; grind
theorem sd_anti (ax ay bx b_ x y : Int) : sdP bx b_ ax ay x y = -sdP ax ay bx b_ x y := by unfold sdP; grind
theorem sd_self (ax ay bx b_ : Int) : sdP ax ay bx b_ ax ay = 0 := by unfold sdP; grind
theorem sd_self' (ax ay bx b_ : Int) : sdP ax ay bx b_ bx b_ = 0 := by unfold sdP; grind
theorem sd_same (ax ay x y : Int) : sdP ax ay ax ay x y = 0 := by unfold sdP; grind
/-- one part of a triangle with a positive area -/
theorem part_in (ax ay bx b_ cx cy px py x y : Int) (hn : 0 < sdP ax ay bx b_ cx cy) (h1 : 0 ≤ sdP bx b_ cx cy px py) (h2 : 0 ≤ sdP cx cy ax ay px py)
    (h0 : 0 < sdP ax ay bx b_ px py) (g0 : 0 < sgP ax ay bx b_ x y) (g1 : 0 < sgP bx b_ px py x y) (g2 : 0 < sgP px py ax ay x y) :
    0 < sgP bx b_ cx cy x y ∧ 0 < sgP cx cy ax ay x y := by
  have p1 := Int.mul_pos g1 hn
  have p2 := Int.mul_nonneg (Int.le_of_lt g0) h1
  have p3 := Int.mul_pos g2 hn
  have p4 := Int.mul_nonneg (Int.le_of_lt g0) h2
  exact ⟨pos_of_mul h0 (by omega) (sg_in ax ay bx b_ cx cy px py x y), pos_of_mul h0 (by omega) (sg_in' ax ay bx b_ cx cy px py x y)⟩
/-- how the parts around a place cover another -/
def prt (s u v w : Int) : Bool := decide (0 < s) && (decide (0 < u) && (decide (0 < v) && decide (0 < w)))
theorem prt_iff (s u v w : Int) : prt s u v w = true ↔ 0 < s ∧ 0 < u ∧ 0 < v ∧ 0 < w := by simp [prt]
theorem parts (ax ay bx b_ cx cy px py x y : Int) (ha : inS ax ∧ inS ay) (hb : inS bx ∧ inS b_) (hc : inS cx ∧ inS cy) (hp : inS px ∧ inS py)
    (hn : 0 < sdP ax ay bx b_ cx cy) (h0 : 0 ≤ sdP ax ay bx b_ px py) (h1 : 0 ≤ sdP bx b_ cx cy px py) (h2 : 0 ≤ sdP cx cy ax ay px py) :
    let k0 := prt (sdP ax ay bx b_ px py) (sgP ax ay bx b_ x y) (sgP bx b_ px py x y) (sgP px py ax ay x y)
    let k1 := prt (sdP bx b_ cx cy px py) (sgP bx b_ cx cy x y) (sgP cx cy px py x y) (sgP px py bx b_ x y)
    let k2 := prt (sdP cx cy ax ay px py) (sgP cx cy ax ay x y) (sgP ax ay px py x y) (sgP px py cx cy x y)
    (k0 && k1) = false ∧ (k1 && k2) = false ∧ (k0 && k2) = false ∧ (k0 || (k1 || k2)) = (decide (0 < sgP ax ay bx b_ x y) && (decide (0 < sgP bx b_ cx cy x y) && decide (0 < sgP cx cy ax ay x y))) := by
  intro k0 k1 k2
  have q0 := part_in ax ay bx b_ cx cy px py x y hn h1 h2
  have q1 := part_in bx b_ cx cy ax ay px py x y (by rw [sd_rot]; exact hn) h2 h0
  have q2 := part_in cx cy ax ay bx b_ px py x y (by rw [sd_rot, sd_rot]; exact hn) h0 h1
  have eA := sg_anti px py ax ay x y
  have eB := sg_anti px py bx b_ x y
  have eC := sg_anti px py cx cy x y
  have m0 := sg_sum ax ay bx b_ px py x y
  have m1 := sg_sum bx b_ cx cy px py x y
  have m2 := sg_sum cx cy ax ay px py x y
  have bar := sg_bary ax ay bx b_ cx cy px py x y
  have sm := sd_sum ax ay bx b_ cx cy px py
  have zA : sgP px py ax ay x y = 0 → sdP ax ay bx b_ px py = 0 ∧ sdP cx cy ax ay px py = 0 := fun h => by
    obtain ⟨rfl, rfl⟩ := sg_zero hp.1 hp.2 ha.1 ha.2 h
    exact ⟨sd_self .., sd_self' ..⟩
  have zB : sgP px py bx b_ x y = 0 → sdP ax ay bx b_ px py = 0 ∧ sdP bx b_ cx cy px py = 0 := fun h => by
    obtain ⟨rfl, rfl⟩ := sg_zero hp.1 hp.2 hb.1 hb.2 h
    exact ⟨sd_self' .., sd_self ..⟩
  have zC : sgP px py cx cy x y = 0 → sdP bx b_ cx cy px py = 0 ∧ sdP cx cy ax ay px py = 0 := fun h => by
    obtain ⟨rfl, rfl⟩ := sg_zero hp.1 hp.2 hc.1 hc.2 h
    exact ⟨sd_self' .., sd_self ..⟩
  rw [eB] at q0 m0
  rw [eC] at q1 m1
  rw [eA] at q2 m2
  have K0 : k0 = true ↔ 0 < sdP ax ay bx b_ px py ∧ 0 < sgP ax ay bx b_ x y ∧ 0 < -sgP px py bx b_ x y ∧ 0 < sgP px py ax ay x y := by rw [← eB]; exact prt_iff ..
  have K1 : k1 = true ↔ 0 < sdP bx b_ cx cy px py ∧ 0 < sgP bx b_ cx cy x y ∧ 0 < -sgP px py cx cy x y ∧ 0 < sgP px py bx b_ x y := by rw [← eC]; exact prt_iff ..
  have K2 : k2 = true ↔ 0 < sdP cx cy ax ay px py ∧ 0 < sgP cx cy ax ay x y ∧ 0 < -sgP px py ax ay x y ∧ 0 < sgP px py cx cy x y := by rw [← eA]; exact prt_iff ..
  clear_value k0 k1 k2
  clear eA eB eC
  have allp : ¬ (0 < sgP px py ax ay x y ∧ 0 < sgP px py bx b_ x y ∧ 0 < sgP px py cx cy x y) := by
    rintro ⟨a1, b1, c1⟩
    have r0 := Int.mul_nonneg h1 (Int.le_of_lt a1)
    have r1 := Int.mul_nonneg h2 (Int.le_of_lt b1)
    have r2 := Int.mul_nonneg h0 (Int.le_of_lt c1)
    rcases Int.lt_or_le 0 (sdP bx b_ cx cy px py) with l | l
    · have := Int.mul_pos l a1
      omega
    · rcases Int.lt_or_le 0 (sdP cx cy ax ay px py) with l' | l'
      · have := Int.mul_pos l' b1
        omega
      · have := Int.mul_pos (show 0 < sdP ax ay bx b_ px py by omega) c1
        omega
  have alln : ¬ (sgP px py ax ay x y < 0 ∧ sgP px py bx b_ x y < 0 ∧ sgP px py cx cy x y < 0) := by
    rintro ⟨a1, b1, c1⟩
    have r0 := Int.mul_nonpos_of_nonneg_of_nonpos h1 (Int.le_of_lt a1)
    have r1 := Int.mul_nonpos_of_nonneg_of_nonpos h2 (Int.le_of_lt b1)
    have r2 := Int.mul_nonpos_of_nonneg_of_nonpos h0 (Int.le_of_lt c1)
    rcases Int.lt_or_le 0 (sdP bx b_ cx cy px py) with l | l
    · have := Int.mul_neg_of_pos_of_neg l a1
      omega
    · rcases Int.lt_or_le 0 (sdP cx cy ax ay px py) with l' | l'
      · have := Int.mul_neg_of_pos_of_neg l' b1
        omega
      · have := Int.mul_neg_of_pos_of_neg (show 0 < sdP ax ay bx b_ px py by omega) c1
        omega
  clear bar
  generalize sdP ax ay bx b_ px py = s0 at *
  generalize sdP bx b_ cx cy px py = s1 at *
  generalize sdP cx cy ax ay px py = s2 at *
  generalize sdP ax ay bx b_ cx cy = n at *
  generalize sgP px py ax ay x y = a at *
  generalize sgP px py bx b_ x y = b at *
  generalize sgP px py cx cy x y = c at *
  generalize sgP ax ay bx b_ x y = u at *
  generalize sgP bx b_ cx cy x y = v at *
  generalize sgP cx cy ax ay x y = t at *
  clear ha hb hc hp
  refine ⟨?_, ?_, ?_, ?_⟩
  · rw [Bool.eq_false_iff]; intro h; rw [Bool.and_eq_true, K0, K1] at h; omega
  · rw [Bool.eq_false_iff]; intro h; rw [Bool.and_eq_true, K1, K2] at h; omega
  · rw [Bool.eq_false_iff]; intro h; rw [Bool.and_eq_true, K0, K2] at h; omega
  · rw [Bool.eq_iff_iff]
    simp only [Bool.or_eq_true, Bool.and_eq_true, decide_eq_true_eq, K0, K1, K2]
    constructor
    · rintro (⟨l0, l1, l2, l3⟩ | ⟨l0, l1, l2, l3⟩ | ⟨l0, l1, l2, l3⟩)
      · have := q0 l0 l1 l2 l3
        omega
      · have := q1 l0 l1 l2 l3
        omega
      · have := q2 l0 l1 l2 l3
        omega
    · rintro ⟨l0, l1, l2⟩
      clear q0 q1 q2 K0 K1 K2
      rcases Int.lt_trichotomy a 0 with ea | ea | ea
      · clear zA
        rcases Int.lt_trichotomy c 0 with ec | ec | ec
        · have eb : ¬ b < 0 := fun hb => alln ⟨ea, hb, ec⟩
          clear alln allp zC
          rcases Int.lt_trichotomy b 0 with h | h | h
          · exact absurd h eb
          · obtain ⟨rfl, rfl⟩ := zB h
            omega
          · exact Or.inr (Or.inl ⟨by omega, l1, by omega, h⟩)
        · obtain ⟨rfl, rfl⟩ := zC ec
          clear zB zC alln allp
          omega
        · exact Or.inr (Or.inr ⟨by clear zB zC alln allp; omega, l2, by clear zB zC alln allp; omega, ec⟩)
      · obtain ⟨rfl, rfl⟩ := zA ea
        clear zA zB zC alln allp
        exact Or.inr (Or.inl ⟨by omega, l1, by omega, by omega⟩)
      · clear zA
        rcases Int.lt_trichotomy b 0 with eb | eb | eb
        · exact Or.inl ⟨by clear zB zC alln allp; omega, l0, by clear zB zC alln allp; omega, ea⟩
        · obtain ⟨rfl, rfl⟩ := zB eb
          clear zB zC alln allp
          omega
        · have ec : ¬ 0 < c := fun hc => allp ⟨ea, eb, hc⟩
          clear alln allp zB
          rcases Int.lt_trichotomy c 0 with h | h | h
          · exact Or.inr (Or.inl ⟨by omega, l1, by omega, eb⟩)
          · obtain ⟨rfl, rfl⟩ := zC h
            omega
          · exact absurd h ec
theorem prt_rot (s u v w : Int) : prt s u v w = prt s w u v := by
  rw [Bool.eq_iff_iff, prt_iff, prt_iff]; omega
theorem inC_inS (n : Int) : inC (-100000) 100000 n = true ↔ inS n := by simp [inC, inS]
theorem arP_in {a b c d e f : Int} (h0 : inS a ∧ inS b) (h1 : inS c ∧ inS d) (h2 : inS e ∧ inS f) : arP a b c d e f = sdP a b c d e f := by
  have q : ∀ {n : Int}, inS n → scr n = n := fun h => by unfold inS at h; unfold scr clampP; split <;> (try split) <;> omega
  unfold arP
  rw [q h0.1, q h0.2, q h1.1, q h1.2, q h2.1, q h2.2]
theorem cov_out {a b c d e f x y : Int} (h : (inC (-100000) 100000 x && inC (-100000) 100000 y) = false) : covP a b c d e f x y = false := by
  unfold covP; rw [h]; simp
theorem covT_sg {a b c d e f x y : Int} (h0 : inS a ∧ inS b) (h1 : inS c ∧ inS d) (h2 : inS e ∧ inS f) :
    covT a b c d e f x y = (decide (0 < sgP a b c d x y) && (decide (0 < sgP c d e f x y) && decide (0 < sgP e f a b x y))) := by
  unfold covT
  rw [left_sg h0.1 h0.2 h1.1 h1.2, left_sg h1.1 h1.2 h2.1 h2.2, left_sg h2.1 h2.2 h0.1 h0.2]
theorem scr_id {n : Int} (h : inS n) : scr n = n := by unfold inS at h; unfold scr clampP; split <;> (try split) <;> omega
theorem cov_pos {a b c d e f x y : Int} (h0 : inS a ∧ inS b) (h1 : inS c ∧ inS d) (h2 : inS e ∧ inS f) (hq : (inC (-100000) 100000 x && inC (-100000) 100000 y) = true) (hs : 0 ≤ sdP a b c d e f) :
    covP a b c d e f x y = prt (sdP a b c d e f) (sgP a b c d x y) (sgP c d e f x y) (sgP e f a b x y) := by
  unfold covP
  rw [arP_in h0 h1 h2, hq, if_neg (by omega), scr_id h0.1, scr_id h0.2, scr_id h1.1, scr_id h1.2, scr_id h2.1, scr_id h2.2, covT_sg h0 h1 h2, Bool.eq_iff_iff, prt_iff]
  simp only [Bool.true_and, Bool.and_eq_true, Bool.not_eq_true', decide_eq_false_iff_not, decide_eq_true_eq]
  omega
theorem cov_neg {a b c d e f x y : Int} (h0 : inS a ∧ inS b) (h1 : inS c ∧ inS d) (h2 : inS e ∧ inS f) (hq : (inC (-100000) 100000 x && inC (-100000) 100000 y) = true) (hs : sdP a b c d e f ≤ 0) :
    covP a b c d e f x y = prt (-sdP a b c d e f) (sgP a b e f x y) (sgP e f c d x y) (sgP c d a b x y) := by
  unfold covP
  rw [arP_in h0 h1 h2, hq, scr_id h0.1, scr_id h0.2, scr_id h1.1, scr_id h1.2, scr_id h2.1, scr_id h2.2, covT_sg h0 h2 h1, covT_sg h0 h1 h2, Bool.eq_iff_iff, prt_iff]
  split
  · simp only [Bool.true_and, Bool.and_eq_true, Bool.not_eq_true', decide_eq_false_iff_not, decide_eq_true_eq]
    omega
  · simp only [Bool.true_and, Bool.and_eq_true, Bool.not_eq_true', decide_eq_false_iff_not, decide_eq_true_eq]
    omega
theorem left_sd {ax ay bx b_ x y : Int} (h : leftP ax ay bx b_ x y = true) : 0 ≤ sdP ax ay bx b_ x y := by
  unfold leftP at h
  simp only [Bool.or_eq_true, Bool.and_eq_true, decide_eq_true_eq] at h
  omega
/-- what a covered place says -/
theorem cov_yes {a b c d e f x y : Int} (h0 : inS a ∧ inS b) (h1 : inS c ∧ inS d) (h2 : inS e ∧ inS f) (h : covP a b c d e f x y = true) :
    (inS x ∧ inS y) ∧ ((0 < sdP a b c d e f ∧ 0 ≤ sdP a b c d x y ∧ 0 ≤ sdP c d e f x y ∧ 0 ≤ sdP e f a b x y) ∨ (sdP a b c d e f < 0 ∧ sdP a b c d x y ≤ 0 ∧ sdP c d e f x y ≤ 0 ∧ sdP e f a b x y ≤ 0)) := by
  unfold covP at h
  rw [arP_in h0 h1 h2, scr_id h0.1, scr_id h0.2, scr_id h1.1, scr_id h1.2, scr_id h2.1, scr_id h2.2] at h
  simp only [Bool.and_eq_true, Bool.not_eq_true', decide_eq_false_iff_not, inC_inS] at h
  obtain ⟨hn, hq, h⟩ := h
  refine ⟨hq, ?_⟩
  split at h
  · unfold covT at h
    simp only [Bool.and_eq_true] at h
    have g0 := left_sd h.1
    have g1 := left_sd h.2.1
    have g2 := left_sd h.2.2
    rw [sd_anti] at g0 g1 g2
    exact Or.inr ⟨by omega, by omega, by omega, by omega⟩
  · unfold covT at h
    simp only [Bool.and_eq_true] at h
    exact Or.inl ⟨by omega, left_sd h.1, left_sd h.2.1, left_sd h.2.2⟩
theorem cov_flip {a b c d e f x y : Int} (h0 : inS a ∧ inS b) (h1 : inS c ∧ inS d) (h2 : inS e ∧ inS f) : covP a b e f c d x y = covP a b c d e f x y := by
  rcases hq : (inC (-100000) 100000 x && inC (-100000) 100000 y) with _ | _
  · rw [cov_out hq, cov_out hq]
  · rcases Int.le_total 0 (sdP a b c d e f) with h | h
    · rw [cov_pos h0 h1 h2 hq h, cov_neg h0 h2 h1 hq (by rw [sd_flip]; omega), sd_flip, Int.neg_neg]
    · rw [cov_neg h0 h1 h2 hq h, cov_pos h0 h2 h1 hq (by rw [sd_flip]; omega), sd_flip]
/-- the parts around a covered place cover another exactly as often as the whole -/
theorem raster {ax ay bx b_ cx cy px py : Int} (ha : inS ax ∧ inS ay) (hb : inS bx ∧ inS b_) (hc : inS cx ∧ inS cy) (h : covP ax ay bx b_ cx cy px py = true) (x y : Int) :
    (covP ax ay bx b_ px py x y && covP bx b_ cx cy px py x y) = false ∧ (covP bx b_ cx cy px py x y && covP cx cy ax ay px py x y) = false ∧ (covP ax ay bx b_ px py x y && covP cx cy ax ay px py x y) = false ∧
    (covP ax ay bx b_ px py x y || (covP bx b_ cx cy px py x y || covP cx cy ax ay px py x y)) = covP ax ay bx b_ cx cy x y := by
  rcases hq : (inC (-100000) 100000 x && inC (-100000) 100000 y) with _ | _
  · simp [cov_out hq]
  obtain ⟨hp, ⟨hn, h0, h1, h2⟩ | ⟨hn, h0, h1, h2⟩⟩ := cov_yes ha hb hc h
  · have k := parts ax ay bx b_ cx cy px py x y ha hb hc hp hn h0 h1 h2
    rw [cov_pos ha hb hp hq h0, cov_pos hb hc hp hq h1, cov_pos hc ha hp hq h2, cov_pos ha hb hc hq (by omega)]
    refine ⟨k.1, k.2.1, k.2.2.1, k.2.2.2.trans ?_⟩
    unfold prt
    rw [show decide (0 < sdP ax ay bx b_ cx cy) = true by simpa using hn]
    rfl
  · have k := parts ax ay cx cy bx b_ px py x y ha hc hb hp (by rw [sd_flip]; omega) (by rw [sd_anti]; omega) (by rw [sd_anti]; omega) (by rw [sd_anti]; omega)
    rw [sd_anti cx cy ax ay, sd_anti bx b_ cx cy, sd_anti ax ay bx b_] at k
    rw [cov_neg ha hb hp hq h0, cov_neg hb hc hp hq h1, cov_neg hc ha hp hq h2, cov_neg ha hb hc hq (by omega), prt_rot (-sdP ax ay bx b_ px py), prt_rot (-sdP bx b_ cx cy px py), prt_rot (-sdP cx cy ax ay px py)]
    obtain ⟨k1, k2, k3, k4⟩ := k
    refine ⟨by rw [Bool.and_comm]; exact k2, by rw [Bool.and_comm]; exact k1, by rw [Bool.and_comm]; exact k3, ?_⟩
    rw [← Bool.or_assoc, Bool.or_comm, Bool.or_comm (prt (-sdP ax ay bx b_ px py) _ _ _)]
    refine k4.trans ?_
    unfold prt
    rw [show decide (0 < -sdP ax ay bx b_ cx cy) = true by rw [decide_eq_true_eq]; omega]
    rfl
/-- the depth at a place -/
def depP (a b c d e f g h i x y : Int) : Int :=
  fdivP (cc c * absP (sdP (scr d) (scr e) (scr g) (scr h) x y) + cc f * absP (sdP (scr g) (scr h) (scr a) (scr b) x y) + cc i * absP (sdP (scr a) (scr b) (scr d) (scr e) x y)) (absP (arP a b d e g h))
theorem abs_neg (n : Int) : absP (-n) = absP n := by unfold absP; split <;> split <;> omega
theorem dep_flip (a b c d e f g h i x y : Int) : depP a b c g h i d e f x y = depP a b c d e f g h i x y := by
  unfold depP arP
  rw [sd_flip (scr a) (scr b) (scr d) (scr e) (scr g) (scr h), abs_neg, sd_anti (scr d) (scr e) (scr g) (scr h), abs_neg, sd_anti (scr a) (scr b) (scr d) (scr e), abs_neg, sd_anti (scr g) (scr h) (scr a) (scr b), abs_neg]
  congr 1
  omega
theorem wavg {n u v w p q r lo hi : Int} (hn : 0 < n) (hu : 0 ≤ u) (hv : 0 ≤ v) (hw : 0 ≤ w) (e : u + v + w = n) (p0 : lo ≤ p ∧ p ≤ hi) (q0 : lo ≤ q ∧ q ≤ hi) (r0 : lo ≤ r ∧ r ≤ hi) :
    lo ≤ fdivP (p * u + q * v + r * w) n ∧ fdivP (p * u + q * v + r * w) n ≤ hi := by
  unfold fdivP
  rw [if_neg (by omega)]
  have a1 := Int.mul_le_mul_of_nonneg_right p0.1 hu
  have a2 := Int.mul_le_mul_of_nonneg_right p0.2 hu
  have b1 := Int.mul_le_mul_of_nonneg_right q0.1 hv
  have b2 := Int.mul_le_mul_of_nonneg_right q0.2 hv
  have c1 := Int.mul_le_mul_of_nonneg_right r0.1 hw
  have c2 := Int.mul_le_mul_of_nonneg_right r0.2 hw
  have l : lo * n = lo * u + lo * v + lo * w := by rw [← e]; grind
  have m : hi * n = hi * u + hi * v + hi * w := by rw [← e]; grind
  constructor
  · exact (Int.le_ediv_iff_mul_le hn).2 (by omega)
  · have := Int.ediv_lt_of_lt_mul (a := p * u + q * v + r * w) (b := hi + 1) (c := n) hn (by rw [Int.add_mul]; omega)
    omega
theorem dep_bd {a b c d e f g h i x y lo hi : Int} (h0 : inS a ∧ inS b) (h1 : inS d ∧ inS e) (h2 : inS g ∧ inS h) (hc : covP a b d e g h x y = true) (p0 : lo ≤ cc c ∧ cc c ≤ hi) (q0 : lo ≤ cc f ∧ cc f ≤ hi) (r0 : lo ≤ cc i ∧ cc i ≤ hi) :
    lo ≤ depP a b c d e f g h i x y ∧ depP a b c d e f g h i x y ≤ hi := by
  have k := (cov_yes h0 h1 h2 hc).2
  have s := sd_sum a b d e g h x y
  unfold depP
  rw [arP_in h0 h1 h2, scr_id h0.1, scr_id h0.2, scr_id h1.1, scr_id h1.2, scr_id h2.1, scr_id h2.2]
  generalize sdP a b d e x y = s0 at *
  generalize sdP d e g h x y = s1 at *
  generalize sdP g h a b x y = s2 at *
  generalize sdP a b d e g h = n at *
  have e1 : absP s1 + absP s2 + absP s0 = absP n := by unfold absP; split <;> split <;> split <;> split <;> omega
  have z : ∀ n, 0 ≤ absP n := fun n => by unfold absP; split <;> omega
  exact wavg (by unfold absP; split <;> omega) (z _) (z _) (z _) e1 p0 q0 r0
end Go.Proofs.Ytjjafbcfmijppaa
