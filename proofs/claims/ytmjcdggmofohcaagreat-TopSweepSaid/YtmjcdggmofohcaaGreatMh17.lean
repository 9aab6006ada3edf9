/- Texts of this proof, one behind the other: ArmsPlain, ArmsA, ArmsB, ArmsC, ArmsD, ArmsE, ArmsF, ArmsG, ArmsH. Each says its own conditions. -/
import Derived.Test.YtmjcdggmofohcaaGreatMh01
import Derived.Below
import Derived.Test.YtmjcdggmofohcaaGreatChecked
import Derived.WalkKit
import Derived.WalkSpells
import Derived.WalkLawsBesides
import Derived.Lib.Hide
import Derived.BigQuiet
import Derived.Deep.QuietTactic
import Derived.RegionTactic
import Derived.BigRegion
import Derived.Laws.ResultCell
import Derived.Handy
namespace Go.Proofs.YtmjcdggmofohcaaGreat
namespace Arm

/-- A ratio n / d is valid. -/
def ok (n d : Int) : Prop := (1 ≤ d ∧ d ≤ 1000000) ∧ (-1000000 ≤ n ∧ n ≤ 1000000)
instance okDec (n d : Int) : Decidable (ok n d) := by unfold ok; exact inferInstance
def okB (n d : Int) : Bool := decide (ok n d)
theorem okB_true {n d : Int} : okB n d = true ↔ ok n d := by unfold okB; simp
theorem okB_false {n d : Int} : okB n d = false ↔ ¬ ok n d := by unfold okB; simp

/-- Both numbers of n / d when they are divided by their greatest divisor. -/
def redN (n d : Int) : Int := n / (Int.gcd n d : Int)
def redD (n d : Int) : Int := d / (Int.gcd n d : Int)
def fit (n d : Int) : Bool := okB (redN n d) (redD n d)
def sN (n d : Int) : Int := if fit n d = true then redN n d else 0
def sD (n d : Int) : Int := if fit n d = true then redD n d else 0
def sE (n d : Int) : Int := if fit n d = true then 0 else 2

theorem gcd_abs (n d : Int) : Int.gcd (n.natAbs : Int) d = Int.gcd n d := by simp [Int.gcd]
theorem gcd_pos_of {n d : Int} (h : 1 ≤ d) : (1 : Int) ≤ (Int.gcd n d : Int) := by
  have : 0 < Int.gcd n d := Int.gcd_pos_of_ne_zero_right n (by omega)
  omega
theorem gcd_le_of {n d : Int} (h : 1 ≤ d) : (Int.gcd n d : Int) ≤ d := Int.le_of_dvd (by omega) (Int.gcd_dvd_right n d)
theorem gcd_mod_step (a b : Int) : Int.gcd b (a % b) = Int.gcd a b := by
  rw [Int.gcd_comm a b]
  have h := Int.gcd_add_mul_right_right b (a % b) (a / b)
  have e : a % b + a / b * b = a := by rw [Int.mul_comm]; exact Int.emod_add_mul_ediv a b
  rw [e] at h
  exact h.symm
theorem gcd_tmod_step (a b : Int) : Int.gcd b (a.tmod b) = Int.gcd a b := by
  rw [Int.gcd_comm a b]
  have h := Int.gcd_add_mul_right_right b (a.tmod b) (a.tdiv b)
  have e : a.tmod b + a.tdiv b * b = a := by rw [Int.mul_comm]; exact Int.tmod_add_mul_tdiv a b
  rw [e] at h
  exact h.symm
/-- What the check of one ratio, and of two, returns: 0, or 10. -/
def vE (n d : Int) : Int := if okB n d = true then 0 else 10
def vE2 (n d n2 d2 : Int) : Int := if okB n d = true ∧ okB n2 d2 = true then 0 else 10
/-- The reduced ratio of one that need be valid: both numbers, and the error. -/
def rN (n d : Int) : Int := if okB n d = true then sN n d else 0
def rD (n d : Int) : Int := if okB n d = true then sD n d else 0
def rE (n d : Int) : Int := if okB n d = true then sE n d else 10
/-- Of two ratios that need be valid: v1, v2, v3 if they are; else 0, 0, 10. -/
def two (a b c d v z : Int) : Int := if okB a b = true ∧ okB c d = true then v else z
def addN (a b c d : Int) : Int := two a b c d (sN (a * d + c * b) (b * d)) 0
def addD (a b c d : Int) : Int := two a b c d (sD (a * d + c * b) (b * d)) 0
def addE (a b c d : Int) : Int := two a b c d (sE (a * d + c * b) (b * d)) 10
def mulN (a b c d : Int) : Int := two a b c d (sN (a * c) (b * d)) 0
def mulD (a b c d : Int) : Int := two a b c d (sD (a * c) (b * d)) 0
def mulE (a b c d : Int) : Int := two a b c d (sE (a * c) (b * d)) 10
/-- -1, 0 or 1. -/
def sgn (n : Int) : Int := if n < 0 then -1 else if 0 < n then 1 else 0
def cmpV (a b c d : Int) : Int := two a b c d (sgn (a * d - c * b)) 0
def cmpE (a b c d : Int) : Int := two a b c d 0 10
theorem two_yes {a b c d v z : Int} (h : okB a b = true ∧ okB c d = true) : two a b c d v z = v := by unfold two; rw [if_pos h]
theorem two_no {a b c d v z : Int} (h : ¬ (okB a b = true ∧ okB c d = true)) : two a b c d v z = z := by unfold two; rw [if_neg h]

theorem mul_pos_bd {a b x y : Int} (h0 : 1 ≤ a) (h1 : a ≤ x) (h2 : 1 ≤ b) (h3 : b ≤ y) : 1 ≤ a * b ∧ a * b ≤ x * y := by
  refine ⟨?_, (mul_bd (a := a) (b := b) (x := x) (y := y) (by omega) h1 (by omega) h3).2⟩
  have := Int.mul_pos (a := a) (b := b) (by omega) (by omega)
  omega
/-- An arm is valid: Unit u / v, Roll r / s, Low and High. -/
def armP (u v r s lo hi : Int) : Prop := ((1 ≤ u ∧ u ≤ 100) ∧ (1 ≤ v ∧ v ≤ 100)) ∧ ((1 ≤ r ∧ r ≤ 100) ∧ (1 ≤ s ∧ s ≤ 100)) ∧ (1 ≤ lo ∧ lo ≤ hi ∧ hi ≤ 10000)
instance armDec (u v r s lo hi : Int) : Decidable (armP u v r s lo hi) := by unfold armP; exact inferInstance
def armB (u v r s lo hi : Int) : Bool := decide (armP u v r s lo hi)
theorem armB_true {u v r s lo hi : Int} : armB u v r s lo hi = true ↔ armP u v r s lo hi := by unfold armB; simp
def aE (u v r s lo hi : Int) : Int := if armB u v r s lo hi = true then 0 else 11
theorem aE_yes {u v r s lo hi : Int} (h : armP u v r s lo hi) : aE u v r s lo hi = 0 := by unfold aE; rw [if_pos (armB_true.2 h)]
theorem aE_no {u v r s lo hi : Int} (h : ¬ armP u v r s lo hi) : aE u v r s lo hi = 11 := by unfold aE; rw [if_neg (fun e => h (armB_true.1 e))]
/-- What the check of an arm that is asked for a setting with a wanted ratio a / b returns. -/
def cE (u v r s lo hi a b : Int) (is : Bool) : Int := if ¬ armB u v r s lo hi = true then 11 else if ¬ okB a b = true then 10 else if is = true ∧ 1 ≤ a then 0 else 1
theorem cE_arm {u v r s lo hi a b : Int} {is : Bool} (h : ¬ armP u v r s lo hi) : cE u v r s lo hi a b is = 11 := by
  unfold cE; rw [if_pos (fun e => h (armB_true.1 e))]
theorem cE_ratio {u v r s lo hi a b : Int} {is : Bool} (h : armP u v r s lo hi) (h2 : ¬ ok a b) : cE u v r s lo hi a b is = 10 := by
  unfold cE; rw [if_neg (fun e => e (armB_true.2 h)), if_pos (fun e => h2 (okB_true.1 e))]
theorem cE_arg {u v r s lo hi a b : Int} {is : Bool} (h : armP u v r s lo hi) (h2 : ok a b) (h3 : ¬ (is = true ∧ 1 ≤ a)) : cE u v r s lo hi a b is = 1 := by
  unfold cE; rw [if_neg (fun e => e (armB_true.2 h)), if_neg (fun e => e (okB_true.2 h2)), if_neg h3]
theorem cE_ok {u v r s lo hi a b : Int} {is : Bool} (h : armP u v r s lo hi) (h2 : ok a b) (h3 : is = true ∧ 1 ≤ a) : cE u v r s lo hi a b is = 0 := by
  unfold cE; rw [if_neg (fun e => e (armB_true.2 h)), if_neg (fun e => e (okB_true.2 h2)), if_pos h3]
theorem cE_cases {u v r s lo hi a b : Int} {is : Bool} {P : Prop} (h1 : ¬ armP u v r s lo hi → P) (h2 : armP u v r s lo hi → ¬ ok a b → P)
    (h3 : armP u v r s lo hi → ok a b → ¬ (is = true ∧ 1 ≤ a) → P) (h4 : armP u v r s lo hi → ok a b → is = true ∧ 1 ≤ a → P) : P := by
  by_cases e1 : armP u v r s lo hi
  · by_cases e2 : ok a b
    · by_cases e3 : is = true ∧ 1 ≤ a
      · exact h4 e1 e2 e3
      · exact h3 e1 e2 e3
    · exact h2 e1 e2
  · exact h1 e1
theorem cE_zero {u v r s lo hi a b : Int} {is : Bool} : cE u v r s lo hi a b is = 0 ↔ (armP u v r s lo hi ∧ ok a b ∧ (is = true ∧ 1 ≤ a)) := by
  refine cE_cases (u := u) (v := v) (r := r) (s := s) (lo := lo) (hi := hi) (a := a) (b := b) (is := is) (fun h => ?_) (fun h h2 => ?_) (fun h h2 h3 => ?_) (fun h h2 h3 => ?_)
  · rw [cE_arm h]; simp [h]
  · rw [cE_ratio h h2]; simp [h2]
  · rw [cE_arg h h2 h3]; constructor
    · intro e; cases e
    · intro e; exact absurd e.2.2 h3
  · rw [cE_ok h h2 h3]; simp [h, h2, h3]
/-- The whole number nearest to T / B, the lesser one of two, kept within lo and hi. -/
def near (T B lo hi : Int) : Int := min (max (if B < 2 * (T % B) then T / B + 1 else T / B) lo) hi
def scT (v s a : Int) : Int := a * (v * s)
def scB (u r b sc : Int) : Int := b * (u * r) * sc * sc
def scV (u v r s lo hi a b sc : Int) (is : Bool) : Int := if cE u v r s lo hi a b is = 0 then near (scT v s a) (scB u r b sc) lo hi else 0
/-- The value of n steps. -/
def valN (u v r s lo hi n : Int) (is : Bool) : Int := if cE u v r s lo hi 1 1 is = 0 then sN (n * (u * r)) (v * s) else 0
def valD (u v r s lo hi n : Int) (is : Bool) : Int := if cE u v r s lo hi 1 1 is = 0 then sD (n * (u * r)) (v * s) else 0
def valE (u v r s lo hi n : Int) (is : Bool) : Int := if cE u v r s lo hi 1 1 is = 0 then sE (n * (u * r)) (v * s) else cE u v r s lo hi 1 1 is
/-- How far n steps are from a wanted ratio. -/
def farN (u v r s a b n : Int) : Int := ((n * (u * r) * b - a * (v * s)).natAbs : Int)
def offN (u v r s lo hi a b n : Int) (is : Bool) : Int := if cE u v r s lo hi a b is = 0 then sN (farN u v r s a b n) (a * (v * s)) else 0
def offD (u v r s lo hi a b n : Int) (is : Bool) : Int := if cE u v r s lo hi a b is = 0 then sD (farN u v r s a b n) (a * (v * s)) else 0
def offE (u v r s lo hi a b n : Int) (is : Bool) : Int := if cE u v r s lo hi a b is = 0 then sE (farN u v r s a b n) (a * (v * s)) else cE u v r s lo hi a b is
end Arm
end Go.Proofs.YtmjcdggmofohcaaGreat
namespace Go.Proofs.YtmjcdggmofohcaaGreat
open Go.RowKit


theorem withoutSign_any (n : Int) (w : World) (h0 : -9000000000000000000 ≤ n) (h1 : n ≤ 9000000000000000000) :
    Calls Tryz.prog 93 #[.int .i64 n] w fun e w' => e = .returned (.int .i64 (n.natAbs : Int)) ∧ w = w' := by
  by_cases h : 0 ≤ n
  · go_enter Tryz.func93, Tryz.ntmps93
    go_wp2
    go_ret
    exact ⟨ret_i (by omega), rfl⟩
  · go_enter Tryz.func93, Tryz.ntmps93
    go_wp2
    go_ret
    exact ⟨ret_i (by omega), rfl⟩

theorem Within1_any (n l h : Int) (w : World) :
    Calls Tryz.prog 60 #[.int .i64 n, .int .i64 l, .int .i64 h] w fun e w' => e = .returned (.bool (inB n l h)) ∧ w = w' := by
  go_enter Tryz.func60, Tryz.ntmps60
  go_wp2
  · have hl : l ≤ n := by assumption
    go_ret
    exact ⟨ret_b (by simp [inB, hl]), rfl⟩
  · have hl : n < l := by assumption
    go_ret
    exact ⟨ret_b (by simp [inB]; omega), rfl⟩
theorem Within_yes {n l h : Int} (hh : l ≤ n ∧ n ≤ h) (w : World) :
    Calls Tryz.prog 60 #[.int .i64 n, .int .i64 l, .int .i64 h] w fun e w' => e = .returned (.bool true) ∧ w = w' := by
  have := Within1_any n l h w
  rw [inB_true.2 hh] at this; exact this
theorem Within_no {n l h : Int} (hh : ¬ (l ≤ n ∧ n ≤ h)) (w : World) :
    Calls Tryz.prog 60 #[.int .i64 n, .int .i64 l, .int .i64 h] w fun e w' => e = .returned (.bool false) ∧ w = w' := by
  have := Within1_any n l h w
  rw [inB_false.2 hh] at this; exact this


set_option maxHeartbeats 400000 in
theorem divisor_any (a b : Int) (w : World) (ha : 0 ≤ a) (ha' : a ≤ 9000000000000000000) (hb : 0 ≤ b) (hb' : b ≤ 9000000000000000000) :
    Calls Tryz.prog 92 #[.int .i64 a, .int .i64 b] w fun e w' => e = .returned (.int .i64 (Int.gcd a b : Int)) ∧ ∃ n, w' = w.drewN n := by
  go_enter Tryz.func92, Tryz.ntmps92
  go_wp2
  go_loopw [0, 1] (fun x y wr => ∃ p q : Int, x = .int .i64 p ∧ y = .int .i64 q ∧ 0 ≤ p ∧ p ≤ 9000000000000000000 ∧ 0 ≤ q ∧ q ≤ 9000000000000000000 ∧ Hid (Int.gcd p q = Int.gcd a b) ∧ ∃ n, wr = w.drewN n) (fun _ y _ => (intOf y).toNat)
  case atStart => exact ⟨a, b, rfl, rfl, ha, ha', hb, hb', rfl, 0, rfl⟩
  case round =>
    obtain ⟨p, q, rfl, rfl, hp, hp', hq, hq', hg, n, rfl⟩ := hrel
    by_cases hz : 0 < q
    · have hz' : (q != 0) = true := by simp; omega
      have hz2 : ¬ q = 0 := by omega
      have hm := Int.emod_nonneg p hz2
      have hm' := Int.emod_lt_of_pos p hz
      go_wp2
      go_quiet (fail)
      go_wp2
      go_roundw
      case rel => exact ⟨q, p % q, rfl, rfl, hq, hq', hm, by omega, (Arm.gcd_mod_step p q).trans hg.out, _, World.drewN_drewN _ _ _⟩
      case measure => simp [intOf]; omega
    · have hz' : (q != 0) = false := by simp; omega
      have e : q = 0 := by omega
      go_wp2
      go_ret
      subst e
      refine ⟨ret_i ?_, _, rfl⟩
      rw [← hg.out]
      simp [Int.gcd]; omega

theorem validRatio_any (n d : Int) (w : World) :
    Calls Tryz.prog 94 #[.agg #[.int .i64 n, .int .i64 d]] w fun e w' => e = .returned (.bool (Arm.okB n d)) ∧ Below w.heap.size w w' := by
  go_enter Tryz.func94, Tryz.ntmps94
  go_wp2
  all_goals
    go_ret
    refine ⟨ret_b ?_, (Below.refl _ _).alloc (Nat.le_refl _) _⟩
    rw [Bool.eq_iff_iff, Arm.okB_true]
    simp [Arm.ok]
    try omega

end Go.Proofs.YtmjcdggmofohcaaGreat
namespace Go.Proofs.YtmjcdggmofohcaaGreat
open Go.RowKit

theorem tdiv_bd {n g : Int} (_hg : 1 ≤ g) (h0 : -9000000000000000000 ≤ n) (h1 : n ≤ 9000000000000000000) : -9000000000000000000 ≤ n.tdiv g ∧ n.tdiv g ≤ 9000000000000000000 := by
  have h := Int.natAbs_tdiv n g
  have h2 : n.natAbs.div g.natAbs ≤ n.natAbs := Nat.div_le_self _ _
  rw [← h] at h2
  omega
theorem ret_t {k : IntKind} {a b a' b' c c' : Int} (h : a = a') (h2 : b = b') (h3 : c = c') :
    Ending.returned (.tuple #[.agg #[.int .i64 a, .int .i64 b], .int k c]) = .returned (.tuple #[.agg #[.int .i64 a', .int .i64 b'], .int k c']) := by rw [h, h2, h3]

theorem load_rat (w : World) (b : Nat) (x y : Value) (hx : w.cell? ⟨b, 0, none⟩ = some x) (hy : w.cell? ⟨b, 1, none⟩ = some y) :
    (loadVar 92 ⟨b, 0, none⟩).run Tryz.prog w = .ok (.agg #[x, y]) w := by
  simp [go_sem, hx, hy]
theorem ret_rat {fn : Func} {p u : Tmp} {a : Act} {w : World} {R : Ending → World → Prop} {b : Nat} {x y e : Value} (h : fn.results = #[.cell p 92, .tmp u])
    (hp : a.tmps.getD p undef = .pointer (some ⟨b, 0, none⟩)) (hu : a.tmps.getD u undef = e) (hx : w.cell? ⟨b, 0, none⟩ = some x) (hy : w.cell? ⟨b, 1, none⟩ = some y)
    (hd : a.defers = []) (hR : R (.returned (.tuple #[.agg #[x, y], e])) w) : bodyPost Tryz.prog fn R .ret a w := by
  refine bodyPost_ret ?_ hd hR
  rw [results_cell_tmp h]
  simp only [hp, hu, asAddr, Sem.run_pure, Result.andThen_ok, load_rat w b x y hx hy]

set_option maxHeartbeats 400000 in
theorem reduced_any (n d : Int) (w : World) (h0 : -9000000000000000000 ≤ n) (h1 : n ≤ 9000000000000000000) (h2 : 1 ≤ d) (h3 : d ≤ 9000000000000000000) :
    Calls Tryz.prog 73 #[.int .i64 n, .int .i64 d] w fun e w' => e = .returned (.tuple #[.agg #[.int .i64 (Arm.sN n d), .int .i64 (Arm.sD n d)], .int .i64 (Arm.sE n d)]) ∧ Below w.heap.size w w' := by
  have g1 := Arm.gcd_pos_of (n := n) h2
  have g2 := Arm.gcd_le_of (n := n) h2
  have e0 := Arm.gcd_abs n d
  go_enter Tryz.func73, Tryz.ntmps73
  go_wp2_with fail
  refine (withoutSign_any n _ h0 h1).mono ?_
  rintro e w' ⟨rfl, rfl⟩
  go_wp2_with fail
  refine (divisor_any _ _ _ (by omega) (by omega) (by omega) (by omega)).mono ?_
  rintro e w' ⟨rfl, k, rfl⟩
  rw [e0]
  clear e0
  generalize hgg : ((Int.gcd n d : Nat) : Int) = g at *
  have Hg := Lib.hid hgg
  clear hgg
  have hb := tdiv_bd (n := n) g1 h0 h1
  go_wp2_with fail
  go_region
  go_wp2_with fail
  refine (validRatio_any _ _ _).mono ?_
  rintro e w1 ⟨rfl, hb1⟩
  obtain ⟨hc, hf⟩ := bcell hb1
  have hz := hb1.size
  have hB : Below w.heap.size w w1 := Below.trans (by (repeat' (first | (with_reducible exact Below.refl _ _) | (with_reducible assumption) | (with_reducible refine Below.alloc ?_ ?_ _) | (with_reducible refine below_drewN ?_ _) | (with_reducible refine Below.drew ?_) | (with_reducible refine Below.setCell ?_ ?_ _) | go_size))) (hb1.mono (by simp; omega))
  have hN : Hid (n.tdiv g = Arm.redN n d) := by
    unfold Arm.redN; rw [Hg.out]; exact Int.tdiv_eq_ediv_of_dvd (Hg.out ▸ Int.gcd_dvd_left n d)
  have hD : Hid (d / g = Arm.redD n d) := by unfold Arm.redD; rw [Hg.out]; rfl
  have hx0 : w1.cell? ⟨w.heap.size, 0, none⟩ = some (.int .i64 0) := by rw [hc _ _ (by simp; omega)]; go_cell
  have hx1 : w1.cell? ⟨w.heap.size, 1, none⟩ = some (.int .i64 0) := by rw [hc _ _ (by simp; omega)]; go_cell
  by_cases hok : Arm.okB (n.tdiv g) (d / g) = true
  · have hF : Hid (Arm.fit n d = true) := by unfold Arm.fit; rw [← hN.out, ← hD.out]; exact hok
    go_wp2
    refine ret_rat (b := w.heap.size) (by rfl) rfl rfl (by (repeat (rw [World.cell?_alloc_lt _ _ _ (by first | omega | (simp; done) | (simp; omega))])); go_cell) (by (repeat (rw [World.cell?_alloc_lt _ _ _ (by first | omega | (simp; done) | (simp; omega))])); go_cell) rfl ?_
    refine ⟨ret_t ?_ ?_ ?_, by (repeat' (first | (with_reducible exact Below.refl _ _) | (with_reducible assumption) | (with_reducible refine Below.alloc ?_ ?_ _) | (with_reducible refine below_drewN ?_ _) | (with_reducible refine Below.drew ?_) | (with_reducible refine Below.setCell ?_ ?_ _) | go_size))⟩
    · unfold Arm.sN; rw [if_pos hF.out]; exact hN.out
    · unfold Arm.sD; rw [if_pos hF.out]; exact hD.out
    · unfold Arm.sE; rw [if_pos hF.out]
  · have hok' : Arm.okB (n.tdiv g) (d / g) = false := by simpa using hok
    have hF : Hid (¬ Arm.fit n d = true) := by unfold Arm.fit; rw [← hN.out, ← hD.out]; exact hok
    go_wp2
    refine ret_rat (b := w.heap.size) (by rfl) rfl rfl (by (repeat (rw [World.cell?_alloc_lt _ _ _ (by first | omega | (simp; done) | (simp; omega))])); go_cell) (by (repeat (rw [World.cell?_alloc_lt _ _ _ (by first | omega | (simp; done) | (simp; omega))])); go_cell) rfl ?_
    refine ⟨ret_t ?_ ?_ ?_, by (repeat' (first | (with_reducible exact Below.refl _ _) | (with_reducible assumption) | (with_reducible refine Below.alloc ?_ ?_ _) | (with_reducible refine below_drewN ?_ _) | (with_reducible refine Below.drew ?_) | (with_reducible refine Below.setCell ?_ ?_ _) | go_size))⟩
    · unfold Arm.sN; rw [if_neg hF.out]
    · unfold Arm.sD; rw [if_neg hF.out]
    · unfold Arm.sE; rw [if_neg hF.out]

end Go.Proofs.YtmjcdggmofohcaaGreat
namespace Go.Proofs.YtmjcdggmofohcaaGreat
open Go.RowKit




end Go.Proofs.YtmjcdggmofohcaaGreat
namespace Go.Proofs.YtmjcdggmofohcaaGreat
open Go.RowKit



theorem ret_2 {k : IntKind} {a a' c c' : Int} (h : a = a') (h2 : c = c') :
    Ending.returned (.tuple #[.int k a, .int k c]) = .returned (.tuple #[.int k a', .int k c']) := by rw [h, h2]

end Go.Proofs.YtmjcdggmofohcaaGreat
namespace Go.Proofs.YtmjcdggmofohcaaGreat
open Go.RowKit

theorem cell_drewN (w : World) (n : Nat) (a : Addr) : (w.drewN n).cell? a = w.cell? a := rfl
/-- A result that is one ratio in memory. -/
theorem ret_rat1 {fn : Func} {p : Tmp} {a : Act} {w : World} {R : Ending → World → Prop} {b : Nat} {x y : Value} (h : fn.results = #[.cell p 92])
    (hp : a.tmps.getD p undef = .pointer (some ⟨b, 0, none⟩)) (hx : w.cell? ⟨b, 0, none⟩ = some x) (hy : w.cell? ⟨b, 1, none⟩ = some y)
    (hd : a.defers = []) (hR : R (.returned (.agg #[x, y])) w) : bodyPost Tryz.prog fn R .ret a w := by
  refine bodyPost_ret ?_ hd hR
  have hp' : a.tmps[p]?.getD undef = .pointer (some ⟨b, 0, none⟩) := by simpa using hp
  simp [results, h, hp', asAddr, load_rat w b x y hx hy]
theorem ret_a {a b a' b' : Int} (h : a = a') (h2 : b = b') : Ending.returned (.agg #[.int .i64 a, .int .i64 b]) = .returned (.agg #[.int .i64 a', .int .i64 b']) := by rw [h, h2]



end Go.Proofs.YtmjcdggmofohcaaGreat
namespace Go.Proofs.YtmjcdggmofohcaaGreat
open Go.RowKit

set_option maxHeartbeats 1000000 in
theorem checkArm_any (u v r s lo hi : Int) (w : World) :
    Calls Tryz.prog 70 #[.agg #[.int .i64 u, .int .i64 v, .int .i64 r, .int .i64 s, .int .i64 lo, .int .i64 hi]] w fun e w' => e = .returned (.int .i64 (Arm.aE u v r s lo hi)) ∧ Below w.heap.size w w' := by
  have i0 : ∀ w, (Instr.index 140 (.agg #[.int .i64 u, .int .i64 v, .int .i64 r, .int .i64 s]) (.int .i64 0)).run Tryz.prog w = .ok (.int .i64 u) w := fun _ => by kernel_rfl
  have i1 : ∀ w, (Instr.index 140 (.agg #[.int .i64 u, .int .i64 v, .int .i64 r, .int .i64 s]) (.int .i64 1)).run Tryz.prog w = .ok (.int .i64 v) w := fun _ => by kernel_rfl
  have i2 : ∀ w, (Instr.index 140 (.agg #[.int .i64 u, .int .i64 v, .int .i64 r, .int .i64 s]) (.int .i64 2)).run Tryz.prog w = .ok (.int .i64 r) w := fun _ => by kernel_rfl
  have i3 : ∀ w, (Instr.index 140 (.agg #[.int .i64 u, .int .i64 v, .int .i64 r, .int .i64 s]) (.int .i64 3)).run Tryz.prog w = .ok (.int .i64 s) w := fun _ => by kernel_rfl
  go_enter Tryz.func70, Tryz.ntmps70
  go_wp2
  refine wp_loop_rounds 5 ?_
  repeat any_goals (rw [rounds_succ]; go_wp2)
  all_goals go_returns
  all_goals refine ⟨ret_i ?_, by (repeat' (first | (with_reducible exact Below.refl _ _) | (with_reducible assumption) | (with_reducible refine Below.alloc ?_ ?_ _) | (with_reducible refine below_drewN ?_ _) | (with_reducible refine Below.drew ?_) | (with_reducible refine Below.setCell ?_ ?_ _) | go_size))⟩
  all_goals first | exact (Arm.aE_no (by unfold Arm.armP; omega)).symm | exact (Arm.aE_yes (by unfold Arm.armP; omega)).symm

theorem isSetting_any (u v r s lo hi n : Int) (w : World) :
    Calls Tryz.prog 71 #[.agg #[.int .i64 u, .int .i64 v, .int .i64 r, .int .i64 s, .int .i64 lo, .int .i64 hi], .int .i64 n] w fun e w' => e = .returned (.bool (inB n lo hi)) ∧ Below w.heap.size w w' := by
  go_enter Tryz.func71, Tryz.ntmps71
  go_wp2
  all_goals
    go_returns
    refine ⟨ret_b ?_, by (repeat' (first | (with_reducible exact Below.refl _ _) | (with_reducible assumption) | (with_reducible refine Below.alloc ?_ ?_ _) | (with_reducible refine below_drewN ?_ _) | (with_reducible refine Below.drew ?_) | (with_reducible refine Below.setCell ?_ ?_ _) | go_size))⟩
    rw [Bool.eq_iff_iff, inB_true]
    simp
    try omega

set_option maxHeartbeats 400000 in
theorem oneStep_any (u v r s lo hi : Int) (w : World) (h : Arm.armP u v r s lo hi) :
    Calls Tryz.prog 72 #[.agg #[.int .i64 u, .int .i64 v, .int .i64 r, .int .i64 s, .int .i64 lo, .int .i64 hi]] w fun e w' => e = .returned (.tuple #[.int .i64 (u * r), .int .i64 (v * s)]) ∧ Below w.heap.size w w' := by
  have m1 := Arm.mul_pos_bd h.1.1.1 h.1.1.2 h.2.1.1.1 h.2.1.1.2
  have m2 := Arm.mul_pos_bd h.1.2.1 h.1.2.2 h.2.1.2.1 h.2.1.2.2
  go_enter Tryz.func72, Tryz.ntmps72
  go_wp2
  go_quiet (fail)
  go_wp2
  go_ret2
  exact ⟨rfl, by (repeat' (first | (with_reducible exact Below.refl _ _) | (with_reducible assumption) | (with_reducible refine Below.alloc ?_ ?_ _) | (with_reducible refine below_drewN ?_ _) | (with_reducible refine Below.drew ?_) | (with_reducible refine Below.setCell ?_ ?_ _) | go_size))⟩

end Go.Proofs.YtmjcdggmofohcaaGreat
namespace Go.Proofs.YtmjcdggmofohcaaGreat
open Go.RowKit

theorem inB_one : inB 1 1 100 = true := by decide

end Go.Proofs.YtmjcdggmofohcaaGreat
namespace Go.Proofs.YtmjcdggmofohcaaGreat
open Go.RowKit

theorem Arm.ok_one : Arm.ok 1 1 := by unfold Arm.ok; omega

set_option maxHeartbeats 1000000 in
theorem Value_any (u v r s lo hi n : Int) (w : World) :
    Calls Tryz.prog 48 #[.agg #[.int .i64 u, .int .i64 v, .int .i64 r, .int .i64 s, .int .i64 lo, .int .i64 hi], .int .i64 n] w
      fun e w' => e = .returned (.tuple #[.agg #[.int .i64 (Arm.valN u v r s lo hi n (inB n lo hi)), .int .i64 (Arm.valD u v r s lo hi n (inB n lo hi))], .int .i64 (Arm.valE u v r s lo hi n (inB n lo hi))]) ∧ Below w.heap.size w w' := by
  by_cases h1 : Arm.armP u v r s lo hi
  · have H1 := Lib.hid (Arm.aE_yes h1)
    cases hs : inB n lo hi
    · have hz : Arm.cE u v r s lo hi 1 1 false = 1 := Arm.cE_arg h1 Arm.ok_one (by simp)
      have e1 : Hid (Arm.valN u v r s lo hi n false = 0) := by unfold Arm.valN; rw [hz]; rfl
      have e2 : Hid (Arm.valD u v r s lo hi n false = 0) := by unfold Arm.valD; rw [hz]; rfl
      have e3 : Hid (Arm.valE u v r s lo hi n false = 1) := by unfold Arm.valE; rw [hz]; rfl
      clear hz h1
      go_enter Tryz.func48, Tryz.ntmps48
      go_wp2_with fail
      refine (checkArm_any u v r s lo hi _).mono ?_
      rintro e w1 ⟨rfl, hb1⟩
      have hB1 : Below w.heap.size w w1 := Below.trans (by (repeat' (first | (with_reducible exact Below.refl _ _) | (with_reducible assumption) | (with_reducible refine Below.alloc ?_ ?_ _) | (with_reducible refine below_drewN ?_ _) | (with_reducible refine Below.drew ?_) | (with_reducible refine Below.setCell ?_ ?_ _) | go_size))) (hb1.mono (by first | omega | (simp; done) | (simp; omega))); have hz1 := hb1.size; try simp at hz1
      have hl1a : w.heap.size < w1.heap.size := (by omega); have hx1a0 : w1.cell? ⟨w.heap.size, 0, none⟩ = some (.int .i64 (u)) := (by rw [(hb1.cell (by first | omega | (simp; done) | (simp; omega)))]; (repeat (rw [World.cell?_alloc_lt _ _ _ (by first | omega | (simp; done) | (simp; omega))])); go_cell); have hx1a1 : w1.cell? ⟨w.heap.size, 1, none⟩ = some (.int .i64 (v)) := (by rw [(hb1.cell (by first | omega | (simp; done) | (simp; omega)))]; (repeat (rw [World.cell?_alloc_lt _ _ _ (by first | omega | (simp; done) | (simp; omega))])); go_cell); have hx1a2 : w1.cell? ⟨w.heap.size, 2, none⟩ = some (.int .i64 (r)) := (by rw [(hb1.cell (by first | omega | (simp; done) | (simp; omega)))]; (repeat (rw [World.cell?_alloc_lt _ _ _ (by first | omega | (simp; done) | (simp; omega))])); go_cell); have hx1a3 : w1.cell? ⟨w.heap.size, 3, none⟩ = some (.int .i64 (s)) := (by rw [(hb1.cell (by first | omega | (simp; done) | (simp; omega)))]; (repeat (rw [World.cell?_alloc_lt _ _ _ (by first | omega | (simp; done) | (simp; omega))])); go_cell); have hx1a4 : w1.cell? ⟨w.heap.size, 4, none⟩ = some (.int .i64 (lo)) := (by rw [(hb1.cell (by first | omega | (simp; done) | (simp; omega)))]; (repeat (rw [World.cell?_alloc_lt _ _ _ (by first | omega | (simp; done) | (simp; omega))])); go_cell); have hx1a5 : w1.cell? ⟨w.heap.size, 5, none⟩ = some (.int .i64 (hi)) := (by rw [(hb1.cell (by first | omega | (simp; done) | (simp; omega)))]; (repeat (rw [World.cell?_alloc_lt _ _ _ (by first | omega | (simp; done) | (simp; omega))])); go_cell)
      have hl1r : w.heap.size + 1 < w1.heap.size := (by omega); have hx1r0 : w1.cell? ⟨w.heap.size + 1, 0, none⟩ = some (.int .i64 (0)) := (by rw [(hb1.cell (by first | omega | (simp; done) | (simp; omega)))]; (repeat (rw [World.cell?_alloc_lt _ _ _ (by first | omega | (simp; done) | (simp; omega))])); go_cell); have hx1r1 : w1.cell? ⟨w.heap.size + 1, 1, none⟩ = some (.int .i64 (0)) := (by rw [(hb1.cell (by first | omega | (simp; done) | (simp; omega)))]; (repeat (rw [World.cell?_alloc_lt _ _ _ (by first | omega | (simp; done) | (simp; omega))])); go_cell)
      have hp1r0 : w1.frozen? ⟨w.heap.size + 1, 0, none⟩ = false := (by rw [(hb1.frozen (by first | omega | (simp; done) | (simp; omega)))]; first | (with_reducible assumption) | (go_simp; done) | (simp [*]; done)); have hp1r1 : w1.frozen? ⟨w.heap.size + 1, 1, none⟩ = false := (by rw [(hb1.frozen (by first | omega | (simp; done) | (simp; omega)))]; first | (with_reducible assumption) | (go_simp; done) | (simp [*]; done))
      rw [H1.out]
      go_wp2_with fail
      refine (isSetting_any u v r s lo hi n _).mono ?_
      rintro e w2 ⟨rfl, hb2⟩
      have hB2 : Below w.heap.size w w2 := Below.trans (by (repeat' (first | (with_reducible exact Below.refl _ _) | (with_reducible assumption) | (with_reducible refine Below.alloc ?_ ?_ _) | (with_reducible refine below_drewN ?_ _) | (with_reducible refine Below.drew ?_) | (with_reducible refine Below.setCell ?_ ?_ _) | go_size))) (hb2.mono (by first | omega | (simp; done) | (simp; omega))); have hz2 := hb2.size; try simp at hz2
      have hl2r : w.heap.size + 1 < w2.heap.size := (by omega); have hx2r0 : w2.cell? ⟨w.heap.size + 1, 0, none⟩ = some (.int .i64 (0)) := (by rw [(hb2.cell (by first | omega | (simp; done) | (simp; omega)))]; (repeat (rw [World.cell?_alloc_lt _ _ _ (by first | omega | (simp; done) | (simp; omega))])); go_cell); have hx2r1 : w2.cell? ⟨w.heap.size + 1, 1, none⟩ = some (.int .i64 (0)) := (by rw [(hb2.cell (by first | omega | (simp; done) | (simp; omega)))]; (repeat (rw [World.cell?_alloc_lt _ _ _ (by first | omega | (simp; done) | (simp; omega))])); go_cell)
      have hp2r0 : w2.frozen? ⟨w.heap.size + 1, 0, none⟩ = false := (by rw [(hb2.frozen (by first | omega | (simp; done) | (simp; omega)))]; first | (with_reducible assumption) | (go_simp; done) | (simp [*]; done)); have hp2r1 : w2.frozen? ⟨w.heap.size + 1, 1, none⟩ = false := (by rw [(hb2.frozen (by first | omega | (simp; done) | (simp; omega)))]; first | (with_reducible assumption) | (go_simp; done) | (simp [*]; done))
      go_wp2_with fail
      refine ret_rat (b := w.heap.size + 1) (by rfl) rfl rfl (by (repeat (rw [World.cell?_alloc_lt _ _ _ (by first | omega | (simp; done) | (simp; omega))])); go_cell) (by (repeat (rw [World.cell?_alloc_lt _ _ _ (by first | omega | (simp; done) | (simp; omega))])); go_cell) rfl ?_
      exact ⟨ret_t e1.out.symm e2.out.symm e3.out.symm, by (repeat' (first | (with_reducible exact Below.refl _ _) | (with_reducible assumption) | (with_reducible refine Below.alloc ?_ ?_ _) | (with_reducible refine below_drewN ?_ _) | (with_reducible refine Below.drew ?_) | (with_reducible refine Below.setCell ?_ ?_ _) | go_size))⟩
    · have hz : Arm.cE u v r s lo hi 1 1 true = 0 := Arm.cE_ok h1 Arm.ok_one (by simp)
      have e1 : Hid (Arm.valN u v r s lo hi n true = Arm.sN (n * (u * r)) (v * s)) := by unfold Arm.valN; rw [hz]; rfl
      have e2 : Hid (Arm.valD u v r s lo hi n true = Arm.sD (n * (u * r)) (v * s)) := by unfold Arm.valD; rw [hz]; rfl
      have e3 : Hid (Arm.valE u v r s lo hi n true = Arm.sE (n * (u * r)) (v * s)) := by unfold Arm.valE; rw [hz]; rfl
      have H0 := Lib.hid h1
      have hn := inB_true.1 hs
      have m1 := Arm.mul_pos_bd h1.1.1.1 h1.1.1.2 h1.2.1.1.1 h1.2.1.1.2
      have m2 := Arm.mul_pos_bd h1.1.2.1 h1.1.2.2 h1.2.1.2.1 h1.2.1.2.2
      have m4 := Arm.mul_pos_bd (a := n) (x := 10000) (by have := h1.2.2; omega) (by have := h1.2.2; omega) m1.1 m1.2
      clear hz h1
      go_enter Tryz.func48, Tryz.ntmps48
      go_wp2_with fail
      refine (checkArm_any u v r s lo hi _).mono ?_
      rintro e w1 ⟨rfl, hb1⟩
      have hB1 : Below w.heap.size w w1 := Below.trans (by (repeat' (first | (with_reducible exact Below.refl _ _) | (with_reducible assumption) | (with_reducible refine Below.alloc ?_ ?_ _) | (with_reducible refine below_drewN ?_ _) | (with_reducible refine Below.drew ?_) | (with_reducible refine Below.setCell ?_ ?_ _) | go_size))) (hb1.mono (by first | omega | (simp; done) | (simp; omega))); have hz1 := hb1.size; try simp at hz1
      have hl1a : w.heap.size < w1.heap.size := (by omega); have hx1a0 : w1.cell? ⟨w.heap.size, 0, none⟩ = some (.int .i64 (u)) := (by rw [(hb1.cell (by first | omega | (simp; done) | (simp; omega)))]; (repeat (rw [World.cell?_alloc_lt _ _ _ (by first | omega | (simp; done) | (simp; omega))])); go_cell); have hx1a1 : w1.cell? ⟨w.heap.size, 1, none⟩ = some (.int .i64 (v)) := (by rw [(hb1.cell (by first | omega | (simp; done) | (simp; omega)))]; (repeat (rw [World.cell?_alloc_lt _ _ _ (by first | omega | (simp; done) | (simp; omega))])); go_cell); have hx1a2 : w1.cell? ⟨w.heap.size, 2, none⟩ = some (.int .i64 (r)) := (by rw [(hb1.cell (by first | omega | (simp; done) | (simp; omega)))]; (repeat (rw [World.cell?_alloc_lt _ _ _ (by first | omega | (simp; done) | (simp; omega))])); go_cell); have hx1a3 : w1.cell? ⟨w.heap.size, 3, none⟩ = some (.int .i64 (s)) := (by rw [(hb1.cell (by first | omega | (simp; done) | (simp; omega)))]; (repeat (rw [World.cell?_alloc_lt _ _ _ (by first | omega | (simp; done) | (simp; omega))])); go_cell); have hx1a4 : w1.cell? ⟨w.heap.size, 4, none⟩ = some (.int .i64 (lo)) := (by rw [(hb1.cell (by first | omega | (simp; done) | (simp; omega)))]; (repeat (rw [World.cell?_alloc_lt _ _ _ (by first | omega | (simp; done) | (simp; omega))])); go_cell); have hx1a5 : w1.cell? ⟨w.heap.size, 5, none⟩ = some (.int .i64 (hi)) := (by rw [(hb1.cell (by first | omega | (simp; done) | (simp; omega)))]; (repeat (rw [World.cell?_alloc_lt _ _ _ (by first | omega | (simp; done) | (simp; omega))])); go_cell)
      have hl1r : w.heap.size + 1 < w1.heap.size := (by omega); have hx1r0 : w1.cell? ⟨w.heap.size + 1, 0, none⟩ = some (.int .i64 (0)) := (by rw [(hb1.cell (by first | omega | (simp; done) | (simp; omega)))]; (repeat (rw [World.cell?_alloc_lt _ _ _ (by first | omega | (simp; done) | (simp; omega))])); go_cell); have hx1r1 : w1.cell? ⟨w.heap.size + 1, 1, none⟩ = some (.int .i64 (0)) := (by rw [(hb1.cell (by first | omega | (simp; done) | (simp; omega)))]; (repeat (rw [World.cell?_alloc_lt _ _ _ (by first | omega | (simp; done) | (simp; omega))])); go_cell)
      have hp1r0 : w1.frozen? ⟨w.heap.size + 1, 0, none⟩ = false := (by rw [(hb1.frozen (by first | omega | (simp; done) | (simp; omega)))]; first | (with_reducible assumption) | (go_simp; done) | (simp [*]; done)); have hp1r1 : w1.frozen? ⟨w.heap.size + 1, 1, none⟩ = false := (by rw [(hb1.frozen (by first | omega | (simp; done) | (simp; omega)))]; first | (with_reducible assumption) | (go_simp; done) | (simp [*]; done))
      rw [H1.out]
      go_wp2_with fail
      refine (isSetting_any u v r s lo hi n _).mono ?_
      rintro e w2 ⟨rfl, hb2⟩
      have hB2 : Below w.heap.size w w2 := Below.trans (by (repeat' (first | (with_reducible exact Below.refl _ _) | (with_reducible assumption) | (with_reducible refine Below.alloc ?_ ?_ _) | (with_reducible refine below_drewN ?_ _) | (with_reducible refine Below.drew ?_) | (with_reducible refine Below.setCell ?_ ?_ _) | go_size))) (hb2.mono (by first | omega | (simp; done) | (simp; omega))); have hz2 := hb2.size; try simp at hz2
      have hl2a : w.heap.size < w2.heap.size := (by omega); have hx2a0 : w2.cell? ⟨w.heap.size, 0, none⟩ = some (.int .i64 (u)) := (by rw [(hb2.cell (by first | omega | (simp; done) | (simp; omega)))]; (repeat (rw [World.cell?_alloc_lt _ _ _ (by first | omega | (simp; done) | (simp; omega))])); go_cell); have hx2a1 : w2.cell? ⟨w.heap.size, 1, none⟩ = some (.int .i64 (v)) := (by rw [(hb2.cell (by first | omega | (simp; done) | (simp; omega)))]; (repeat (rw [World.cell?_alloc_lt _ _ _ (by first | omega | (simp; done) | (simp; omega))])); go_cell); have hx2a2 : w2.cell? ⟨w.heap.size, 2, none⟩ = some (.int .i64 (r)) := (by rw [(hb2.cell (by first | omega | (simp; done) | (simp; omega)))]; (repeat (rw [World.cell?_alloc_lt _ _ _ (by first | omega | (simp; done) | (simp; omega))])); go_cell); have hx2a3 : w2.cell? ⟨w.heap.size, 3, none⟩ = some (.int .i64 (s)) := (by rw [(hb2.cell (by first | omega | (simp; done) | (simp; omega)))]; (repeat (rw [World.cell?_alloc_lt _ _ _ (by first | omega | (simp; done) | (simp; omega))])); go_cell); have hx2a4 : w2.cell? ⟨w.heap.size, 4, none⟩ = some (.int .i64 (lo)) := (by rw [(hb2.cell (by first | omega | (simp; done) | (simp; omega)))]; (repeat (rw [World.cell?_alloc_lt _ _ _ (by first | omega | (simp; done) | (simp; omega))])); go_cell); have hx2a5 : w2.cell? ⟨w.heap.size, 5, none⟩ = some (.int .i64 (hi)) := (by rw [(hb2.cell (by first | omega | (simp; done) | (simp; omega)))]; (repeat (rw [World.cell?_alloc_lt _ _ _ (by first | omega | (simp; done) | (simp; omega))])); go_cell)
      have hl2r : w.heap.size + 1 < w2.heap.size := (by omega); have hx2r0 : w2.cell? ⟨w.heap.size + 1, 0, none⟩ = some (.int .i64 (0)) := (by rw [(hb2.cell (by first | omega | (simp; done) | (simp; omega)))]; (repeat (rw [World.cell?_alloc_lt _ _ _ (by first | omega | (simp; done) | (simp; omega))])); go_cell); have hx2r1 : w2.cell? ⟨w.heap.size + 1, 1, none⟩ = some (.int .i64 (0)) := (by rw [(hb2.cell (by first | omega | (simp; done) | (simp; omega)))]; (repeat (rw [World.cell?_alloc_lt _ _ _ (by first | omega | (simp; done) | (simp; omega))])); go_cell)
      have hp2r0 : w2.frozen? ⟨w.heap.size + 1, 0, none⟩ = false := (by rw [(hb2.frozen (by first | omega | (simp; done) | (simp; omega)))]; first | (with_reducible assumption) | (go_simp; done) | (simp [*]; done)); have hp2r1 : w2.frozen? ⟨w.heap.size + 1, 1, none⟩ = false := (by rw [(hb2.frozen (by first | omega | (simp; done) | (simp; omega)))]; first | (with_reducible assumption) | (go_simp; done) | (simp [*]; done))
      go_wp2_with fail
      refine (oneStep_any u v r s lo hi _ H0.out).mono ?_
      rintro e w3 ⟨rfl, hb3⟩
      have hB3 : Below w.heap.size w w3 := Below.trans (by (repeat' (first | (with_reducible exact Below.refl _ _) | (with_reducible assumption) | (with_reducible refine Below.alloc ?_ ?_ _) | (with_reducible refine below_drewN ?_ _) | (with_reducible refine Below.drew ?_) | (with_reducible refine Below.setCell ?_ ?_ _) | go_size))) (hb3.mono (by first | omega | (simp; done) | (simp; omega))); have hz3 := hb3.size; try simp at hz3
      have hl3r : w.heap.size + 1 < w3.heap.size := (by omega); have hx3r0 : w3.cell? ⟨w.heap.size + 1, 0, none⟩ = some (.int .i64 (0)) := (by rw [(hb3.cell (by first | omega | (simp; done) | (simp; omega)))]; (repeat (rw [World.cell?_alloc_lt _ _ _ (by first | omega | (simp; done) | (simp; omega))])); go_cell); have hx3r1 : w3.cell? ⟨w.heap.size + 1, 1, none⟩ = some (.int .i64 (0)) := (by rw [(hb3.cell (by first | omega | (simp; done) | (simp; omega)))]; (repeat (rw [World.cell?_alloc_lt _ _ _ (by first | omega | (simp; done) | (simp; omega))])); go_cell)
      have hp3r0 : w3.frozen? ⟨w.heap.size + 1, 0, none⟩ = false := (by rw [(hb3.frozen (by first | omega | (simp; done) | (simp; omega)))]; first | (with_reducible assumption) | (go_simp; done) | (simp [*]; done)); have hp3r1 : w3.frozen? ⟨w.heap.size + 1, 1, none⟩ = false := (by rw [(hb3.frozen (by first | omega | (simp; done) | (simp; omega)))]; first | (with_reducible assumption) | (go_simp; done) | (simp [*]; done))
      go_wp2_with fail
      refine (reduced_any _ _ _ (by omega) (by omega) (by omega) (by omega)).mono ?_
      rintro e w4 ⟨rfl, hb4⟩
      have hB4 : Below w.heap.size w w4 := Below.trans (by (repeat' (first | (with_reducible exact Below.refl _ _) | (with_reducible assumption) | (with_reducible refine Below.alloc ?_ ?_ _) | (with_reducible refine below_drewN ?_ _) | (with_reducible refine Below.drew ?_) | (with_reducible refine Below.setCell ?_ ?_ _) | go_size))) (hb4.mono (by first | omega | (simp; done) | (simp; omega))); have hz4 := hb4.size; try simp at hz4
      have hl4r : w.heap.size + 1 < w4.heap.size := (by omega); have hx4r0 : w4.cell? ⟨w.heap.size + 1, 0, none⟩ = some (.int .i64 (0)) := (by rw [(hb4.cell (by first | omega | (simp; done) | (simp; omega)))]; (repeat (rw [World.cell?_alloc_lt _ _ _ (by first | omega | (simp; done) | (simp; omega))])); go_cell); have hx4r1 : w4.cell? ⟨w.heap.size + 1, 1, none⟩ = some (.int .i64 (0)) := (by rw [(hb4.cell (by first | omega | (simp; done) | (simp; omega)))]; (repeat (rw [World.cell?_alloc_lt _ _ _ (by first | omega | (simp; done) | (simp; omega))])); go_cell)
      have hp4r0 : w4.frozen? ⟨w.heap.size + 1, 0, none⟩ = false := (by rw [(hb4.frozen (by first | omega | (simp; done) | (simp; omega)))]; first | (with_reducible assumption) | (go_simp; done) | (simp [*]; done)); have hp4r1 : w4.frozen? ⟨w.heap.size + 1, 1, none⟩ = false := (by rw [(hb4.frozen (by first | omega | (simp; done) | (simp; omega)))]; first | (with_reducible assumption) | (go_simp; done) | (simp [*]; done))
      go_wp2_with fail
      refine ret_rat (b := w.heap.size + 1) (by rfl) rfl rfl (by (repeat (rw [World.cell?_alloc_lt _ _ _ (by first | omega | (simp; done) | (simp; omega))])); go_cell) (by (repeat (rw [World.cell?_alloc_lt _ _ _ (by first | omega | (simp; done) | (simp; omega))])); go_cell) rfl ?_
      exact ⟨ret_t e1.out.symm e2.out.symm e3.out.symm, by (repeat' (first | (with_reducible exact Below.refl _ _) | (with_reducible assumption) | (with_reducible refine Below.alloc ?_ ?_ _) | (with_reducible refine below_drewN ?_ _) | (with_reducible refine Below.drew ?_) | (with_reducible refine Below.setCell ?_ ?_ _) | go_size))⟩
  · have H1 := Lib.hid (Arm.aE_no h1)
    have hz : ∀ i, Arm.cE u v r s lo hi 1 1 i = 11 := fun i => Arm.cE_arm h1
    have e1 : Hid (Arm.valN u v r s lo hi n (inB n lo hi) = 0) := by unfold Arm.valN; rw [hz]; rfl
    have e2 : Hid (Arm.valD u v r s lo hi n (inB n lo hi) = 0) := by unfold Arm.valD; rw [hz]; rfl
    have e3 : Hid (Arm.valE u v r s lo hi n (inB n lo hi) = 11) := by unfold Arm.valE; rw [hz]; rfl
    clear hz h1
    go_enter Tryz.func48, Tryz.ntmps48
    go_wp2_with fail
    refine (checkArm_any u v r s lo hi _).mono ?_
    rintro e w1 ⟨rfl, hb1⟩
    have hB1 : Below w.heap.size w w1 := Below.trans (by (repeat' (first | (with_reducible exact Below.refl _ _) | (with_reducible assumption) | (with_reducible refine Below.alloc ?_ ?_ _) | (with_reducible refine below_drewN ?_ _) | (with_reducible refine Below.drew ?_) | (with_reducible refine Below.setCell ?_ ?_ _) | go_size))) (hb1.mono (by first | omega | (simp; done) | (simp; omega))); have hz1 := hb1.size; try simp at hz1
    have hl1r : w.heap.size + 1 < w1.heap.size := (by omega); have hx1r0 : w1.cell? ⟨w.heap.size + 1, 0, none⟩ = some (.int .i64 (0)) := (by rw [(hb1.cell (by first | omega | (simp; done) | (simp; omega)))]; (repeat (rw [World.cell?_alloc_lt _ _ _ (by first | omega | (simp; done) | (simp; omega))])); go_cell); have hx1r1 : w1.cell? ⟨w.heap.size + 1, 1, none⟩ = some (.int .i64 (0)) := (by rw [(hb1.cell (by first | omega | (simp; done) | (simp; omega)))]; (repeat (rw [World.cell?_alloc_lt _ _ _ (by first | omega | (simp; done) | (simp; omega))])); go_cell)
    have hp1r0 : w1.frozen? ⟨w.heap.size + 1, 0, none⟩ = false := (by rw [(hb1.frozen (by first | omega | (simp; done) | (simp; omega)))]; first | (with_reducible assumption) | (go_simp; done) | (simp [*]; done)); have hp1r1 : w1.frozen? ⟨w.heap.size + 1, 1, none⟩ = false := (by rw [(hb1.frozen (by first | omega | (simp; done) | (simp; omega)))]; first | (with_reducible assumption) | (go_simp; done) | (simp [*]; done))
    rw [H1.out]
    go_wp2_with fail
    refine ret_rat (b := w.heap.size + 1) (by rfl) rfl rfl (by (repeat (rw [World.cell?_alloc_lt _ _ _ (by first | omega | (simp; done) | (simp; omega))])); go_cell) (by (repeat (rw [World.cell?_alloc_lt _ _ _ (by first | omega | (simp; done) | (simp; omega))])); go_cell) rfl ?_
    exact ⟨ret_t e1.out.symm e2.out.symm e3.out.symm, by (repeat' (first | (with_reducible exact Below.refl _ _) | (with_reducible assumption) | (with_reducible refine Below.alloc ?_ ?_ _) | (with_reducible refine below_drewN ?_ _) | (with_reducible refine Below.drew ?_) | (with_reducible refine Below.setCell ?_ ?_ _) | go_size))⟩

end Go.Proofs.YtmjcdggmofohcaaGreat
