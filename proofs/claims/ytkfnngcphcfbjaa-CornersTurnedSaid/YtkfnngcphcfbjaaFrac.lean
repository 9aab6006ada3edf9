/- Fractions in lowest terms, of both sides. -/
import Derived.Test.YtkfnngcphcfbjaaPts
import Derived.Test.YtkfnngcphcfbjaaFence
import Derived.Test.YtkfnngcphcfbjaaLoops
namespace Go.Proofs.Ytkfnngcphcfbjaa
open Go.RowKit

namespace Geo
def lowG (a b : Int) : Int := if b < 0 then -(Int.gcd a b : Int) else (Int.gcd a b : Int)
def lowN (a b : Int) : Int := a.tdiv (lowG a b)
def lowD (a b : Int) : Int := b.tdiv (lowG a b)
theorem gcd_pos {a b : Int} (h : b ≠ 0) : 0 < Int.gcd a b := by
  unfold Int.gcd
  exact Nat.gcd_pos_of_pos_right _ (by omega)
theorem tdiv_bd {a g : Int} (h : a.natAbs ≤ 1000000000000000000) : -1000000000000000000 ≤ a.tdiv g ∧ a.tdiv g ≤ 1000000000000000000 := by
  have h1 : (a.tdiv g).natAbs = a.natAbs / g.natAbs := Int.natAbs_tdiv _ _
  have h2 : a.natAbs / g.natAbs ≤ a.natAbs := Nat.div_le_self _ _
  omega
end Geo
def RatPost (a b : Int) (w : World) (e : Ending) (w' : World) : Prop := e = .returned (.agg #[.int .i64 a, .int .i64 b]) ∧ Below w.heap.size w w'

set_option maxRecDepth 100000 in
set_option maxHeartbeats 1000000 in
theorem fraction_any (a b : Int) (w : World) (ha : -1000000000000000000 ≤ a ∧ a ≤ 1000000000000000000) (hb : -1000000000000000000 ≤ b ∧ b ≤ 1000000000000000000) (h0 : b ≠ 0) :
    Calls Try.prog 83 #[.int .i64 a, .int .i64 b] w (RatPost (Geo.lowN a b) (Geo.lowD a b) w) := by
  have HD := Lib.hid (fun W => divisor_any a b W ha hb)
  have hg := Geo.gcd_pos (a := a) h0
  have HG : Hid (Geo.lowG a b = if b < 0 then -(Int.gcd a b : Int) else (Int.gcd a b : Int)) := rfl
  have HN : Hid (Geo.lowN a b = a.tdiv (Geo.lowG a b)) := rfl
  have HE : Hid (Geo.lowD a b = b.tdiv (Geo.lowG a b)) := rfl
  have g1 := Geo.tdiv_bd (a := a) (g := (Int.gcd a b : Int)) (by omega)
  have g2 := Geo.tdiv_bd (a := b) (g := (Int.gcd a b : Int)) (by omega)
  have hgb : Int.gcd a b ≤ 1000000000000000000 := Geo.gcd_le (by omega) (by omega)
  generalize Int.gcd a b = G at *
  generalize Geo.lowN a b = N at *
  generalize Geo.lowD a b = D at *
  generalize Geo.lowG a b = L at *
  obtain ⟨a1, a2⟩ := ha
  obtain ⟨b1, b2⟩ := hb
  have hd2 : ¬ G = 0 := by omega
  have hd3 : ¬ (G : Int) = 0 := by omega
  by_cases hneg : b < 0
  · rw [if_pos hneg] at HG
    clear h0
    go_enter Try.func83, Try.ntmps83
    go_wp2_with fail
    refine (HD.out _).mono ?_
    rintro e w1 ⟨rfl, hb1⟩
    have hB1 : Below w.heap.size w w1 := Below.trans (by (repeat' (first | (with_reducible exact Below.refl _ _) | (with_reducible assumption) | (with_reducible refine Below.alloc ?_ ?_ _) | (with_reducible refine below_drewN ?_ _) | (with_reducible refine Below.drew ?_) | (with_reducible refine Below.setCell ?_ ?_ _) | go_size))) (hb1.mono (by first | omega | (simp; done) | (simp; omega))); have hz1 := hb1.size; try simp at hz1
    have hc0 : w1.cell? ⟨w.heap.size, 0, none⟩ = some (.int .i64 0) := by rw [(hb1.cell (by first | omega | (simp; done) | (simp; omega)))]; (repeat (rw [World.cell?_alloc_lt _ _ _ (by first | omega | (simp; done) | (simp; omega))])); go_cell
    have hc1 : w1.cell? ⟨w.heap.size, 1, none⟩ = some (.int .i64 0) := by rw [(hb1.cell (by first | omega | (simp; done) | (simp; omega)))]; (repeat (rw [World.cell?_alloc_lt _ _ _ (by first | omega | (simp; done) | (simp; omega))])); go_cell
    have hf0 : w1.frozen? ⟨w.heap.size, 0, none⟩ = false := by rw [(hb1.frozen (by first | omega | (simp; done) | (simp; omega)))]; first | (with_reducible assumption) | (go_simp; done) | (simp [*]; done)
    have hf1 : w1.frozen? ⟨w.heap.size, 1, none⟩ = false := by rw [(hb1.frozen (by first | omega | (simp; done) | (simp; omega)))]; first | (with_reducible assumption) | (go_simp; done) | (simp [*]; done)
    go_wp2_with fail
    refine (wpIn_wide (n := 4)).1 ?_
    have hmo : Try.prog.follows .mixedOrders = true := by kernel_rfl
    refine wpIn_region_held (fun W' => True) 8 hmo ?_
    refine wpHeldIn_take (i := 0) (v := ?_) (plain_of (by kernel_rfl)) rfl (by kernel_rfl) (fun _ _ _ h => h) (yieldsSoIn_of (by kernel_rfl) ?_ (fun _ => rfl)) trivial ?_; rotate_left; focus (intro w _; go_simp; try (with_reducible rfl))
    refine wpHeldIn_take (i := 1) (v := ?_) (plain_of (by kernel_rfl)) rfl (by kernel_rfl) (fun _ _ _ h => h) (yieldsSoIn_of (by kernel_rfl) ?_ (fun _ => rfl)) trivial ?_; rotate_left; focus (intro w _; go_simp; try (with_reducible rfl))
    refine wpHeldIn_take (i := 2) (v := ?_) (plain_of (by kernel_rfl)) rfl (by kernel_rfl) (fun _ _ _ h => h) (yieldsSoIn_of (by kernel_rfl) ?_ (fun _ => rfl)) trivial ?_; rotate_left; focus (intro w _; go_simp; try (with_reducible rfl))
    refine wpHeldIn_take (i := 3) (v := ?_) (plain_of (by kernel_rfl)) rfl (by kernel_rfl) (fun _ _ _ h => h) (yieldsSoIn_of (by kernel_rfl) ?_ (fun _ => rfl)) trivial ?_; rotate_left; focus (intro w _; go_simp; try (with_reducible rfl))
    refine wpHeldIn_take (i := 4) (v := ?_) (plain_of (by kernel_rfl)) rfl (by kernel_rfl) (fun _ _ _ h => h) (yieldsSoIn_of (by kernel_rfl) ?_ (fun _ => rfl)) trivial ?_; rotate_left; focus (intro w _; go_simp; try (with_reducible rfl))
    refine wpHeldIn_take (i := 5) (v := ?_) (plain_of (by kernel_rfl)) rfl (by kernel_rfl) (fun _ _ _ h => h) (yieldsSoIn_of (by kernel_rfl) ?_ (fun _ => rfl)) trivial ?_; rotate_left; focus (intro w _; go_simp; try (with_reducible rfl))
    refine wpHeldIn_take (i := 6) (v := ?_) (plain_of (by kernel_rfl)) rfl (by kernel_rfl) (fun _ _ _ h => h) (yieldsSoIn_of (by kernel_rfl) ?_ (fun _ => rfl)) trivial ?_; rotate_left; focus (intro w _; go_simp; try (with_reducible rfl))
    refine wpHeldIn_one (i := 7) (by kernel_rfl) (by kernel_rfl) rfl (by kernel_rfl) (fun K' hK' => ?_); go_simp; refine hK' _ _ trivial ?_
    refine wpHeldIn_done (by kernel_rfl) ?_ _
    go_wp2_with fail
    have k0 : (((w1.setCell ⟨w.heap.size, 0, none⟩ (.int .i64 (IntKind.i64.wrap (-a.tdiv (G : Int))))).setCell ⟨w.heap.size, 1, none⟩ (.int .i64 (IntKind.i64.wrap (-b.tdiv (G : Int))))).drew).cell? ⟨w.heap.size, 0, none⟩ = some _ := cs_other (by simp) (cs_same hc0)
    have k1 : (((w1.setCell ⟨w.heap.size, 0, none⟩ (.int .i64 (IntKind.i64.wrap (-a.tdiv (G : Int))))).setCell ⟨w.heap.size, 1, none⟩ (.int .i64 (IntKind.i64.wrap (-b.tdiv (G : Int))))).drew).cell? ⟨w.heap.size, 1, none⟩ = some _ := cs_same (cs_other (by simp) hc1)
    refine bodyPost_ret (v := .agg #[(.int .i64 (IntKind.i64.wrap (-a.tdiv (G : Int)))), (.int .i64 (IntKind.i64.wrap (-b.tdiv (G : Int))))]) (by simp [results, Try.results83, go_sem, k0, k1]) rfl ⟨?_, by (repeat' (first | (with_reducible exact Below.refl _ _) | (with_reducible assumption) | (with_reducible refine Below.alloc ?_ ?_ _) | (with_reducible refine below_drewN ?_ _) | (with_reducible refine Below.drew ?_) | (with_reducible refine Below.setCell ?_ ?_ _) | go_size))⟩
    rw [HN.out, HE.out, HG.out, Int.tdiv_neg, Int.tdiv_neg, IntWalk.i64_in (-a.tdiv (G : Int)) (by omega), IntWalk.i64_in (-b.tdiv (G : Int)) (by omega)]
  · rw [if_neg hneg] at HG
    clear h0
    go_enter Try.func83, Try.ntmps83
    go_wp2_with fail
    refine (HD.out _).mono ?_
    rintro e w1 ⟨rfl, hb1⟩
    have hB1 : Below w.heap.size w w1 := Below.trans (by (repeat' (first | (with_reducible exact Below.refl _ _) | (with_reducible assumption) | (with_reducible refine Below.alloc ?_ ?_ _) | (with_reducible refine below_drewN ?_ _) | (with_reducible refine Below.drew ?_) | (with_reducible refine Below.setCell ?_ ?_ _) | go_size))) (hb1.mono (by first | omega | (simp; done) | (simp; omega))); have hz1 := hb1.size; try simp at hz1
    have hc0 : w1.cell? ⟨w.heap.size, 0, none⟩ = some (.int .i64 0) := by rw [(hb1.cell (by first | omega | (simp; done) | (simp; omega)))]; (repeat (rw [World.cell?_alloc_lt _ _ _ (by first | omega | (simp; done) | (simp; omega))])); go_cell
    have hc1 : w1.cell? ⟨w.heap.size, 1, none⟩ = some (.int .i64 0) := by rw [(hb1.cell (by first | omega | (simp; done) | (simp; omega)))]; (repeat (rw [World.cell?_alloc_lt _ _ _ (by first | omega | (simp; done) | (simp; omega))])); go_cell
    have hf0 : w1.frozen? ⟨w.heap.size, 0, none⟩ = false := by rw [(hb1.frozen (by first | omega | (simp; done) | (simp; omega)))]; first | (with_reducible assumption) | (go_simp; done) | (simp [*]; done)
    have hf1 : w1.frozen? ⟨w.heap.size, 1, none⟩ = false := by rw [(hb1.frozen (by first | omega | (simp; done) | (simp; omega)))]; first | (with_reducible assumption) | (go_simp; done) | (simp [*]; done)
    go_wp2_with fail
    refine (wpIn_wide (n := 4)).1 ?_
    have hmo : Try.prog.follows .mixedOrders = true := by kernel_rfl
    refine wpIn_region_held (fun W' => True) 8 hmo ?_
    refine wpHeldIn_take (i := 0) (v := ?_) (plain_of (by kernel_rfl)) rfl (by kernel_rfl) (fun _ _ _ h => h) (yieldsSoIn_of (by kernel_rfl) ?_ (fun _ => rfl)) trivial ?_; rotate_left; focus (intro w _; go_simp; try (with_reducible rfl))
    refine wpHeldIn_take (i := 1) (v := ?_) (plain_of (by kernel_rfl)) rfl (by kernel_rfl) (fun _ _ _ h => h) (yieldsSoIn_of (by kernel_rfl) ?_ (fun _ => rfl)) trivial ?_; rotate_left; focus (intro w _; go_simp; try (with_reducible rfl))
    refine wpHeldIn_take (i := 2) (v := ?_) (plain_of (by kernel_rfl)) rfl (by kernel_rfl) (fun _ _ _ h => h) (yieldsSoIn_of (by kernel_rfl) ?_ (fun _ => rfl)) trivial ?_; rotate_left; focus (intro w _; go_simp; try (with_reducible rfl))
    refine wpHeldIn_take (i := 3) (v := ?_) (plain_of (by kernel_rfl)) rfl (by kernel_rfl) (fun _ _ _ h => h) (yieldsSoIn_of (by kernel_rfl) ?_ (fun _ => rfl)) trivial ?_; rotate_left; focus (intro w _; go_simp; try (with_reducible rfl))
    refine wpHeldIn_take (i := 4) (v := ?_) (plain_of (by kernel_rfl)) rfl (by kernel_rfl) (fun _ _ _ h => h) (yieldsSoIn_of (by kernel_rfl) ?_ (fun _ => rfl)) trivial ?_; rotate_left; focus (intro w _; go_simp; try (with_reducible rfl))
    refine wpHeldIn_take (i := 5) (v := ?_) (plain_of (by kernel_rfl)) rfl (by kernel_rfl) (fun _ _ _ h => h) (yieldsSoIn_of (by kernel_rfl) ?_ (fun _ => rfl)) trivial ?_; rotate_left; focus (intro w _; go_simp; try (with_reducible rfl))
    refine wpHeldIn_take (i := 6) (v := ?_) (plain_of (by kernel_rfl)) rfl (by kernel_rfl) (fun _ _ _ h => h) (yieldsSoIn_of (by kernel_rfl) ?_ (fun _ => rfl)) trivial ?_; rotate_left; focus (intro w _; go_simp; try (with_reducible rfl))
    refine wpHeldIn_one (i := 7) (by kernel_rfl) (by kernel_rfl) rfl (by kernel_rfl) (fun K' hK' => ?_); go_simp; refine hK' _ _ trivial ?_
    refine wpHeldIn_done (by kernel_rfl) ?_ _
    go_wp2_with fail
    have k0 : (((w1.setCell ⟨w.heap.size, 0, none⟩ (.int .i64 (IntKind.i64.wrap (a.tdiv (G : Int))))).setCell ⟨w.heap.size, 1, none⟩ (.int .i64 (IntKind.i64.wrap (b.tdiv (G : Int))))).drew).cell? ⟨w.heap.size, 0, none⟩ = some _ := cs_other (by simp) (cs_same hc0)
    have k1 : (((w1.setCell ⟨w.heap.size, 0, none⟩ (.int .i64 (IntKind.i64.wrap (a.tdiv (G : Int))))).setCell ⟨w.heap.size, 1, none⟩ (.int .i64 (IntKind.i64.wrap (b.tdiv (G : Int))))).drew).cell? ⟨w.heap.size, 1, none⟩ = some _ := cs_same (cs_other (by simp) hc1)
    refine bodyPost_ret (v := .agg #[(.int .i64 (IntKind.i64.wrap (a.tdiv (G : Int)))), (.int .i64 (IntKind.i64.wrap (b.tdiv (G : Int))))]) (by simp [results, Try.results83, go_sem, k0, k1]) rfl ⟨?_, by (repeat' (first | (with_reducible exact Below.refl _ _) | (with_reducible assumption) | (with_reducible refine Below.alloc ?_ ?_ _) | (with_reducible refine below_drewN ?_ _) | (with_reducible refine Below.drew ?_) | (with_reducible refine Below.setCell ?_ ?_ _) | go_size))⟩
    rw [HN.out, HE.out, HG.out, IntWalk.i64_in (a.tdiv (G : Int)) (by omega), IntWalk.i64_in (b.tdiv (G : Int)) (by omega)]

set_option maxRecDepth 100000 in
set_option maxHeartbeats 2000000 in
theorem Lowest_any (a b : Int) (w : World) (ha : -1000000000000000000 ≤ a ∧ a ≤ 1000000000000000000) (hb : -1000000000000000000 ≤ b ∧ b ≤ 1000000000000000000) (h0 : b ≠ 0) :
    Calls Try.prog 30 #[.int .i64 a, .int .i64 b] w (RatPost (Geo.lowN a b) (Geo.lowD a b) w) := by
  have hg := Geo.gcd_pos (a := a) h0
  have HG : Hid (Geo.lowG a b = if b < 0 then -(Int.gcd a b : Int) else (Int.gcd a b : Int)) := rfl
  have HN : Hid (Geo.lowN a b = a.tdiv (Geo.lowG a b)) := rfl
  have HE : Hid (Geo.lowD a b = b.tdiv (Geo.lowG a b)) := rfl
  have g1 := Geo.tdiv_bd (a := a) (g := (Int.gcd a b : Int)) (by omega)
  have g2 := Geo.tdiv_bd (a := b) (g := (Int.gcd a b : Int)) (by omega)
  have hgb : Int.gcd a b ≤ 1000000000000000000 := Geo.gcd_le (by omega) (by omega)
  have hst : Hid (Nat.gcd a.natAbs b.natAbs = Int.gcd a b) := rfl
  generalize Int.gcd a b = G at *
  generalize Geo.lowN a b = N at *
  generalize Geo.lowD a b = D at *
  generalize Geo.lowG a b = L at *
  obtain ⟨a1, a2⟩ := ha
  obtain ⟨b1, b2⟩ := hb
  have hd2 : ¬ G = 0 := by omega
  have hd3 : ¬ (G : Int) = 0 := by omega
  have hma : (max a (-a)) = (a.natAbs : Int) := by omega
  have hmb : (max b (-b)) = (b.natAbs : Int) := by omega
  go_enter Try.func30, Try.ntmps30
  go_wp2_with fail
  clear hma hmb
  all_goals
    go_loopw [5, 6] (fun x y wr => ∃ p q : Nat, x = .int .i64 p ∧ y = .int .i64 q ∧ (p : Int) ≤ 1000000000000000000 ∧ (q : Int) ≤ 1000000000000000000 ∧ Hid (Nat.gcd p q = G) ∧ wr.cell? ⟨w.heap.size, 0, none⟩ = some (.int .i64 0) ∧ wr.cell? ⟨w.heap.size, 1, none⟩ = some (.int .i64 0) ∧ wr.frozen? ⟨w.heap.size, 0, none⟩ = false ∧ wr.frozen? ⟨w.heap.size, 1, none⟩ = false ∧ Below w.heap.size w wr) (fun _ y _ => (intOf y).natAbs)
    case atStart => exact ⟨a.natAbs, b.natAbs, congrArg (Value.int .i64) (by omega), congrArg (Value.int .i64) (by omega), by omega, by omega, hst, by simp, by simp, by simp, by simp, by (repeat' (first | (with_reducible exact Below.refl _ _) | (with_reducible assumption) | (with_reducible refine Below.alloc ?_ ?_ _) | (with_reducible refine below_drewN ?_ _) | (with_reducible refine Below.drew ?_) | (with_reducible refine Below.setCell ?_ ?_ _) | go_size))⟩
    case round =>
      obtain ⟨p, q, rfl, rfl, hp, hq, hgc, hc0, hc1, hf0, hf1, hB⟩ := hrel
      have hp0 := Int.natCast_nonneg p
      have hq0 := Int.natCast_nonneg q
      by_cases hlt : (0 : Int) < q
      · have hqn : 0 < q := by omega
        have hmd : p % q < q := Nat.mod_lt _ hqn
        have hr1 : (p : Int) % (q : Int) = ((p % q : Nat) : Int) := (Int.natCast_emod p q).symm
        have hr2 : (p : Int).tmod (q : Int) = ((p % q : Nat) : Int) := by rw [Int.tmod_eq_emod_of_nonneg hp0]; exact hr1
        have hst2 := Lib.hid ((show Nat.gcd q (p % q) = Nat.gcd p q by rw [Nat.gcd_comm, ← Nat.gcd_rec, Nat.gcd_comm]).trans hgc.out)
        have hnz : ¬ (q : Int) = 0 := by omega
        have hnz2 : ¬ q = 0 := by omega
        generalize p % q = m at *
        have hw : IntKind.i64.wrap (m : Int) = (m : Int) := IntWalk.i64_in _ (by omega)
        have hmq : (m : Int) ≤ 1000000000000000000 := by omega
        have HM := Lib.hid hmd
        clear hmd hst hgc
        go_wp2_with fail
        go_quiet (fail)
        go_wp2_with fail
        go_roundw
        case rel => exact ⟨q, m, rfl, rfl, hq, hmq, hst2, hc0, hc1, hf0, hf1, by (repeat' (first | (with_reducible exact Below.refl _ _) | (with_reducible assumption) | (with_reducible refine Below.alloc ?_ ?_ _) | (with_reducible refine below_drewN ?_ _) | (with_reducible refine Below.drew ?_) | (with_reducible refine Below.setCell ?_ ?_ _) | go_size))⟩
        case measure => have := HM.out; simp [intOf]; omega
      · obtain rfl : q = 0 := by omega
        obtain rfl : p = G := by have := hgc.out; simpa using this
        clear hgc hst
        by_cases hneg : b < 0
        · rw [if_pos hneg] at HG
          go_wp2_with fail
          refine (wpIn_wide (n := 4)).1 ?_
          have hmo : Try.prog.follows .mixedOrders = true := by kernel_rfl
          refine wpIn_region_held (fun W' => True) 8 hmo ?_
          refine wpHeldIn_take (i := 0) (v := ?_) (plain_of (by kernel_rfl)) rfl (by kernel_rfl) (fun _ _ _ h => h) (yieldsSoIn_of (by kernel_rfl) ?_ (fun _ => rfl)) trivial ?_; rotate_left; focus (intro w _; go_simp; try (with_reducible rfl))
          refine wpHeldIn_take (i := 1) (v := ?_) (plain_of (by kernel_rfl)) rfl (by kernel_rfl) (fun _ _ _ h => h) (yieldsSoIn_of (by kernel_rfl) ?_ (fun _ => rfl)) trivial ?_; rotate_left; focus (intro w _; go_simp; try (with_reducible rfl))
          refine wpHeldIn_take (i := 2) (v := ?_) (plain_of (by kernel_rfl)) rfl (by kernel_rfl) (fun _ _ _ h => h) (yieldsSoIn_of (by kernel_rfl) ?_ (fun _ => rfl)) trivial ?_; rotate_left; focus (intro w _; go_simp; try (with_reducible rfl))
          refine wpHeldIn_take (i := 3) (v := ?_) (plain_of (by kernel_rfl)) rfl (by kernel_rfl) (fun _ _ _ h => h) (yieldsSoIn_of (by kernel_rfl) ?_ (fun _ => rfl)) trivial ?_; rotate_left; focus (intro w _; go_simp; try (with_reducible rfl))
          refine wpHeldIn_take (i := 4) (v := ?_) (plain_of (by kernel_rfl)) rfl (by kernel_rfl) (fun _ _ _ h => h) (yieldsSoIn_of (by kernel_rfl) ?_ (fun _ => rfl)) trivial ?_; rotate_left; focus (intro w _; go_simp; try (with_reducible rfl))
          refine wpHeldIn_take (i := 5) (v := ?_) (plain_of (by kernel_rfl)) rfl (by kernel_rfl) (fun _ _ _ h => h) (yieldsSoIn_of (by kernel_rfl) ?_ (fun _ => rfl)) trivial ?_; rotate_left; focus (intro w _; go_simp; try (with_reducible rfl))
          refine wpHeldIn_take (i := 6) (v := ?_) (plain_of (by kernel_rfl)) rfl (by kernel_rfl) (fun _ _ _ h => h) (yieldsSoIn_of (by kernel_rfl) ?_ (fun _ => rfl)) trivial ?_; rotate_left; focus (intro w _; go_simp; try (with_reducible rfl))
          refine wpHeldIn_one (i := 7) (by kernel_rfl) (by kernel_rfl) rfl (by kernel_rfl) (fun K' hK' => ?_); go_simp; refine hK' _ _ trivial ?_
          refine wpHeldIn_done (by kernel_rfl) ?_ _
          go_wp2_with fail
          have k0 : (((wr.setCell ⟨w.heap.size, 0, none⟩ (.int .i64 (IntKind.i64.wrap (-a.tdiv (p : Int))))).setCell ⟨w.heap.size, 1, none⟩ (.int .i64 (IntKind.i64.wrap (-b.tdiv (p : Int))))).drew).cell? ⟨w.heap.size, 0, none⟩ = some _ := cs_other (by simp) (cs_same hc0)
          have k1 : (((wr.setCell ⟨w.heap.size, 0, none⟩ (.int .i64 (IntKind.i64.wrap (-a.tdiv (p : Int))))).setCell ⟨w.heap.size, 1, none⟩ (.int .i64 (IntKind.i64.wrap (-b.tdiv (p : Int))))).drew).cell? ⟨w.heap.size, 1, none⟩ = some _ := cs_same (cs_other (by simp) hc1)
          refine bodyPost_ret (v := .agg #[(.int .i64 (IntKind.i64.wrap (-a.tdiv (p : Int)))), (.int .i64 (IntKind.i64.wrap (-b.tdiv (p : Int))))]) (by simp [results, Try.results30, go_sem, k0, k1]) rfl ⟨?_, by (repeat' (first | (with_reducible exact Below.refl _ _) | (with_reducible assumption) | (with_reducible refine Below.alloc ?_ ?_ _) | (with_reducible refine below_drewN ?_ _) | (with_reducible refine Below.drew ?_) | (with_reducible refine Below.setCell ?_ ?_ _) | go_size))⟩
          rw [HN.out, HE.out, HG.out, Int.tdiv_neg, Int.tdiv_neg, IntWalk.i64_in (-a.tdiv (p : Int)) (by omega), IntWalk.i64_in (-b.tdiv (p : Int)) (by omega)]
        · rw [if_neg hneg] at HG
          go_wp2_with fail
          refine (wpIn_wide (n := 4)).1 ?_
          have hmo : Try.prog.follows .mixedOrders = true := by kernel_rfl
          refine wpIn_region_held (fun W' => True) 8 hmo ?_
          refine wpHeldIn_take (i := 0) (v := ?_) (plain_of (by kernel_rfl)) rfl (by kernel_rfl) (fun _ _ _ h => h) (yieldsSoIn_of (by kernel_rfl) ?_ (fun _ => rfl)) trivial ?_; rotate_left; focus (intro w _; go_simp; try (with_reducible rfl))
          refine wpHeldIn_take (i := 1) (v := ?_) (plain_of (by kernel_rfl)) rfl (by kernel_rfl) (fun _ _ _ h => h) (yieldsSoIn_of (by kernel_rfl) ?_ (fun _ => rfl)) trivial ?_; rotate_left; focus (intro w _; go_simp; try (with_reducible rfl))
          refine wpHeldIn_take (i := 2) (v := ?_) (plain_of (by kernel_rfl)) rfl (by kernel_rfl) (fun _ _ _ h => h) (yieldsSoIn_of (by kernel_rfl) ?_ (fun _ => rfl)) trivial ?_; rotate_left; focus (intro w _; go_simp; try (with_reducible rfl))
          refine wpHeldIn_take (i := 3) (v := ?_) (plain_of (by kernel_rfl)) rfl (by kernel_rfl) (fun _ _ _ h => h) (yieldsSoIn_of (by kernel_rfl) ?_ (fun _ => rfl)) trivial ?_; rotate_left; focus (intro w _; go_simp; try (with_reducible rfl))
          refine wpHeldIn_take (i := 4) (v := ?_) (plain_of (by kernel_rfl)) rfl (by kernel_rfl) (fun _ _ _ h => h) (yieldsSoIn_of (by kernel_rfl) ?_ (fun _ => rfl)) trivial ?_; rotate_left; focus (intro w _; go_simp; try (with_reducible rfl))
          refine wpHeldIn_take (i := 5) (v := ?_) (plain_of (by kernel_rfl)) rfl (by kernel_rfl) (fun _ _ _ h => h) (yieldsSoIn_of (by kernel_rfl) ?_ (fun _ => rfl)) trivial ?_; rotate_left; focus (intro w _; go_simp; try (with_reducible rfl))
          refine wpHeldIn_take (i := 6) (v := ?_) (plain_of (by kernel_rfl)) rfl (by kernel_rfl) (fun _ _ _ h => h) (yieldsSoIn_of (by kernel_rfl) ?_ (fun _ => rfl)) trivial ?_; rotate_left; focus (intro w _; go_simp; try (with_reducible rfl))
          refine wpHeldIn_one (i := 7) (by kernel_rfl) (by kernel_rfl) rfl (by kernel_rfl) (fun K' hK' => ?_); go_simp; refine hK' _ _ trivial ?_
          refine wpHeldIn_done (by kernel_rfl) ?_ _
          go_wp2_with fail
          have k0 : (((wr.setCell ⟨w.heap.size, 0, none⟩ (.int .i64 (IntKind.i64.wrap (a.tdiv (p : Int))))).setCell ⟨w.heap.size, 1, none⟩ (.int .i64 (IntKind.i64.wrap (b.tdiv (p : Int))))).drew).cell? ⟨w.heap.size, 0, none⟩ = some _ := cs_other (by simp) (cs_same hc0)
          have k1 : (((wr.setCell ⟨w.heap.size, 0, none⟩ (.int .i64 (IntKind.i64.wrap (a.tdiv (p : Int))))).setCell ⟨w.heap.size, 1, none⟩ (.int .i64 (IntKind.i64.wrap (b.tdiv (p : Int))))).drew).cell? ⟨w.heap.size, 1, none⟩ = some _ := cs_same (cs_other (by simp) hc1)
          refine bodyPost_ret (v := .agg #[(.int .i64 (IntKind.i64.wrap (a.tdiv (p : Int)))), (.int .i64 (IntKind.i64.wrap (b.tdiv (p : Int))))]) (by simp [results, Try.results30, go_sem, k0, k1]) rfl ⟨?_, by (repeat' (first | (with_reducible exact Below.refl _ _) | (with_reducible assumption) | (with_reducible refine Below.alloc ?_ ?_ _) | (with_reducible refine below_drewN ?_ _) | (with_reducible refine Below.drew ?_) | (with_reducible refine Below.setCell ?_ ?_ _) | go_size))⟩
          rw [HN.out, HE.out, HG.out, IntWalk.i64_in (a.tdiv (p : Int)) (by omega), IntWalk.i64_in (b.tdiv (p : Int)) (by omega)]
end Go.Proofs.Ytkfnngcphcfbjaa
