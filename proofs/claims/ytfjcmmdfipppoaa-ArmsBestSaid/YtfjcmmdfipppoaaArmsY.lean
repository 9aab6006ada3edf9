/- Contract of the specification's Best. -/
import Derived.Test.YtfjcmmdfipppoaaArmsW
import Derived.Test.YtfjcmmdfipppoaaArmsX
import Derived.Test.YtfjcmmdfipppoaaArmsO
namespace Go.Proofs.Ytfjcmmdfipppoaa
open Go.RowKit

set_option maxHeartbeats 400000 in
theorem floor_any (n d : Int) (w : World) (hd : 1 ≤ d) (h0 : -1000000000000000000 ≤ n) (h1 : n ≤ 1000000000000000000) :
    Calls Try.prog 64 #[.int .i64 n, .int .i64 d] w fun e w' => e = .returned (.int .i64 (n / d)) ∧ w = w' := by
  have hne : ¬ d = 0 := by omega
  have b2 : -1000000000000000000 ≤ n.tdiv d ∧ n.tdiv d ≤ 1000000000000000000 := by
    have h := Int.natAbs_tdiv n d
    have h2 : n.natAbs.div d.natAbs ≤ n.natAbs := Nat.div_le_self _ _
    rw [← h] at h2
    omega
  have k1 := Int.tmod_add_mul_tdiv n d
  have k3 : (n.tmod d).natAbs ≤ n.natAbs := by rw [Int.natAbs_tmod]; exact Nat.mod_le _ _
  have k5 : (n.tmod d).natAbs < d.natAbs := by rw [Int.natAbs_tmod]; exact Nat.mod_lt _ (by omega)
  have kc : n.tdiv d * d = d * n.tdiv d := Int.mul_comm _ _
  have bb : -3000000000000000000 ≤ n.tdiv d * d ∧ n.tdiv d * d ≤ 3000000000000000000 := by omega
  have k6 : n < n.tdiv d * d → n.tdiv d - 1 = n / d := fun h => by
    have e : (n.tmod d + d) + d * (n.tdiv d - 1) = n := by rw [Int.mul_sub]; omega
    exact ((Int.ediv_emod_unique (by omega : 0 < d)).2 ⟨e, by omega, by omega⟩).1.symm
  have k7 : ¬ n < n.tdiv d * d → n.tdiv d = n / d := fun h =>
    ((Int.ediv_emod_unique (by omega : 0 < d)).2 ⟨k1, by omega, by omega⟩).1.symm
  have K6 := Lib.hid k6
  have K7 := Lib.hid k7
  clear k1 k3 k5 k6 k7 kc
  by_cases hneg : n < n.tdiv d * d
  · go_enter Try.func64, Try.ntmps64
    go_wp2_with fail
    go_returns
    exact ⟨ret_i (K6.out hneg), rfl⟩
  · go_enter Try.func64, Try.ntmps64
    go_wp2_with fail
    go_returns
    exact ⟨ret_i (K7.out hneg), rfl⟩

set_option maxHeartbeats 1000000 in
theorem refBest_err (n d M : Int) (w : World) (h : ¬ (Arm.okB n d = true ∧ (1 ≤ M ∧ M ≤ 1000000))) :
    Calls Try.prog 23 #[.agg #[.int .i64 n, .int .i64 d], .int .i64 M] w fun r w' => r = .returned (.tuple #[.agg #[.int .i64 0, .int .i64 0], .int .i64 (Best.bE n d M)]) ∧ Below w.heap.size w w' := by
  cases hok : Arm.okB n d
  · have e1 := Lib.hid hok
    have e2 := Lib.hid (Best.bE_ratio (M := M) hok)
    clear h hok
    go_enter Try.func23, Try.ntmps23
    go_wp2_with fail
    refine (IsRatio_any n d _).mono ?_
    rintro r w1 ⟨rfl, hb1⟩
    have hB1 : Below w.heap.size w w1 := Below.trans (by (repeat' (first | (with_reducible exact Below.refl _ _) | (with_reducible assumption) | (with_reducible refine Below.alloc ?_ ?_ _) | (with_reducible refine below_drewN ?_ _) | (with_reducible refine Below.drew ?_) | (with_reducible refine Below.setCell ?_ ?_ _) | go_size))) (hb1.mono (by first | omega | (simp; done) | (simp; omega))); have hz1 := hb1.size; try simp at hz1
    have hl1r : w.heap.size + 1 < w1.heap.size := (by omega); have hx1r0 : w1.cell? ⟨w.heap.size + 1, 0, none⟩ = some (.int .i64 (0)) := (by rw [(hb1.cell (by first | omega | (simp; done) | (simp; omega)))]; (repeat (rw [World.cell?_alloc_lt _ _ _ (by first | omega | (simp; done) | (simp; omega))])); go_cell); have hx1r1 : w1.cell? ⟨w.heap.size + 1, 1, none⟩ = some (.int .i64 (0)) := (by rw [(hb1.cell (by first | omega | (simp; done) | (simp; omega)))]; (repeat (rw [World.cell?_alloc_lt _ _ _ (by first | omega | (simp; done) | (simp; omega))])); go_cell)
    have hp1r0 : w1.frozen? ⟨w.heap.size + 1, 0, none⟩ = false := (by rw [(hb1.frozen (by first | omega | (simp; done) | (simp; omega)))]; first | (with_reducible assumption) | (go_simp; done) | (simp [*]; done)); have hp1r1 : w1.frozen? ⟨w.heap.size + 1, 1, none⟩ = false := (by rw [(hb1.frozen (by first | omega | (simp; done) | (simp; omega)))]; first | (with_reducible assumption) | (go_simp; done) | (simp [*]; done))
    rw [e1.out]
    go_wp2_with fail
    refine ret_rat (b := w.heap.size + 1) (by rfl) rfl rfl (by (repeat (rw [World.cell?_alloc_lt _ _ _ (by first | omega | (simp; done) | (simp; omega))])); go_cell) (by (repeat (rw [World.cell?_alloc_lt _ _ _ (by first | omega | (simp; done) | (simp; omega))])); go_cell) rfl ?_
    exact ⟨ret_t rfl rfl e2.out.symm, by (repeat' (first | (with_reducible exact Below.refl _ _) | (with_reducible assumption) | (with_reducible refine Below.alloc ?_ ?_ _) | (with_reducible refine below_drewN ?_ _) | (with_reducible refine Below.drew ?_) | (with_reducible refine Below.setCell ?_ ?_ _) | go_size))⟩
  · have hM : ¬ (1 ≤ M ∧ M ≤ 1000000) := fun h2 => h ⟨hok, h2⟩
    have e1 := Lib.hid hok
    have e2 := Lib.hid (Best.bE_arg hok hM)
    have e3 := Lib.hid (inB_false.2 hM)
    clear h hok hM
    go_enter Try.func23, Try.ntmps23
    go_wp2_with fail
    refine (IsRatio_any n d _).mono ?_
    rintro r w1 ⟨rfl, hb1⟩
    have hB1 : Below w.heap.size w w1 := Below.trans (by (repeat' (first | (with_reducible exact Below.refl _ _) | (with_reducible assumption) | (with_reducible refine Below.alloc ?_ ?_ _) | (with_reducible refine below_drewN ?_ _) | (with_reducible refine Below.drew ?_) | (with_reducible refine Below.setCell ?_ ?_ _) | go_size))) (hb1.mono (by first | omega | (simp; done) | (simp; omega))); have hz1 := hb1.size; try simp at hz1
    have hl1r : w.heap.size + 1 < w1.heap.size := (by omega); have hx1r0 : w1.cell? ⟨w.heap.size + 1, 0, none⟩ = some (.int .i64 (0)) := (by rw [(hb1.cell (by first | omega | (simp; done) | (simp; omega)))]; (repeat (rw [World.cell?_alloc_lt _ _ _ (by first | omega | (simp; done) | (simp; omega))])); go_cell); have hx1r1 : w1.cell? ⟨w.heap.size + 1, 1, none⟩ = some (.int .i64 (0)) := (by rw [(hb1.cell (by first | omega | (simp; done) | (simp; omega)))]; (repeat (rw [World.cell?_alloc_lt _ _ _ (by first | omega | (simp; done) | (simp; omega))])); go_cell)
    have hp1r0 : w1.frozen? ⟨w.heap.size + 1, 0, none⟩ = false := (by rw [(hb1.frozen (by first | omega | (simp; done) | (simp; omega)))]; first | (with_reducible assumption) | (go_simp; done) | (simp [*]; done)); have hp1r1 : w1.frozen? ⟨w.heap.size + 1, 1, none⟩ = false := (by rw [(hb1.frozen (by first | omega | (simp; done) | (simp; omega)))]; first | (with_reducible assumption) | (go_simp; done) | (simp [*]; done))
    rw [e1.out]
    go_wp2_with fail
    refine (Within_any _ _ _ _).mono ?_
    rintro e w2 ⟨rfl, rfl⟩
    rw [e3.out]
    go_wp2_with fail
    refine ret_rat (b := w.heap.size + 1) (by rfl) rfl rfl (by (repeat (rw [World.cell?_alloc_lt _ _ _ (by first | omega | (simp; done) | (simp; omega))])); go_cell) (by (repeat (rw [World.cell?_alloc_lt _ _ _ (by first | omega | (simp; done) | (simp; omega))])); go_cell) rfl ?_
    exact ⟨ret_t rfl rfl e2.out.symm, by (repeat' (first | (with_reducible exact Below.refl _ _) | (with_reducible assumption) | (with_reducible refine Below.alloc ?_ ?_ _) | (with_reducible refine below_drewN ?_ _) | (with_reducible refine Below.drew ?_) | (with_reducible refine Below.setCell ?_ ?_ _) | go_size))⟩
/-- The state of the specification's Best within a round. -/
def Best.sj (n d : Int) (k : Nat) : Nat → Int × Int
  | 0 => Best.rb n d k
  | 1 => Best.stp n d (Best.rb n d k) (n * ((k : Int) + 1) / d, (k : Int) + 1)
  | _ => Best.rb n d (k + 1)
theorem Best.sj_step (n d : Int) (k j : Nat) (hj : j < 2) : Best.sj n d k (j + 1) = Best.stp n d (Best.sj n d k j) (n * ((k : Int) + 1) / d + (j : Int), (k : Int) + 1) := by
  match j, hj with
  | 0, _ => simp [Best.sj]
  | 1, _ => simp [Best.sj, Best.rb]
theorem Best.sj_bd {n d : Int} (hd : 1 ≤ d) (h1 : -1000000 ≤ n) (h2 : n ≤ 1000000) (k j : Nat) (hk : k + 1 ≤ 200) :
    (-200000000 ≤ (Best.sj n d k j).1 ∧ (Best.sj n d k j).1 ≤ 200000001) ∧ (1 ≤ (Best.sj n d k j).2 ∧ (Best.sj n d k j).2 ≤ 200) := by
  have hp := Best.rb_p hd h1 h2 k (by omega)
  have hq := Best.rb_q (n := n) (d := d) k
  have hp' := Best.rb_p hd h1 h2 (k + 1) (by omega)
  have hq' := Best.rb_q (n := n) (d := d) (k + 1)
  have hl := Best.low_bd (q := (k : Int) + 1) hd h1 h2 (by omega) (by omega)
  match j with
  | 0 => exact ⟨hp, hq.1, by show (Best.rb n d k).2 ≤ 200; omega⟩
  | 1 =>
    show (-200000000 ≤ (Best.stp n d (Best.rb n d k) (n * ((k : Int) + 1) / d, (k : Int) + 1)).1 ∧ (Best.stp n d (Best.rb n d k) (n * ((k : Int) + 1) / d, (k : Int) + 1)).1 ≤ 200000001) ∧ (1 ≤ (Best.stp n d (Best.rb n d k) (n * ((k : Int) + 1) / d, (k : Int) + 1)).2 ∧ (Best.stp n d (Best.rb n d k) (n * ((k : Int) + 1) / d, (k : Int) + 1)).2 ≤ 200)
    rcases Best.stp_cases n d (Best.rb n d k) (n * ((k : Int) + 1) / d, (k : Int) + 1) with h | h
    · rw [h]; simp; omega
    · rw [h]; omega
  | j + 2 => exact ⟨hp', hq'.1, by show (Best.rb n d (k + 1)).2 ≤ 200; omega⟩

set_option maxRecDepth 100000 in
set_option maxHeartbeats 4000000 in
theorem refBest_yes (n d M : Int) (w : World) (hok : Arm.ok n d) (hM1 : 1 ≤ M) (hM2 : M ≤ 200) :
    Calls Try.prog 23 #[.agg #[.int .i64 n, .int .i64 d], .int .i64 M] w fun r w' => r = .returned (.tuple #[.agg #[.int .i64 (Best.rb n d M.toNat).1, .int .i64 (Best.rb n d M.toNat).2], .int .i64 0]) ∧ Below w.heap.size w w' := by
  have HO := Lib.hid (Arm.okB_true.2 hok)
  have n1 := hok.2.1
  have n2 := hok.2.2
  have d1 := hok.1.1
  have d2 := hok.1.2
  have nd := Best.div_bd (x := n) d1 (by omega) n1 n2
  have hred := (Best.rb_is (n := n) d1 (k := M.toNat) (by omega)).red
  have hrp := Best.rb_p (n := n) d1 n1 n2 M.toNat (by omega)
  have hrq := Best.rb_q (n := n) (d := d) M.toNat
  have x1 : Hid (∀ W, Calls Try.prog 43 #[.agg #[.int .i64 (Best.rb n d M.toNat).1, .int .i64 (Best.rb n d M.toNat).2]] W fun e w' => e = .returned (.agg #[.int .i64 (Best.rb n d M.toNat).1, .int .i64 (Best.rb n d M.toNat).2]) ∧ Below W.heap.size W w') := fun W => by
    have := refReduced_any (Best.rb n d M.toNat).1 (Best.rb n d M.toNat).2 W (by omega) (by omega) (by omega) (by omega)
    rw [hred.1, hred.2] at this
    exact this
  clear hok hred hrp hrq
  go_enter Try.func23, Try.ntmps23
  go_wp2_with fail
  refine (IsRatio_any n d _).mono ?_
  rintro r w1 ⟨rfl, hb1⟩
  have hB1 : Below w.heap.size w w1 := Below.trans (by (repeat' (first | (with_reducible exact Below.refl _ _) | (with_reducible assumption) | (with_reducible refine Below.alloc ?_ ?_ _) | (with_reducible refine below_drewN ?_ _) | (with_reducible refine Below.drew ?_) | (with_reducible refine Below.setCell ?_ ?_ _) | go_size))) (hb1.mono (by first | omega | (simp; done) | (simp; omega))); have hz1 := hb1.size; try simp at hz1
  have hl1x : w.heap.size < w1.heap.size := (by omega); have hx1x0 : w1.cell? ⟨w.heap.size, 0, none⟩ = some (.int .i64 (n)) := (by rw [(hb1.cell (by first | omega | (simp; done) | (simp; omega)))]; (repeat (rw [World.cell?_alloc_lt _ _ _ (by first | omega | (simp; done) | (simp; omega))])); go_cell); have hx1x1 : w1.cell? ⟨w.heap.size, 1, none⟩ = some (.int .i64 (d)) := (by rw [(hb1.cell (by first | omega | (simp; done) | (simp; omega)))]; (repeat (rw [World.cell?_alloc_lt _ _ _ (by first | omega | (simp; done) | (simp; omega))])); go_cell)
  have hl1r : w.heap.size + 1 < w1.heap.size := (by omega); have hx1r0 : w1.cell? ⟨w.heap.size + 1, 0, none⟩ = some (.int .i64 (0)) := (by rw [(hb1.cell (by first | omega | (simp; done) | (simp; omega)))]; (repeat (rw [World.cell?_alloc_lt _ _ _ (by first | omega | (simp; done) | (simp; omega))])); go_cell); have hx1r1 : w1.cell? ⟨w.heap.size + 1, 1, none⟩ = some (.int .i64 (0)) := (by rw [(hb1.cell (by first | omega | (simp; done) | (simp; omega)))]; (repeat (rw [World.cell?_alloc_lt _ _ _ (by first | omega | (simp; done) | (simp; omega))])); go_cell)
  have hp1r0 : w1.frozen? ⟨w.heap.size + 1, 0, none⟩ = false := (by rw [(hb1.frozen (by first | omega | (simp; done) | (simp; omega)))]; first | (with_reducible assumption) | (go_simp; done) | (simp [*]; done)); have hp1r1 : w1.frozen? ⟨w.heap.size + 1, 1, none⟩ = false := (by rw [(hb1.frozen (by first | omega | (simp; done) | (simp; omega)))]; first | (with_reducible assumption) | (go_simp; done) | (simp [*]; done))
  rw [HO.out]
  go_wp2_with fail
  refine (Within_yes (by omega) _).mono ?_
  rintro e w2 ⟨rfl, rfl⟩
  go_wp2_with fail
  refine (floor_any n d _ d1 (by omega) (by omega)).mono ?_
  rintro e w2 ⟨rfl, rfl⟩
  go_wp2_with fail
  generalize hW : World.alloc w1 _ = W
  have hBW : Below w.heap.size w W := by rw [← hW]; clear hW; (repeat' (first | (with_reducible exact Below.refl _ _) | (with_reducible assumption) | (with_reducible refine Below.alloc ?_ ?_ _) | (with_reducible refine below_drewN ?_ _) | (with_reducible refine Below.drew ?_) | (with_reducible refine Below.setCell ?_ ?_ _) | go_size))
  have hlWx : w.heap.size < W.heap.size := (by rw [← hW]; clear hW; first | omega | (simp; done) | (simp; omega)); have hxWx0 : W.cell? ⟨w.heap.size, 0, none⟩ = some (.int .i64 (n)) := (by rw [← hW]; clear hW; (repeat (rw [World.cell?_alloc_lt _ _ _ (by first | omega | (simp; done) | (simp; omega))])); go_cell); have hxWx1 : W.cell? ⟨w.heap.size, 1, none⟩ = some (.int .i64 (d)) := (by rw [← hW]; clear hW; (repeat (rw [World.cell?_alloc_lt _ _ _ (by first | omega | (simp; done) | (simp; omega))])); go_cell)
  have hlWr : w.heap.size + 1 < W.heap.size := (by rw [← hW]; clear hW; first | omega | (simp; done) | (simp; omega)); have hxWr0 : W.cell? ⟨w.heap.size + 1, 0, none⟩ = some (.int .i64 (0)) := (by rw [← hW]; clear hW; (repeat (rw [World.cell?_alloc_lt _ _ _ (by first | omega | (simp; done) | (simp; omega))])); go_cell); have hxWr1 : W.cell? ⟨w.heap.size + 1, 1, none⟩ = some (.int .i64 (0)) := (by rw [← hW]; clear hW; (repeat (rw [World.cell?_alloc_lt _ _ _ (by first | omega | (simp; done) | (simp; omega))])); go_cell)
  have hlWb : w1.heap.size < W.heap.size := (by rw [← hW]; clear hW; first | omega | (simp; done) | (simp; omega)); have hxWb0 : W.cell? ⟨w1.heap.size, 0, none⟩ = some (.int .i64 (n / d)) := (by rw [← hW]; clear hW; (repeat (rw [World.cell?_alloc_lt _ _ _ (by first | omega | (simp; done) | (simp; omega))])); go_cell); have hxWb1 : W.cell? ⟨w1.heap.size, 1, none⟩ = some (.int .i64 (1)) := (by rw [← hW]; clear hW; (repeat (rw [World.cell?_alloc_lt _ _ _ (by first | omega | (simp; done) | (simp; omega))])); go_cell)
  have fr0 : W.frozen? ⟨w.heap.size + 1, 0, none⟩ = false := by rw [← hW]; clear hW; rw [World.frozen?_alloc_old _ _ _ (by simp; omega)]; assumption
  have fr1 : W.frozen? ⟨w.heap.size + 1, 1, none⟩ = false := by rw [← hW]; clear hW; rw [World.frozen?_alloc_old _ _ _ (by simp; omega)]; assumption
  have fb0 : W.frozen? ⟨w1.heap.size, 0, none⟩ = false := by rw [← hW]; clear hW; first | (go_simp; done) | (simp; done) | (simp [World.frozen?_alloc_new]; done)
  have fb1 : W.frozen? ⟨w1.heap.size, 1, none⟩ = false := by rw [← hW]; clear hW; first | (go_simp; done) | (simp; done) | (simp [World.frozen?_alloc_new]; done)
  clear hW hx1x0 hx1x1 hx1r0 hx1r1 hp1r0 hp1r1 hb1 hB1
  go_loopw [7] (fun x wr => ∃ k : Nat, (k : Int) ≤ M ∧ x = .int .i64 ((k : Int) + 1) ∧ Below w.heap.size w wr ∧ w1.heap.size < wr.heap.size ∧ (wr.cell? ⟨w.heap.size, 0, none⟩ = some (.int .i64 n) ∧ wr.cell? ⟨w.heap.size, 1, none⟩ = some (.int .i64 d)) ∧ (wr.cell? ⟨w.heap.size + 1, 0, none⟩ = some (.int .i64 0) ∧ wr.cell? ⟨w.heap.size + 1, 1, none⟩ = some (.int .i64 0) ∧ wr.frozen? ⟨w.heap.size + 1, 0, none⟩ = false ∧ wr.frozen? ⟨w.heap.size + 1, 1, none⟩ = false) ∧ (wr.cell? ⟨w1.heap.size, 0, none⟩ = some (.int .i64 (Best.rb n d k).1) ∧ wr.cell? ⟨w1.heap.size, 1, none⟩ = some (.int .i64 (Best.rb n d k).2) ∧ wr.frozen? ⟨w1.heap.size, 0, none⟩ = false ∧ wr.frozen? ⟨w1.heap.size, 1, none⟩ = false)) (fun x _ => (M + 1 - intOf x).toNat)
  case atStart => exact ⟨0, by omega, rfl, hBW, hlWb, ⟨hxWx0, hxWx1⟩, ⟨hxWr0, hxWr1, fr0, fr1⟩, hxWb0, hxWb1, fb0, fb1⟩
  case round =>
    clear hBW hlWx hlWr hlWb hxWx0 hxWx1 hxWr0 hxWr1 fr0 fr1 hxWb0 hxWb1 fb0 fb1
    obtain ⟨k, hk, rfl, hB, hz, ⟨c0, c1⟩, ⟨r0, r1, g0, g1⟩, b0, b1, f0, f1⟩ := hrel
    have hk0 := Int.natCast_nonneg k
    have hlx : w.heap.size < wr.heap.size := by omega
    have hlr : w.heap.size + 1 < wr.heap.size := by omega
    by_cases hlt : (k : Int) + 1 ≤ M
    · have hlow := Best.low_bd (q := (k : Int) + 1) d1 n1 n2 (by omega) (by omega)
      have hmul := Arm.mul_bd n1 n2 (y := 200) (b := (k : Int) + 1) (by omega) (by omega)
      have hS := Lib.hid (fun j hj => Best.sj_step n d k j hj)
      have hD := Lib.hid (fun j => Best.sj_bd d1 n1 n2 k j (by omega))
      have h0 : Hid (Best.rb n d k = Best.sj n d k 0) := rfl
      have h2 : Hid (Best.rb n d (k + 1) = Best.sj n d k 2) := rfl
      rw [h0.out] at b0 b1
      go_wp2_with fail
      refine (floor_any (n * ((k : Int) + 1)) d _ d1 (by omega) (by omega)).mono ?_
      rintro e wf ⟨rfl, rfl⟩
      generalize n * ((k : Int) + 1) / d = L at *
      clear hmul
      generalize hsj : Best.sj n d k = sj at *
      clear hsj
      go_wp2_with fail
      obtain ⟨wo, rfl⟩ : ∃ wo : World, wo = wr := ⟨_, rfl⟩
      go_loopw [9] (fun x wy => ∃ j : Nat, (j : Int) ≤ 2 ∧ x = .int .i64 (L + (j : Int)) ∧ Below w.heap.size w wy ∧ w1.heap.size < wy.heap.size ∧ (wy.cell? ⟨w.heap.size, 0, none⟩ = some (.int .i64 n) ∧ wy.cell? ⟨w.heap.size, 1, none⟩ = some (.int .i64 d)) ∧ (wy.cell? ⟨w.heap.size + 1, 0, none⟩ = some (.int .i64 0) ∧ wy.cell? ⟨w.heap.size + 1, 1, none⟩ = some (.int .i64 0) ∧ wy.frozen? ⟨w.heap.size + 1, 0, none⟩ = false ∧ wy.frozen? ⟨w.heap.size + 1, 1, none⟩ = false) ∧ (wy.cell? ⟨w1.heap.size, 0, none⟩ = some (.int .i64 (sj j).1) ∧ wy.cell? ⟨w1.heap.size, 1, none⟩ = some (.int .i64 (sj j).2) ∧ wy.frozen? ⟨w1.heap.size, 0, none⟩ = false ∧ wy.frozen? ⟨w1.heap.size, 1, none⟩ = false)) (fun x _ => (L + 2 - intOf x).toNat)
      case atStart => exact ⟨0, by omega, by simp, hB, hz, ⟨c0, c1⟩, ⟨r0, r1, g0, g1⟩, b0, b1, f0, f1⟩
      case round =>
        clear hB hz c0 c1 r0 r1 g0 g1 b0 b1 f0 f1 hlx hlr
        obtain ⟨j, hj, rfl, hB, hz, ⟨c0, c1⟩, ⟨r0, r1, g0, g1⟩, b0, b1, f0, f1⟩ := hrel
        have hlx : w.heap.size < wr.heap.size := by omega
        have hlr : w.heap.size + 1 < wr.heap.size := by omega
        have hj0 := Int.natCast_nonneg j
        by_cases hj2 : (j : Int) < 2
        · have hs := Lib.hid (hS.out j (by omega))
          obtain ⟨⟨p1, p2⟩, q1, q2⟩ := hD.out j
          generalize hp : (sj j).1 = p at *
          generalize hq : (sj j).2 = q at *
          have HP := Lib.hid hp
          have HQ := Lib.hid hq
          clear hp hq
          have m1 := Arm.mul_bd (a := L + (j : Int)) (b := d) (x := 200000002) (y := 1000000) (by omega) (by omega) (by omega) d2
          have m2 := Arm.mul_bd (a := n) (b := (k : Int) + 1) n1 n2 (y := 200) (by omega) (by omega)
          have m3 := Arm.mul_bd (a := p) (b := d) (x := 200000002) (y := 1000000) (by omega) (by omega) (by omega) d2
          have m4 := Arm.mul_bd (a := n) (b := q) n1 n2 (y := 200) (by omega) (by omega)
          have e1 : Best.dst n d (L + (j : Int)) ((k : Int) + 1) ≤ 300000000000000 ∧ -300000000000000 ≤ Best.dst n d (L + (j : Int)) ((k : Int) + 1) := by unfold Best.dst; omega
          have e2 : Best.dst n d p q ≤ 300000000000000 ∧ -300000000000000 ≤ Best.dst n d p q := by unfold Best.dst; omega
          have m5 := Arm.mul_bd e1.2 e1.1 (y := 200) (b := q) (by omega) q2
          have m6 := Arm.mul_bd e2.2 e2.1 (y := 200) (b := (k : Int) + 1) (by omega) (by omega)
          have xN : Hid (∀ W, Calls Try.prog 42 #[.agg #[.int .i64 (L + (j : Int)), .int .i64 ((k : Int) + 1)], .agg #[.int .i64 p, .int .i64 q], .agg #[.int .i64 n, .int .i64 d]] W fun e w' => e = .returned (.bool (Best.nearB n d (L + (j : Int)) ((k : Int) + 1) p q)) ∧ Below W.heap.size W w') := fun W => Nearer_any _ _ _ _ _ _ W ⟨by omega, by omega⟩ ⟨by omega, by omega⟩ ⟨by omega, by omega⟩ ⟨by omega, by omega⟩ ⟨by omega, by omega⟩ ⟨by omega, by omega⟩
          clear m1 m2 m3 m4 m5 m6 e1 e2
          go_wp2_with fail
          refine (xN.out _).mono ?_
          rintro e w4 ⟨rfl, hb4⟩
          have hz4 := hb4.size
          simp at hz4
          have hB4 : Below w.heap.size w w4 := Below.trans (by (repeat' (first | (with_reducible exact Below.refl _ _) | (with_reducible assumption) | (with_reducible refine Below.alloc ?_ ?_ _) | (with_reducible refine below_drewN ?_ _) | (with_reducible refine Below.drew ?_) | (with_reducible refine Below.setCell ?_ ?_ _) | go_size))) (hb4.mono (by first | omega | (simp; done) | (simp; omega)))
          have k0 : w4.cell? ⟨w.heap.size, 0, none⟩ = some (.int .i64 n) := by rw [(hb4.cell (by first | omega | (simp; done) | (simp; omega)))]; (repeat (rw [World.cell?_alloc_lt _ _ _ (by first | omega | (simp; done) | (simp; omega))])); go_cell
          have k1 : w4.cell? ⟨w.heap.size, 1, none⟩ = some (.int .i64 d) := by rw [(hb4.cell (by first | omega | (simp; done) | (simp; omega)))]; (repeat (rw [World.cell?_alloc_lt _ _ _ (by first | omega | (simp; done) | (simp; omega))])); go_cell
          have k2 : w4.cell? ⟨w.heap.size + 1, 0, none⟩ = some (.int .i64 0) := by rw [(hb4.cell (by first | omega | (simp; done) | (simp; omega)))]; (repeat (rw [World.cell?_alloc_lt _ _ _ (by first | omega | (simp; done) | (simp; omega))])); go_cell
          have k3 : w4.cell? ⟨w.heap.size + 1, 1, none⟩ = some (.int .i64 0) := by rw [(hb4.cell (by first | omega | (simp; done) | (simp; omega)))]; (repeat (rw [World.cell?_alloc_lt _ _ _ (by first | omega | (simp; done) | (simp; omega))])); go_cell
          have k4 : w4.cell? ⟨w1.heap.size, 0, none⟩ = some (.int .i64 p) := by rw [(hb4.cell (by first | omega | (simp; done) | (simp; omega)))]; (repeat (rw [World.cell?_alloc_lt _ _ _ (by first | omega | (simp; done) | (simp; omega))])); go_cell
          have k5 : w4.cell? ⟨w1.heap.size, 1, none⟩ = some (.int .i64 q) := by rw [(hb4.cell (by first | omega | (simp; done) | (simp; omega)))]; (repeat (rw [World.cell?_alloc_lt _ _ _ (by first | omega | (simp; done) | (simp; omega))])); go_cell
          have k6 : w4.cell? ⟨wr.heap.size, 0, none⟩ = some (.int .i64 (L + (j : Int))) := by rw [(hb4.cell (by first | omega | (simp; done) | (simp; omega)))]; (repeat (rw [World.cell?_alloc_lt _ _ _ (by first | omega | (simp; done) | (simp; omega))])); go_cell
          have k7 : w4.cell? ⟨wr.heap.size, 1, none⟩ = some (.int .i64 ((k : Int) + 1)) := by rw [(hb4.cell (by first | omega | (simp; done) | (simp; omega)))]; (repeat (rw [World.cell?_alloc_lt _ _ _ (by first | omega | (simp; done) | (simp; omega))])); go_cell
          have l2 : w4.frozen? ⟨w.heap.size + 1, 0, none⟩ = false := by rw [(hb4.frozen (by first | omega | (simp; done) | (simp; omega))), World.frozen?_alloc_old _ _ _ (by simp; omega)]; assumption
          have l3 : w4.frozen? ⟨w.heap.size + 1, 1, none⟩ = false := by rw [(hb4.frozen (by first | omega | (simp; done) | (simp; omega))), World.frozen?_alloc_old _ _ _ (by simp; omega)]; assumption
          have l4 : w4.frozen? ⟨w1.heap.size, 0, none⟩ = false := by rw [(hb4.frozen (by first | omega | (simp; done) | (simp; omega))), World.frozen?_alloc_old _ _ _ (by simp; omega)]; assumption
          have l5 : w4.frozen? ⟨w1.heap.size, 1, none⟩ = false := by rw [(hb4.frozen (by first | omega | (simp; done) | (simp; omega))), World.frozen?_alloc_old _ _ _ (by simp; omega)]; assumption
          clear xN hb4 hB c0 c1 r0 r1 g0 g1 b0 b1 f0 f1
          cases hnb : Best.nearB n d (L + (j : Int)) ((k : Int) + 1) p q
          · have hst : Hid (sj (j + 1) = sj j) := by rw [hs.out]; exact Best.stp_no (by rw [HP.out, HQ.out]; exact hnb)
            clear hnb hs
            go_wp2_with fail
            go_roundw
            case rel => exact ⟨j + 1, by omega, by go_num, hB4, by omega, ⟨k0, k1⟩, ⟨k2, k3, l2, l3⟩, by rw [hst.out, HP.out]; exact k4, by rw [hst.out, HQ.out]; exact k5, l4, l5⟩
            case measure => simp [intOf]; omega
          · have hst : Hid (sj (j + 1) = (L + (j : Int), (k : Int) + 1)) := by rw [hs.out]; exact Best.stp_yes (by rw [HP.out, HQ.out]; exact hnb)
            clear hnb hs
            have na : ∀ i i', (⟨w1.heap.size, i, none⟩ : Addr) ≠ ⟨w.heap.size, i', none⟩ := fun i i' e => by injection e; omega
            have nb : ∀ i i', (⟨w1.heap.size, i, none⟩ : Addr) ≠ ⟨w.heap.size + 1, i', none⟩ := fun i i' e => by injection e; omega
            have NA := Lib.hid na
            have NB := Lib.hid nb
            clear na nb
            go_wp2_with fail
            go_roundw
            case rel => exact ⟨j + 1, by omega, by go_num, by (repeat' (first | (with_reducible exact Below.refl _ _) | (with_reducible assumption) | (with_reducible refine Below.alloc ?_ ?_ _) | (with_reducible refine below_drewN ?_ _) | (with_reducible refine Below.drew ?_) | (with_reducible refine Below.setCell ?_ ?_ _) | go_size)), by simp; omega, ⟨cs_other (NA.out _ _) (cs_other (NA.out _ _) k0), cs_other (NA.out _ _) (cs_other (NA.out _ _) k1)⟩, ⟨cs_other (NB.out _ _) (cs_other (NB.out _ _) k2), cs_other (NB.out _ _) (cs_other (NB.out _ _) k3), by simp [l2], by simp [l3]⟩, by rw [hst.out]; exact cs_other (by simp) (cs_same k4), by rw [hst.out]; exact cs_same (cs_other (by simp) k5), by simp [l4], by simp [l5]⟩
            case measure => simp [intOf]; omega
        · have ej : j = 2 := by omega
          subst ej
          rw [← h2.out] at b0 b1
          go_wp2_with fail
          go_roundw
          case rel => exact ⟨k + 1, by omega, by go_num, hB, hz, ⟨c0, c1⟩, ⟨r0, r1, g0, g1⟩, b0, b1, f0, f1⟩
          case measure => simp [intOf]; omega
    · have ek : M.toNat = k := by omega
      have EK := Lib.hid ek
      clear ek
      rw [EK.out] at x1
      go_wp2_with fail
      refine (x1.out _).mono ?_
      rintro e w5 ⟨rfl, hb5⟩
      have hz5 := hb5.size
      have hB5 : Below w.heap.size w w5 := hB.trans (hb5.mono hB.size)
      have r0' : w5.cell? ⟨w.heap.size + 1, 0, none⟩ = some (.int .i64 0) := (hb5.cell (by omega)).trans r0
      have r1' : w5.cell? ⟨w.heap.size + 1, 1, none⟩ = some (.int .i64 0) := (hb5.cell (by omega)).trans r1
      have g0' : w5.frozen? ⟨w.heap.size + 1, 0, none⟩ = false := (hb5.frozen (by omega)).trans g0
      have g1' : w5.frozen? ⟨w.heap.size + 1, 1, none⟩ = false := (hb5.frozen (by omega)).trans g1
      have hl5 : w.heap.size + 1 < w5.heap.size := by omega
      go_wp2_with fail
      refine ret_rat (b := w.heap.size + 1) (by rfl) rfl rfl (by (repeat (rw [World.cell?_alloc_lt _ _ _ (by first | omega | (simp; done) | (simp; omega))])); go_cell) (by (repeat (rw [World.cell?_alloc_lt _ _ _ (by first | omega | (simp; done) | (simp; omega))])); go_cell) rfl ?_
      exact ⟨by rw [EK.out]; rfl, by (repeat' (first | (with_reducible exact Below.refl _ _) | (with_reducible assumption) | (with_reducible refine Below.alloc ?_ ?_ _) | (with_reducible refine below_drewN ?_ _) | (with_reducible refine Below.drew ?_) | (with_reducible refine Below.setCell ?_ ?_ _) | go_size))⟩
end Go.Proofs.Ytfjcmmdfipppoaa
