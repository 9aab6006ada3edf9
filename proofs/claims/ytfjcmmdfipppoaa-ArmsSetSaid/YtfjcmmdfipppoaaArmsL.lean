/- Contract of the specification's Off. -/
import Derived.Test.YtfjcmmdfipppoaaArmsK
import Derived.Test.YtfjcmmdfipppoaaArmsNp
namespace Go.Proofs.Ytfjcmmdfipppoaa
open Go.RowKit

/-- Both cells of a ratio's variable are there and can be written. -/
def OffR (w : World) (b : Nat) : Prop := (∃ x, w.cell? ⟨b, 0, none⟩ = some x) ∧ (∃ y, w.cell? ⟨b, 1, none⟩ = some y) ∧ w.frozen? ⟨b, 0, none⟩ = false ∧ w.frozen? ⟨b, 1, none⟩ = false
theorem OffR.mk {w : World} {b : Nat} {x y : Value} (h0 : w.cell? ⟨b, 0, none⟩ = some x) (h1 : w.cell? ⟨b, 1, none⟩ = some y) (f0 : w.frozen? ⟨b, 0, none⟩ = false) (f1 : w.frozen? ⟨b, 1, none⟩ = false) : OffR w b := ⟨⟨x, h0⟩, ⟨y, h1⟩, f0, f1⟩
theorem OffR.store {w : World} {b : Nat} (h : OffR w b) (x y : Value) : OffR ((w.setCell ⟨b, 0, none⟩ x).setCell ⟨b, 1, none⟩ y) b := by
  obtain ⟨⟨p, h0⟩, ⟨q, h1⟩, f0, f1⟩ := h
  refine ⟨⟨x, cs_other (by simp) (cs_same h0)⟩, ⟨y, cs_same (cs_other (by simp) h1)⟩, ?_, ?_⟩ <;> simp [*]

theorem off_keep {w0 W w' : World} {g : Nat} {u v r s lo hi a b : Int} (hS : Below w0.heap.size w0 W ∧ g + 1 + 1 < W.heap.size ∧ (W.cell? ⟨g, 0, none⟩ = some (.int .i64 u) ∧ W.cell? ⟨g, 1, none⟩ = some (.int .i64 v) ∧ W.cell? ⟨g, 2, none⟩ = some (.int .i64 r) ∧ W.cell? ⟨g, 3, none⟩ = some (.int .i64 s) ∧ W.cell? ⟨g, 4, none⟩ = some (.int .i64 lo) ∧ W.cell? ⟨g, 5, none⟩ = some (.int .i64 hi)) ∧ (W.cell? ⟨g + 1, 0, none⟩ = some (.int .i64 a) ∧ W.cell? ⟨g + 1, 1, none⟩ = some (.int .i64 b)) ∧ OffR W (g + 1 + 1)) (_h0 : w0.heap.size ≤ g) (hb : Below W.heap.size W w') : Below w0.heap.size w0 w' ∧ g + 1 + 1 < w'.heap.size ∧ (w'.cell? ⟨g, 0, none⟩ = some (.int .i64 u) ∧ w'.cell? ⟨g, 1, none⟩ = some (.int .i64 v) ∧ w'.cell? ⟨g, 2, none⟩ = some (.int .i64 r) ∧ w'.cell? ⟨g, 3, none⟩ = some (.int .i64 s) ∧ w'.cell? ⟨g, 4, none⟩ = some (.int .i64 lo) ∧ w'.cell? ⟨g, 5, none⟩ = some (.int .i64 hi)) ∧ (w'.cell? ⟨g + 1, 0, none⟩ = some (.int .i64 a) ∧ w'.cell? ⟨g + 1, 1, none⟩ = some (.int .i64 b)) ∧ OffR w' (g + 1 + 1) := by
  obtain ⟨h, hz, ⟨h0, h1, h2, h3, h4, h5⟩, ⟨h6, h7⟩, ⟨p, h8⟩, ⟨q, h9⟩, f0, f1⟩ := hS
  have hz' := hb.size
  have c0 : g < W.heap.size := by omega
  have c1 : g + 1 < W.heap.size := by omega
  exact ⟨h.trans (hb.mono h.size), by omega, ⟨(hb.cell c0).trans h0, (hb.cell c0).trans h1, (hb.cell c0).trans h2, (hb.cell c0).trans h3, (hb.cell c0).trans h4, (hb.cell c0).trans h5⟩, ⟨(hb.cell c1).trans h6, (hb.cell c1).trans h7⟩,
    ⟨p, (hb.cell hz).trans h8⟩, ⟨q, (hb.cell hz).trans h9⟩, (hb.frozen hz).trans f0, (hb.frozen hz).trans f1⟩
theorem off_store {w0 W : World} {g : Nat} {u v r s lo hi a b : Int} {x y : Value} (_h0 : w0.heap.size ≤ g) (hS : Below w0.heap.size w0 W ∧ g + 1 + 1 < W.heap.size ∧ (W.cell? ⟨g, 0, none⟩ = some (.int .i64 u) ∧ W.cell? ⟨g, 1, none⟩ = some (.int .i64 v) ∧ W.cell? ⟨g, 2, none⟩ = some (.int .i64 r) ∧ W.cell? ⟨g, 3, none⟩ = some (.int .i64 s) ∧ W.cell? ⟨g, 4, none⟩ = some (.int .i64 lo) ∧ W.cell? ⟨g, 5, none⟩ = some (.int .i64 hi)) ∧ (W.cell? ⟨g + 1, 0, none⟩ = some (.int .i64 a) ∧ W.cell? ⟨g + 1, 1, none⟩ = some (.int .i64 b)) ∧ OffR W (g + 1 + 1)) : Below w0.heap.size w0 ((W.setCell ⟨g + 1 + 1, 0, none⟩ x).setCell ⟨g + 1 + 1, 1, none⟩ y) ∧ g + 1 + 1 < ((W.setCell ⟨g + 1 + 1, 0, none⟩ x).setCell ⟨g + 1 + 1, 1, none⟩ y).heap.size ∧ (((W.setCell ⟨g + 1 + 1, 0, none⟩ x).setCell ⟨g + 1 + 1, 1, none⟩ y).cell? ⟨g, 0, none⟩ = some (.int .i64 u) ∧ ((W.setCell ⟨g + 1 + 1, 0, none⟩ x).setCell ⟨g + 1 + 1, 1, none⟩ y).cell? ⟨g, 1, none⟩ = some (.int .i64 v) ∧ ((W.setCell ⟨g + 1 + 1, 0, none⟩ x).setCell ⟨g + 1 + 1, 1, none⟩ y).cell? ⟨g, 2, none⟩ = some (.int .i64 r) ∧ ((W.setCell ⟨g + 1 + 1, 0, none⟩ x).setCell ⟨g + 1 + 1, 1, none⟩ y).cell? ⟨g, 3, none⟩ = some (.int .i64 s) ∧ ((W.setCell ⟨g + 1 + 1, 0, none⟩ x).setCell ⟨g + 1 + 1, 1, none⟩ y).cell? ⟨g, 4, none⟩ = some (.int .i64 lo) ∧ ((W.setCell ⟨g + 1 + 1, 0, none⟩ x).setCell ⟨g + 1 + 1, 1, none⟩ y).cell? ⟨g, 5, none⟩ = some (.int .i64 hi)) ∧ (((W.setCell ⟨g + 1 + 1, 0, none⟩ x).setCell ⟨g + 1 + 1, 1, none⟩ y).cell? ⟨g + 1, 0, none⟩ = some (.int .i64 a) ∧ ((W.setCell ⟨g + 1 + 1, 0, none⟩ x).setCell ⟨g + 1 + 1, 1, none⟩ y).cell? ⟨g + 1, 1, none⟩ = some (.int .i64 b)) ∧ OffR ((W.setCell ⟨g + 1 + 1, 0, none⟩ x).setCell ⟨g + 1 + 1, 1, none⟩ y) (g + 1 + 1) := by
  obtain ⟨h, hz, ⟨h0, h1, h2, h3, h4, h5⟩, ⟨h6, h7⟩, hr⟩ := hS
  have n0 : ∀ i j, (⟨g + 1 + 1, i, none⟩ : Addr) ≠ ⟨g, j, none⟩ := fun i j e => by injection e; omega
  have n1 : ∀ i j, (⟨g + 1 + 1, i, none⟩ : Addr) ≠ ⟨g + 1, j, none⟩ := fun i j e => by injection e; omega
  refine ⟨(h.setCell (by simp; omega) _).setCell (by simp; omega) _, by simpa using hz, ⟨?_, ?_, ?_, ?_, ?_, ?_⟩, ⟨?_, ?_⟩, hr.store x y⟩
  all_goals first | exact cs_other (n0 _ _) (cs_other (n0 _ _) ‹_›) | exact cs_other (n1 _ _) (cs_other (n1 _ _) ‹_›)

set_option maxRecDepth 100000 in
set_option maxHeartbeats 2000000 in
theorem refOff_any (u v r s lo hi n a b : Int) (w : World) :
    Calls Try.prog 30 #[.agg #[.int .i64 u, .int .i64 v, .int .i64 r, .int .i64 s, .int .i64 lo, .int .i64 hi], .int .i64 n, .agg #[.int .i64 a, .int .i64 b]] w
      fun e w' => e = .returned (.tuple #[.agg #[.int .i64 (Arm.offN u v r s lo hi a b n (inB n lo hi)), .int .i64 (Arm.offD u v r s lo hi a b n (inB n lo hi))], .int .i64 (Arm.offE u v r s lo hi a b n (inB n lo hi))]) ∧ Below w.heap.size w w' := by
  by_cases hz : Arm.cE u v r s lo hi a b (inB n lo hi) = 0
  · have HH := Lib.hid (Arm.cE_zero.1 hz)
    have e1 : Hid (Arm.offN u v r s lo hi a b n (inB n lo hi) = Arm.sN (Arm.farN u v r s a b n) (a * (v * s))) := by unfold Arm.offN; rw [hz]; rfl
    have e2 : Hid (Arm.offD u v r s lo hi a b n (inB n lo hi) = Arm.sD (Arm.farN u v r s a b n) (a * (v * s))) := by unfold Arm.offD; rw [hz]; rfl
    have e3 : Hid (Arm.offE u v r s lo hi a b n (inB n lo hi) = Arm.sE (Arm.farN u v r s a b n) (a * (v * s))) := by unfold Arm.offE; rw [hz]; rfl
    have HZ := Lib.hid hz
    have hn := inB_true.1 HH.out.2.2.1
    have h1 := HH.out.1
    have h2 := HH.out.2.1
    have h3 := HH.out.2.2.2
    have m1 := Arm.mul_pos_bd h1.1.1.1 h1.1.1.2 h1.2.1.1.1 h1.2.1.1.2
    have m2 := Arm.mul_pos_bd h1.1.2.1 h1.1.2.2 h1.2.1.2.1 h1.2.1.2.2
    have m3 := Arm.mul_pos_bd (a := n) (x := 10000) (by have := h1.2.2; omega) (by have := h1.2.2; omega) m1.1 m1.2
    have m4 := Arm.mul_pos_bd m3.1 m3.2 h2.1.1 h2.1.2
    have m5 := Arm.mul_pos_bd h3 h2.2.2 m2.1 m2.2
    have hf2 : 0 ≤ Arm.farN u v r s a b n ∧ Arm.farN u v r s a b n ≤ 9000000000000000000 := by unfold Arm.farN; omega
    have x1 : Hid (∀ W, Calls Try.prog 45 #[.agg #[.int .i64 u, .int .i64 v, .int .i64 r, .int .i64 s, .int .i64 lo, .int .i64 hi], .int .i64 n, .int .i64 1, .agg #[.int .i64 a, .int .i64 b]] W fun e w' => e = .returned (.int .i64 (Arm.farN u v r s a b n)) ∧ Below W.heap.size W w') := fun W => by
      have h := FarFrom_any u v r s lo hi n 1 a b W h1 hn h2 (by omega)
      rw [Arm.far_one] at h
      exact h
    have x2 : Hid (∀ W, Calls Try.prog 69 #[.agg #[.int .i64 u, .int .i64 v, .int .i64 r, .int .i64 s, .int .i64 lo, .int .i64 hi], .int .i64 n] W fun e w' => e = .returned (.agg #[.int .i64 (n * (u * r)), .int .i64 (v * s)]) ∧ Below W.heap.size W w') := fun W => ValueOf_any u v r s lo hi n W h1 hn
    have x3 : Hid (∀ W, Calls Try.prog 53 #[.agg #[.int .i64 (Arm.farN u v r s a b n), .int .i64 (a * (v * s))]] W fun e w' => e = .returned (.tuple #[.agg #[.int .i64 (Arm.sN (Arm.farN u v r s a b n) (a * (v * s))), .int .i64 (Arm.sD (Arm.farN u v r s a b n) (a * (v * s)))], .int .i64 (Arm.sE (Arm.farN u v r s a b n) (a * (v * s)))]) ∧ Below W.heap.size W w') := fun W => refResult_any (Arm.farN u v r s a b n) (a * (v * s)) W (by omega) (by omega) (by omega) (by omega)
    have x4 : Hid (∀ W, Calls Try.prog 68 #[.agg #[.int .i64 u, .int .i64 v, .int .i64 r, .int .i64 s, .int .i64 lo, .int .i64 hi], .agg #[.int .i64 a, .int .i64 b], .bool (inB n lo hi)] W fun e w' => e = .returned (.int .i64 0) ∧ Below W.heap.size W w') := fun W => by
      have h := refCheck_any u v r s lo hi a b (inB n lo hi) W
      rw [hz] at h
      exact h
    obtain ⟨M, hM⟩ : ∃ M, M = a * (v * s) := ⟨_, rfl⟩
    have wm : IntKind.i64.wrap (a * (v * s)) = M := by rw [hM]; exact IntWalk.i64_in _ (by omega)
    rw [← hM] at x3 e1 e2 e3
    clear hM
    generalize Arm.sN (Arm.farN u v r s a b n) M = N at *
    generalize Arm.sD (Arm.farN u v r s a b n) M = D at *
    generalize Arm.sE (Arm.farN u v r s a b n) M = E at *
    generalize Arm.farN u v r s a b n = F at *
    generalize v * s = VS at *
    generalize n * (u * r) = NU at *
    clear hz h1 h2 h3 m1 m2 m3 m4 m5 hn hf2 HH HZ
    have hfd : ∀ (x y : Int) (w : World), (Instr.field 23 (.agg #[.int .i64 x, .int .i64 y]) 1).run Try.prog w = .ok (.int .i64 y) w := fun _ _ _ => by kernel_rfl

    go_enter Try.func30, Try.ntmps30
    go_wp2_with fail
    generalize hW : ((w.alloc _).alloc _).alloc _ = W
    have hB0 : Below w.heap.size w W := by rw [← hW]; (repeat' (first | (with_reducible exact Below.refl _ _) | (with_reducible assumption) | (with_reducible refine Below.alloc ?_ ?_ _) | (with_reducible refine below_drewN ?_ _) | (with_reducible refine Below.drew ?_) | (with_reducible refine Below.setCell ?_ ?_ _) | go_size))
    have hlWa : w.heap.size < W.heap.size := (by rw [← hW]; clear hW; first | omega | (simp; done) | (simp; omega)); have hxWa0 : W.cell? ⟨w.heap.size, 0, none⟩ = some (.int .i64 (u)) := (by rw [← hW]; clear hW; (repeat (rw [World.cell?_alloc_lt _ _ _ (by first | omega | (simp; done) | (simp; omega))])); go_cell); have hxWa1 : W.cell? ⟨w.heap.size, 1, none⟩ = some (.int .i64 (v)) := (by rw [← hW]; clear hW; (repeat (rw [World.cell?_alloc_lt _ _ _ (by first | omega | (simp; done) | (simp; omega))])); go_cell); have hxWa2 : W.cell? ⟨w.heap.size, 2, none⟩ = some (.int .i64 (r)) := (by rw [← hW]; clear hW; (repeat (rw [World.cell?_alloc_lt _ _ _ (by first | omega | (simp; done) | (simp; omega))])); go_cell); have hxWa3 : W.cell? ⟨w.heap.size, 3, none⟩ = some (.int .i64 (s)) := (by rw [← hW]; clear hW; (repeat (rw [World.cell?_alloc_lt _ _ _ (by first | omega | (simp; done) | (simp; omega))])); go_cell); have hxWa4 : W.cell? ⟨w.heap.size, 4, none⟩ = some (.int .i64 (lo)) := (by rw [← hW]; clear hW; (repeat (rw [World.cell?_alloc_lt _ _ _ (by first | omega | (simp; done) | (simp; omega))])); go_cell); have hxWa5 : W.cell? ⟨w.heap.size, 5, none⟩ = some (.int .i64 (hi)) := (by rw [← hW]; clear hW; (repeat (rw [World.cell?_alloc_lt _ _ _ (by first | omega | (simp; done) | (simp; omega))])); go_cell)
    have hlWb : w.heap.size + 1 < W.heap.size := (by rw [← hW]; clear hW; first | omega | (simp; done) | (simp; omega)); have hxWb0 : W.cell? ⟨w.heap.size + 1, 0, none⟩ = some (.int .i64 (a)) := (by rw [← hW]; clear hW; (repeat (rw [World.cell?_alloc_lt _ _ _ (by first | omega | (simp; done) | (simp; omega))])); go_cell); have hxWb1 : W.cell? ⟨w.heap.size + 1, 1, none⟩ = some (.int .i64 (b)) := (by rw [← hW]; clear hW; (repeat (rw [World.cell?_alloc_lt _ _ _ (by first | omega | (simp; done) | (simp; omega))])); go_cell)
    have hlWr : w.heap.size + 1 + 1 < W.heap.size := (by rw [← hW]; clear hW; first | omega | (simp; done) | (simp; omega)); have hxWr0 : W.cell? ⟨w.heap.size + 1 + 1, 0, none⟩ = some (.int .i64 (0)) := (by rw [← hW]; clear hW; (repeat (rw [World.cell?_alloc_lt _ _ _ (by first | omega | (simp; done) | (simp; omega))])); go_cell); have hxWr1 : W.cell? ⟨w.heap.size + 1 + 1, 1, none⟩ = some (.int .i64 (0)) := (by rw [← hW]; clear hW; (repeat (rw [World.cell?_alloc_lt _ _ _ (by first | omega | (simp; done) | (simp; omega))])); go_cell)
    have fr0 : W.frozen? ⟨w.heap.size + 1 + 1, 0, none⟩ = false := by rw [← hW]; clear hW; first | (go_simp; done) | (simp [*]; done)
    have fr1 : W.frozen? ⟨w.heap.size + 1 + 1, 1, none⟩ = false := by rw [← hW]; clear hW; first | (go_simp; done) | (simp [*]; done)
    have hR := OffR.mk hxWr0 hxWr1 fr0 fr1
    clear hW hxWr0 hxWr1 fr0 fr1
    go_region_held3 (fun w' => Below w.heap.size w w' ∧ w.heap.size + 1 + 1 < w'.heap.size ∧ (w'.cell? ⟨w.heap.size, 0, none⟩ = some (.int .i64 u) ∧ w'.cell? ⟨w.heap.size, 1, none⟩ = some (.int .i64 v) ∧ w'.cell? ⟨w.heap.size, 2, none⟩ = some (.int .i64 r) ∧ w'.cell? ⟨w.heap.size, 3, none⟩ = some (.int .i64 s) ∧ w'.cell? ⟨w.heap.size, 4, none⟩ = some (.int .i64 lo) ∧ w'.cell? ⟨w.heap.size, 5, none⟩ = some (.int .i64 hi)) ∧ (w'.cell? ⟨w.heap.size + 1, 0, none⟩ = some (.int .i64 a) ∧ w'.cell? ⟨w.heap.size + 1, 1, none⟩ = some (.int .i64 b)) ∧ OffR w' (w.heap.size + 1 + 1))
      (first | exact ⟨hB0.drew, hlWr, ⟨hxWa0, hxWa1, hxWa2, hxWa3, hxWa4, hxWa5⟩, ⟨hxWb0, hxWb1⟩, hR⟩ | exact ⟨hB0, hlWr, ⟨hxWa0, hxWa1, hxWa2, hxWa3, hxWa4, hxWa5⟩, ⟨hxWb0, hxWb1⟩, hR⟩ | (with_reducible assumption))
      (first
        | (go_at_call 46; refine (Within_any _ _ _ _).mono ?_; rintro e w1 ⟨rfl, rfl⟩)
        | (go_at_call 68; refine (x4.out _).mono ?_; rintro e w1 ⟨rfl, hb1⟩; have hS := off_keep (by with_reducible assumption) (Nat.le_refl _) hb1))
    clear hR hxWa0 hxWa1 hxWa2 hxWa3 hxWa4 hxWa5 hxWb0 hxWb1 hB0 hlWa hlWb
    obtain ⟨q, hz1, ⟨d0, d1, d2, d3, d4, d5⟩, ⟨d6, d7⟩, hR1⟩ : Below w.heap.size w w1 ∧ _ := by assumption
    clear x4
    go_wp2_with fail
    go_region_held3 (fun w' => Below w.heap.size w w' ∧ w.heap.size + 1 + 1 < w'.heap.size ∧ (w'.cell? ⟨w.heap.size, 0, none⟩ = some (.int .i64 u) ∧ w'.cell? ⟨w.heap.size, 1, none⟩ = some (.int .i64 v) ∧ w'.cell? ⟨w.heap.size, 2, none⟩ = some (.int .i64 r) ∧ w'.cell? ⟨w.heap.size, 3, none⟩ = some (.int .i64 s) ∧ w'.cell? ⟨w.heap.size, 4, none⟩ = some (.int .i64 lo) ∧ w'.cell? ⟨w.heap.size, 5, none⟩ = some (.int .i64 hi)) ∧ (w'.cell? ⟨w.heap.size + 1, 0, none⟩ = some (.int .i64 a) ∧ w'.cell? ⟨w.heap.size + 1, 1, none⟩ = some (.int .i64 b)) ∧ OffR w' (w.heap.size + 1 + 1))
      (first | exact ⟨q.drew, hz1, ⟨d0, d1, d2, d3, d4, d5⟩, ⟨d6, d7⟩, hR1⟩ | exact ⟨q, hz1, ⟨d0, d1, d2, d3, d4, d5⟩, ⟨d6, d7⟩, hR1⟩ | (with_reducible assumption) | exact off_store (Nat.le_refl _) (by with_reducible assumption))
      (first
        | (go_at_call 45; refine (x1.out _).mono ?_; rintro e w2 ⟨rfl, hb2⟩; have hS2 := off_keep (by with_reducible assumption) (Nat.le_refl _) hb2)
        | (go_at_call 69; refine (x2.out _).mono ?_; rintro e w3 ⟨rfl, hb3⟩; have hS3 := off_keep (by with_reducible assumption) (Nat.le_refl _) hb3)
        | (go_at_call 53; refine (x3.out _).mono ?_; rintro e w4 ⟨rfl, hb4⟩; have hS4 := off_keep (by with_reducible assumption) (Nat.le_refl _) hb4; obtain ⟨⟨x0, hx0⟩, ⟨y0, hy0⟩, hf0, hf1⟩ := hS4.2.2.2.2))
    have hBf : Below w.heap.size w w4 := hS4.1
    have hzf : w.heap.size + 1 + 1 < w4.heap.size := hS4.2.1
    clear hR1 d0 d1 d2 d3 d4 d5 d6 d7
    go_wp2_with fail
    refine ret_rat (b := w.heap.size + 1 + 1) (by rfl) rfl rfl (by (repeat (rw [World.cell?_alloc_lt _ _ _ (by first | omega | (simp; done) | (simp; omega))])); go_cell) (by (repeat (rw [World.cell?_alloc_lt _ _ _ (by first | omega | (simp; done) | (simp; omega))])); go_cell) rfl ?_
    exact ⟨ret_t e1.out.symm e2.out.symm e3.out.symm, by (repeat' (first | (with_reducible exact Below.refl _ _) | (with_reducible assumption) | (with_reducible refine Below.alloc ?_ ?_ _) | (with_reducible refine below_drewN ?_ _) | (with_reducible refine Below.drew ?_) | (with_reducible refine Below.setCell ?_ ?_ _) | go_size))⟩
  · have e1 : Hid (Arm.offN u v r s lo hi a b n (inB n lo hi) = 0) := by unfold Arm.offN; rw [if_neg hz]; rfl
    have e2 : Hid (Arm.offD u v r s lo hi a b n (inB n lo hi) = 0) := by unfold Arm.offD; rw [if_neg hz]; rfl
    have e3 : Hid (Arm.offE u v r s lo hi a b n (inB n lo hi) = Arm.cE u v r s lo hi a b (inB n lo hi)) := by unfold Arm.offE; rw [if_neg hz]; rfl
    have hz' : (Arm.cE u v r s lo hi a b (inB n lo hi) != 0) = true := by simpa using hz
    clear hz
    go_enter Try.func30, Try.ntmps30
    go_wp2_with fail
    generalize hW : ((w.alloc _).alloc _).alloc _ = W
    have hB0 : Below w.heap.size w W := by rw [← hW]; (repeat' (first | (with_reducible exact Below.refl _ _) | (with_reducible assumption) | (with_reducible refine Below.alloc ?_ ?_ _) | (with_reducible refine below_drewN ?_ _) | (with_reducible refine Below.drew ?_) | (with_reducible refine Below.setCell ?_ ?_ _) | go_size))
    have hlWa : w.heap.size < W.heap.size := (by rw [← hW]; clear hW; first | omega | (simp; done) | (simp; omega)); have hxWa0 : W.cell? ⟨w.heap.size, 0, none⟩ = some (.int .i64 (u)) := (by rw [← hW]; clear hW; (repeat (rw [World.cell?_alloc_lt _ _ _ (by first | omega | (simp; done) | (simp; omega))])); go_cell); have hxWa1 : W.cell? ⟨w.heap.size, 1, none⟩ = some (.int .i64 (v)) := (by rw [← hW]; clear hW; (repeat (rw [World.cell?_alloc_lt _ _ _ (by first | omega | (simp; done) | (simp; omega))])); go_cell); have hxWa2 : W.cell? ⟨w.heap.size, 2, none⟩ = some (.int .i64 (r)) := (by rw [← hW]; clear hW; (repeat (rw [World.cell?_alloc_lt _ _ _ (by first | omega | (simp; done) | (simp; omega))])); go_cell); have hxWa3 : W.cell? ⟨w.heap.size, 3, none⟩ = some (.int .i64 (s)) := (by rw [← hW]; clear hW; (repeat (rw [World.cell?_alloc_lt _ _ _ (by first | omega | (simp; done) | (simp; omega))])); go_cell); have hxWa4 : W.cell? ⟨w.heap.size, 4, none⟩ = some (.int .i64 (lo)) := (by rw [← hW]; clear hW; (repeat (rw [World.cell?_alloc_lt _ _ _ (by first | omega | (simp; done) | (simp; omega))])); go_cell); have hxWa5 : W.cell? ⟨w.heap.size, 5, none⟩ = some (.int .i64 (hi)) := (by rw [← hW]; clear hW; (repeat (rw [World.cell?_alloc_lt _ _ _ (by first | omega | (simp; done) | (simp; omega))])); go_cell)
    have hlWb : w.heap.size + 1 < W.heap.size := (by rw [← hW]; clear hW; first | omega | (simp; done) | (simp; omega)); have hxWb0 : W.cell? ⟨w.heap.size + 1, 0, none⟩ = some (.int .i64 (a)) := (by rw [← hW]; clear hW; (repeat (rw [World.cell?_alloc_lt _ _ _ (by first | omega | (simp; done) | (simp; omega))])); go_cell); have hxWb1 : W.cell? ⟨w.heap.size + 1, 1, none⟩ = some (.int .i64 (b)) := (by rw [← hW]; clear hW; (repeat (rw [World.cell?_alloc_lt _ _ _ (by first | omega | (simp; done) | (simp; omega))])); go_cell)
    have hlWr : w.heap.size + 1 + 1 < W.heap.size := (by rw [← hW]; clear hW; first | omega | (simp; done) | (simp; omega)); have hxWr0 : W.cell? ⟨w.heap.size + 1 + 1, 0, none⟩ = some (.int .i64 (0)) := (by rw [← hW]; clear hW; (repeat (rw [World.cell?_alloc_lt _ _ _ (by first | omega | (simp; done) | (simp; omega))])); go_cell); have hxWr1 : W.cell? ⟨w.heap.size + 1 + 1, 1, none⟩ = some (.int .i64 (0)) := (by rw [← hW]; clear hW; (repeat (rw [World.cell?_alloc_lt _ _ _ (by first | omega | (simp; done) | (simp; omega))])); go_cell)
    have fr0 : W.frozen? ⟨w.heap.size + 1 + 1, 0, none⟩ = false := by rw [← hW]; clear hW; first | (go_simp; done) | (simp [*]; done)
    have fr1 : W.frozen? ⟨w.heap.size + 1 + 1, 1, none⟩ = false := by rw [← hW]; clear hW; first | (go_simp; done) | (simp [*]; done)
    have hR := OffR.mk hxWr0 hxWr1 fr0 fr1
    clear hW hxWr0 hxWr1 fr0 fr1
    go_region_held3 (fun w' => Below w.heap.size w w' ∧ w.heap.size + 1 + 1 < w'.heap.size ∧ (w'.cell? ⟨w.heap.size, 0, none⟩ = some (.int .i64 u) ∧ w'.cell? ⟨w.heap.size, 1, none⟩ = some (.int .i64 v) ∧ w'.cell? ⟨w.heap.size, 2, none⟩ = some (.int .i64 r) ∧ w'.cell? ⟨w.heap.size, 3, none⟩ = some (.int .i64 s) ∧ w'.cell? ⟨w.heap.size, 4, none⟩ = some (.int .i64 lo) ∧ w'.cell? ⟨w.heap.size, 5, none⟩ = some (.int .i64 hi)) ∧ (w'.cell? ⟨w.heap.size + 1, 0, none⟩ = some (.int .i64 a) ∧ w'.cell? ⟨w.heap.size + 1, 1, none⟩ = some (.int .i64 b)) ∧ OffR w' (w.heap.size + 1 + 1))
      (first | exact ⟨hB0.drew, hlWr, ⟨hxWa0, hxWa1, hxWa2, hxWa3, hxWa4, hxWa5⟩, ⟨hxWb0, hxWb1⟩, hR⟩ | exact ⟨hB0, hlWr, ⟨hxWa0, hxWa1, hxWa2, hxWa3, hxWa4, hxWa5⟩, ⟨hxWb0, hxWb1⟩, hR⟩ | (with_reducible assumption))
      (first
        | (go_at_call 46; refine (Within_any _ _ _ _).mono ?_; rintro e w1 ⟨rfl, rfl⟩)
        | (go_at_call 68; refine (refCheck_any u v r s lo hi a b _ _).mono ?_; rintro e w1 ⟨rfl, hb1⟩; have hS := off_keep (by with_reducible assumption) (Nat.le_refl _) hb1))
    clear hxWa0 hxWa1 hxWa2 hxWa3 hxWa4 hxWa5 hxWb0 hxWb1 hB0 hlWa hlWb
    obtain ⟨q, hz1, -, -, ⟨⟨x0, hx0⟩, ⟨y0, hy0⟩, hf0, hf1⟩⟩ : Below w.heap.size w w1 ∧ _ := by assumption
    go_wp2_with fail
    refine ret_rat (b := w.heap.size + 1 + 1) (by rfl) rfl rfl (by (repeat (rw [World.cell?_alloc_lt _ _ _ (by first | omega | (simp; done) | (simp; omega))])); go_cell) (by (repeat (rw [World.cell?_alloc_lt _ _ _ (by first | omega | (simp; done) | (simp; omega))])); go_cell) rfl ?_
    exact ⟨ret_t e1.out.symm e2.out.symm e3.out.symm, by (repeat' (first | (with_reducible exact Below.refl _ _) | (with_reducible assumption) | (with_reducible refine Below.alloc ?_ ?_ _) | (with_reducible refine below_drewN ?_ _) | (with_reducible refine Below.drew ?_) | (with_reducible refine Below.setCell ?_ ?_ _) | go_size))⟩
end Go.Proofs.Ytfjcmmdfipppoaa
