/- Walks: reaching a point, a step, and nearness, by the program. -/
import Derived.Test.YtmjcdggmofohcaaWlD
import Derived.Test.YtmjcdggmofohcaaWlB
namespace Go.Proofs.Ytmjcdggmofohcaa
open Go.RowKit
/-- A machine as a value: a track and a walk. -/
def mcV (t : Wl.Trk) (A : Option Addr) (c : Nat) (Aw : Option Addr) (m cw : Nat) : Array Value := #[.slice A t.ps.length c, .int .i64 t.cl, .int .i64 t.lo, .int .i64 t.hi, .slice Aw m cw]
set_option maxRecDepth 100000 in
set_option maxHeartbeats 8000000 in
theorem reachesW_any (t : Wl.Trk) (A : Option Addr) (c : Nat) (Aw : Option Addr) (m cw : Nat) (p : Nat) (a : Wl.Pt) (hp : p < t.ps.length) (h1 : Geo.sm (Wl.ptAt t.ps p)) (h2 : Geo.sm a) (w : World) (hP : Prs w w.heap.size A t.ps) (hl : t.ps.length ≤ 1000000000) :
    Calls Try.prog 83 #[.agg (mcV t A c Aw m cw), .int .i64 (p : Nat), .agg #[.int .i64 a.1, .int .i64 a.2]] w fun e w' => e = .returned (.bool (Wl.reachB t p a)) ∧ Below w.heap.size w w' := by
  have hPk : t.ps[p]? = some (Wl.ptAt t.ps p) := by unfold Wl.ptAt; rw [List.getElem?_eq_getElem hp]; rfl
  have HR : Hid (Wl.reachB t p a = inB ((a.1 - (Wl.ptAt t.ps p).1) * (a.1 - (Wl.ptAt t.ps p).1) + (a.2 - (Wl.ptAt t.ps p).2) * (a.2 - (Wl.ptAt t.ps p).2)) t.lo t.hi) := by
    unfold Hid Wl.reachB Wl.sqV inB
    rw [Int.toNat_natCast]
  have HP := Lib.hid hP
  obtain ⟨ps, cl, lo, hi⟩ := t
  unfold mcV
  dsimp only at *
  generalize Wl.reachB ⟨ps, cl, lo, hi⟩ p a = R at *
  generalize Wl.ptAt ps p = q at *
  obtain ⟨q1, q2⟩ := q
  obtain ⟨a1, a2⟩ := a
  unfold Geo.sm at h1 h2
  dsimp only at *
  obtain ⟨bp, op, rfl, hbp, hcp⟩ := HP.out (by omega)
  obtain ⟨g0, g1⟩ := hcp p _ hPk
  dsimp only at g0 g1
  have m1 := mul_bd (x := 2000) (y := 2000) (show -2000 ≤ a1 - q1 by omega) (by omega) (show -2000 ≤ a1 - q1 by omega) (by omega)
  have m2 := mul_bd (x := 2000) (y := 2000) (show -2000 ≤ a2 - q2 by omega) (by omega) (show -2000 ≤ a2 - q2 by omega) (by omega)
  have e1 : IntKind.i64.wrap (a1 - q1) = a1 - q1 := IntWalk.i64_in _ (by omega)
  have e2 : IntKind.i64.wrap (a2 - q2) = a2 - q2 := IntWalk.i64_in _ (by omega)
  have HW : Hid (∀ W S, Calls Try.prog 80 #[.int .i64 S, .int .i64 lo, .int .i64 hi] W fun e w' => e = .returned (.bool (inB S lo hi)) ∧ w' = W) := fun W S => withinW_any S lo hi W
  have d1 : decide ((p : Int) < 0) = false := decide_eq_false (by omega)
  have d2 : decide ((ps.length : Int) ≤ (p : Int)) = false := decide_eq_false (by omega)
  have d4 : decide (ps.length ≤ p) = false := decide_eq_false (by omega)
  have hmo : Try.prog.follows .mixedOrders = true := by kernel_rfl
  clear hcp hPk HP hP
  go_enter Try.func83, Try.ntmps83
  go_wp2_with fail
  have bS1 := (BoxS.new w 70 #[.slice (some ⟨bp, op, none⟩) ps.length c, .int .i64 cl, .int .i64 lo, .int .i64 hi, .slice Aw m cw]).alloc (.cells #[.int .i64 a1, .int .i64 a2] 28)
  have bQ1 := BoxS.new (w.alloc (.cells #[.slice (some ⟨bp, op, none⟩) ps.length c, .int .i64 cl, .int .i64 lo, .int .i64 hi, .slice Aw m cw] 70)) 28 #[.int .i64 a1, .int .i64 a2]
  rw [World.size_alloc] at bQ1
  have hB1 : Below w.heap.size w ((w.alloc (.cells #[.slice (some ⟨bp, op, none⟩) ps.length c, .int .i64 cl, .int .i64 lo, .int .i64 hi, .slice Aw m cw] 70)).alloc (.cells #[.int .i64 a1, .int .i64 a2] 28)) := by (repeat' (first | (with_reducible exact Below.refl _ _) | (with_reducible assumption) | (with_reducible refine Below.alloc ?_ ?_ _) | (with_reducible refine Below.drew ?_) | (with_reducible refine Below.setCell ?_ ?_ _) | go_size | (exact (by simp)) | omega))
  generalize World.alloc (World.alloc w _) _ = w1 at *
  have q0 : Below w1.heap.size w1 w1.drew := (Below.refl _ _).drew
  have KC : Hid (∀ W', Below w1.heap.size w1 W' → (W'.cell? ⟨w.heap.size, 0, none⟩ = some (.slice (some ⟨bp, op, none⟩) ps.length c)) ∧ (W'.cell? ⟨w.heap.size + 1, 0, none⟩ = some (.int .i64 a1) ∧ W'.cell? ⟨w.heap.size + 1, 1, none⟩ = some (.int .i64 a2)) ∧ W'.cell? ⟨bp, op + p * 2, none⟩ = some (.int .i64 q1) ∧ W'.cell? ⟨bp, op + p * 2 + 1, none⟩ = some (.int .i64 q2)) := fun W' h => by
    have h2 := hB1.trans (h.mono hB1.size)
    exact ⟨(bS1.below h).cell 0 rfl, ⟨(bQ1.below h).cell 0 rfl, (bQ1.below h).cell 1 rfl⟩, (h2.cell (p := ⟨bp, _, none⟩) hbp).trans g0, (h2.cell (p := ⟨bp, _, none⟩) hbp).trans g1⟩
  clear g0 g1
  refine (wpIn_wide (n := 4)).1 ?_
  refine wpIn_region_held (fun W' => Below w1.heap.size w1 W') 30 hmo ?_
  refine wpHeldIn_take (i := 0) (v := ?_) (plain_of (by kernel_rfl)) rfl (by kernel_rfl) (fun _ _ _ h => h) (yieldsSoIn_of (by kernel_rfl) ?_ (fun _ => rfl)) q0 ?_; rotate_left; focus (intro wq hw; clear hw; go_simp; try (with_reducible rfl))
  refine wpHeldIn_take (i := 1) (v := ?_) (plain_of (by kernel_rfl)) rfl (by kernel_rfl) (fun _ _ _ h => h) (yieldsSoIn_of (by kernel_rfl) ?_ (fun _ => rfl)) q0 ?_; rotate_left; focus (intro wq hw; have kq := KC.out wq hw; clear hw; go_simp; try (with_reducible rfl))
  refine wpHeldIn_take (i := 2) (v := ?_) (plain_of (by kernel_rfl)) rfl (by kernel_rfl) (fun _ _ _ h => h) (yieldsSoIn_of (by kernel_rfl) ?_ (fun _ => rfl)) q0 ?_; rotate_left; focus (intro wq hw; clear hw; go_simp; try (with_reducible rfl))
  refine wpHeldIn_take (i := 3) (v := ?_) (plain_of (by kernel_rfl)) rfl (by kernel_rfl) (fun _ _ _ h => h) (yieldsSoIn_of (by kernel_rfl) ?_ (fun _ => rfl)) q0 ?_; rotate_left; focus (intro wq hw; clear hw; go_simp; try (with_reducible rfl))
  refine wpHeldIn_take (i := 4) (v := ?_) (plain_of (by kernel_rfl)) rfl (by kernel_rfl) (fun _ _ _ h => h) (yieldsSoIn_of (by kernel_rfl) ?_ (fun _ => rfl)) q0 ?_; rotate_left; focus (intro wq hw; have kq := KC.out wq hw; clear hw; go_simp; try (with_reducible rfl))
  refine wpHeldIn_take (i := 5) (v := ?_) (plain_of (by kernel_rfl)) rfl (by kernel_rfl) (fun _ _ _ h => h) (yieldsSoIn_of (by kernel_rfl) ?_ (fun _ => rfl)) q0 ?_; rotate_left; focus (intro wq hw; clear hw; go_simp; try (with_reducible rfl))
  refine wpHeldIn_take (i := 6) (v := ?_) (plain_of (by kernel_rfl)) rfl (by kernel_rfl) (fun _ _ _ h => h) (yieldsSoIn_of (by kernel_rfl) ?_ (fun _ => rfl)) q0 ?_; rotate_left; focus (intro wq hw; clear hw; go_simp; try (with_reducible rfl))
  refine wpHeldIn_take (i := 7) (v := ?_) (plain_of (by kernel_rfl)) rfl (by kernel_rfl) (fun _ _ _ h => h) (yieldsSoIn_of (by kernel_rfl) ?_ (fun _ => rfl)) q0 ?_; rotate_left; focus (intro wq hw; clear hw; go_simp; try (with_reducible rfl))
  refine wpHeldIn_take (i := 8) (v := ?_) (plain_of (by kernel_rfl)) rfl (by kernel_rfl) (fun _ _ _ h => h) (yieldsSoIn_of (by kernel_rfl) ?_ (fun _ => rfl)) q0 ?_; rotate_left; focus (intro wq hw; have kq := KC.out wq hw; clear hw; go_simp; try (with_reducible rfl))
  refine wpHeldIn_take (i := 9) (v := ?_) (plain_of (by kernel_rfl)) rfl (by kernel_rfl) (fun _ _ _ h => h) (yieldsSoIn_of (by kernel_rfl) ?_ (fun _ => rfl)) q0 ?_; rotate_left; focus (intro wq hw; clear hw; go_simp; try (with_reducible rfl))
  refine wpHeldIn_take (i := 10) (v := ?_) (plain_of (by kernel_rfl)) rfl (by kernel_rfl) (fun _ _ _ h => h) (yieldsSoIn_of (by kernel_rfl) ?_ (fun _ => rfl)) q0 ?_; rotate_left; focus (intro wq hw; clear hw; go_simp; try (with_reducible rfl))
  refine wpHeldIn_take (i := 11) (v := ?_) (plain_of (by kernel_rfl)) rfl (by kernel_rfl) (fun _ _ _ h => h) (yieldsSoIn_of (by kernel_rfl) ?_ (fun _ => rfl)) q0 ?_; rotate_left; focus (intro wq hw; have kq := KC.out wq hw; clear hw; go_simp; try (with_reducible rfl))
  refine wpHeldIn_take (i := 12) (v := ?_) (plain_of (by kernel_rfl)) rfl (by kernel_rfl) (fun _ _ _ h => h) (yieldsSoIn_of (by kernel_rfl) ?_ (fun _ => rfl)) q0 ?_; rotate_left; focus (intro wq hw; clear hw; go_simp; try (with_reducible rfl))
  refine wpHeldIn_take (i := 13) (v := ?_) (plain_of (by kernel_rfl)) rfl (by kernel_rfl) (fun _ _ _ h => h) (yieldsSoIn_of (by kernel_rfl) ?_ (fun _ => rfl)) q0 ?_; rotate_left; focus (intro wq hw; clear hw; go_simp; try (with_reducible rfl))
  refine wpHeldIn_take (i := 14) (v := ?_) (plain_of (by kernel_rfl)) rfl (by kernel_rfl) (fun _ _ _ h => h) (yieldsSoIn_of (by kernel_rfl) ?_ (fun _ => rfl)) q0 ?_; rotate_left; focus (intro wq hw; have kq := KC.out wq hw; clear hw; go_simp; try (with_reducible rfl))
  refine wpHeldIn_take (i := 15) (v := ?_) (plain_of (by kernel_rfl)) rfl (by kernel_rfl) (fun _ _ _ h => h) (yieldsSoIn_of (by kernel_rfl) ?_ (fun _ => rfl)) q0 ?_; rotate_left; focus (intro wq hw; clear hw; go_simp; try (with_reducible rfl))
  refine wpHeldIn_take (i := 16) (v := ?_) (plain_of (by kernel_rfl)) rfl (by kernel_rfl) (fun _ _ _ h => h) (yieldsSoIn_of (by kernel_rfl) ?_ (fun _ => rfl)) q0 ?_; rotate_left; focus (intro wq hw; clear hw; go_simp; try (with_reducible rfl))
  refine wpHeldIn_take (i := 17) (v := ?_) (plain_of (by kernel_rfl)) rfl (by kernel_rfl) (fun _ _ _ h => h) (yieldsSoIn_of (by kernel_rfl) ?_ (fun _ => rfl)) q0 ?_; rotate_left; focus (intro wq hw; clear hw; go_simp; try (with_reducible rfl))
  refine wpHeldIn_take (i := 18) (v := ?_) (plain_of (by kernel_rfl)) rfl (by kernel_rfl) (fun _ _ _ h => h) (yieldsSoIn_of (by kernel_rfl) ?_ (fun _ => rfl)) q0 ?_; rotate_left; focus (intro wq hw; have kq := KC.out wq hw; clear hw; go_simp; try (with_reducible rfl))
  refine wpHeldIn_take (i := 19) (v := ?_) (plain_of (by kernel_rfl)) rfl (by kernel_rfl) (fun _ _ _ h => h) (yieldsSoIn_of (by kernel_rfl) ?_ (fun _ => rfl)) q0 ?_; rotate_left; focus (intro wq hw; clear hw; go_simp; try (with_reducible rfl))
  refine wpHeldIn_take (i := 20) (v := ?_) (plain_of (by kernel_rfl)) rfl (by kernel_rfl) (fun _ _ _ h => h) (yieldsSoIn_of (by kernel_rfl) ?_ (fun _ => rfl)) q0 ?_; rotate_left; focus (intro wq hw; clear hw; go_simp; try (with_reducible rfl))
  refine wpHeldIn_take (i := 21) (v := ?_) (plain_of (by kernel_rfl)) rfl (by kernel_rfl) (fun _ _ _ h => h) (yieldsSoIn_of (by kernel_rfl) ?_ (fun _ => rfl)) q0 ?_; rotate_left; focus (intro wq hw; clear hw; go_simp; try (with_reducible rfl))
  refine wpHeldIn_done (by kernel_rfl) ?_ _
  go_simp
  have bS2 := bS1.below q0
  have hB2 := hB1.trans (q0.mono hB1.size)
  clear KC q0 bS1 bQ1 hB1
  generalize World.drew w1 = w2 at *
  have s2 := bS2.cell 2 rfl
  have s3 := bS2.cell 3 rfl
  have lS := bS2.lt
  obtain ⟨X, hX⟩ : ∃ X, X = a1 - q1 := ⟨_, rfl⟩
  obtain ⟨Y, hY⟩ : ∃ Y, Y = a2 - q2 := ⟨_, rfl⟩
  rw [← hX] at m1 e1 ⊢
  rw [← hY] at m2 e2 ⊢
  have e3 : IntKind.i64.wrap (X * X) = X * X := IntWalk.i64_in _ (by omega)
  have e4 : IntKind.i64.wrap (Y * Y) = Y * Y := IntWalk.i64_in _ (by omega)
  have e5 : IntKind.i64.wrap (X * X + Y * Y) = X * X + Y * Y := IntWalk.i64_in _ (by omega)
  have HX := Lib.hid (And.intro hX hY)
  clear hX hY e1 e2 d1 d2 d4
  go_wp2_with fail
  refine (HW.out _ _).mono ?_
  rintro e wq ⟨rfl, hq⟩
  have hq := hq.symm
  subst hq
  go_wp2_with fail
  go_returns
  exact ⟨by rw [HR.out, ← HX.out.1, ← HX.out.2]; rfl, hB2⟩
set_option maxRecDepth 100000 in
set_option maxHeartbeats 8000000 in
theorem stepW_any (t : Wl.Trk) (A : Option Addr) (c : Nat) (Aw : Option Addr) (m cw : Nat) (a b : Int) (ha : -1000000 ≤ a ∧ a ≤ 1000000) (hb : -1000000 ≤ b ∧ b ≤ 1000000) (hl : t.ps.length ≤ 1000000000) (w : World) :
    Calls Try.prog 86 #[.agg (mcV t A c Aw m cw), .int .i64 a, .int .i64 b] w fun e w' => e = .returned (.int .i64 (Wl.stepV t a b)) ∧ Below w.heap.size w w' := by
  have HR0 : Hid (Wl.stepV t a b = if t.cl = 1 ∧ b - a = (t.ps.length : Int) - 1 then -1 else if t.cl = 1 ∧ b - a = -((t.ps.length : Int) - 1) then 1 else b - a) := rfl
  obtain ⟨ps, cl, lo, hi⟩ := t
  unfold mcV
  dsimp only at *
  generalize Wl.stepV ⟨ps, cl, lo, hi⟩ a b = R at *
  obtain ⟨D, hD⟩ : ∃ D, D = b - a := ⟨_, rfl⟩
  obtain ⟨L, hL⟩ : ∃ L, L = (ps.length : Int) - 1 := ⟨_, rfl⟩
  obtain ⟨M, hM⟩ : ∃ M, M = -L := ⟨_, rfl⟩
  have w1 : IntKind.i64.wrap (b - a) = D := by rw [hD]; exact IntWalk.i64_in _ (by omega)
  have w2 : IntKind.i64.wrap ((ps.length : Int) - 1) = L := by rw [hL]; exact IntWalk.i64_in _ (by omega)
  have w3 : IntKind.i64.wrap (-L) = M := by rw [hM]; exact IntWalk.i64_in _ (by omega)
  rw [← hD, ← hL, ← hM] at HR0
  have HD := Lib.hid hD
  have hmo : Try.prog.follows .mixedOrders = true := by kernel_rfl
  clear hD hL hM ha hb hl
  by_cases x1 : cl = 1
  · have b1 : (cl == 1) = true := by simpa using x1
    by_cases x2 : D = L
    · have b2 : (D == L) = true := by simpa using x2
      have HR : Hid (R = -1) := by unfold Hid; rw [HR0.out, if_pos ⟨x1, x2⟩]
      clear HR0 x1 x2
      go_enter Try.func86, Try.ntmps86
      go_wp2_with fail
      have bS1 := BoxS.new w 70 #[.slice A ps.length c, .int .i64 cl, .int .i64 lo, .int .i64 hi, .slice Aw m cw]
      have hB1 : Below w.heap.size w (w.alloc (.cells #[.slice A ps.length c, .int .i64 cl, .int .i64 lo, .int .i64 hi, .slice Aw m cw] 70)) := by (repeat' (first | (with_reducible exact Below.refl _ _) | (with_reducible assumption) | (with_reducible refine Below.alloc ?_ ?_ _) | (with_reducible refine Below.drew ?_) | (with_reducible refine Below.setCell ?_ ?_ _) | go_size | (exact (by simp)) | omega))
      generalize World.alloc w _ = w1 at *
      have q0 : Below w1.heap.size w1 w1.drew := (Below.refl _ _).drew
      have KC : Hid (∀ W', Below w1.heap.size w1 W' → W'.cell? ⟨w.heap.size, 0, none⟩ = some (.slice A ps.length c)) := fun W' h => (bS1.below h).cell 0 rfl
      refine (wpIn_wide (n := 4)).1 ?_
      refine wpIn_region_held (fun W' => Below w1.heap.size w1 W') 30 hmo ?_
      refine wpHeldIn_take (i := 0) (v := ?_) (plain_of (by kernel_rfl)) rfl (by kernel_rfl) (fun _ _ _ h => h) (yieldsSoIn_of (by kernel_rfl) ?_ (fun _ => rfl)) q0 ?_; rotate_left; focus (intro wq hw; clear hw; go_simp; try (with_reducible rfl))
      refine wpHeldIn_take (i := 1) (v := ?_) (plain_of (by kernel_rfl)) rfl (by kernel_rfl) (fun _ _ _ h => h) (yieldsSoIn_of (by kernel_rfl) ?_ (fun _ => rfl)) q0 ?_; rotate_left; focus (intro wq hw; clear hw; go_simp; try (with_reducible rfl))
      refine wpHeldIn_take (i := 2) (v := ?_) (plain_of (by kernel_rfl)) rfl (by kernel_rfl) (fun _ _ _ h => h) (yieldsSoIn_of (by kernel_rfl) ?_ (fun _ => rfl)) q0 ?_; rotate_left; focus (intro wq hw; clear hw; go_simp; try (with_reducible rfl))
      refine wpHeldIn_take (i := 3) (v := ?_) (plain_of (by kernel_rfl)) rfl (by kernel_rfl) (fun _ _ _ h => h) (yieldsSoIn_of (by kernel_rfl) ?_ (fun _ => rfl)) q0 ?_; rotate_left; focus (intro wq hw; clear hw; go_simp; try (with_reducible rfl))
      refine wpHeldIn_take (i := 4) (v := ?_) (plain_of (by kernel_rfl)) rfl (by kernel_rfl) (fun _ _ _ h => h) (yieldsSoIn_of (by kernel_rfl) ?_ (fun _ => rfl)) q0 ?_; rotate_left; focus (intro wq hw; clear hw; go_simp; try (with_reducible rfl))
      refine wpHeldIn_take (i := 5) (v := ?_) (plain_of (by kernel_rfl)) rfl (by kernel_rfl) (fun _ _ _ h => h) (yieldsSoIn_of (by kernel_rfl) ?_ (fun _ => rfl)) q0 ?_; rotate_left; focus (intro wq hw; have kq := KC.out wq hw; clear hw; go_simp; try (with_reducible rfl))
      refine wpHeldIn_take (i := 6) (v := ?_) (plain_of (by kernel_rfl)) rfl (by kernel_rfl) (fun _ _ _ h => h) (yieldsSoIn_of (by kernel_rfl) ?_ (fun _ => rfl)) q0 ?_; rotate_left; focus (intro wq hw; clear hw; go_simp; try (with_reducible rfl))
      refine wpHeldIn_take (i := 7) (v := ?_) (plain_of (by kernel_rfl)) rfl (by kernel_rfl) (fun _ _ _ h => h) (yieldsSoIn_of (by kernel_rfl) ?_ (fun _ => rfl)) q0 ?_; rotate_left; focus (intro wq hw; clear hw; go_simp; try (with_reducible rfl))
      refine wpHeldIn_take (i := 8) (v := ?_) (plain_of (by kernel_rfl)) rfl (by kernel_rfl) (fun _ _ _ h => h) (yieldsSoIn_of (by kernel_rfl) ?_ (fun _ => rfl)) q0 ?_; rotate_left; focus (intro wq hw; clear hw; go_simp; try (with_reducible rfl))
      refine wpHeldIn_take (i := 9) (v := ?_) (plain_of (by kernel_rfl)) rfl (by kernel_rfl) (fun _ _ _ h => h) (yieldsSoIn_of (by kernel_rfl) ?_ (fun _ => rfl)) q0 ?_; rotate_left; focus (intro wq hw; clear hw; go_simp; try (with_reducible rfl))
      refine wpHeldIn_done (by kernel_rfl) ?_ _
      go_simp
      have bS2 := bS1.below q0
      have hB2 := hB1.trans (q0.mono hB1.size)
      clear KC q0 bS1 hB1
      generalize World.drew w1 = w2 at *
      have s1 := bS2.cell 1 rfl
      have lS := bS2.lt
      go_wp2_with fail
      go_returns
      exact ⟨by rw [HR.out]; first | rfl | simp [HD.out], hB2⟩
    · have b2 : (D == L) = false := by simpa using x2
      by_cases x3 : D = M
      · have b3 : (D == M) = true := by simpa using x3
        have HR : Hid (R = 1) := by unfold Hid; rw [HR0.out, if_neg (fun h => x2 h.2), if_pos ⟨x1, x3⟩]
        clear HR0 x1 x2 x3
        go_enter Try.func86, Try.ntmps86
        go_wp2_with fail
        have bS1 := BoxS.new w 70 #[.slice A ps.length c, .int .i64 cl, .int .i64 lo, .int .i64 hi, .slice Aw m cw]
        have hB1 : Below w.heap.size w (w.alloc (.cells #[.slice A ps.length c, .int .i64 cl, .int .i64 lo, .int .i64 hi, .slice Aw m cw] 70)) := by (repeat' (first | (with_reducible exact Below.refl _ _) | (with_reducible assumption) | (with_reducible refine Below.alloc ?_ ?_ _) | (with_reducible refine Below.drew ?_) | (with_reducible refine Below.setCell ?_ ?_ _) | go_size | (exact (by simp)) | omega))
        generalize World.alloc w _ = w1 at *
        have q0 : Below w1.heap.size w1 w1.drew := (Below.refl _ _).drew
        have KC : Hid (∀ W', Below w1.heap.size w1 W' → W'.cell? ⟨w.heap.size, 0, none⟩ = some (.slice A ps.length c)) := fun W' h => (bS1.below h).cell 0 rfl
        refine (wpIn_wide (n := 4)).1 ?_
        refine wpIn_region_held (fun W' => Below w1.heap.size w1 W') 30 hmo ?_
        refine wpHeldIn_take (i := 0) (v := ?_) (plain_of (by kernel_rfl)) rfl (by kernel_rfl) (fun _ _ _ h => h) (yieldsSoIn_of (by kernel_rfl) ?_ (fun _ => rfl)) q0 ?_; rotate_left; focus (intro wq hw; clear hw; go_simp; try (with_reducible rfl))
        refine wpHeldIn_take (i := 1) (v := ?_) (plain_of (by kernel_rfl)) rfl (by kernel_rfl) (fun _ _ _ h => h) (yieldsSoIn_of (by kernel_rfl) ?_ (fun _ => rfl)) q0 ?_; rotate_left; focus (intro wq hw; clear hw; go_simp; try (with_reducible rfl))
        refine wpHeldIn_take (i := 2) (v := ?_) (plain_of (by kernel_rfl)) rfl (by kernel_rfl) (fun _ _ _ h => h) (yieldsSoIn_of (by kernel_rfl) ?_ (fun _ => rfl)) q0 ?_; rotate_left; focus (intro wq hw; clear hw; go_simp; try (with_reducible rfl))
        refine wpHeldIn_take (i := 3) (v := ?_) (plain_of (by kernel_rfl)) rfl (by kernel_rfl) (fun _ _ _ h => h) (yieldsSoIn_of (by kernel_rfl) ?_ (fun _ => rfl)) q0 ?_; rotate_left; focus (intro wq hw; clear hw; go_simp; try (with_reducible rfl))
        refine wpHeldIn_take (i := 4) (v := ?_) (plain_of (by kernel_rfl)) rfl (by kernel_rfl) (fun _ _ _ h => h) (yieldsSoIn_of (by kernel_rfl) ?_ (fun _ => rfl)) q0 ?_; rotate_left; focus (intro wq hw; clear hw; go_simp; try (with_reducible rfl))
        refine wpHeldIn_take (i := 5) (v := ?_) (plain_of (by kernel_rfl)) rfl (by kernel_rfl) (fun _ _ _ h => h) (yieldsSoIn_of (by kernel_rfl) ?_ (fun _ => rfl)) q0 ?_; rotate_left; focus (intro wq hw; have kq := KC.out wq hw; clear hw; go_simp; try (with_reducible rfl))
        refine wpHeldIn_take (i := 6) (v := ?_) (plain_of (by kernel_rfl)) rfl (by kernel_rfl) (fun _ _ _ h => h) (yieldsSoIn_of (by kernel_rfl) ?_ (fun _ => rfl)) q0 ?_; rotate_left; focus (intro wq hw; clear hw; go_simp; try (with_reducible rfl))
        refine wpHeldIn_take (i := 7) (v := ?_) (plain_of (by kernel_rfl)) rfl (by kernel_rfl) (fun _ _ _ h => h) (yieldsSoIn_of (by kernel_rfl) ?_ (fun _ => rfl)) q0 ?_; rotate_left; focus (intro wq hw; clear hw; go_simp; try (with_reducible rfl))
        refine wpHeldIn_take (i := 8) (v := ?_) (plain_of (by kernel_rfl)) rfl (by kernel_rfl) (fun _ _ _ h => h) (yieldsSoIn_of (by kernel_rfl) ?_ (fun _ => rfl)) q0 ?_; rotate_left; focus (intro wq hw; clear hw; go_simp; try (with_reducible rfl))
        refine wpHeldIn_take (i := 9) (v := ?_) (plain_of (by kernel_rfl)) rfl (by kernel_rfl) (fun _ _ _ h => h) (yieldsSoIn_of (by kernel_rfl) ?_ (fun _ => rfl)) q0 ?_; rotate_left; focus (intro wq hw; clear hw; go_simp; try (with_reducible rfl))
        refine wpHeldIn_done (by kernel_rfl) ?_ _
        go_simp
        have bS2 := bS1.below q0
        have hB2 := hB1.trans (q0.mono hB1.size)
        clear KC q0 bS1 hB1
        generalize World.drew w1 = w2 at *
        have s1 := bS2.cell 1 rfl
        have lS := bS2.lt
        go_wp2_with fail
        go_returns
        exact ⟨by rw [HR.out]; first | rfl | simp [HD.out], hB2⟩
      · have b3 : (D == M) = false := by simpa using x3
        have HR : Hid (R = D) := by unfold Hid; rw [HR0.out, if_neg (fun h => x2 h.2), if_neg (fun h => x3 h.2)]
        clear HR0 x1 x2 x3
        go_enter Try.func86, Try.ntmps86
        go_wp2_with fail
        have bS1 := BoxS.new w 70 #[.slice A ps.length c, .int .i64 cl, .int .i64 lo, .int .i64 hi, .slice Aw m cw]
        have hB1 : Below w.heap.size w (w.alloc (.cells #[.slice A ps.length c, .int .i64 cl, .int .i64 lo, .int .i64 hi, .slice Aw m cw] 70)) := by (repeat' (first | (with_reducible exact Below.refl _ _) | (with_reducible assumption) | (with_reducible refine Below.alloc ?_ ?_ _) | (with_reducible refine Below.drew ?_) | (with_reducible refine Below.setCell ?_ ?_ _) | go_size | (exact (by simp)) | omega))
        generalize World.alloc w _ = w1 at *
        have q0 : Below w1.heap.size w1 w1.drew := (Below.refl _ _).drew
        have KC : Hid (∀ W', Below w1.heap.size w1 W' → W'.cell? ⟨w.heap.size, 0, none⟩ = some (.slice A ps.length c)) := fun W' h => (bS1.below h).cell 0 rfl
        refine (wpIn_wide (n := 4)).1 ?_
        refine wpIn_region_held (fun W' => Below w1.heap.size w1 W') 30 hmo ?_
        refine wpHeldIn_take (i := 0) (v := ?_) (plain_of (by kernel_rfl)) rfl (by kernel_rfl) (fun _ _ _ h => h) (yieldsSoIn_of (by kernel_rfl) ?_ (fun _ => rfl)) q0 ?_; rotate_left; focus (intro wq hw; clear hw; go_simp; try (with_reducible rfl))
        refine wpHeldIn_take (i := 1) (v := ?_) (plain_of (by kernel_rfl)) rfl (by kernel_rfl) (fun _ _ _ h => h) (yieldsSoIn_of (by kernel_rfl) ?_ (fun _ => rfl)) q0 ?_; rotate_left; focus (intro wq hw; clear hw; go_simp; try (with_reducible rfl))
        refine wpHeldIn_take (i := 2) (v := ?_) (plain_of (by kernel_rfl)) rfl (by kernel_rfl) (fun _ _ _ h => h) (yieldsSoIn_of (by kernel_rfl) ?_ (fun _ => rfl)) q0 ?_; rotate_left; focus (intro wq hw; clear hw; go_simp; try (with_reducible rfl))
        refine wpHeldIn_take (i := 3) (v := ?_) (plain_of (by kernel_rfl)) rfl (by kernel_rfl) (fun _ _ _ h => h) (yieldsSoIn_of (by kernel_rfl) ?_ (fun _ => rfl)) q0 ?_; rotate_left; focus (intro wq hw; clear hw; go_simp; try (with_reducible rfl))
        refine wpHeldIn_take (i := 4) (v := ?_) (plain_of (by kernel_rfl)) rfl (by kernel_rfl) (fun _ _ _ h => h) (yieldsSoIn_of (by kernel_rfl) ?_ (fun _ => rfl)) q0 ?_; rotate_left; focus (intro wq hw; clear hw; go_simp; try (with_reducible rfl))
        refine wpHeldIn_take (i := 5) (v := ?_) (plain_of (by kernel_rfl)) rfl (by kernel_rfl) (fun _ _ _ h => h) (yieldsSoIn_of (by kernel_rfl) ?_ (fun _ => rfl)) q0 ?_; rotate_left; focus (intro wq hw; have kq := KC.out wq hw; clear hw; go_simp; try (with_reducible rfl))
        refine wpHeldIn_take (i := 6) (v := ?_) (plain_of (by kernel_rfl)) rfl (by kernel_rfl) (fun _ _ _ h => h) (yieldsSoIn_of (by kernel_rfl) ?_ (fun _ => rfl)) q0 ?_; rotate_left; focus (intro wq hw; clear hw; go_simp; try (with_reducible rfl))
        refine wpHeldIn_take (i := 7) (v := ?_) (plain_of (by kernel_rfl)) rfl (by kernel_rfl) (fun _ _ _ h => h) (yieldsSoIn_of (by kernel_rfl) ?_ (fun _ => rfl)) q0 ?_; rotate_left; focus (intro wq hw; clear hw; go_simp; try (with_reducible rfl))
        refine wpHeldIn_take (i := 8) (v := ?_) (plain_of (by kernel_rfl)) rfl (by kernel_rfl) (fun _ _ _ h => h) (yieldsSoIn_of (by kernel_rfl) ?_ (fun _ => rfl)) q0 ?_; rotate_left; focus (intro wq hw; clear hw; go_simp; try (with_reducible rfl))
        refine wpHeldIn_take (i := 9) (v := ?_) (plain_of (by kernel_rfl)) rfl (by kernel_rfl) (fun _ _ _ h => h) (yieldsSoIn_of (by kernel_rfl) ?_ (fun _ => rfl)) q0 ?_; rotate_left; focus (intro wq hw; clear hw; go_simp; try (with_reducible rfl))
        refine wpHeldIn_done (by kernel_rfl) ?_ _
        go_simp
        have bS2 := bS1.below q0
        have hB2 := hB1.trans (q0.mono hB1.size)
        clear KC q0 bS1 hB1
        generalize World.drew w1 = w2 at *
        have s1 := bS2.cell 1 rfl
        have lS := bS2.lt
        go_wp2_with fail
        go_returns
        exact ⟨by rw [HR.out]; first | rfl | simp [HD.out], hB2⟩
  · have b1 : (cl == 1) = false := by simpa using x1
    have HR : Hid (R = D) := by unfold Hid; rw [HR0.out, if_neg (fun h => x1 h.1), if_neg (fun h => x1 h.1)]
    clear HR0 x1
    go_enter Try.func86, Try.ntmps86
    go_wp2_with fail
    have bS1 := BoxS.new w 70 #[.slice A ps.length c, .int .i64 cl, .int .i64 lo, .int .i64 hi, .slice Aw m cw]
    have hB1 : Below w.heap.size w (w.alloc (.cells #[.slice A ps.length c, .int .i64 cl, .int .i64 lo, .int .i64 hi, .slice Aw m cw] 70)) := by (repeat' (first | (with_reducible exact Below.refl _ _) | (with_reducible assumption) | (with_reducible refine Below.alloc ?_ ?_ _) | (with_reducible refine Below.drew ?_) | (with_reducible refine Below.setCell ?_ ?_ _) | go_size | (exact (by simp)) | omega))
    generalize World.alloc w _ = w1 at *
    have q0 : Below w1.heap.size w1 w1.drew := (Below.refl _ _).drew
    have KC : Hid (∀ W', Below w1.heap.size w1 W' → W'.cell? ⟨w.heap.size, 0, none⟩ = some (.slice A ps.length c)) := fun W' h => (bS1.below h).cell 0 rfl
    refine (wpIn_wide (n := 4)).1 ?_
    refine wpIn_region_held (fun W' => Below w1.heap.size w1 W') 30 hmo ?_
    refine wpHeldIn_take (i := 0) (v := ?_) (plain_of (by kernel_rfl)) rfl (by kernel_rfl) (fun _ _ _ h => h) (yieldsSoIn_of (by kernel_rfl) ?_ (fun _ => rfl)) q0 ?_; rotate_left; focus (intro wq hw; clear hw; go_simp; try (with_reducible rfl))
    refine wpHeldIn_take (i := 1) (v := ?_) (plain_of (by kernel_rfl)) rfl (by kernel_rfl) (fun _ _ _ h => h) (yieldsSoIn_of (by kernel_rfl) ?_ (fun _ => rfl)) q0 ?_; rotate_left; focus (intro wq hw; clear hw; go_simp; try (with_reducible rfl))
    refine wpHeldIn_take (i := 2) (v := ?_) (plain_of (by kernel_rfl)) rfl (by kernel_rfl) (fun _ _ _ h => h) (yieldsSoIn_of (by kernel_rfl) ?_ (fun _ => rfl)) q0 ?_; rotate_left; focus (intro wq hw; clear hw; go_simp; try (with_reducible rfl))
    refine wpHeldIn_take (i := 3) (v := ?_) (plain_of (by kernel_rfl)) rfl (by kernel_rfl) (fun _ _ _ h => h) (yieldsSoIn_of (by kernel_rfl) ?_ (fun _ => rfl)) q0 ?_; rotate_left; focus (intro wq hw; clear hw; go_simp; try (with_reducible rfl))
    refine wpHeldIn_take (i := 4) (v := ?_) (plain_of (by kernel_rfl)) rfl (by kernel_rfl) (fun _ _ _ h => h) (yieldsSoIn_of (by kernel_rfl) ?_ (fun _ => rfl)) q0 ?_; rotate_left; focus (intro wq hw; clear hw; go_simp; try (with_reducible rfl))
    refine wpHeldIn_take (i := 5) (v := ?_) (plain_of (by kernel_rfl)) rfl (by kernel_rfl) (fun _ _ _ h => h) (yieldsSoIn_of (by kernel_rfl) ?_ (fun _ => rfl)) q0 ?_; rotate_left; focus (intro wq hw; have kq := KC.out wq hw; clear hw; go_simp; try (with_reducible rfl))
    refine wpHeldIn_take (i := 6) (v := ?_) (plain_of (by kernel_rfl)) rfl (by kernel_rfl) (fun _ _ _ h => h) (yieldsSoIn_of (by kernel_rfl) ?_ (fun _ => rfl)) q0 ?_; rotate_left; focus (intro wq hw; clear hw; go_simp; try (with_reducible rfl))
    refine wpHeldIn_take (i := 7) (v := ?_) (plain_of (by kernel_rfl)) rfl (by kernel_rfl) (fun _ _ _ h => h) (yieldsSoIn_of (by kernel_rfl) ?_ (fun _ => rfl)) q0 ?_; rotate_left; focus (intro wq hw; clear hw; go_simp; try (with_reducible rfl))
    refine wpHeldIn_take (i := 8) (v := ?_) (plain_of (by kernel_rfl)) rfl (by kernel_rfl) (fun _ _ _ h => h) (yieldsSoIn_of (by kernel_rfl) ?_ (fun _ => rfl)) q0 ?_; rotate_left; focus (intro wq hw; clear hw; go_simp; try (with_reducible rfl))
    refine wpHeldIn_take (i := 9) (v := ?_) (plain_of (by kernel_rfl)) rfl (by kernel_rfl) (fun _ _ _ h => h) (yieldsSoIn_of (by kernel_rfl) ?_ (fun _ => rfl)) q0 ?_; rotate_left; focus (intro wq hw; clear hw; go_simp; try (with_reducible rfl))
    refine wpHeldIn_done (by kernel_rfl) ?_ _
    go_simp
    have bS2 := bS1.below q0
    have hB2 := hB1.trans (q0.mono hB1.size)
    clear KC q0 bS1 hB1
    generalize World.drew w1 = w2 at *
    have s1 := bS2.cell 1 rfl
    have lS := bS2.lt
    go_wp2_with fail
    go_returns
    exact ⟨by rw [HR.out]; first | rfl | simp [HD.out], hB2⟩
set_option maxRecDepth 100000 in
set_option maxHeartbeats 8000000 in
theorem nearW_any (t : Wl.Trk) (A : Option Addr) (c : Nat) (Aw : Option Addr) (m cw : Nat) (a b : Int) (ha : -1000000 ≤ a ∧ a ≤ 1000000) (hb : -1000000 ≤ b ∧ b ≤ 1000000) (hl : t.ps.length ≤ 1000000000) (w : World) :
    Calls Try.prog 100 #[.agg (mcV t A c Aw m cw), .int .i64 a, .int .i64 b] w fun e w' => e = .returned (.bool (Wl.nearB t a b)) ∧ Below w.heap.size w w' := by
  have HS : Hid (∀ W, Calls Try.prog 86 #[.agg (mcV t A c Aw m cw), .int .i64 a, .int .i64 b] W fun e w' => e = .returned (.int .i64 (Wl.stepV t a b)) ∧ Below W.heap.size W w') := fun W => stepW_any t A c Aw m cw a b ha hb hl W
  have HN : Hid (Wl.nearB t a b = inB (Wl.stepV t a b) (-1) 1) := rfl
  have HW : Hid (∀ W S, Calls Try.prog 80 #[.int .i64 S, .int .i64 (-1), .int .i64 1] W fun e w' => e = .returned (.bool (inB S (-1) 1)) ∧ w' = W) := fun W S => withinW_any S (-1) 1 W
  generalize Wl.nearB t a b = R at *
  generalize Wl.stepV t a b = S at *
  obtain ⟨ps, cl, lo, hi⟩ := t
  unfold mcV at *
  dsimp only at *
  clear ha hb hl
  go_enter Try.func100, Try.ntmps100
  go_wp2_with fail
  have hB1 : Below w.heap.size w (w.alloc (.cells #[.slice A ps.length c, .int .i64 cl, .int .i64 lo, .int .i64 hi, .slice Aw m cw] 70)) := by (repeat' (first | (with_reducible exact Below.refl _ _) | (with_reducible assumption) | (with_reducible refine Below.alloc ?_ ?_ _) | (with_reducible refine Below.drew ?_) | (with_reducible refine Below.setCell ?_ ?_ _) | go_size | (exact (by simp)) | omega))
  generalize World.alloc w _ = w1 at *
  refine (HS.out _).mono ?_
  rintro e w2 ⟨rfl, hb2⟩
  have hB2 := hB1.trans (hb2.mono hB1.size)
  go_wp2_with fail
  refine (HW.out _ _).mono ?_
  rintro e wq ⟨rfl, hq⟩
  have hq := hq.symm
  subst hq
  go_wp2_with fail
  go_returns
  exact ⟨by rw [HN.out]; rfl, hB2⟩
end Go.Proofs.Ytmjcdggmofohcaa
