/- Walks: reaching a point, and a step, by the reference. -/
import Derived.Test.YtmjcdggmofohcaaWlA
namespace Go.Proofs.Ytmjcdggmofohcaa
open Go.RowKit
namespace Wl
theorem sq_neg (x y : Int) : (x - y) * (x - y) = (y - x) * (y - x) := by
  have e : x - y = -(y - x) := by omega
  rw [e, Int.neg_mul_neg]
theorem tmod_next {n a : Int} (h0 : 0 ≤ a) (h1 : a < n) : (a + 1).tmod n = if a + 1 = n then 0 else a + 1 := by
  rw [Int.tmod_eq_emod_of_nonneg (by omega)]
  split
  · rename_i h; rw [h, Int.emod_self]
  · exact Int.emod_eq_of_lt (by omega) (by omega)
theorem near_iff {t : Trk} {a b : Int} (hc : t.cl = 1 → 3 ≤ t.ps.length) (ha : 0 ≤ a ∧ a < t.ps.length) (hb : 0 ≤ b ∧ b < t.ps.length) :
    nearB t a b = true ↔ a = b ∨ b = a + 1 ∨ (t.cl = 1 ∧ b = (a + 1).tmod t.ps.length) ∨ a = b + 1 ∨ (t.cl = 1 ∧ a = (b + 1).tmod t.ps.length) := by
  rw [tmod_next ha.1 ha.2, tmod_next hb.1 hb.2]
  unfold nearB stepV
  simp only [Bool.and_eq_true, decide_eq_true_eq]
  by_cases h : t.cl = 1
  · have h3 := hc h
    simp only [h, true_and]
    split <;> split <;> split <;> first | omega | (split <;> omega)
  · simp only [h, false_and, if_false, false_or, or_false]
    omega
end Wl
set_option maxRecDepth 100000 in
set_option maxHeartbeats 8000000 in
theorem Reaches5_any (t : Wl.Trk) (A : Option Addr) (c : Nat) (p : Nat) (a : Wl.Pt) (hp : p < t.ps.length) (h1 : Geo.sm (Wl.ptAt t.ps p)) (h2 : Geo.sm a) (w : World) (hP : Prs w w.heap.size A t.ps) (hl : t.ps.length ≤ 1000000000) :
    Calls Try.prog 71 #[.agg (trV t A c), .int .i64 (p : Nat), .agg #[.int .i64 a.1, .int .i64 a.2]] w fun e w' => e = .returned (.bool (Wl.reachB t p a)) ∧ Below w.heap.size w w' := by
  have hPk : t.ps[p]? = some (Wl.ptAt t.ps p) := by unfold Wl.ptAt; rw [List.getElem?_eq_getElem hp]; rfl
  have HR : Hid (Wl.reachB t p a = inB (((Wl.ptAt t.ps p).1 - a.1) * ((Wl.ptAt t.ps p).1 - a.1) + ((Wl.ptAt t.ps p).2 - a.2) * ((Wl.ptAt t.ps p).2 - a.2)) t.lo t.hi) := by
    unfold Hid Wl.reachB Wl.sqV inB
    rw [Int.toNat_natCast, Wl.sq_neg a.1, Wl.sq_neg a.2]
  have HP := Lib.hid hP
  obtain ⟨ps, cl, lo, hi⟩ := t
  unfold trV
  dsimp only at *
  generalize Wl.reachB ⟨ps, cl, lo, hi⟩ p a = R at *
  generalize Wl.ptAt ps p = q at *
  obtain ⟨q1, q2⟩ := q
  obtain ⟨a1, a2⟩ := a
  unfold Geo.sm at h1 h2
  dsimp only at *
  obtain ⟨bp, op, rfl, hbp, hcp⟩ := HP.out (by omega)
  obtain ⟨g0, g1⟩ := hcp p _ hPk
  dsimp only at g0 g1
  have m1 := mul_bd (x := 2000) (y := 2000) (show -2000 ≤ q1 - a1 by omega) (by omega) (show -2000 ≤ q1 - a1 by omega) (by omega)
  have m2 := mul_bd (x := 2000) (y := 2000) (show -2000 ≤ q2 - a2 by omega) (by omega) (show -2000 ≤ q2 - a2 by omega) (by omega)
  have e1 : IntKind.i64.wrap (q1 - a1) = q1 - a1 := IntWalk.i64_in _ (by omega)
  have e2 : IntKind.i64.wrap (q2 - a2) = q2 - a2 := IntWalk.i64_in _ (by omega)
  have HW : Hid (∀ W S, Calls Try.prog 70 #[.int .i64 S, .int .i64 lo, .int .i64 hi] W fun e w' => e = .returned (.bool (inB S lo hi)) ∧ w' = W) := fun W S => within5_any S lo hi W
  have d1 : decide ((p : Int) < 0) = false := decide_eq_false (by omega)
  have d2 : decide ((ps.length : Int) ≤ (p : Int)) = false := decide_eq_false (by omega)
  have d4 : decide (ps.length ≤ p) = false := decide_eq_false (by omega)
  have hmo : Try.prog.follows .mixedOrders = true := by kernel_rfl
  clear hcp hPk HP hP
  go_enter Try.func71, Try.ntmps71
  go_wp2_with fail
  have bS1 := (BoxS.new w 26 #[.slice (some ⟨bp, op, none⟩) ps.length c, .int .i64 cl, .int .i64 lo, .int .i64 hi]).alloc (.cells #[.int .i64 a1, .int .i64 a2] 28)
  have bQ1 := BoxS.new (w.alloc (.cells #[.slice (some ⟨bp, op, none⟩) ps.length c, .int .i64 cl, .int .i64 lo, .int .i64 hi] 26)) 28 #[.int .i64 a1, .int .i64 a2]
  rw [World.size_alloc] at bQ1
  have hB1 : Below w.heap.size w ((w.alloc (.cells #[.slice (some ⟨bp, op, none⟩) ps.length c, .int .i64 cl, .int .i64 lo, .int .i64 hi] 26)).alloc (.cells #[.int .i64 a1, .int .i64 a2] 28)) := by (repeat' (first | (with_reducible exact Below.refl _ _) | (with_reducible assumption) | (with_reducible refine Below.alloc ?_ ?_ _) | (with_reducible refine Below.drew ?_) | (with_reducible refine Below.setCell ?_ ?_ _) | go_size | (exact (by simp)) | omega))
  generalize World.alloc (World.alloc w _) _ = w1 at *
  have q0 : Below w1.heap.size w1 w1.drew := (Below.refl _ _).drew
  have KC : Hid (∀ W', Below w1.heap.size w1 W' → (W'.cell? ⟨w.heap.size, 0, none⟩ = some (.slice (some ⟨bp, op, none⟩) ps.length c)) ∧ (W'.cell? ⟨w.heap.size + 1, 0, none⟩ = some (.int .i64 a1) ∧ W'.cell? ⟨w.heap.size + 1, 1, none⟩ = some (.int .i64 a2)) ∧ W'.cell? ⟨bp, op + p * 2, none⟩ = some (.int .i64 q1) ∧ W'.cell? ⟨bp, op + p * 2 + 1, none⟩ = some (.int .i64 q2)) := fun W' h => by
    have h2 := hB1.trans (h.mono hB1.size)
    exact ⟨(bS1.below h).cell 0 rfl, ⟨(bQ1.below h).cell 0 rfl, (bQ1.below h).cell 1 rfl⟩, (h2.cell (p := ⟨bp, _, none⟩) hbp).trans g0, (h2.cell (p := ⟨bp, _, none⟩) hbp).trans g1⟩
  clear g0 g1
  refine (wpIn_wide (n := 4)).1 ?_
  refine wpIn_region_held (fun W' => Below w1.heap.size w1 W') 30 hmo ?_
  refine wpHeldIn_take (i := 0) (v := ?_) (plain_of (by kernel_rfl)) rfl (by kernel_rfl) (fun _ _ _ h => h) (yieldsSoIn_of (by kernel_rfl) ?_ (fun _ => rfl)) q0 ?_; rotate_left; focus (intro wq hw; clear hw; go_simp; try (with_reducible rfl))
  refine wpHeldIn_take (i := 1) (v := ?_) (plain_of (by kernel_rfl)) rfl (by kernel_rfl) (fun _ _ _ h => h) (yieldsSoIn_of (by kernel_rfl) ?_ (fun _ => rfl)) q0 ?_; rotate_left; focus (intro wq hw; have kq := KC.out wq hw; clear hw; go_simp; try (with_reducible rfl))
  refine wpHeldIn_take (i := 2) (v := ?_) (plain_of (by kernel_rfl)) rfl (by kernel_rfl) (fun _ _ _ h => h) (yieldsSoIn_of (by kernel_rfl) ?_ (fun _ => rfl)) q0 ?_; rotate_left; focus (intro wq hw; clear hw; go_simp; try (with_reducible rfl))
  refine wpHeldIn_take (i := 3) (v := ?_) (plain_of (by kernel_rfl)) rfl (by kernel_rfl) (fun _ _ _ h => h) (yieldsSoIn_of (by kernel_rfl) ?_ (fun _ => rfl)) q0 ?_; rotate_left; focus (intro wq hw; clear hw; go_simp; try (with_reducible rfl))
  refine wpHeldIn_take (i := 4) (v := ?_) (plain_of (by kernel_rfl)) rfl (by kernel_rfl) (fun _ _ _ h => h) (yieldsSoIn_of (by kernel_rfl) ?_ (fun _ => rfl)) q0 ?_; rotate_left; focus (intro wq hw; clear hw; go_simp; try (with_reducible rfl))
  refine wpHeldIn_take (i := 5) (v := ?_) (plain_of (by kernel_rfl)) rfl (by kernel_rfl) (fun _ _ _ h => h) (yieldsSoIn_of (by kernel_rfl) ?_ (fun _ => rfl)) q0 ?_; rotate_left; focus (intro wq hw; have kq := KC.out wq hw; clear hw; go_simp; try (with_reducible rfl))
  refine wpHeldIn_take (i := 6) (v := ?_) (plain_of (by kernel_rfl)) rfl (by kernel_rfl) (fun _ _ _ h => h) (yieldsSoIn_of (by kernel_rfl) ?_ (fun _ => rfl)) q0 ?_; rotate_left; focus (intro wq hw; clear hw; go_simp; try (with_reducible rfl))
  refine wpHeldIn_take (i := 7) (v := ?_) (plain_of (by kernel_rfl)) rfl (by kernel_rfl) (fun _ _ _ h => h) (yieldsSoIn_of (by kernel_rfl) ?_ (fun _ => rfl)) q0 ?_; rotate_left; focus (intro wq hw; have kq := KC.out wq hw; clear hw; go_simp; try (with_reducible rfl))
  refine wpHeldIn_take (i := 8) (v := ?_) (plain_of (by kernel_rfl)) rfl (by kernel_rfl) (fun _ _ _ h => h) (yieldsSoIn_of (by kernel_rfl) ?_ (fun _ => rfl)) q0 ?_; rotate_left; focus (intro wq hw; clear hw; go_simp; try (with_reducible rfl))
  refine wpHeldIn_take (i := 9) (v := ?_) (plain_of (by kernel_rfl)) rfl (by kernel_rfl) (fun _ _ _ h => h) (yieldsSoIn_of (by kernel_rfl) ?_ (fun _ => rfl)) q0 ?_; rotate_left; focus (intro wq hw; clear hw; go_simp; try (with_reducible rfl))
  refine wpHeldIn_take (i := 10) (v := ?_) (plain_of (by kernel_rfl)) rfl (by kernel_rfl) (fun _ _ _ h => h) (yieldsSoIn_of (by kernel_rfl) ?_ (fun _ => rfl)) q0 ?_; rotate_left; focus (intro wq hw; have kq := KC.out wq hw; clear hw; go_simp; try (with_reducible rfl))
  refine wpHeldIn_take (i := 11) (v := ?_) (plain_of (by kernel_rfl)) rfl (by kernel_rfl) (fun _ _ _ h => h) (yieldsSoIn_of (by kernel_rfl) ?_ (fun _ => rfl)) q0 ?_; rotate_left; focus (intro wq hw; clear hw; go_simp; try (with_reducible rfl))
  refine wpHeldIn_take (i := 12) (v := ?_) (plain_of (by kernel_rfl)) rfl (by kernel_rfl) (fun _ _ _ h => h) (yieldsSoIn_of (by kernel_rfl) ?_ (fun _ => rfl)) q0 ?_; rotate_left; focus (intro wq hw; clear hw; go_simp; try (with_reducible rfl))
  refine wpHeldIn_take (i := 13) (v := ?_) (plain_of (by kernel_rfl)) rfl (by kernel_rfl) (fun _ _ _ h => h) (yieldsSoIn_of (by kernel_rfl) ?_ (fun _ => rfl)) q0 ?_; rotate_left; focus (intro wq hw; clear hw; go_simp; try (with_reducible rfl))
  refine wpHeldIn_take (i := 14) (v := ?_) (plain_of (by kernel_rfl)) rfl (by kernel_rfl) (fun _ _ _ h => h) (yieldsSoIn_of (by kernel_rfl) ?_ (fun _ => rfl)) q0 ?_; rotate_left; focus (intro wq hw; have kq := KC.out wq hw; clear hw; go_simp; try (with_reducible rfl))
  refine wpHeldIn_take (i := 15) (v := ?_) (plain_of (by kernel_rfl)) rfl (by kernel_rfl) (fun _ _ _ h => h) (yieldsSoIn_of (by kernel_rfl) ?_ (fun _ => rfl)) q0 ?_; rotate_left; focus (intro wq hw; clear hw; go_simp; try (with_reducible rfl))
  refine wpHeldIn_take (i := 16) (v := ?_) (plain_of (by kernel_rfl)) rfl (by kernel_rfl) (fun _ _ _ h => h) (yieldsSoIn_of (by kernel_rfl) ?_ (fun _ => rfl)) q0 ?_; rotate_left; focus (intro wq hw; have kq := KC.out wq hw; clear hw; go_simp; try (with_reducible rfl))
  refine wpHeldIn_take (i := 17) (v := ?_) (plain_of (by kernel_rfl)) rfl (by kernel_rfl) (fun _ _ _ h => h) (yieldsSoIn_of (by kernel_rfl) ?_ (fun _ => rfl)) q0 ?_; rotate_left; focus (intro wq hw; clear hw; go_simp; try (with_reducible rfl))
  refine wpHeldIn_take (i := 18) (v := ?_) (plain_of (by kernel_rfl)) rfl (by kernel_rfl) (fun _ _ _ h => h) (yieldsSoIn_of (by kernel_rfl) ?_ (fun _ => rfl)) q0 ?_; rotate_left; focus (intro wq hw; clear hw; go_simp; try (with_reducible rfl))
  refine wpHeldIn_take (i := 19) (v := ?_) (plain_of (by kernel_rfl)) rfl (by kernel_rfl) (fun _ _ _ h => h) (yieldsSoIn_of (by kernel_rfl) ?_ (fun _ => rfl)) q0 ?_; rotate_left; focus (intro wq hw; clear hw; go_simp; try (with_reducible rfl))
  refine wpHeldIn_done (by kernel_rfl) ?_ _
  go_simp
  have bS2 := bS1.below q0
  have hB2 := hB1.trans (q0.mono hB1.size)
  clear KC q0 bS1 bQ1 hB1
  generalize World.drew w1 = w2 at *
  have s2 := bS2.cell 2 rfl
  have s3 := bS2.cell 3 rfl
  have lS := bS2.lt
  obtain ⟨X, hX⟩ : ∃ X, X = q1 - a1 := ⟨_, rfl⟩
  obtain ⟨Y, hY⟩ : ∃ Y, Y = q2 - a2 := ⟨_, rfl⟩
  rw [← hX] at m1 e1 ⊢
  rw [← hY] at m2 e2 ⊢
  have e3 : IntKind.i64.wrap (X * X) = X * X := IntWalk.i64_in _ (by omega)
  have e4 : IntKind.i64.wrap (Y * Y) = Y * Y := IntWalk.i64_in _ (by omega)
  have e5 : IntKind.i64.wrap (X * X + Y * Y) = X * X + Y * Y := IntWalk.i64_in _ (by omega)
  have HX := Lib.hid (And.intro hX hY)
  clear hX hY e1 e2 d1 d2 d4
  go_wp2_with fail
  refine (HW.out _ _).mono ?_
  rintro e wq ⟨rfl, hq⟩
  have hq := hq.symm
  subst hq
  go_wp2_with fail
  go_returns
  exact ⟨by rw [HR.out, ← HX.out.1, ← HX.out.2]; rfl, hB2⟩
set_option maxRecDepth 100000 in
set_option maxHeartbeats 8000000 in
theorem step5_any (t : Wl.Trk) (A : Option Addr) (c : Nat) (a b : Int) (hc : t.cl = 1 → 3 ≤ t.ps.length) (ha : 0 ≤ a ∧ a < t.ps.length) (hb : 0 ≤ b ∧ b < t.ps.length) (hl : t.ps.length ≤ 1000000000) (w : World) :
    Calls Try.prog 72 #[.agg (trV t A c), .int .i64 a, .int .i64 b] w fun e w' => ∃ s : Int, e = .returned (.tuple #[.int .i64 s, .bool (Wl.nearB t a b)]) ∧ Below w.heap.size w w' := by
  have hn := Wl.near_iff hc ha hb
  obtain ⟨ps, cl, lo, hi⟩ := t
  unfold trV
  dsimp only at *
  generalize Wl.nearB ⟨ps, cl, lo, hi⟩ a b = N at *
  obtain ⟨n, hnn⟩ : ∃ n : Int, n = (ps.length : Int) := ⟨_, rfl⟩
  have w1 : IntKind.i64.wrap (a + 1) = a + 1 := IntWalk.i64_in _ (by omega)
  have w2 : IntKind.i64.wrap (b + 1) = b + 1 := IntWalk.i64_in _ (by omega)
  have hne : ((ps.length : Int) == 0) = false := by
    have : (ps.length : Int) ≠ 0 := by omega
    simpa using this
  have hne2 : ¬ (ps.length : Int) = 0 := by omega
  have hne3 : ¬ ps.length = 0 := by omega
  have hne4 : ¬ ps = [] := by intro e; subst e; simp at hne3
  obtain ⟨u, hu⟩ : ∃ u, u = (a + 1).tmod (ps.length : Int) := ⟨_, rfl⟩
  obtain ⟨v, hv⟩ : ∃ v, v = (b + 1).tmod (ps.length : Int) := ⟨_, rfl⟩
  have wu : IntKind.i64.wrap u = u := by
    rw [hu, Wl.tmod_next ha.1 ha.2]
    split
    · rfl
    · exact w1
  have wv : IntKind.i64.wrap v = v := by
    rw [hv, Wl.tmod_next hb.1 hb.2]
    split
    · rfl
    · exact w2
  rw [← hu, ← hv] at hn
  have hu' := hu.symm
  have hv' := hv.symm
  have HN := Lib.hid hn
  clear hn hnn hu hv hc hl
  by_cases x1 : a = b
  · have bx1 : (a == b) = true := by simpa using x1
    have HR : Hid (N = true) := HN.out.2 (.inl x1)
    clear HN x1
    go_enter Try.func72, Try.ntmps72
    go_wp2_with fail
    have bS1 := BoxS.new w 26 #[.slice A ps.length c, .int .i64 cl, .int .i64 lo, .int .i64 hi]
    have hB1 : Below w.heap.size w (w.alloc (.cells #[.slice A ps.length c, .int .i64 cl, .int .i64 lo, .int .i64 hi] 26)) := by (repeat' (first | (with_reducible exact Below.refl _ _) | (with_reducible assumption) | (with_reducible refine Below.alloc ?_ ?_ _) | (with_reducible refine Below.drew ?_) | (with_reducible refine Below.setCell ?_ ?_ _) | go_size | (exact (by simp)) | omega))
    generalize World.alloc w _ = w1 at *
    obtain ⟨s0, s1, s2, s3⟩ := boxS4 bS1
    have lS := bS1.lt
    go_wp2_with fail
    go_returns
    exact ⟨_, by rw [HR.out]; rfl, hB1⟩
  · have bx1 : (a == b) = false := by simpa using x1
    by_cases x2 : b = a + 1
    · have bx2 : (b == (a + 1)) = true := by simpa using x2
      have HR : Hid (N = true) := HN.out.2 (.inr (.inl x2))
      clear HN x1 x2
      go_enter Try.func72, Try.ntmps72
      go_wp2_with fail
      have bS1 := BoxS.new w 26 #[.slice A ps.length c, .int .i64 cl, .int .i64 lo, .int .i64 hi]
      have hB1 : Below w.heap.size w (w.alloc (.cells #[.slice A ps.length c, .int .i64 cl, .int .i64 lo, .int .i64 hi] 26)) := by (repeat' (first | (with_reducible exact Below.refl _ _) | (with_reducible assumption) | (with_reducible refine Below.alloc ?_ ?_ _) | (with_reducible refine Below.drew ?_) | (with_reducible refine Below.setCell ?_ ?_ _) | go_size | (exact (by simp)) | omega))
      generalize World.alloc w _ = w1 at *
      obtain ⟨s0, s1, s2, s3⟩ := boxS4 bS1
      have lS := bS1.lt
      go_wp2_with fail
      go_returns
      exact ⟨_, by rw [HR.out]; rfl, hB1⟩
    · have bx2 : (b == (a + 1)) = false := by simpa using x2
      by_cases x3 : cl = 1
      · have bx3 : (cl == 1) = true := by simpa using x3
        by_cases x4 : b = u
        · have bx4 : (b == u) = true := by simpa using x4
          have HR : Hid (N = true) := HN.out.2 (.inr (.inr (.inl ⟨x3, x4⟩)))
          clear HN x1 x2 x3 x4
          go_enter Try.func72, Try.ntmps72
          go_wp2_with fail
          have bS1 := BoxS.new w 26 #[.slice A ps.length c, .int .i64 cl, .int .i64 lo, .int .i64 hi]
          have hB1 : Below w.heap.size w (w.alloc (.cells #[.slice A ps.length c, .int .i64 cl, .int .i64 lo, .int .i64 hi] 26)) := by (repeat' (first | (with_reducible exact Below.refl _ _) | (with_reducible assumption) | (with_reducible refine Below.alloc ?_ ?_ _) | (with_reducible refine Below.drew ?_) | (with_reducible refine Below.setCell ?_ ?_ _) | go_size | (exact (by simp)) | omega))
          generalize World.alloc w _ = w1 at *
          obtain ⟨s0, s1, s2, s3⟩ := boxS4 bS1
          have lS := bS1.lt
          go_wp2_with fail
          go_returns
          exact ⟨_, by rw [HR.out]; rfl, hB1⟩
        · have bx4 : (b == u) = false := by simpa using x4
          by_cases x5 : a = b + 1
          · have bx5 : (a == (b + 1)) = true := by simpa using x5
            have HR : Hid (N = true) := HN.out.2 (.inr (.inr (.inr (.inl x5))))
            clear HN x1 x2 x3 x4 x5
            go_enter Try.func72, Try.ntmps72
            go_wp2_with fail
            have bS1 := BoxS.new w 26 #[.slice A ps.length c, .int .i64 cl, .int .i64 lo, .int .i64 hi]
            have hB1 : Below w.heap.size w (w.alloc (.cells #[.slice A ps.length c, .int .i64 cl, .int .i64 lo, .int .i64 hi] 26)) := by (repeat' (first | (with_reducible exact Below.refl _ _) | (with_reducible assumption) | (with_reducible refine Below.alloc ?_ ?_ _) | (with_reducible refine Below.drew ?_) | (with_reducible refine Below.setCell ?_ ?_ _) | go_size | (exact (by simp)) | omega))
            generalize World.alloc w _ = w1 at *
            obtain ⟨s0, s1, s2, s3⟩ := boxS4 bS1
            have lS := bS1.lt
            go_wp2_with fail
            go_returns
            exact ⟨_, by rw [HR.out]; rfl, hB1⟩
          · have bx5 : (a == (b + 1)) = false := by simpa using x5
            by_cases x6 : a = v
            · have bx6 : (a == v) = true := by simpa using x6
              have HR : Hid (N = true) := HN.out.2 (.inr (.inr (.inr (.inr ⟨x3, x6⟩))))
              clear HN x1 x2 x3 x4 x5 x6
              go_enter Try.func72, Try.ntmps72
              go_wp2_with fail
              have bS1 := BoxS.new w 26 #[.slice A ps.length c, .int .i64 cl, .int .i64 lo, .int .i64 hi]
              have hB1 : Below w.heap.size w (w.alloc (.cells #[.slice A ps.length c, .int .i64 cl, .int .i64 lo, .int .i64 hi] 26)) := by (repeat' (first | (with_reducible exact Below.refl _ _) | (with_reducible assumption) | (with_reducible refine Below.alloc ?_ ?_ _) | (with_reducible refine Below.drew ?_) | (with_reducible refine Below.setCell ?_ ?_ _) | go_size | (exact (by simp)) | omega))
              generalize World.alloc w _ = w1 at *
              obtain ⟨s0, s1, s2, s3⟩ := boxS4 bS1
              have lS := bS1.lt
              go_wp2_with fail
              go_returns
              exact ⟨_, by rw [HR.out]; rfl, hB1⟩
            · have bx6 : (a == v) = false := by simpa using x6
              have HR : Hid (N = false) := by
                unfold Hid
                refine Bool.eq_false_iff.2 (fun h => ?_)
                have := HN.out.1 h
                omega
              clear HN x1 x2 x3 x4 x5 x6
              go_enter Try.func72, Try.ntmps72
              go_wp2_with fail
              have bS1 := BoxS.new w 26 #[.slice A ps.length c, .int .i64 cl, .int .i64 lo, .int .i64 hi]
              have hB1 : Below w.heap.size w (w.alloc (.cells #[.slice A ps.length c, .int .i64 cl, .int .i64 lo, .int .i64 hi] 26)) := by (repeat' (first | (with_reducible exact Below.refl _ _) | (with_reducible assumption) | (with_reducible refine Below.alloc ?_ ?_ _) | (with_reducible refine Below.drew ?_) | (with_reducible refine Below.setCell ?_ ?_ _) | go_size | (exact (by simp)) | omega))
              generalize World.alloc w _ = w1 at *
              obtain ⟨s0, s1, s2, s3⟩ := boxS4 bS1
              have lS := bS1.lt
              go_wp2_with fail
              go_returns
              exact ⟨_, by rw [HR.out]; rfl, hB1⟩
      · have bx3 : (cl == 1) = false := by simpa using x3
        by_cases x5 : a = b + 1
        · have bx5 : (a == (b + 1)) = true := by simpa using x5
          have HR : Hid (N = true) := HN.out.2 (.inr (.inr (.inr (.inl x5))))
          clear HN x1 x2 x3 x5
          go_enter Try.func72, Try.ntmps72
          go_wp2_with fail
          have bS1 := BoxS.new w 26 #[.slice A ps.length c, .int .i64 cl, .int .i64 lo, .int .i64 hi]
          have hB1 : Below w.heap.size w (w.alloc (.cells #[.slice A ps.length c, .int .i64 cl, .int .i64 lo, .int .i64 hi] 26)) := by (repeat' (first | (with_reducible exact Below.refl _ _) | (with_reducible assumption) | (with_reducible refine Below.alloc ?_ ?_ _) | (with_reducible refine Below.drew ?_) | (with_reducible refine Below.setCell ?_ ?_ _) | go_size | (exact (by simp)) | omega))
          generalize World.alloc w _ = w1 at *
          obtain ⟨s0, s1, s2, s3⟩ := boxS4 bS1
          have lS := bS1.lt
          go_wp2_with fail
          go_returns
          exact ⟨_, by rw [HR.out]; rfl, hB1⟩
        · have bx5 : (a == (b + 1)) = false := by simpa using x5
          have HR : Hid (N = false) := by
            unfold Hid
            refine Bool.eq_false_iff.2 (fun h => ?_)
            have := HN.out.1 h
            omega
          clear HN x1 x2 x3 x5
          go_enter Try.func72, Try.ntmps72
          go_wp2_with fail
          have bS1 := BoxS.new w 26 #[.slice A ps.length c, .int .i64 cl, .int .i64 lo, .int .i64 hi]
          have hB1 : Below w.heap.size w (w.alloc (.cells #[.slice A ps.length c, .int .i64 cl, .int .i64 lo, .int .i64 hi] 26)) := by (repeat' (first | (with_reducible exact Below.refl _ _) | (with_reducible assumption) | (with_reducible refine Below.alloc ?_ ?_ _) | (with_reducible refine Below.drew ?_) | (with_reducible refine Below.setCell ?_ ?_ _) | go_size | (exact (by simp)) | omega))
          generalize World.alloc w _ = w1 at *
          obtain ⟨s0, s1, s2, s3⟩ := boxS4 bS1
          have lS := bS1.lt
          go_wp2_with fail
          go_returns
          exact ⟨_, by rw [HR.out]; rfl, hB1⟩
end Go.Proofs.Ytmjcdggmofohcaa
