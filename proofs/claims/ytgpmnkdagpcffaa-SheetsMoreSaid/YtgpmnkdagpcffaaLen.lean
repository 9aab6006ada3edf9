/- Sheets: the square of a length, and its error. -/
import Derived.Test.YtgpmnkdagpcffaaShL
namespace Go.Proofs.Ytgpmnkdagpcffaa
open Go.RowKit
namespace Sh
def sqN (x y : Int) (f : FaS) : Int := (x * x * (f.1.2 * f.1.2) + y * y * (f.1.1 * f.1.1)) * 1000 * 1000
def sqD (f : FaS) : Int := f.1.1 * f.1.1 * (f.1.2 * f.1.2)
def sqOk (x y : Int) : Prop := (-400 ≤ x ∧ x ≤ 400) ∧ (-400 ≤ y ∧ y ≤ 400)
theorem sq_bd {x M : Int} (h : -M ≤ x ∧ x ≤ M) : 0 ≤ x * x ∧ x * x ≤ M * M := by
  have h1 := mul_bd (a := x) (b := x) (x := M) (y := M) h.1 h.2 h.1 h.2
  have h2 : 0 ≤ x * x := by
    rcases Int.lt_or_le x 0 with h | h
    · exact Int.le_of_lt (Int.mul_pos_of_neg_of_neg h h)
    · exact Int.mul_nonneg h h
  omega
theorem fac_bd (f : FaS) : (1 ≤ f.1.1 * f.1.1 ∧ f.1.1 * f.1.1 ≤ 4000000) ∧ (1 ≤ f.1.2 * f.1.2 ∧ f.1.2 * f.1.2 ≤ 4000000) := by
  obtain ⟨⟨a, b⟩, ⟨h1, h2⟩, h3, h4⟩ := f
  show (1 ≤ a * a ∧ a * a ≤ 4000000) ∧ (1 ≤ b * b ∧ b * b ≤ 4000000)
  dsimp only at h1 h2 h3 h4
  have m1 := Int.mul_le_mul h1 h1 (by omega) (by omega)
  have m2 := Int.mul_le_mul h2 h2 (by omega) (by omega)
  have m3 := Int.mul_le_mul h3 h3 (by omega) (by omega)
  have m4 := Int.mul_le_mul h4 h4 (by omega) (by omega)
  omega
theorem term_bd {x q M : Int} (hx : 0 ≤ x ∧ x ≤ M) (hq : 1 ≤ q ∧ q ≤ 4000000) : 0 ≤ x * q ∧ x * q ≤ M * 4000000 := by
  have h1 := Int.mul_nonneg hx.1 (show (0 : Int) ≤ q by omega)
  have h2 := Int.mul_le_mul hx.2 hq.2 (by omega) (by omega)
  exact ⟨h1, h2⟩
theorem sqD_bd (f : FaS) : 1 ≤ sqD f ∧ sqD f ≤ 16000000000000 := by
  have h := fac_bd f
  unfold sqD
  generalize f.1.1 * f.1.1 = a at *
  generalize f.1.2 * f.1.2 = b at *
  have m1 := Int.mul_le_mul h.1.1 h.2.1 (by omega) (by omega)
  have m2 := Int.mul_le_mul h.1.2 h.2.2 (by omega) (by omega)
  omega
theorem sqN_bd {x y : Int} (h : sqOk x y) (f : FaS) : 0 ≤ sqN x y f ∧ sqN x y f ≤ 1280000000000000000 := by
  have hx := sq_bd h.1
  have hy := sq_bd h.2
  have hf := fac_bd f
  unfold sqN
  have m1 := term_bd hx hf.2
  have m2 := term_bd hy hf.1
  omega
def lenLo (s : Sheet) (x y : Int) : Int := lowF (sqN x y) sqD (truthsL s)
def lenHi (s : Sheet) (x y : Int) : Int := highF (sqN x y) sqD (truthsL s)
/-- The error of a length. -/
def lenE (s : Sheet) (a b : Geo.Pt) : Int := if okB s then (if Geo.ptB a && Geo.ptB b then spE s else 1) else 40
/-- The error of an area. -/
def areaE (s : Sheet) (ps : List Geo.Pt) : Int := if okB s then (if Geo.validB ps then spE s else Geo.errV ps) else 40
theorem pt_sq {a b : Geo.Pt} (ha : Geo.ptB a = true) (hb : Geo.ptB b = true) : sqOk (b.1 - a.1) (b.2 - a.2) := by
  unfold Geo.ptB at ha hb
  rw [Bool.and_eq_true, inB_true, inB_true] at ha hb
  unfold sqOk
  omega
end Sh
set_option maxRecDepth 100000 in
set_option maxHeartbeats 2000000 in
theorem square_any (f : Sh.FaS) (x y : Int) (w : World) (h : Sh.sqOk x y) :
    Calls Try.prog 72 #[.agg #[.int .i64 f.1.1, .int .i64 f.1.2], .int .i64 x, .int .i64 y] w fun e w' => e = .returned (.tuple #[.int .i64 (Sh.sqN x y f), .int .i64 (Sh.sqD f)]) ∧ Below w.heap.size w w' := by
  have hN := Sh.sqN_bd h f
  have hD := Sh.sqD_bd f
  have hf := Sh.fac_bd f
  have hx := Sh.sq_bd h.1
  have hy := Sh.sq_bd h.2
  have m1 := Sh.term_bd hx hf.2
  have m2 := Sh.term_bd hy hf.1
  have HN : Hid (Sh.sqN x y f = (x * x * (f.1.2 * f.1.2) + y * y * (f.1.1 * f.1.1)) * 1000 * 1000) := rfl
  have HD : Hid (Sh.sqD f = f.1.1 * f.1.1 * (f.1.2 * f.1.2)) := rfl
  generalize Sh.sqN x y f = N at *
  generalize Sh.sqD f = D at *
  obtain ⟨⟨f1, f2⟩, hf0⟩ := f
  dsimp only at *
  obtain ⟨P, hP⟩ : ∃ P, P = f1 * f1 := ⟨_, rfl⟩
  obtain ⟨Q, hQ⟩ : ∃ Q, Q = f2 * f2 := ⟨_, rfl⟩
  obtain ⟨X, hX⟩ : ∃ X, X = x * x := ⟨_, rfl⟩
  obtain ⟨Y, hY⟩ : ∃ Y, Y = y * y := ⟨_, rfl⟩
  rw [← hP, ← hQ] at hf
  rw [← hX] at hx m1
  rw [← hY] at hy m2
  rw [← hQ] at m1
  rw [← hP] at m2
  have HN2 : Hid (N = (X * Q + Y * P) * 1000 * 1000) := by rw [hX, hY, hP, hQ]; exact HN.out
  have HD2 : Hid (D = P * Q) := by rw [hP, hQ]; exact HD.out
  clear HN HD
  obtain ⟨U, hU⟩ : ∃ U, U = X * Q := ⟨_, rfl⟩
  obtain ⟨V, hV⟩ : ∃ V, V = Y * P := ⟨_, rfl⟩
  rw [← hU] at m1
  rw [← hV] at m2
  have HN3 : Hid (N = (U + V) * 1000 * 1000) := by rw [hU, hV]; exact HN2.out
  have hw1 : IntKind.i64.wrap (f1 * f1) = P := by rw [← hP]; exact IntWalk.i64_in _ (by omega)
  have hw2 : IntKind.i64.wrap (f2 * f2) = Q := by rw [← hQ]; exact IntWalk.i64_in _ (by omega)
  have hw3 : IntKind.i64.wrap (x * x) = X := by rw [← hX]; exact IntWalk.i64_in _ (by omega)
  have hw4 : IntKind.i64.wrap (y * y) = Y := by rw [← hY]; exact IntWalk.i64_in _ (by omega)
  have hw5 : IntKind.i64.wrap (X * Q) = U := by rw [← hU]; exact IntWalk.i64_in _ (by omega)
  have hw6 : IntKind.i64.wrap (Y * P) = V := by rw [← hV]; exact IntWalk.i64_in _ (by omega)
  have hw7 : IntKind.i64.wrap (U + V) = U + V := IntWalk.i64_in _ (by omega)
  have hw8 : IntKind.i64.wrap ((U + V) * 1000) = (U + V) * 1000 := IntWalk.i64_in _ (by omega)
  have hw9 : IntKind.i64.wrap ((U + V) * 1000 * 1000) = N := by rw [HN3.out]; exact IntWalk.i64_in _ (by omega)
  have hw10 : IntKind.i64.wrap (P * Q) = D := by rw [← HD2.out]; exact IntWalk.i64_in _ (by omega)
  clear HN2 HN3 HD2 hU hV hX hY hP hQ hN hD hf hx hy m1 m2 h hf0
  go_enter Try.func72, Try.ntmps72
  go_wp2_with fail
  have hB0 : Below w.heap.size w (w.alloc (.cells #[.int .i64 f1, .int .i64 f2] 90)) := by (repeat' (first | (with_reducible exact Below.refl _ _) | (with_reducible assumption) | (with_reducible refine Below.alloc ?_ ?_ _) | (with_reducible refine Below.drew ?_) | (with_reducible refine Below.setCell ?_ ?_ _) | go_size | (exact (by simp)) | omega))
  have bF := BoxS.new w 90 #[.int .i64 f1, .int .i64 f2]
  generalize World.alloc w _ = w1 at *
  refine (wpIn_wide (n := 4)).1 ?_
  have hmo : Try.prog.follows .mixedOrders = true := by kernel_rfl
  have q0 : Below w1.heap.size w1 w1.drew := (Below.refl _ _).drew
  have KC : Hid (∀ W', Below w1.heap.size w1 W' → W'.cell? ⟨w.heap.size, 0, none⟩ = some (.int .i64 f1) ∧ W'.cell? ⟨w.heap.size, 1, none⟩ = some (.int .i64 f2)) :=
    fun W' h => ⟨(bF.below h).cell 0 rfl, (bF.below h).cell 1 rfl⟩
  refine wpIn_region_held (fun W' => Below w1.heap.size w1 W') 30 hmo ?_
  refine wpHeldIn_take (i := 0) (v := ?_) (plain_of (by kernel_rfl)) rfl (by kernel_rfl) (fun _ _ _ h => h) (yieldsSoIn_of (by kernel_rfl) ?_ (fun _ => rfl)) q0 ?_; rotate_left; focus (intro wq hw; clear hw; go_simp; try (with_reducible rfl))
  refine wpHeldIn_take (i := 1) (v := ?_) (plain_of (by kernel_rfl)) rfl (by kernel_rfl) (fun _ _ _ h => h) (yieldsSoIn_of (by kernel_rfl) ?_ (fun _ => rfl)) q0 ?_; rotate_left; focus (intro wq hw; have kq := KC.out wq hw; clear hw; go_simp; try (with_reducible rfl))
  refine wpHeldIn_take (i := 2) (v := ?_) (plain_of (by kernel_rfl)) rfl (by kernel_rfl) (fun _ _ _ h => h) (yieldsSoIn_of (by kernel_rfl) ?_ (fun _ => rfl)) q0 ?_; rotate_left; focus (intro wq hw; clear hw; go_simp; try (with_reducible rfl))
  refine wpHeldIn_take (i := 3) (v := ?_) (plain_of (by kernel_rfl)) rfl (by kernel_rfl) (fun _ _ _ h => h) (yieldsSoIn_of (by kernel_rfl) ?_ (fun _ => rfl)) q0 ?_; rotate_left; focus (intro wq hw; have kq := KC.out wq hw; clear hw; go_simp; try (with_reducible rfl))
  refine wpHeldIn_take (i := 4) (v := ?_) (plain_of (by kernel_rfl)) rfl (by kernel_rfl) (fun _ _ _ h => h) (yieldsSoIn_of (by kernel_rfl) ?_ (fun _ => rfl)) q0 ?_; rotate_left; focus (intro wq hw; clear hw; go_simp; try (with_reducible rfl))
  refine wpHeldIn_take (i := 5) (v := ?_) (plain_of (by kernel_rfl)) rfl (by kernel_rfl) (fun _ _ _ h => h) (yieldsSoIn_of (by kernel_rfl) ?_ (fun _ => rfl)) q0 ?_; rotate_left; focus (intro wq hw; clear hw; go_simp; try (with_reducible rfl))
  refine wpHeldIn_take (i := 6) (v := ?_) (plain_of (by kernel_rfl)) rfl (by kernel_rfl) (fun _ _ _ h => h) (yieldsSoIn_of (by kernel_rfl) ?_ (fun _ => rfl)) q0 ?_; rotate_left; focus (intro wq hw; have kq := KC.out wq hw; clear hw; go_simp; try (with_reducible rfl))
  refine wpHeldIn_take (i := 7) (v := ?_) (plain_of (by kernel_rfl)) rfl (by kernel_rfl) (fun _ _ _ h => h) (yieldsSoIn_of (by kernel_rfl) ?_ (fun _ => rfl)) q0 ?_; rotate_left; focus (intro wq hw; clear hw; go_simp; try (with_reducible rfl))
  refine wpHeldIn_take (i := 8) (v := ?_) (plain_of (by kernel_rfl)) rfl (by kernel_rfl) (fun _ _ _ h => h) (yieldsSoIn_of (by kernel_rfl) ?_ (fun _ => rfl)) q0 ?_; rotate_left; focus (intro wq hw; have kq := KC.out wq hw; clear hw; go_simp; try (with_reducible rfl))
  refine wpHeldIn_take (i := 9) (v := ?_) (plain_of (by kernel_rfl)) rfl (by kernel_rfl) (fun _ _ _ h => h) (yieldsSoIn_of (by kernel_rfl) ?_ (fun _ => rfl)) q0 ?_; rotate_left; focus (intro wq hw; clear hw; go_simp; try (with_reducible rfl))
  refine wpHeldIn_take (i := 10) (v := ?_) (plain_of (by kernel_rfl)) rfl (by kernel_rfl) (fun _ _ _ h => h) (yieldsSoIn_of (by kernel_rfl) ?_ (fun _ => rfl)) q0 ?_; rotate_left; focus (intro wq hw; clear hw; go_simp; try (with_reducible rfl))
  refine wpHeldIn_take (i := 11) (v := ?_) (plain_of (by kernel_rfl)) rfl (by kernel_rfl) (fun _ _ _ h => h) (yieldsSoIn_of (by kernel_rfl) ?_ (fun _ => rfl)) q0 ?_; rotate_left; focus (intro wq hw; clear hw; go_simp; try (with_reducible rfl))
  refine wpHeldIn_done (by kernel_rfl) ?_ _
  go_simp
  have hBB := hB0.drew
  clear KC q0
  go_wp2_with fail
  go_returns
  exact ⟨rfl, hBB⟩

set_option maxHeartbeats 1000000 in
theorem length1_any (f : Sh.FaS) (a b : Geo.Pt) (B1 B2 : Nat) (w : World) (h : Sh.sqOk (b.1 - a.1) (b.2 - a.2)) (hb : BoxS w B1 43 #[.int .i64 b.1, .int .i64 b.2]) (ha : BoxS w B2 43 #[.int .i64 a.1, .int .i64 a.2]) :
    Calls Try.prog 71 #[.agg #[.int .i64 f.1.1, .int .i64 f.1.2], .pointer (some ⟨B1, 0, none⟩), .pointer (some ⟨B2, 0, none⟩)] w fun e w' => e = .returned (.tuple #[.int .i64 (Sh.sqN (b.1 - a.1) (b.2 - a.2) f), .int .i64 (Sh.sqD f)]) ∧ Below w.heap.size w w' := by
  have HA : Hid (∀ W, Calls Try.prog 72 #[.agg #[.int .i64 f.1.1, .int .i64 f.1.2], .int .i64 (b.1 - a.1), .int .i64 (b.2 - a.2)] W fun e w' => e = .returned (.tuple #[.int .i64 (Sh.sqN (b.1 - a.1) (b.2 - a.2) f), .int .i64 (Sh.sqD f)]) ∧ Below W.heap.size W w') := fun W => square_any f _ _ W h
  have l1 := hb.lt
  have l2 := ha.lt
  have b0 := hb.cell 0 rfl
  have b1 := hb.cell 1 rfl
  have a0 := ha.cell 0 rfl
  have a1 := ha.cell 1 rfl
  have hw1 : IntKind.i64.wrap (b.1 - a.1) = b.1 - a.1 := IntWalk.i64_in _ (by have := h.1; omega)
  have hw2 : IntKind.i64.wrap (b.2 - a.2) = b.2 - a.2 := IntWalk.i64_in _ (by have := h.2; omega)
  generalize Sh.sqN (b.1 - a.1) (b.2 - a.2) f = N at *
  generalize Sh.sqD f = D at *
  obtain ⟨⟨f1, f2⟩, hf⟩ := f
  obtain ⟨p1, p2⟩ := a
  obtain ⟨p3, p4⟩ := b
  dsimp only at *
  clear h hf hb ha
  go_enter Try.func71, Try.ntmps71
  go_wp2_with fail
  have hB0 : Below w.heap.size w (w.alloc (.cells #[.int .i64 f1, .int .i64 f2] 90)) := by (repeat' (first | (with_reducible exact Below.refl _ _) | (with_reducible assumption) | (with_reducible refine Below.alloc ?_ ?_ _) | (with_reducible refine Below.drew ?_) | (with_reducible refine Below.setCell ?_ ?_ _) | go_size | (exact (by simp)) | omega))
  refine (HA.out _).mono ?_
  rintro e w2 ⟨rfl, hb2⟩
  have hB2 := hB0.trans (hb2.mono hB0.size)
  go_wp2_with fail
  go_returns
  exact ⟨rfl, hB2⟩

set_option maxHeartbeats 400000 in
theorem inReach4_any (p : Geo.Pt) (w : World) :
    Calls Try.prog 70 #[.agg #[.int .i64 p.1, .int .i64 p.2]] w fun e w' => e = .returned (.bool (Geo.ptB p)) ∧ Below w.heap.size w w' := by
  obtain ⟨x, y⟩ := p
  have H1 : Hid (∀ W, Calls Try.prog 82 #[.int .i64 x, .int .i64 (-200), .int .i64 200] W fun e w' => e = .returned (.bool (inB x (-200) 200)) ∧ w' = W) := fun W => within_any x (-200) 200 W
  have H2 : Hid (∀ W, Calls Try.prog 82 #[.int .i64 y, .int .i64 (-200), .int .i64 200] W fun e w' => e = .returned (.bool (inB y (-200) 200)) ∧ w' = W) := fun W => within_any y (-200) 200 W
  have HR : Hid (Geo.ptB (x, y) = (inB x (-200) 200 && inB y (-200) 200)) := rfl
  generalize Geo.ptB (x, y) = R at *
  generalize inB x (-200) 200 = b1 at *
  generalize inB y (-200) 200 = b2 at *
  cases b1 with
  | false =>
    go_enter Try.func70, Try.ntmps70
    go_wp2_with fail
    refine (H1.out _).mono ?_
    rintro e w2 ⟨rfl, rfl⟩
    go_wp2_with fail
    go_returns
    exact ⟨ret_b (by rw [HR.out]; rfl), by (repeat' (first | (with_reducible exact Below.refl _ _) | (with_reducible assumption) | (with_reducible refine Below.alloc ?_ ?_ _) | (with_reducible refine Below.drew ?_) | (with_reducible refine Below.setCell ?_ ?_ _) | go_size | (exact (by simp)) | omega))⟩
  | true =>
    go_enter Try.func70, Try.ntmps70
    go_wp2_with fail
    refine (H1.out _).mono ?_
    rintro e w2 ⟨rfl, rfl⟩
    go_wp2_with fail
    refine (H2.out _).mono ?_
    rintro e w3 ⟨rfl, rfl⟩
    go_wp2_with fail
    go_returns
    exact ⟨ret_b (by rw [HR.out]; rfl), by (repeat' (first | (with_reducible exact Below.refl _ _) | (with_reducible assumption) | (with_reducible refine Below.alloc ?_ ?_ _) | (with_reducible refine Below.drew ?_) | (with_reducible refine Below.setCell ?_ ?_ _) | go_size | (exact (by simp)) | omega))⟩
namespace Sh
theorem lenE_bad {s : Sheet} {a b : Geo.Pt} (h : okB s = false) : lenE s a b = 40 := by unfold lenE; rw [h]; rfl
theorem lenE_ok {s : Sheet} {a b : Geo.Pt} (h : okB s = true) : lenE s a b = if Geo.ptB a && Geo.ptB b then spE s else 1 := by unfold lenE; rw [h]; rfl
def lenLoE (s : Sheet) (a b : Geo.Pt) : Int := if lenE s a b = 0 then lenLo s (b.1 - a.1) (b.2 - a.2) else 0
def lenHiE (s : Sheet) (a b : Geo.Pt) : Int := if lenE s a b = 0 then lenHi s (b.1 - a.1) (b.2 - a.2) else 0
end Sh

set_option maxRecDepth 100000 in
set_option maxHeartbeats 4000000 in
theorem Length_bad (s : Sheet) (a b : Geo.Pt) (A : Option Addr) (c : Nat) (w : World) (hl : s.cs.length ≤ 1000000000) (hg : Cts w w.heap.size A s.cs) (hok : Sh.okB s = false) :
    Calls Try.prog 24 #[.agg (shV s A c), .agg #[.int .i64 a.1, .int .i64 a.2], .agg #[.int .i64 b.1, .int .i64 b.2]] w (SpanEPost 0 0 40 w) := by
  have HC : Hid (∀ W, Below w.heap.size w W → Calls Try.prog 41 #[.agg (shV s A c)] W (ErrPost (Sh.chkE s) W)) := fun W hW => shCheck_any s A c W hl ((hg.keep hW).wider hW.size)
  have HS : Hid (∀ W, Below w.heap.size w W → Calls Try.prog 60 #[.agg (shV s A c)] W (SpPost (Sh.spV s A c) (Sh.spE s) W)) := fun W hW => spread_any s A c W hl ((hg.keep hW).wider hW.size)
  have HI1 : Hid (∀ W, Calls Try.prog 70 #[.agg #[.int .i64 a.1, .int .i64 a.2]] W fun e w' => e = .returned (.bool (Geo.ptB a)) ∧ Below W.heap.size W w') := fun W => inReach4_any a W
  have HI2 : Hid (∀ W, Calls Try.prog 70 #[.agg #[.int .i64 b.1, .int .i64 b.2]] W fun e w' => e = .returned (.bool (Geo.ptB b)) ∧ Below W.heap.size W w') := fun W => inReach4_any b W
  rw [Sh.chkE_no hok] at HC
  clear HI1 HI2 HS
  obtain ⟨a1, a2⟩ := a
  obtain ⟨b1, b2⟩ := b
  obtain ⟨al, ah, bl, bh, cs, wrn⟩ := s
  unfold shV at * 
  dsimp only at *
  clear hg hl hok
  go_enter Try.func24, Try.ntmps24
  go_wp2_with fail
  have bS1 := (((BoxS.new w 26 #[.int .i64 al, .int .i64 ah, .int .i64 bl, .int .i64 bh, .slice A cs.length c, .int .i64 wrn]).alloc (.cells #[.int .i64 a1, .int .i64 a2] 43)).alloc (.cells #[.int .i64 b1, .int .i64 b2] 43)).alloc (.cells #[.int .i64 0, .int .i64 0] 23)
  have bA1 := ((BoxS.new (w.alloc (.cells #[.int .i64 al, .int .i64 ah, .int .i64 bl, .int .i64 bh, .slice A cs.length c, .int .i64 wrn] 26)) 43 #[.int .i64 a1, .int .i64 a2]).alloc (.cells #[.int .i64 b1, .int .i64 b2] 43)).alloc (.cells #[.int .i64 0, .int .i64 0] 23)
  have bB1 := (BoxS.new ((w.alloc (.cells #[.int .i64 al, .int .i64 ah, .int .i64 bl, .int .i64 bh, .slice A cs.length c, .int .i64 wrn] 26)).alloc (.cells #[.int .i64 a1, .int .i64 a2] 43)) 43 #[.int .i64 b1, .int .i64 b2]).alloc (.cells #[.int .i64 0, .int .i64 0] 23)
  have bR1 := BoxS.new (((w.alloc (.cells #[.int .i64 al, .int .i64 ah, .int .i64 bl, .int .i64 bh, .slice A cs.length c, .int .i64 wrn] 26)).alloc (.cells #[.int .i64 a1, .int .i64 a2] 43)).alloc (.cells #[.int .i64 b1, .int .i64 b2] 43)) 23 #[.int .i64 0, .int .i64 0]
  have hB1 : Below w.heap.size w ((((w.alloc (.cells #[.int .i64 al, .int .i64 ah, .int .i64 bl, .int .i64 bh, .slice A cs.length c, .int .i64 wrn] 26)).alloc (.cells #[.int .i64 a1, .int .i64 a2] 43)).alloc (.cells #[.int .i64 b1, .int .i64 b2] 43)).alloc (.cells #[.int .i64 0, .int .i64 0] 23)) := by (repeat' (first | (with_reducible exact Below.refl _ _) | (with_reducible assumption) | (with_reducible refine Below.alloc ?_ ?_ _) | (with_reducible refine Below.drew ?_) | (with_reducible refine Below.setCell ?_ ?_ _) | go_size | (exact (by simp)) | omega))
  simp only [World.size_alloc] at bA1 bB1 bR1
  generalize World.alloc (World.alloc (World.alloc (World.alloc w _) _) _) _ = w1 at *
  refine (HC.out _ hB1).mono ?_
  rintro e w2 ⟨rfl, hb2⟩
  have bS2 := bS1.below hb2
  have bA2 := bA1.below hb2
  have bB2 := bB1.below hb2
  have bR2 := bR1.below hb2
  have hB2 := hB1.trans (hb2.mono hB1.size)
  clear bS1 bA1 bB1 bR1 hb2 hB1 HC
  have r0 := bR2.cell 0 rfl
  have r1 := bR2.cell 1 rfl
  have f0 := bR2.frozen 0
  have f1 := bR2.frozen 1
  go_wp2_with fail
  have bRz := (two_put (two_put bR2 (.int .i64 0)).1 (.int .i64 0)).2
  have hBz : Below w.heap.size w ((w2.setCell ⟨w.heap.size + 1 + 1 + 1, 0, none⟩ (.int .i64 0)).setCell ⟨w.heap.size + 1 + 1 + 1, 1, none⟩ (.int .i64 0)) := by (repeat' (first | (with_reducible exact Below.refl _ _) | (with_reducible assumption) | (with_reducible refine Below.alloc ?_ ?_ _) | (with_reducible refine Below.drew ?_) | (with_reducible refine Below.setCell ?_ ?_ _) | go_size | (exact (by simp)) | omega))
  clear r0 r1 f0 f1
  generalize World.setCell (World.setCell w2 _ _) _ _ = wz at *
  obtain ⟨r0, r1⟩ := boxS2 bRz
  exact bodyPost_ret (v := .tuple #[.agg #[.int .i64 0, .int .i64 0], .int .i64 40]) (by simp [results, Try.results24, go_sem, r0, r1]) rfl ⟨rfl, hBz⟩

set_option maxRecDepth 100000 in
set_option maxHeartbeats 4000000 in
theorem Length_outA (s : Sheet) (a b : Geo.Pt) (A : Option Addr) (c : Nat) (w : World) (hl : s.cs.length ≤ 1000000000) (hg : Cts w w.heap.size A s.cs) (hok : Sh.okB s = true) (hpa : Geo.ptB a = false) :
    Calls Try.prog 24 #[.agg (shV s A c), .agg #[.int .i64 a.1, .int .i64 a.2], .agg #[.int .i64 b.1, .int .i64 b.2]] w (SpanEPost 0 0 1 w) := by
  have HC : Hid (∀ W, Below w.heap.size w W → Calls Try.prog 41 #[.agg (shV s A c)] W (ErrPost (Sh.chkE s) W)) := fun W hW => shCheck_any s A c W hl ((hg.keep hW).wider hW.size)
  have HS : Hid (∀ W, Below w.heap.size w W → Calls Try.prog 60 #[.agg (shV s A c)] W (SpPost (Sh.spV s A c) (Sh.spE s) W)) := fun W hW => spread_any s A c W hl ((hg.keep hW).wider hW.size)
  have HI1 : Hid (∀ W, Calls Try.prog 70 #[.agg #[.int .i64 a.1, .int .i64 a.2]] W fun e w' => e = .returned (.bool (Geo.ptB a)) ∧ Below W.heap.size W w') := fun W => inReach4_any a W
  have HI2 : Hid (∀ W, Calls Try.prog 70 #[.agg #[.int .i64 b.1, .int .i64 b.2]] W fun e w' => e = .returned (.bool (Geo.ptB b)) ∧ Below W.heap.size W w') := fun W => inReach4_any b W
  rw [Sh.chkE_yes hok] at HC
  rw [hpa] at HI1
  clear HI2 HS
  obtain ⟨a1, a2⟩ := a
  obtain ⟨b1, b2⟩ := b
  obtain ⟨al, ah, bl, bh, cs, wrn⟩ := s
  unfold shV at * 
  dsimp only at *
  clear hg hl hok hpa
  go_enter Try.func24, Try.ntmps24
  go_wp2_with fail
  have bS1 := (((BoxS.new w 26 #[.int .i64 al, .int .i64 ah, .int .i64 bl, .int .i64 bh, .slice A cs.length c, .int .i64 wrn]).alloc (.cells #[.int .i64 a1, .int .i64 a2] 43)).alloc (.cells #[.int .i64 b1, .int .i64 b2] 43)).alloc (.cells #[.int .i64 0, .int .i64 0] 23)
  have bA1 := ((BoxS.new (w.alloc (.cells #[.int .i64 al, .int .i64 ah, .int .i64 bl, .int .i64 bh, .slice A cs.length c, .int .i64 wrn] 26)) 43 #[.int .i64 a1, .int .i64 a2]).alloc (.cells #[.int .i64 b1, .int .i64 b2] 43)).alloc (.cells #[.int .i64 0, .int .i64 0] 23)
  have bB1 := (BoxS.new ((w.alloc (.cells #[.int .i64 al, .int .i64 ah, .int .i64 bl, .int .i64 bh, .slice A cs.length c, .int .i64 wrn] 26)).alloc (.cells #[.int .i64 a1, .int .i64 a2] 43)) 43 #[.int .i64 b1, .int .i64 b2]).alloc (.cells #[.int .i64 0, .int .i64 0] 23)
  have bR1 := BoxS.new (((w.alloc (.cells #[.int .i64 al, .int .i64 ah, .int .i64 bl, .int .i64 bh, .slice A cs.length c, .int .i64 wrn] 26)).alloc (.cells #[.int .i64 a1, .int .i64 a2] 43)).alloc (.cells #[.int .i64 b1, .int .i64 b2] 43)) 23 #[.int .i64 0, .int .i64 0]
  have hB1 : Below w.heap.size w ((((w.alloc (.cells #[.int .i64 al, .int .i64 ah, .int .i64 bl, .int .i64 bh, .slice A cs.length c, .int .i64 wrn] 26)).alloc (.cells #[.int .i64 a1, .int .i64 a2] 43)).alloc (.cells #[.int .i64 b1, .int .i64 b2] 43)).alloc (.cells #[.int .i64 0, .int .i64 0] 23)) := by (repeat' (first | (with_reducible exact Below.refl _ _) | (with_reducible assumption) | (with_reducible refine Below.alloc ?_ ?_ _) | (with_reducible refine Below.drew ?_) | (with_reducible refine Below.setCell ?_ ?_ _) | go_size | (exact (by simp)) | omega))
  simp only [World.size_alloc] at bA1 bB1 bR1
  generalize World.alloc (World.alloc (World.alloc (World.alloc w _) _) _) _ = w1 at *
  refine (HC.out _ hB1).mono ?_
  rintro e w2 ⟨rfl, hb2⟩
  have bS2 := bS1.below hb2
  have bA2 := bA1.below hb2
  have bB2 := bB1.below hb2
  have bR2 := bR1.below hb2
  have hB2 := hB1.trans (hb2.mono hB1.size)
  clear bS1 bA1 bB1 bR1 hb2 hB1 HC
  have a0 := bA2.cell 0 rfl
  have a1c := bA2.cell 1 rfl
  go_wp2_with fail
  refine (HI1.out _).mono ?_
  rintro e w3 ⟨rfl, hb3⟩
  have bS3 := bS2.below hb3
  have bA3 := bA2.below hb3
  have bB3 := bB2.below hb3
  have bR3 := bR2.below hb3
  have hB3 := hB2.trans (hb3.mono hB2.size)
  clear bS2 bA2 bB2 bR2 hb3 hB2 a0 a1c
  have r0 := bR3.cell 0 rfl
  have r1 := bR3.cell 1 rfl
  have f0 := bR3.frozen 0
  have f1 := bR3.frozen 1
  go_wp2_with fail
  have bRz := (two_put (two_put bR3 (.int .i64 0)).1 (.int .i64 0)).2
  have hBz : Below w.heap.size w ((w3.setCell ⟨w.heap.size + 1 + 1 + 1, 0, none⟩ (.int .i64 0)).setCell ⟨w.heap.size + 1 + 1 + 1, 1, none⟩ (.int .i64 0)) := by (repeat' (first | (with_reducible exact Below.refl _ _) | (with_reducible assumption) | (with_reducible refine Below.alloc ?_ ?_ _) | (with_reducible refine Below.drew ?_) | (with_reducible refine Below.setCell ?_ ?_ _) | go_size | (exact (by simp)) | omega))
  clear r0 r1 f0 f1
  generalize World.setCell (World.setCell w3 _ _) _ _ = wz at *
  obtain ⟨r0, r1⟩ := boxS2 bRz
  exact bodyPost_ret (v := .tuple #[.agg #[.int .i64 0, .int .i64 0], .int .i64 1]) (by simp [results, Try.results24, go_sem, r0, r1]) rfl ⟨rfl, hBz⟩

set_option maxRecDepth 100000 in
set_option maxHeartbeats 4000000 in
theorem Length_outB (s : Sheet) (a b : Geo.Pt) (A : Option Addr) (c : Nat) (w : World) (hl : s.cs.length ≤ 1000000000) (hg : Cts w w.heap.size A s.cs) (hok : Sh.okB s = true) (hpa : Geo.ptB a = true) (hpb : Geo.ptB b = false) :
    Calls Try.prog 24 #[.agg (shV s A c), .agg #[.int .i64 a.1, .int .i64 a.2], .agg #[.int .i64 b.1, .int .i64 b.2]] w (SpanEPost 0 0 1 w) := by
  have HC : Hid (∀ W, Below w.heap.size w W → Calls Try.prog 41 #[.agg (shV s A c)] W (ErrPost (Sh.chkE s) W)) := fun W hW => shCheck_any s A c W hl ((hg.keep hW).wider hW.size)
  have HS : Hid (∀ W, Below w.heap.size w W → Calls Try.prog 60 #[.agg (shV s A c)] W (SpPost (Sh.spV s A c) (Sh.spE s) W)) := fun W hW => spread_any s A c W hl ((hg.keep hW).wider hW.size)
  have HI1 : Hid (∀ W, Calls Try.prog 70 #[.agg #[.int .i64 a.1, .int .i64 a.2]] W fun e w' => e = .returned (.bool (Geo.ptB a)) ∧ Below W.heap.size W w') := fun W => inReach4_any a W
  have HI2 : Hid (∀ W, Calls Try.prog 70 #[.agg #[.int .i64 b.1, .int .i64 b.2]] W fun e w' => e = .returned (.bool (Geo.ptB b)) ∧ Below W.heap.size W w') := fun W => inReach4_any b W
  rw [Sh.chkE_yes hok] at HC
  rw [hpa] at HI1
  rw [hpb] at HI2
  clear HS
  obtain ⟨a1, a2⟩ := a
  obtain ⟨b1, b2⟩ := b
  obtain ⟨al, ah, bl, bh, cs, wrn⟩ := s
  unfold shV at * 
  dsimp only at *
  clear hg hl hok hpa hpb
  go_enter Try.func24, Try.ntmps24
  go_wp2_with fail
  have bS1 := (((BoxS.new w 26 #[.int .i64 al, .int .i64 ah, .int .i64 bl, .int .i64 bh, .slice A cs.length c, .int .i64 wrn]).alloc (.cells #[.int .i64 a1, .int .i64 a2] 43)).alloc (.cells #[.int .i64 b1, .int .i64 b2] 43)).alloc (.cells #[.int .i64 0, .int .i64 0] 23)
  have bA1 := ((BoxS.new (w.alloc (.cells #[.int .i64 al, .int .i64 ah, .int .i64 bl, .int .i64 bh, .slice A cs.length c, .int .i64 wrn] 26)) 43 #[.int .i64 a1, .int .i64 a2]).alloc (.cells #[.int .i64 b1, .int .i64 b2] 43)).alloc (.cells #[.int .i64 0, .int .i64 0] 23)
  have bB1 := (BoxS.new ((w.alloc (.cells #[.int .i64 al, .int .i64 ah, .int .i64 bl, .int .i64 bh, .slice A cs.length c, .int .i64 wrn] 26)).alloc (.cells #[.int .i64 a1, .int .i64 a2] 43)) 43 #[.int .i64 b1, .int .i64 b2]).alloc (.cells #[.int .i64 0, .int .i64 0] 23)
  have bR1 := BoxS.new (((w.alloc (.cells #[.int .i64 al, .int .i64 ah, .int .i64 bl, .int .i64 bh, .slice A cs.length c, .int .i64 wrn] 26)).alloc (.cells #[.int .i64 a1, .int .i64 a2] 43)).alloc (.cells #[.int .i64 b1, .int .i64 b2] 43)) 23 #[.int .i64 0, .int .i64 0]
  have hB1 : Below w.heap.size w ((((w.alloc (.cells #[.int .i64 al, .int .i64 ah, .int .i64 bl, .int .i64 bh, .slice A cs.length c, .int .i64 wrn] 26)).alloc (.cells #[.int .i64 a1, .int .i64 a2] 43)).alloc (.cells #[.int .i64 b1, .int .i64 b2] 43)).alloc (.cells #[.int .i64 0, .int .i64 0] 23)) := by (repeat' (first | (with_reducible exact Below.refl _ _) | (with_reducible assumption) | (with_reducible refine Below.alloc ?_ ?_ _) | (with_reducible refine Below.drew ?_) | (with_reducible refine Below.setCell ?_ ?_ _) | go_size | (exact (by simp)) | omega))
  simp only [World.size_alloc] at bA1 bB1 bR1
  generalize World.alloc (World.alloc (World.alloc (World.alloc w _) _) _) _ = w1 at *
  refine (HC.out _ hB1).mono ?_
  rintro e w2 ⟨rfl, hb2⟩
  have bS2 := bS1.below hb2
  have bA2 := bA1.below hb2
  have bB2 := bB1.below hb2
  have bR2 := bR1.below hb2
  have hB2 := hB1.trans (hb2.mono hB1.size)
  clear bS1 bA1 bB1 bR1 hb2 hB1 HC
  have a0 := bA2.cell 0 rfl
  have a1c := bA2.cell 1 rfl
  go_wp2_with fail
  refine (HI1.out _).mono ?_
  rintro e w3 ⟨rfl, hb3⟩
  have bS3 := bS2.below hb3
  have bA3 := bA2.below hb3
  have bB3 := bB2.below hb3
  have bR3 := bR2.below hb3
  have hB3 := hB2.trans (hb3.mono hB2.size)
  clear bS2 bA2 bB2 bR2 hb3 hB2 a0 a1c
  have b0 := bB3.cell 0 rfl
  have b1c := bB3.cell 1 rfl
  go_wp2_with fail
  refine (HI2.out _).mono ?_
  rintro e w4 ⟨rfl, hb4⟩
  have bS4 := bS3.below hb4
  have bA4 := bA3.below hb4
  have bB4 := bB3.below hb4
  have bR4 := bR3.below hb4
  have hB4 := hB3.trans (hb4.mono hB3.size)
  clear bS3 bA3 bB3 bR3 hb4 hB3 b0 b1c
  have r0 := bR4.cell 0 rfl
  have r1 := bR4.cell 1 rfl
  have f0 := bR4.frozen 0
  have f1 := bR4.frozen 1
  go_wp2_with fail
  have bRz := (two_put (two_put bR4 (.int .i64 0)).1 (.int .i64 0)).2
  have hBz : Below w.heap.size w ((w4.setCell ⟨w.heap.size + 1 + 1 + 1, 0, none⟩ (.int .i64 0)).setCell ⟨w.heap.size + 1 + 1 + 1, 1, none⟩ (.int .i64 0)) := by (repeat' (first | (with_reducible exact Below.refl _ _) | (with_reducible assumption) | (with_reducible refine Below.alloc ?_ ?_ _) | (with_reducible refine Below.drew ?_) | (with_reducible refine Below.setCell ?_ ?_ _) | go_size | (exact (by simp)) | omega))
  clear r0 r1 f0 f1
  generalize World.setCell (World.setCell w4 _ _) _ _ = wz at *
  obtain ⟨r0, r1⟩ := boxS2 bRz
  exact bodyPost_ret (v := .tuple #[.agg #[.int .i64 0, .int .i64 0], .int .i64 1]) (by simp [results, Try.results24, go_sem, r0, r1]) rfl ⟨rfl, hBz⟩

set_option maxRecDepth 100000 in
set_option maxHeartbeats 4000000 in
theorem Length_none (s : Sheet) (a b : Geo.Pt) (A : Option Addr) (c : Nat) (w : World) (hl : s.cs.length ≤ 1000000000) (hg : Cts w w.heap.size A s.cs) (hok : Sh.okB s = true) (hpa : Geo.ptB a = true) (hpb : Geo.ptB b = true) (h3 : Sh.spE s = 3) :
    Calls Try.prog 24 #[.agg (shV s A c), .agg #[.int .i64 a.1, .int .i64 a.2], .agg #[.int .i64 b.1, .int .i64 b.2]] w (SpanEPost 0 0 3 w) := by
  have HC : Hid (∀ W, Below w.heap.size w W → Calls Try.prog 41 #[.agg (shV s A c)] W (ErrPost (Sh.chkE s) W)) := fun W hW => shCheck_any s A c W hl ((hg.keep hW).wider hW.size)
  have HS : Hid (∀ W, Below w.heap.size w W → Calls Try.prog 60 #[.agg (shV s A c)] W (SpPost (Sh.spV s A c) (Sh.spE s) W)) := fun W hW => spread_any s A c W hl ((hg.keep hW).wider hW.size)
  have HI1 : Hid (∀ W, Calls Try.prog 70 #[.agg #[.int .i64 a.1, .int .i64 a.2]] W fun e w' => e = .returned (.bool (Geo.ptB a)) ∧ Below W.heap.size W w') := fun W => inReach4_any a W
  have HI2 : Hid (∀ W, Calls Try.prog 70 #[.agg #[.int .i64 b.1, .int .i64 b.2]] W fun e w' => e = .returned (.bool (Geo.ptB b)) ∧ Below W.heap.size W w') := fun W => inReach4_any b W
  rw [Sh.chkE_yes hok] at HC
  rw [hpa] at HI1
  rw [hpb] at HI2
  rw [Sh.spV_no (by rw [h3]; decide), h3] at HS
  obtain ⟨a1, a2⟩ := a
  obtain ⟨b1, b2⟩ := b
  obtain ⟨al, ah, bl, bh, cs, wrn⟩ := s
  unfold shV at * 
  dsimp only at *
  clear hg hl hok hpa hpb h3
  go_enter Try.func24, Try.ntmps24
  go_wp2_with fail
  have bS1 := (((BoxS.new w 26 #[.int .i64 al, .int .i64 ah, .int .i64 bl, .int .i64 bh, .slice A cs.length c, .int .i64 wrn]).alloc (.cells #[.int .i64 a1, .int .i64 a2] 43)).alloc (.cells #[.int .i64 b1, .int .i64 b2] 43)).alloc (.cells #[.int .i64 0, .int .i64 0] 23)
  have bA1 := ((BoxS.new (w.alloc (.cells #[.int .i64 al, .int .i64 ah, .int .i64 bl, .int .i64 bh, .slice A cs.length c, .int .i64 wrn] 26)) 43 #[.int .i64 a1, .int .i64 a2]).alloc (.cells #[.int .i64 b1, .int .i64 b2] 43)).alloc (.cells #[.int .i64 0, .int .i64 0] 23)
  have bB1 := (BoxS.new ((w.alloc (.cells #[.int .i64 al, .int .i64 ah, .int .i64 bl, .int .i64 bh, .slice A cs.length c, .int .i64 wrn] 26)).alloc (.cells #[.int .i64 a1, .int .i64 a2] 43)) 43 #[.int .i64 b1, .int .i64 b2]).alloc (.cells #[.int .i64 0, .int .i64 0] 23)
  have bR1 := BoxS.new (((w.alloc (.cells #[.int .i64 al, .int .i64 ah, .int .i64 bl, .int .i64 bh, .slice A cs.length c, .int .i64 wrn] 26)).alloc (.cells #[.int .i64 a1, .int .i64 a2] 43)).alloc (.cells #[.int .i64 b1, .int .i64 b2] 43)) 23 #[.int .i64 0, .int .i64 0]
  have hB1 : Below w.heap.size w ((((w.alloc (.cells #[.int .i64 al, .int .i64 ah, .int .i64 bl, .int .i64 bh, .slice A cs.length c, .int .i64 wrn] 26)).alloc (.cells #[.int .i64 a1, .int .i64 a2] 43)).alloc (.cells #[.int .i64 b1, .int .i64 b2] 43)).alloc (.cells #[.int .i64 0, .int .i64 0] 23)) := by (repeat' (first | (with_reducible exact Below.refl _ _) | (with_reducible assumption) | (with_reducible refine Below.alloc ?_ ?_ _) | (with_reducible refine Below.drew ?_) | (with_reducible refine Below.setCell ?_ ?_ _) | go_size | (exact (by simp)) | omega))
  simp only [World.size_alloc] at bA1 bB1 bR1
  generalize World.alloc (World.alloc (World.alloc (World.alloc w _) _) _) _ = w1 at *
  refine (HC.out _ hB1).mono ?_
  rintro e w2 ⟨rfl, hb2⟩
  have bS2 := bS1.below hb2
  have bA2 := bA1.below hb2
  have bB2 := bB1.below hb2
  have bR2 := bR1.below hb2
  have hB2 := hB1.trans (hb2.mono hB1.size)
  clear bS1 bA1 bB1 bR1 hb2 hB1 HC
  have a0 := bA2.cell 0 rfl
  have a1c := bA2.cell 1 rfl
  go_wp2_with fail
  refine (HI1.out _).mono ?_
  rintro e w3 ⟨rfl, hb3⟩
  have bS3 := bS2.below hb3
  have bA3 := bA2.below hb3
  have bB3 := bB2.below hb3
  have bR3 := bR2.below hb3
  have hB3 := hB2.trans (hb3.mono hB2.size)
  clear bS2 bA2 bB2 bR2 hb3 hB2 a0 a1c
  have b0 := bB3.cell 0 rfl
  have b1c := bB3.cell 1 rfl
  go_wp2_with fail
  refine (HI2.out _).mono ?_
  rintro e w4 ⟨rfl, hb4⟩
  have bS4 := bS3.below hb4
  have bA4 := bA3.below hb4
  have bB4 := bB3.below hb4
  have bR4 := bR3.below hb4
  have hB4 := hB3.trans (hb4.mono hB3.size)
  clear bS3 bA3 bB3 bR3 hb4 hB3 b0 b1c
  obtain ⟨⟨s0, s1, s2⟩, s3, s4, s5⟩ := boxS6 bS4
  go_wp2_with fail
  refine (HS.out _ hB4).mono ?_
  rintro e w5 ⟨rfl, hb5⟩
  have bA5 := bA4.below hb5
  have bB5 := bB4.below hb5
  have bR5 := bR4.below hb5
  have hB5 := hB4.trans (hb5.mono hB4.size)
  clear bA4 bB4 bR4 hb5 hB4 bS4 s0 s1 s2 s3 s4 s5 HS
  have lz := bR5.lt
  have r0 := bR5.cell 0 rfl
  have r1 := bR5.cell 1 rfl
  have f0 := bR5.frozen 0
  have f1 := bR5.frozen 1
  go_wp2_with fail
  have bRz := ((two_put (two_put bR5 (.int .i64 0)).1 (.int .i64 0)).2).alloc (.cells #[.int .i64 0, .int .i64 0, .int .i64 0, .int .i64 0, .slice none 0 0, .int .i64 0] 87)
  have hBz : Below w.heap.size w (((w5.setCell ⟨w.heap.size + 1 + 1 + 1, 0, none⟩ (.int .i64 0)).setCell ⟨w.heap.size + 1 + 1 + 1, 1, none⟩ (.int .i64 0)).alloc (.cells #[.int .i64 0, .int .i64 0, .int .i64 0, .int .i64 0, .slice none 0 0, .int .i64 0] 87)) := by (repeat' (first | (with_reducible exact Below.refl _ _) | (with_reducible assumption) | (with_reducible refine Below.alloc ?_ ?_ _) | (with_reducible refine Below.drew ?_) | (with_reducible refine Below.setCell ?_ ?_ _) | go_size | (exact (by simp)) | omega))
  clear r0 r1 f0 f1
  generalize World.alloc (World.setCell (World.setCell w5 _ _) _ _) _ = wz at *
  obtain ⟨r0, r1⟩ := boxS2 bRz
  exact bodyPost_ret (v := .tuple #[.agg #[.int .i64 0, .int .i64 0], .int .i64 3]) (by simp [results, Try.results24, go_sem, r0, r1]) rfl ⟨rfl, hBz⟩

set_option maxRecDepth 100000 in
set_option maxHeartbeats 4000000 in
theorem Length_yes (s : Sheet) (a b : Geo.Pt) (A : Option Addr) (c : Nat) (w : World) (hl : s.cs.length ≤ 1000000000) (hg : Cts w w.heap.size A s.cs) (h0 : Sh.spE s = 0) (hpa : Geo.ptB a = true) (hpb : Geo.ptB b = true) :
    Calls Try.prog 24 #[.agg (shV s A c), .agg #[.int .i64 a.1, .int .i64 a.2], .agg #[.int .i64 b.1, .int .i64 b.2]] w (SpanEPost (Sh.lenLo s (b.1 - a.1) (b.2 - a.2)) (Sh.lenHi s (b.1 - a.1) (b.2 - a.2)) 0 w) := by
  have HC : Hid (∀ W, Below w.heap.size w W → Calls Try.prog 41 #[.agg (shV s A c)] W (ErrPost (Sh.chkE s) W)) := fun W hW => shCheck_any s A c W hl ((hg.keep hW).wider hW.size)
  have HS : Hid (∀ W, Below w.heap.size w W → Calls Try.prog 60 #[.agg (shV s A c)] W (SpPost (Sh.spV s A c) (Sh.spE s) W)) := fun W hW => spread_any s A c W hl ((hg.keep hW).wider hW.size)
  have HI1 : Hid (∀ W, Calls Try.prog 70 #[.agg #[.int .i64 a.1, .int .i64 a.2]] W fun e w' => e = .returned (.bool (Geo.ptB a)) ∧ Below W.heap.size W w') := fun W => inReach4_any a W
  have HI2 : Hid (∀ W, Calls Try.prog 70 #[.agg #[.int .i64 b.1, .int .i64 b.2]] W fun e w' => e = .returned (.bool (Geo.ptB b)) ∧ Below W.heap.size W w') := fun W => inReach4_any b W
  obtain ⟨hok, hne⟩ := Sh.sp_ok h0
  have hs := Sh.ok_of hok
  have hsq := Sh.pt_sq hpa hpb
  have HBD : Hid (∀ B1 B2 W, Below w.heap.size w W → BoxS W B1 43 #[.int .i64 b.1, .int .i64 b.2] → BoxS W B2 43 #[.int .i64 a.1, .int .i64 a.2] → Calls Try.prog 67 #[.agg (shV s A c), .func (.func 71) #[] #[.pointer (some ⟨B1, 0, none⟩), .pointer (some ⟨B2, 0, none⟩)]] W (SpanPost (Sh.lenLo s (b.1 - a.1) (b.2 - a.2)) (Sh.lenHi s (b.1 - a.1) (b.2 - a.2)) W)) := fun B1 B2 W hW x1 x2 =>
    bounds_any s hs A c 71 #[.pointer (some ⟨B1, 0, none⟩), .pointer (some ⟨B2, 0, none⟩)] (Sh.sqN (b.1 - a.1) (b.2 - a.2)) Sh.sqD (fun x => by have := Sh.sqN_bd hsq x; omega) (fun x => by have := Sh.sqD_bd x; omega) W ((hg.keep hW).wider hW.size)
      (enters_of Try.func71 (by kernel_rfl) rfl) (fun x V hV => length1_any x a b B1 B2 V hsq (x1.below hV) (x2.below hV))
  rw [Sh.chkE_yes hok] at HC
  rw [hpa] at HI1
  rw [hpb] at HI2
  rw [Sh.spV_yes h0, h0] at HS
  generalize Sh.lenLo s (b.1 - a.1) (b.2 - a.2) = lo at *
  generalize Sh.lenHi s (b.1 - a.1) (b.2 - a.2) = hi at *
  obtain ⟨a1, a2⟩ := a
  obtain ⟨b1, b2⟩ := b
  obtain ⟨al, ah, bl, bh, cs, wrn⟩ := s
  unfold shV at * 
  dsimp only at *
  clear hg hl hok hpa hpb h0 hne hs hsq
  go_enter Try.func24, Try.ntmps24
  go_wp2_with fail
  have bS1 := (((BoxS.new w 26 #[.int .i64 al, .int .i64 ah, .int .i64 bl, .int .i64 bh, .slice A cs.length c, .int .i64 wrn]).alloc (.cells #[.int .i64 a1, .int .i64 a2] 43)).alloc (.cells #[.int .i64 b1, .int .i64 b2] 43)).alloc (.cells #[.int .i64 0, .int .i64 0] 23)
  have bA1 := ((BoxS.new (w.alloc (.cells #[.int .i64 al, .int .i64 ah, .int .i64 bl, .int .i64 bh, .slice A cs.length c, .int .i64 wrn] 26)) 43 #[.int .i64 a1, .int .i64 a2]).alloc (.cells #[.int .i64 b1, .int .i64 b2] 43)).alloc (.cells #[.int .i64 0, .int .i64 0] 23)
  have bB1 := (BoxS.new ((w.alloc (.cells #[.int .i64 al, .int .i64 ah, .int .i64 bl, .int .i64 bh, .slice A cs.length c, .int .i64 wrn] 26)).alloc (.cells #[.int .i64 a1, .int .i64 a2] 43)) 43 #[.int .i64 b1, .int .i64 b2]).alloc (.cells #[.int .i64 0, .int .i64 0] 23)
  have bR1 := BoxS.new (((w.alloc (.cells #[.int .i64 al, .int .i64 ah, .int .i64 bl, .int .i64 bh, .slice A cs.length c, .int .i64 wrn] 26)).alloc (.cells #[.int .i64 a1, .int .i64 a2] 43)).alloc (.cells #[.int .i64 b1, .int .i64 b2] 43)) 23 #[.int .i64 0, .int .i64 0]
  have hB1 : Below w.heap.size w ((((w.alloc (.cells #[.int .i64 al, .int .i64 ah, .int .i64 bl, .int .i64 bh, .slice A cs.length c, .int .i64 wrn] 26)).alloc (.cells #[.int .i64 a1, .int .i64 a2] 43)).alloc (.cells #[.int .i64 b1, .int .i64 b2] 43)).alloc (.cells #[.int .i64 0, .int .i64 0] 23)) := by (repeat' (first | (with_reducible exact Below.refl _ _) | (with_reducible assumption) | (with_reducible refine Below.alloc ?_ ?_ _) | (with_reducible refine Below.drew ?_) | (with_reducible refine Below.setCell ?_ ?_ _) | go_size | (exact (by simp)) | omega))
  simp only [World.size_alloc] at bA1 bB1 bR1
  generalize World.alloc (World.alloc (World.alloc (World.alloc w _) _) _) _ = w1 at *
  refine (HC.out _ hB1).mono ?_
  rintro e w2 ⟨rfl, hb2⟩
  have bS2 := bS1.below hb2
  have bA2 := bA1.below hb2
  have bB2 := bB1.below hb2
  have bR2 := bR1.below hb2
  have hB2 := hB1.trans (hb2.mono hB1.size)
  clear bS1 bA1 bB1 bR1 hb2 hB1 HC
  have a0 := bA2.cell 0 rfl
  have a1c := bA2.cell 1 rfl
  go_wp2_with fail
  refine (HI1.out _).mono ?_
  rintro e w3 ⟨rfl, hb3⟩
  have bS3 := bS2.below hb3
  have bA3 := bA2.below hb3
  have bB3 := bB2.below hb3
  have bR3 := bR2.below hb3
  have hB3 := hB2.trans (hb3.mono hB2.size)
  clear bS2 bA2 bB2 bR2 hb3 hB2 a0 a1c
  have b0 := bB3.cell 0 rfl
  have b1c := bB3.cell 1 rfl
  go_wp2_with fail
  refine (HI2.out _).mono ?_
  rintro e w4 ⟨rfl, hb4⟩
  have bS4 := bS3.below hb4
  have bA4 := bA3.below hb4
  have bB4 := bB3.below hb4
  have bR4 := bR3.below hb4
  have hB4 := hB3.trans (hb4.mono hB3.size)
  clear bS3 bA3 bB3 bR3 hb4 hB3 b0 b1c
  obtain ⟨⟨s0, s1, s2⟩, s3, s4, s5⟩ := boxS6 bS4
  go_wp2_with fail
  refine (HS.out _ hB4).mono ?_
  rintro e w5 ⟨rfl, hb5⟩
  have bA5 := bA4.below hb5
  have bB5 := bB4.below hb5
  have bR5 := bR4.below hb5
  have hB5 := hB4.trans (hb5.mono hB4.size)
  clear bA4 bB4 bR4 hb5 hB4 bS4 s0 s1 s2 s3 s4 s5 HS
  have lz := bR5.lt
  go_wp2_with fail
  have bA6 := bA5.alloc (.cells #[.int .i64 al, .int .i64 ah, .int .i64 bl, .int .i64 bh, .slice A cs.length c, .int .i64 wrn] 87)
  have bB6 := bB5.alloc (.cells #[.int .i64 al, .int .i64 ah, .int .i64 bl, .int .i64 bh, .slice A cs.length c, .int .i64 wrn] 87)
  have bR6 := bR5.alloc (.cells #[.int .i64 al, .int .i64 ah, .int .i64 bl, .int .i64 bh, .slice A cs.length c, .int .i64 wrn] 87)
  have hB6 : Below w.heap.size w (w5.alloc (.cells #[.int .i64 al, .int .i64 ah, .int .i64 bl, .int .i64 bh, .slice A cs.length c, .int .i64 wrn] 87)) := hB5.alloc hB5.size _
  clear bA5 bB5 bR5 hB5
  generalize World.alloc w5 _ = w6 at *
  refine (HBD.out _ _ _ hB6 bB6 bA6).mono ?_
  rintro e w7 ⟨rfl, hb7⟩
  have bR7 := bR6.below hb7
  have hB7 := hB6.trans (hb7.mono hB6.size)
  clear bR6 hb7 hB6 bB6 bA6 HBD
  have r0 := bR7.cell 0 rfl
  have r1 := bR7.cell 1 rfl
  have f0 := bR7.frozen 0
  have f1 := bR7.frozen 1
  go_wp2_with fail
  have bRz := (two_put (two_put bR7 (.int .i64 lo)).1 (.int .i64 hi)).2
  have hBz : Below w.heap.size w ((w7.setCell ⟨w.heap.size + 1 + 1 + 1, 0, none⟩ (.int .i64 lo)).setCell ⟨w.heap.size + 1 + 1 + 1, 1, none⟩ (.int .i64 hi)) := by (repeat' (first | (with_reducible exact Below.refl _ _) | (with_reducible assumption) | (with_reducible refine Below.alloc ?_ ?_ _) | (with_reducible refine Below.drew ?_) | (with_reducible refine Below.setCell ?_ ?_ _) | go_size | (exact (by simp)) | omega))
  clear r0 r1 f0 f1
  generalize World.setCell (World.setCell w7 _ _) _ _ = wz at *
  obtain ⟨r0, r1⟩ := boxS2 bRz
  exact bodyPost_ret (v := .tuple #[.agg #[.int .i64 lo, .int .i64 hi], .int .i64 0]) (by simp [results, Try.results24, go_sem, r0, r1]) rfl ⟨rfl, hBz⟩

theorem Length_any (s : Sheet) (a b : Geo.Pt) (A : Option Addr) (c : Nat) (w : World) (hl : s.cs.length ≤ 1000000000) (hg : Cts w w.heap.size A s.cs) :
    Calls Try.prog 24 #[.agg (shV s A c), .agg #[.int .i64 a.1, .int .i64 a.2], .agg #[.int .i64 b.1, .int .i64 b.2]] w (SpanEPost (Sh.lenLoE s a b) (Sh.lenHiE s a b) (Sh.lenE s a b) w) := by
  cases hok : Sh.okB s with
  | false =>
    have he : Sh.lenE s a b = 40 := Sh.lenE_bad hok
    unfold Sh.lenLoE Sh.lenHiE
    rw [he]
    exact Length_bad s a b A c w hl hg hok
  | true =>
    have he := Sh.lenE_ok (a := a) (b := b) hok
    cases ha : Geo.ptB a with
    | false =>
      rw [ha] at he
      unfold Sh.lenLoE Sh.lenHiE
      rw [he]
      exact Length_outA s a b A c w hl hg hok ha
    | true =>
      cases hb : Geo.ptB b with
      | false =>
        rw [ha, hb] at he
        unfold Sh.lenLoE Sh.lenHiE
        rw [he]
        exact Length_outB s a b A c w hl hg hok ha hb
      | true =>
        rw [ha, hb] at he
        replace he : Sh.lenE s a b = Sh.spE s := he
        unfold Sh.lenLoE Sh.lenHiE
        rw [he]
        rcases Sh.sp_three s with h | h | h
        · rw [if_pos h, if_pos h]
          rw [h]
          exact Length_yes s a b A c w hl hg h ha hb
        · rw [h]
          exact Length_none s a b A c w hl hg hok ha hb h
        · exfalso
          unfold Sh.spE at h
          rw [hok] at h
          by_cases h2 : Sh.truthsL s = [] <;> simp [h2] at h
end Go.Proofs.Ytgpmnkdagpcffaa
