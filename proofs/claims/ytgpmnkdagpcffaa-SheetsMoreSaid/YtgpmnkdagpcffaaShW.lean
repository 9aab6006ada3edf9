/- Sheets: whether a control is right, and whether factors are a truth, for the reference. -/
import Derived.Test.YtgpmnkdagpcffaaShU
namespace Go.Proofs.Ytgpmnkdagpcffaa
open Go.RowKit
set_option maxRecDepth 100000 in
set_option maxHeartbeats 2000000 in
theorem IsRight4_any (f : Sh.Fa) (c : Sh.Ct) (w : World) (hf : Sh.fsm f) (hc : Sh.csm c) :
    Calls Try.prog 101 #[.agg #[.int .i64 c.1, .int .i64 c.2.1, .int .i64 c.2.2.1, .int .i64 c.2.2.2], .agg #[.int .i64 f.1, .int .i64 f.2]] w fun e w' => e = .returned (.bool (Sh.fitB f c)) ∧ Below w.heap.size w w' := by
  obtain ⟨f1, f2⟩ := f
  obtain ⟨cw, ct, cr, co⟩ := c
  dsimp only
  have hof : -2000 ≤ Sh.ofV (f1, f2) cw ∧ Sh.ofV (f1, f2) cw ≤ 2000 := by
    unfold Sh.ofV
    unfold Sh.fsm at hf
    dsimp only at hf ⊢
    split <;> omega
  unfold Sh.csm at hc
  dsimp only at hc
  have m1 := mul_bd (a := ct) (b := Sh.ofV (f1, f2) cw) (x := 10000) (y := 2000) (by omega) (by omega) (by omega) (by omega)
  have hw1 : IntKind.i64.wrap (ct * Sh.ofV (f1, f2) cw) = ct * Sh.ofV (f1, f2) cw := IntWalk.i64_in _ (by omega)
  have hw2 : IntKind.i64.wrap (1000 * cr) = 1000 * cr := IntWalk.i64_in _ (by omega)
  have hw3 : IntKind.i64.wrap (1000 * co) = 1000 * co := IntWalk.i64_in _ (by omega)
  have hw4 : IntKind.i64.wrap (ct * Sh.ofV (f1, f2) cw - 1000 * cr) = ct * Sh.ofV (f1, f2) cw - 1000 * cr := IntWalk.i64_in _ (by omega)
  have HO : Hid (∀ W, Calls Try.prog 99 #[.agg #[.int .i64 f1, .int .i64 f2], .int .i64 cw] W fun e w' => e = .returned (.int .i64 (Sh.ofV (f1, f2) cw)) ∧ Below W.heap.size W w') := fun W => Of4_any f1 f2 cw W
  have hfv : Hid (Sh.fitB (f1, f2) (cw, ct, cr, co) = decide (Sh.absV (ct * Sh.ofV (f1, f2) cw - 1000 * cr) ≤ 1000 * co)) := by
    have : Sh.dist (ct * Sh.ofV (f1, f2) cw) (1000 * cr) = Sh.absV (ct * Sh.ofV (f1, f2) cw - 1000 * cr) := by unfold Sh.dist Sh.absV; omega
    unfold Hid
    rw [← this]
    rfl
  have HD : Hid (∀ W, Calls Try.prog 103 #[.int .i64 (ct * Sh.ofV (f1, f2) cw - 1000 * cr)] W fun e w' => e = .returned (.int .i64 (Sh.absV (ct * Sh.ofV (f1, f2) cw - 1000 * cr))) ∧ w' = W) := fun W => absR_any _ W (by omega)
  clear hf hc hof m1
  generalize Sh.fitB (f1, f2) (cw, ct, cr, co) = R at *
  generalize Sh.ofV (f1, f2) cw = V at *
  generalize Sh.absV (ct * V - 1000 * cr) = D at *
  go_enter Try.func101, Try.ntmps101
  go_wp2_with fail
  have hB0 : Below w.heap.size w ((w.alloc (.cells #[.int .i64 cw, .int .i64 ct, .int .i64 cr, .int .i64 co] 29)).alloc (.cells #[.int .i64 f1, .int .i64 f2] 70)) := by (repeat' (first | (with_reducible exact Below.refl _ _) | (with_reducible assumption) | (with_reducible refine Below.alloc ?_ ?_ _) | (with_reducible refine Below.drew ?_) | (with_reducible refine Below.setCell ?_ ?_ _) | go_size | (exact (by simp)) | omega))
  have bC := (BoxS.new w 29 #[.int .i64 cw, .int .i64 ct, .int .i64 cr, .int .i64 co]).alloc (.cells #[.int .i64 f1, .int .i64 f2] 70)
  have bF := BoxS.new (w.alloc (.cells #[.int .i64 cw, .int .i64 ct, .int .i64 cr, .int .i64 co] 29)) 70 #[.int .i64 f1, .int .i64 f2]
  rw [World.size_alloc] at bF
  generalize World.alloc (World.alloc w _) _ = w1 at *
  refine (wpIn_wide (n := 4)).1 ?_
  have hmo : Try.prog.follows .mixedOrders = true := by kernel_rfl
  have q0 : Below w1.heap.size w1 w1.drew := (Below.refl _ _).drew
  have KC : Hid (∀ W', Below w1.heap.size w1 W' → (W'.cell? ⟨w.heap.size + 1, 0, none⟩ = some (.int .i64 f1) ∧ W'.cell? ⟨w.heap.size + 1, 1, none⟩ = some (.int .i64 f2)) ∧ (W'.cell? ⟨w.heap.size, 0, none⟩ = some (.int .i64 cw) ∧ W'.cell? ⟨w.heap.size, 1, none⟩ = some (.int .i64 ct) ∧ W'.cell? ⟨w.heap.size, 2, none⟩ = some (.int .i64 cr) ∧ W'.cell? ⟨w.heap.size, 3, none⟩ = some (.int .i64 co))) :=
    fun W' h => ⟨⟨(bF.below h).cell 0 rfl, (bF.below h).cell 1 rfl⟩, (bC.below h).cell 0 rfl, (bC.below h).cell 1 rfl, (bC.below h).cell 2 rfl, (bC.below h).cell 3 rfl⟩
  refine wpIn_region_held (fun W' => Below w1.heap.size w1 W') 30 hmo ?_
  refine wpHeldIn_take (i := 0) (v := ?_) (plain_of (by kernel_rfl)) rfl (by kernel_rfl) (fun _ _ _ h => h) (yieldsSoIn_of (by kernel_rfl) ?_ (fun _ => rfl)) q0 ?_; rotate_left; focus (intro wq hw; clear hw; go_simp; try (with_reducible rfl))
  refine wpHeldIn_take (i := 1) (v := ?_) (plain_of (by kernel_rfl)) rfl (by kernel_rfl) (fun _ _ _ h => h) (yieldsSoIn_of (by kernel_rfl) ?_ (fun _ => rfl)) q0 ?_; rotate_left; focus (intro wq hw; have kq := KC.out wq hw; clear hw; go_simp; try (with_reducible rfl))
  refine wpHeldIn_take (i := 2) (v := ?_) (plain_of (by kernel_rfl)) rfl (by kernel_rfl) (fun _ _ _ h => h) (yieldsSoIn_of (by kernel_rfl) ?_ (fun _ => rfl)) q0 ?_; rotate_left; focus (intro wq hw; have kq := KC.out wq hw; clear hw; go_simp; try (with_reducible rfl))
  refine wpHeldIn_take (i := 3) (v := ?_) (plain_of (by kernel_rfl)) rfl (by kernel_rfl) (fun _ _ _ h => h) (yieldsSoIn_of (by kernel_rfl) ?_ (fun _ => rfl)) q0 ?_; rotate_left; focus (intro wq hw; clear hw; go_simp; try (with_reducible rfl))
  refine wpHeldIn_take (i := 4) (v := ?_) (plain_of (by kernel_rfl)) rfl (by kernel_rfl) (fun _ _ _ h => h) (yieldsSoIn_of (by kernel_rfl) ?_ (fun _ => rfl)) q0 ?_; rotate_left; focus (intro wq hw; have kq := KC.out wq hw; clear hw; go_simp; try (with_reducible rfl))
  refine wpHeldIn_take (i := 7) (v := ?_) (plain_of (by kernel_rfl)) rfl (by kernel_rfl) (fun _ _ _ h => h) (yieldsSoIn_of (by kernel_rfl) ?_ (fun _ => rfl)) q0 ?_; rotate_left; focus (intro wq hw; clear hw; go_simp; try (with_reducible rfl))
  refine wpHeldIn_take (i := 8) (v := ?_) (plain_of (by kernel_rfl)) rfl (by kernel_rfl) (fun _ _ _ h => h) (yieldsSoIn_of (by kernel_rfl) ?_ (fun _ => rfl)) q0 ?_; rotate_left; focus (intro wq hw; have kq := KC.out wq hw; clear hw; go_simp; try (with_reducible rfl))
  refine wpHeldIn_take (i := 9) (v := ?_) (plain_of (by kernel_rfl)) rfl (by kernel_rfl) (fun _ _ _ h => h) (yieldsSoIn_of (by kernel_rfl) ?_ (fun _ => rfl)) q0 ?_; rotate_left; focus (intro wq hw; clear hw; go_simp; try (with_reducible rfl))
  refine wpHeldIn_take (i := 12) (v := ?_) (plain_of (by kernel_rfl)) rfl (by kernel_rfl) (fun _ _ _ h => h) (yieldsSoIn_of (by kernel_rfl) ?_ (fun _ => rfl)) q0 ?_; rotate_left; focus (intro wq hw; clear hw; go_simp; try (with_reducible rfl))
  refine wpHeldIn_take (i := 13) (v := ?_) (plain_of (by kernel_rfl)) rfl (by kernel_rfl) (fun _ _ _ h => h) (yieldsSoIn_of (by kernel_rfl) ?_ (fun _ => rfl)) q0 ?_; rotate_left; focus (intro wq hw; have kq := KC.out wq hw; clear hw; go_simp; try (with_reducible rfl))
  refine wpHeldIn_take (i := 14) (v := ?_) (plain_of (by kernel_rfl)) rfl (by kernel_rfl) (fun _ _ _ h => h) (yieldsSoIn_of (by kernel_rfl) ?_ (fun _ => rfl)) q0 ?_; rotate_left; focus (intro wq hw; clear hw; go_simp; try (with_reducible rfl))
  refine wpHeldIn_one (i := 5) (by kernel_rfl) (by kernel_rfl) rfl (by kernel_rfl) (fun K' hK' => ?_); go_simp; refine ⟨trivial, (callsIn_wide.2 (HO.out _)).mono ?_⟩; rintro e w2 ⟨rfl, hb2⟩
  have q1 := q0.trans (hb2.mono q0.size)
  refine hK' _ _ q1 ?_
  refine wpHeldIn_take (i := 6) (v := ?_) (plain_of (by kernel_rfl)) rfl (by kernel_rfl) (fun _ _ _ h => h) (yieldsSoIn_of (by kernel_rfl) ?_ (fun _ => rfl)) q1 ?_; rotate_left; focus (intro wq hw; clear hw; go_simp; try (with_reducible rfl))
  refine wpHeldIn_take (i := 10) (v := ?_) (plain_of (by kernel_rfl)) rfl (by kernel_rfl) (fun _ _ _ h => h) (yieldsSoIn_of (by kernel_rfl) ?_ (fun _ => rfl)) q1 ?_; rotate_left; focus (intro wq hw; clear hw; go_simp; try (with_reducible rfl))
  refine wpHeldIn_one (i := 11) (by kernel_rfl) (by kernel_rfl) rfl (by kernel_rfl) (fun K2 hK2 => ?_)
  go_simp
  refine ⟨trivial, (callsIn_wide.2 (HD.out _)).mono ?_⟩
  rintro e w3 ⟨rfl, rfl⟩
  refine hK2 _ _ q1 ?_
  refine wpHeldIn_take (i := 15) (v := ?_) (plain_of (by kernel_rfl)) rfl (by kernel_rfl) (fun _ _ _ h => h) (yieldsSoIn_of (by kernel_rfl) ?_ (fun _ => rfl)) q1 ?_; rotate_left; focus (intro wq hw; clear hw; go_simp; try (with_reducible rfl))
  refine wpHeldIn_take (i := 16) (v := ?_) (plain_of (by kernel_rfl)) rfl (by kernel_rfl) (fun _ _ _ h => h) (yieldsSoIn_of (by kernel_rfl) ?_ (fun _ => rfl)) q1 ?_; rotate_left; focus (intro wq hw; clear hw; go_simp; try (with_reducible rfl))
  refine wpHeldIn_done (by kernel_rfl) ?_ _
  go_simp
  have hBB := hB0.trans (q1.mono hB0.size)
  clear KC q0 q1
  go_wp2_with fail
  go_returns
  exact ⟨by rw [hfv.out]; rfl, hBB⟩

set_option maxRecDepth 100000 in
set_option maxHeartbeats 2000000 in
theorem Wrongs4_any (s : Sheet) (A : Option Addr) (c : Nat) (f : Sh.Fa) (w : World) (hl : s.cs.length ≤ 1000) (hf : Sh.fsm f) (hc : ∀ k, k < s.cs.length → Sh.csm (Sh.ctAt s.cs k)) (hg : Cts w w.heap.size A s.cs) :
    Calls Try.prog 94 #[.agg (shV s A c), .agg #[.int .i64 f.1, .int .i64 f.2]] w fun e w' => e = .returned (.int .i64 (Sh.wrongN f s.cs)) ∧ Below w.heap.size w w' := by
  obtain ⟨al, ah, bl, bh, cs, wrn⟩ := s
  obtain ⟨f1, f2⟩ := f
  dsimp only at *
  unfold shV
  dsimp only
  have HF : Hid (∀ k, k < cs.length → ∀ W, Calls Try.prog 101 #[.agg #[.int .i64 (Sh.ctAt cs k).1, .int .i64 (Sh.ctAt cs k).2.1, .int .i64 (Sh.ctAt cs k).2.2.1, .int .i64 (Sh.ctAt cs k).2.2.2], .agg #[.int .i64 f1, .int .i64 f2]] W fun e w' => e = .returned (.bool (Sh.fitB (f1, f2) (Sh.ctAt cs k))) ∧ Below W.heap.size W w') := fun k hk W => IsRight4_any (f1, f2) (Sh.ctAt cs k) W hf (hc k hk)
  have HG := Lib.hid hg
  have hll : (cs.length : Int) ≤ 1000 := by omega
  clear hf hc hg
  go_enter Try.func94, Try.ntmps94
  go_wp2_with fail
  have hB0 : Below w.heap.size w ((w.alloc (.cells #[.int .i64 al, .int .i64 ah, .int .i64 bl, .int .i64 bh, .slice A cs.length c, .int .i64 wrn] 26)).alloc (.cells #[.int .i64 f1, .int .i64 f2] 70)) := by (repeat' (first | (with_reducible exact Below.refl _ _) | (with_reducible assumption) | (with_reducible refine Below.alloc ?_ ?_ _) | (with_reducible refine Below.drew ?_) | (with_reducible refine Below.setCell ?_ ?_ _) | go_size | (exact (by simp)) | omega))
  have bS0 := (BoxS.new w 26 #[.int .i64 al, .int .i64 ah, .int .i64 bl, .int .i64 bh, .slice A cs.length c, .int .i64 wrn]).alloc (.cells #[.int .i64 f1, .int .i64 f2] 70)
  have bF0 := BoxS.new (w.alloc (.cells #[.int .i64 al, .int .i64 ah, .int .i64 bl, .int .i64 bh, .slice A cs.length c, .int .i64 wrn] 26)) 70 #[.int .i64 f1, .int .i64 f2]
  rw [World.size_alloc] at bF0
  generalize World.alloc (World.alloc w _) _ = w1 at *
  go_loopw [5, 6] (fun m x wr => ∃ k : Nat, (k : Int) ≤ cs.length ∧ x = .int .i64 k ∧ m = .int .i64 (Sh.wrongTo (f1, f2) cs k) ∧ BoxS wr w.heap.size 26 #[.int .i64 al, .int .i64 ah, .int .i64 bl, .int .i64 bh, .slice A cs.length c, .int .i64 wrn] ∧ BoxS wr (w.heap.size + 1) 70 #[.int .i64 f1, .int .i64 f2] ∧ Below w.heap.size w wr) (fun _ x _ => (cs.length - intOf x).toNat)
  case atStart => exact ⟨0, by omega, rfl, rfl, bS0, bF0, hB0⟩
  case round =>
    obtain ⟨k, hk, rfl, rfl, bS, bF, hB⟩ := hrel
    have hk0 := Int.natCast_nonneg k
    obtain ⟨⟨s0, s1, s2⟩, s3, s4, s5⟩ := boxS6 bS
    by_cases hlt : (k : Int) < cs.length
    · have hkn : k < cs.length := by omega
      obtain ⟨bb, off, rfl, hbb, hc⟩ := HG.out (by omega)
      have HF1 := Lib.hid (HF.out k hkn)
      have HS := Lib.hid (Sh.wrongTo_succ (f1, f2) cs k)
      have hwl := Sh.wrongTo_le (f1, f2) cs k
      have hw1 : IntKind.i64.wrap ((k : Int) + 1) = (k : Int) + 1 := IntWalk.i64_in _ (by omega)
      have hw2 : IntKind.i64.wrap ((Sh.wrongTo (f1, f2) cs k : Int) + 1) = ((Sh.wrongTo (f1, f2) cs k : Nat) : Int) + 1 := IntWalk.i64_in _ (by omega)
      have hlw : w.heap.size + 1 < wr.heap.size := bF.lt
      have HCC : Hid (∀ W', Below wr.heap.size wr W' → W'.cell? ⟨bb, off + k * 4, none⟩ = some (.int .i64 (Sh.ctAt cs k).1) ∧ W'.cell? ⟨bb, off + k * 4 + 1, none⟩ = some (.int .i64 (Sh.ctAt cs k).2.1) ∧ W'.cell? ⟨bb, off + k * 4 + 2, none⟩ = some (.int .i64 (Sh.ctAt cs k).2.2.1) ∧ W'.cell? ⟨bb, off + k * 4 + 3, none⟩ = some (.int .i64 (Sh.ctAt cs k).2.2.2)) := fun W' hW => by
        obtain ⟨h0, h1, h2, h3⟩ := hc k hkn
        have hBW := hB.trans (hW.mono hB.size)
        exact ⟨(hBW.cell (p := ⟨bb, _, none⟩) hbb).trans h0, (hBW.cell (p := ⟨bb, _, none⟩) hbb).trans h1, (hBW.cell (p := ⟨bb, _, none⟩) hbb).trans h2, (hBW.cell (p := ⟨bb, _, none⟩) hbb).trans h3⟩
      clear hc HF
      generalize Sh.fitB (f1, f2) (Sh.ctAt cs k) = b at *
      generalize Sh.ctAt cs k = ct at *
      generalize Sh.wrongTo (f1, f2) cs k = m at *
      obtain ⟨c0, c1, c2, c3⟩ := ct
      dsimp only at HCC HF1
      go_wp2_with fail
      refine (wpIn_wide (n := 4)).1 ?_
      have hmo : Try.prog.follows .mixedOrders = true := by kernel_rfl
      have q0 : Below wr.heap.size wr wr.drew := (Below.refl _ _).drew
      have KC : Hid (∀ W', Below wr.heap.size wr W' → (W'.cell? ⟨w.heap.size + 1, 0, none⟩ = some (.int .i64 f1) ∧ W'.cell? ⟨w.heap.size + 1, 1, none⟩ = some (.int .i64 f2)) ∧ (W'.cell? ⟨w.heap.size, 4, none⟩ = some (.slice (some ⟨bb, off, none⟩) cs.length c)) ∧ (W'.cell? ⟨bb, off + k * 4, none⟩ = some (.int .i64 c0) ∧ W'.cell? ⟨bb, off + k * 4 + 1, none⟩ = some (.int .i64 c1) ∧ W'.cell? ⟨bb, off + k * 4 + 2, none⟩ = some (.int .i64 c2) ∧ W'.cell? ⟨bb, off + k * 4 + 3, none⟩ = some (.int .i64 c3))) :=
        fun W' h => ⟨⟨(bF.below h).cell 0 rfl, (bF.below h).cell 1 rfl⟩, (bS.below h).cell 4 rfl, HCC.out W' h⟩
      clear HCC s0 s1 s2 s3 s4 s5
      refine wpIn_region_held (fun W' => Below wr.heap.size wr W') 30 hmo ?_
      refine wpHeldIn_take (i := 0) (v := ?_) (plain_of (by kernel_rfl)) rfl (by kernel_rfl) (fun _ _ _ h => h) (yieldsSoIn_of (by kernel_rfl) ?_ (fun _ => rfl)) q0 ?_; rotate_left; focus (intro wq hw; clear hw; go_simp; try (with_reducible rfl))
      refine wpHeldIn_take (i := 1) (v := ?_) (plain_of (by kernel_rfl)) rfl (by kernel_rfl) (fun _ _ _ h => h) (yieldsSoIn_of (by kernel_rfl) ?_ (fun _ => rfl)) q0 ?_; rotate_left; focus (intro wq hw; have kq := KC.out wq hw; clear hw; go_simp; try (with_reducible rfl))
      refine wpHeldIn_take (i := 2) (v := ?_) (plain_of (by kernel_rfl)) rfl (by kernel_rfl) (fun _ _ _ h => h) (yieldsSoIn_of (by kernel_rfl) ?_ (fun _ => rfl)) q0 ?_; rotate_left; focus (intro wq hw; clear hw; go_simp; try (with_reducible rfl))
      refine wpHeldIn_take (i := 3) (v := ?_) (plain_of (by kernel_rfl)) rfl (by kernel_rfl) (fun _ _ _ h => h) (yieldsSoIn_of (by kernel_rfl) ?_ (fun _ => rfl)) q0 ?_; rotate_left; focus (intro wq hw; clear hw; go_simp; try (with_reducible rfl))
      refine wpHeldIn_take (i := 4) (v := ?_) (plain_of (by kernel_rfl)) rfl (by kernel_rfl) (fun _ _ _ h => h) (yieldsSoIn_of (by kernel_rfl) ?_ (fun _ => rfl)) q0 ?_; rotate_left; focus (intro wq hw; have kq := KC.out wq hw; clear hw; go_simp; try (with_reducible rfl))
      refine wpHeldIn_take (i := 5) (v := ?_) (plain_of (by kernel_rfl)) rfl (by kernel_rfl) (fun _ _ _ h => h) (yieldsSoIn_of (by kernel_rfl) ?_ (fun _ => rfl)) q0 ?_; rotate_left; focus (intro wq hw; have kq := KC.out wq hw; clear hw; go_simp; try (with_reducible rfl))
      refine wpHeldIn_one (i := 6) (by kernel_rfl) (by kernel_rfl) rfl (by kernel_rfl) (fun K' hK' => ?_); go_simp; refine ⟨trivial, (callsIn_wide.2 (HF1.out _)).mono ?_⟩; rintro e w3 ⟨rfl, hb3⟩
      have q1 := q0.trans (hb3.mono q0.size)
      refine hK' _ _ q1 ?_
      refine wpHeldIn_take (i := 7) (v := ?_) (plain_of (by kernel_rfl)) rfl (by kernel_rfl) (fun _ _ _ h => h) (yieldsSoIn_of (by kernel_rfl) ?_ (fun _ => rfl)) q1 ?_; rotate_left; focus (intro wq hw; clear hw; go_simp; try (with_reducible rfl))
      refine wpHeldIn_done (by kernel_rfl) ?_ _
      go_simp
      have bF3 := bF.below q1
      have bS3 := bS.below q1
      have hB3 := hB.trans (q1.mono hB.size)
      clear KC q0 q1 bF bS
      cases b with
      | true =>
        have HS2 : Hid (Sh.wrongTo (f1, f2) cs (k + 1) = m) := HS.out
        go_wp2_with fail
        go_roundw
        case rel => exact ⟨k + 1, by omega, by go_num, by rw [HS2.out], bS3, bF3, hB3⟩
        case measure => simp [intOf]; omega
      | false =>
        have HS2 : Hid (((Sh.wrongTo (f1, f2) cs (k + 1) : Nat) : Int) = (m : Int) + 1) := by unfold Hid; rw [HS.out]; rfl
        go_wp2_with fail
        go_roundw
        case rel => exact ⟨k + 1, by omega, by go_num, by rw [HS2.out], bS3, bF3, hB3⟩
        case measure => simp [intOf]; omega
    · obtain rfl : k = cs.length := by omega
      go_wp2_with fail
      go_returns
      exact ⟨rfl, hB⟩
end Go.Proofs.Ytgpmnkdagpcffaa

namespace Go.Proofs.Ytgpmnkdagpcffaa
open Go.RowKit
namespace Sh
def truthB (s : Sheet) (f : Fa) : Bool := (inB f.1 s.al s.ah && inB f.2 s.bl s.bh) && decide ((wrongN f s.cs : Int) ≤ s.wr)
end Sh
set_option maxRecDepth 100000 in
set_option maxHeartbeats 4000000 in
theorem IsTruth4_any (s : Sheet) (hs : Sh.Ok s) (A : Option Addr) (c : Nat) (f : Sh.Fa) (w : World) (hg : Cts w w.heap.size A s.cs) :
    Calls Try.prog 37 #[.agg (shV s A c), .agg #[.int .i64 f.1, .int .i64 f.2]] w fun e w' => e = .returned (.bool (Sh.truthB s f)) ∧ Below w.heap.size w w' := by
  have HW : Hid (inB f.1 s.al s.ah = true → inB f.2 s.bl s.bh = true → ∀ W, Below w.heap.size w W → Calls Try.prog 94 #[.agg (shV s A c), .agg #[.int .i64 f.1, .int .i64 f.2]] W fun e w' => e = .returned (.int .i64 (Sh.wrongN f s.cs)) ∧ Below W.heap.size W w') := fun h1 h2 W hW =>
    Wrongs4_any s A c f W (by have := hs.n; omega) (by
      unfold inB at h1 h2
      simp only [Bool.and_eq_true, decide_eq_true_eq] at h1 h2
      have := hs.a1; have := hs.a3; have := hs.b1; have := hs.b3
      unfold Sh.fsm
      omega) (fun k hk => Sh.ctB_sm (hs.c k hk)) ((hg.keep hW).wider hW.size)
  have HR : Hid (Sh.truthB s f = ((inB f.1 s.al s.ah && inB f.2 s.bl s.bh) && decide ((Sh.wrongN f s.cs : Int) ≤ s.wr))) := rfl
  clear hs hg
  obtain ⟨al, ah, bl, bh, cs, wrn⟩ := s
  obtain ⟨f1, f2⟩ := f
  unfold shV at *
  dsimp only at *
  have H1 : Hid (∀ W, Calls Try.prog 77 #[.int .i64 f1, .int .i64 al, .int .i64 ah] W fun e w' => e = .returned (.bool (inB f1 al ah)) ∧ w' = W) := fun W => within4_any f1 al ah W
  have H2 : Hid (∀ W, Calls Try.prog 77 #[.int .i64 f2, .int .i64 bl, .int .i64 bh] W fun e w' => e = .returned (.bool (inB f2 bl bh)) ∧ w' = W) := fun W => within4_any f2 bl bh W
  generalize Sh.truthB _ _ = R at *
  generalize Sh.wrongN _ _ = m at *
  generalize inB f1 al ah = b1 at *
  generalize inB f2 bl bh = b2 at *
  go_enter Try.func37, Try.ntmps37
  go_wp2_with fail
  have hB0 : Below w.heap.size w ((w.alloc (.cells #[.int .i64 al, .int .i64 ah, .int .i64 bl, .int .i64 bh, .slice A cs.length c, .int .i64 wrn] 26)).alloc (.cells #[.int .i64 f1, .int .i64 f2] 70)) := by (repeat' (first | (with_reducible exact Below.refl _ _) | (with_reducible assumption) | (with_reducible refine Below.alloc ?_ ?_ _) | (with_reducible refine Below.drew ?_) | (with_reducible refine Below.setCell ?_ ?_ _) | go_size | (exact (by simp)) | omega))
  have bS := (BoxS.new w 26 #[.int .i64 al, .int .i64 ah, .int .i64 bl, .int .i64 bh, .slice A cs.length c, .int .i64 wrn]).alloc (.cells #[.int .i64 f1, .int .i64 f2] 70)
  have bF := BoxS.new (w.alloc (.cells #[.int .i64 al, .int .i64 ah, .int .i64 bl, .int .i64 bh, .slice A cs.length c, .int .i64 wrn] 26)) 70 #[.int .i64 f1, .int .i64 f2]
  rw [World.size_alloc] at bF
  generalize World.alloc (World.alloc w _) _ = w1 at *
  refine (wpIn_wide (n := 4)).1 ?_
  have hmo : Try.prog.follows .mixedOrders = true := by kernel_rfl
  have q0 : Below w1.heap.size w1 w1.drew := (Below.refl _ _).drew
  have KC : Hid (∀ W', Below w1.heap.size w1 W' → (W'.cell? ⟨w.heap.size + 1, 0, none⟩ = some (.int .i64 f1) ∧ W'.cell? ⟨w.heap.size + 1, 1, none⟩ = some (.int .i64 f2)) ∧ ((W'.cell? ⟨w.heap.size, 0, none⟩ = some (.int .i64 al) ∧ W'.cell? ⟨w.heap.size, 1, none⟩ = some (.int .i64 ah) ∧ W'.cell? ⟨w.heap.size, 2, none⟩ = some (.int .i64 bl)) ∧ W'.cell? ⟨w.heap.size, 3, none⟩ = some (.int .i64 bh) ∧ W'.cell? ⟨w.heap.size, 4, none⟩ = some (.slice A cs.length c) ∧ W'.cell? ⟨w.heap.size, 5, none⟩ = some (.int .i64 wrn))) :=
    fun W' h => ⟨boxS2 (bF.below h), boxS6 (bS.below h)⟩
  refine wpIn_region_held (fun W' => Below w1.heap.size w1 W') 60 hmo ?_
  refine wpHeldIn_take (i := 0) (v := ?_) (plain_of (by kernel_rfl)) rfl (by kernel_rfl) (fun _ _ _ h => h) (yieldsSoIn_of (by kernel_rfl) ?_ (fun _ => rfl)) q0 ?_; rotate_left; focus (intro wq hw; clear hw; go_simp; try (with_reducible rfl))
  refine wpHeldIn_take (i := 1) (v := ?_) (plain_of (by kernel_rfl)) rfl (by kernel_rfl) (fun _ _ _ h => h) (yieldsSoIn_of (by kernel_rfl) ?_ (fun _ => rfl)) q0 ?_; rotate_left; focus (intro wq hw; have kq := KC.out wq hw; clear hw; go_simp; try (with_reducible rfl))
  refine wpHeldIn_take (i := 2) (v := ?_) (plain_of (by kernel_rfl)) rfl (by kernel_rfl) (fun _ _ _ h => h) (yieldsSoIn_of (by kernel_rfl) ?_ (fun _ => rfl)) q0 ?_; rotate_left; focus (intro wq hw; clear hw; go_simp; try (with_reducible rfl))
  refine wpHeldIn_take (i := 3) (v := ?_) (plain_of (by kernel_rfl)) rfl (by kernel_rfl) (fun _ _ _ h => h) (yieldsSoIn_of (by kernel_rfl) ?_ (fun _ => rfl)) q0 ?_; rotate_left; focus (intro wq hw; clear hw; go_simp; try (with_reducible rfl))
  refine wpHeldIn_take (i := 4) (v := ?_) (plain_of (by kernel_rfl)) rfl (by kernel_rfl) (fun _ _ _ h => h) (yieldsSoIn_of (by kernel_rfl) ?_ (fun _ => rfl)) q0 ?_; rotate_left; focus (intro wq hw; have kq := KC.out wq hw; clear hw; go_simp; try (with_reducible rfl))
  refine wpHeldIn_take (i := 5) (v := ?_) (plain_of (by kernel_rfl)) rfl (by kernel_rfl) (fun _ _ _ h => h) (yieldsSoIn_of (by kernel_rfl) ?_ (fun _ => rfl)) q0 ?_; rotate_left; focus (intro wq hw; clear hw; go_simp; try (with_reducible rfl))
  refine wpHeldIn_take (i := 6) (v := ?_) (plain_of (by kernel_rfl)) rfl (by kernel_rfl) (fun _ _ _ h => h) (yieldsSoIn_of (by kernel_rfl) ?_ (fun _ => rfl)) q0 ?_; rotate_left; focus (intro wq hw; clear hw; go_simp; try (with_reducible rfl))
  refine wpHeldIn_take (i := 7) (v := ?_) (plain_of (by kernel_rfl)) rfl (by kernel_rfl) (fun _ _ _ h => h) (yieldsSoIn_of (by kernel_rfl) ?_ (fun _ => rfl)) q0 ?_; rotate_left; focus (intro wq hw; have kq := KC.out wq hw; clear hw; go_simp; try (with_reducible rfl))
  refine wpHeldIn_one (i := 8) (by kernel_rfl) (by kernel_rfl) rfl (by kernel_rfl) (fun K1 hK1 => ?_)
  go_simp
  refine ⟨trivial, (callsIn_wide.2 (H1.out _)).mono ?_⟩
  rintro e w2 ⟨rfl, rfl⟩
  refine hK1 _ _ q0 ?_
  cases b1 with
  | false =>
    refine wpHeldIn_take (i := 9) (v := ?_) (plain_of (by kernel_rfl)) rfl (by kernel_rfl) (fun _ _ _ h => h) (yieldsSoIn_of (by kernel_rfl) ?_ (fun _ => rfl)) q0 ?_; rotate_left; focus (intro wq hw; clear hw; go_simp; try (with_reducible rfl))
    refine wpHeldIn_skip (i := 10) (plain_of (by kernel_rfl)) rfl (by kernel_rfl) (by kernel_rfl) (fun _ => trivial) (by kernel_rfl) (fun _ _ _ h => h) q0 ?_
    refine wpHeldIn_skip (i := 11) (plain_of (by kernel_rfl)) rfl (by kernel_rfl) (by kernel_rfl) (fun _ => trivial) (by kernel_rfl) (fun _ _ _ h => h) q0 ?_
    refine wpHeldIn_skip (i := 12) (plain_of (by kernel_rfl)) rfl (by kernel_rfl) (by kernel_rfl) (fun _ => trivial) (by kernel_rfl) (fun _ _ _ h => h) q0 ?_
    refine wpHeldIn_skip (i := 13) (plain_of (by kernel_rfl)) rfl (by kernel_rfl) (by kernel_rfl) (fun _ => trivial) (by kernel_rfl) (fun _ _ _ h => h) q0 ?_
    refine wpHeldIn_skip (i := 14) (plain_of (by kernel_rfl)) rfl (by kernel_rfl) (by kernel_rfl) (fun _ => trivial) (by kernel_rfl) (fun _ _ _ h => h) q0 ?_
    refine wpHeldIn_skip (i := 15) (plain_of (by kernel_rfl)) rfl (by kernel_rfl) (by kernel_rfl) (fun _ => trivial) (by kernel_rfl) (fun _ _ _ h => h) q0 ?_
    refine wpHeldIn_skip (i := 16) (plain_of (by kernel_rfl)) rfl (by kernel_rfl) (by kernel_rfl) (fun _ => trivial) (by kernel_rfl) (fun _ _ _ h => h) q0 ?_
    refine wpHeldIn_skip (i := 17) (plain_of (by kernel_rfl)) rfl (by kernel_rfl) (by kernel_rfl) (fun _ => trivial) (by kernel_rfl) (fun _ _ _ h => h) q0 ?_
    refine wpHeldIn_skip (i := 18) (plain_of (by kernel_rfl)) rfl (by kernel_rfl) (by kernel_rfl) (fun _ => trivial) (by kernel_rfl) (fun _ _ _ h => h) q0 ?_
    refine wpHeldIn_take (i := 19) (v := ?_) (plain_of (by kernel_rfl)) rfl (by kernel_rfl) (fun _ _ _ h => h) (yieldsSoIn_of (by kernel_rfl) ?_ (fun _ => rfl)) q0 ?_; rotate_left; focus (intro wq hw; clear hw; go_simp; try (with_reducible rfl))
    refine wpHeldIn_take (i := 20) (v := ?_) (plain_of (by kernel_rfl)) rfl (by kernel_rfl) (fun _ _ _ h => h) (yieldsSoIn_of (by kernel_rfl) ?_ (fun _ => rfl)) q0 ?_; rotate_left; focus (intro wq hw; clear hw; go_simp; try (with_reducible rfl))
    refine wpHeldIn_skip (i := 21) (plain_of (by kernel_rfl)) rfl (by kernel_rfl) (by kernel_rfl) (fun _ => trivial) (by kernel_rfl) (fun _ _ _ h => h) q0 ?_
    refine wpHeldIn_skip (i := 22) (plain_of (by kernel_rfl)) rfl (by kernel_rfl) (by kernel_rfl) (fun _ => trivial) (by kernel_rfl) (fun _ _ _ h => h) q0 ?_
    refine wpHeldIn_skip (i := 23) (plain_of (by kernel_rfl)) rfl (by kernel_rfl) (by kernel_rfl) (fun _ => trivial) (by kernel_rfl) (fun _ _ _ h => h) q0 ?_
    refine wpHeldIn_skip (i := 24) (plain_of (by kernel_rfl)) rfl (by kernel_rfl) (by kernel_rfl) (fun _ => trivial) (by kernel_rfl) (fun _ _ _ h => h) q0 ?_
    refine wpHeldIn_skip (i := 25) (plain_of (by kernel_rfl)) rfl (by kernel_rfl) (by kernel_rfl) (fun _ => trivial) (by kernel_rfl) (fun _ _ _ h => h) q0 ?_
    refine wpHeldIn_skip (i := 26) (plain_of (by kernel_rfl)) rfl (by kernel_rfl) (by kernel_rfl) (fun _ => trivial) (by kernel_rfl) (fun _ _ _ h => h) q0 ?_
    refine wpHeldIn_take (i := 27) (v := ?_) (plain_of (by kernel_rfl)) rfl (by kernel_rfl) (fun _ _ _ h => h) (yieldsSoIn_of (by kernel_rfl) ?_ (fun _ => rfl)) q0 ?_; rotate_left; focus (intro wq hw; clear hw; go_simp; try (with_reducible rfl))
    refine wpHeldIn_take (i := 28) (v := ?_) (plain_of (by kernel_rfl)) rfl (by kernel_rfl) (fun _ _ _ h => h) (yieldsSoIn_of (by kernel_rfl) ?_ (fun _ => rfl)) q0 ?_; rotate_left; focus (intro wq hw; clear hw; go_simp; try (with_reducible rfl))
    refine wpHeldIn_done (by kernel_rfl) ?_ _
    go_simp
    have hBB := hB0.trans (q0.mono hB0.size)
    clear KC q0
    go_wp2_with fail
    go_returns
    exact ⟨by rw [HR.out]; rfl, hBB⟩
  | true =>
    refine wpHeldIn_take (i := 9) (v := ?_) (plain_of (by kernel_rfl)) rfl (by kernel_rfl) (fun _ _ _ h => h) (yieldsSoIn_of (by kernel_rfl) ?_ (fun _ => rfl)) q0 ?_; rotate_left; focus (intro wq hw; clear hw; go_simp; try (with_reducible rfl))
    refine wpHeldIn_take (i := 10) (v := ?_) (plain_of (by kernel_rfl)) rfl (by kernel_rfl) (fun _ _ _ h => h) (yieldsSoIn_of (by kernel_rfl) ?_ (fun _ => rfl)) q0 ?_; rotate_left; focus (intro wq hw; clear hw; go_simp; try (with_reducible rfl))
    refine wpHeldIn_take (i := 11) (v := ?_) (plain_of (by kernel_rfl)) rfl (by kernel_rfl) (fun _ _ _ h => h) (yieldsSoIn_of (by kernel_rfl) ?_ (fun _ => rfl)) q0 ?_; rotate_left; focus (intro wq hw; have kq := KC.out wq hw; clear hw; go_simp; try (with_reducible rfl))
    refine wpHeldIn_take (i := 12) (v := ?_) (plain_of (by kernel_rfl)) rfl (by kernel_rfl) (fun _ _ _ h => h) (yieldsSoIn_of (by kernel_rfl) ?_ (fun _ => rfl)) q0 ?_; rotate_left; focus (intro wq hw; clear hw; go_simp; try (with_reducible rfl))
    refine wpHeldIn_take (i := 13) (v := ?_) (plain_of (by kernel_rfl)) rfl (by kernel_rfl) (fun _ _ _ h => h) (yieldsSoIn_of (by kernel_rfl) ?_ (fun _ => rfl)) q0 ?_; rotate_left; focus (intro wq hw; clear hw; go_simp; try (with_reducible rfl))
    refine wpHeldIn_take (i := 14) (v := ?_) (plain_of (by kernel_rfl)) rfl (by kernel_rfl) (fun _ _ _ h => h) (yieldsSoIn_of (by kernel_rfl) ?_ (fun _ => rfl)) q0 ?_; rotate_left; focus (intro wq hw; have kq := KC.out wq hw; clear hw; go_simp; try (with_reducible rfl))
    refine wpHeldIn_take (i := 15) (v := ?_) (plain_of (by kernel_rfl)) rfl (by kernel_rfl) (fun _ _ _ h => h) (yieldsSoIn_of (by kernel_rfl) ?_ (fun _ => rfl)) q0 ?_; rotate_left; focus (intro wq hw; clear hw; go_simp; try (with_reducible rfl))
    refine wpHeldIn_take (i := 16) (v := ?_) (plain_of (by kernel_rfl)) rfl (by kernel_rfl) (fun _ _ _ h => h) (yieldsSoIn_of (by kernel_rfl) ?_ (fun _ => rfl)) q0 ?_; rotate_left; focus (intro wq hw; clear hw; go_simp; try (with_reducible rfl))
    refine wpHeldIn_take (i := 17) (v := ?_) (plain_of (by kernel_rfl)) rfl (by kernel_rfl) (fun _ _ _ h => h) (yieldsSoIn_of (by kernel_rfl) ?_ (fun _ => rfl)) q0 ?_; rotate_left; focus (intro wq hw; have kq := KC.out wq hw; clear hw; go_simp; try (with_reducible rfl))
    refine wpHeldIn_one (i := 18) (by kernel_rfl) (by kernel_rfl) rfl (by kernel_rfl) (fun K2 hK2 => ?_)
    go_simp
    refine ⟨trivial, (callsIn_wide.2 (H2.out _)).mono ?_⟩
    rintro e w3 ⟨rfl, rfl⟩
    refine hK2 _ _ q0 ?_
    cases b2 with
    | false =>
      refine wpHeldIn_take (i := 19) (v := ?_) (plain_of (by kernel_rfl)) rfl (by kernel_rfl) (fun _ _ _ h => h) (yieldsSoIn_of (by kernel_rfl) ?_ (fun _ => rfl)) q0 ?_; rotate_left; focus (intro wq hw; clear hw; go_simp; try (with_reducible rfl))
      refine wpHeldIn_take (i := 20) (v := ?_) (plain_of (by kernel_rfl)) rfl (by kernel_rfl) (fun _ _ _ h => h) (yieldsSoIn_of (by kernel_rfl) ?_ (fun _ => rfl)) q0 ?_; rotate_left; focus (intro wq hw; clear hw; go_simp; try (with_reducible rfl))
      refine wpHeldIn_skip (i := 21) (plain_of (by kernel_rfl)) rfl (by kernel_rfl) (by kernel_rfl) (fun _ => trivial) (by kernel_rfl) (fun _ _ _ h => h) q0 ?_
      refine wpHeldIn_skip (i := 22) (plain_of (by kernel_rfl)) rfl (by kernel_rfl) (by kernel_rfl) (fun _ => trivial) (by kernel_rfl) (fun _ _ _ h => h) q0 ?_
      refine wpHeldIn_skip (i := 23) (plain_of (by kernel_rfl)) rfl (by kernel_rfl) (by kernel_rfl) (fun _ => trivial) (by kernel_rfl) (fun _ _ _ h => h) q0 ?_
      refine wpHeldIn_skip (i := 24) (plain_of (by kernel_rfl)) rfl (by kernel_rfl) (by kernel_rfl) (fun _ => trivial) (by kernel_rfl) (fun _ _ _ h => h) q0 ?_
      refine wpHeldIn_skip (i := 25) (plain_of (by kernel_rfl)) rfl (by kernel_rfl) (by kernel_rfl) (fun _ => trivial) (by kernel_rfl) (fun _ _ _ h => h) q0 ?_
      refine wpHeldIn_skip (i := 26) (plain_of (by kernel_rfl)) rfl (by kernel_rfl) (by kernel_rfl) (fun _ => trivial) (by kernel_rfl) (fun _ _ _ h => h) q0 ?_
      refine wpHeldIn_take (i := 27) (v := ?_) (plain_of (by kernel_rfl)) rfl (by kernel_rfl) (fun _ _ _ h => h) (yieldsSoIn_of (by kernel_rfl) ?_ (fun _ => rfl)) q0 ?_; rotate_left; focus (intro wq hw; clear hw; go_simp; try (with_reducible rfl))
      refine wpHeldIn_take (i := 28) (v := ?_) (plain_of (by kernel_rfl)) rfl (by kernel_rfl) (fun _ _ _ h => h) (yieldsSoIn_of (by kernel_rfl) ?_ (fun _ => rfl)) q0 ?_; rotate_left; focus (intro wq hw; clear hw; go_simp; try (with_reducible rfl))
      refine wpHeldIn_done (by kernel_rfl) ?_ _
      go_simp
      have hBB := hB0.trans (q0.mono hB0.size)
      clear KC q0
      go_wp2_with fail
      go_returns
      exact ⟨by rw [HR.out]; rfl, hBB⟩
    | true =>
      have HW2 : Hid (∀ W, Below w1.heap.size w1 W → Calls Try.prog 94 #[.agg #[.int .i64 al, .int .i64 ah, .int .i64 bl, .int .i64 bh, .slice A cs.length c, .int .i64 wrn], .agg #[.int .i64 f1, .int .i64 f2]] W fun e w' => e = .returned (.int .i64 m) ∧ Below W.heap.size W w') := fun W hW => HW.out rfl rfl W (hB0.trans (hW.mono hB0.size))
      refine wpHeldIn_take (i := 19) (v := ?_) (plain_of (by kernel_rfl)) rfl (by kernel_rfl) (fun _ _ _ h => h) (yieldsSoIn_of (by kernel_rfl) ?_ (fun _ => rfl)) q0 ?_; rotate_left; focus (intro wq hw; clear hw; go_simp; try (with_reducible rfl))
      refine wpHeldIn_take (i := 20) (v := ?_) (plain_of (by kernel_rfl)) rfl (by kernel_rfl) (fun _ _ _ h => h) (yieldsSoIn_of (by kernel_rfl) ?_ (fun _ => rfl)) q0 ?_; rotate_left; focus (intro wq hw; clear hw; go_simp; try (with_reducible rfl))
      refine wpHeldIn_take (i := 21) (v := ?_) (plain_of (by kernel_rfl)) rfl (by kernel_rfl) (fun _ _ _ h => h) (yieldsSoIn_of (by kernel_rfl) ?_ (fun _ => rfl)) q0 ?_; rotate_left; focus (intro wq hw; have kq := KC.out wq hw; clear hw; go_simp; try (with_reducible rfl))
      refine wpHeldIn_take (i := 22) (v := ?_) (plain_of (by kernel_rfl)) rfl (by kernel_rfl) (fun _ _ _ h => h) (yieldsSoIn_of (by kernel_rfl) ?_ (fun _ => rfl)) q0 ?_; rotate_left; focus (intro wq hw; have kq := KC.out wq hw; clear hw; go_simp; try (with_reducible rfl))
      refine wpHeldIn_take (i := 24) (v := ?_) (plain_of (by kernel_rfl)) rfl (by kernel_rfl) (fun _ _ _ h => h) (yieldsSoIn_of (by kernel_rfl) ?_ (fun _ => rfl)) q0 ?_; rotate_left; focus (intro wq hw; clear hw; go_simp; try (with_reducible rfl))
      refine wpHeldIn_take (i := 25) (v := ?_) (plain_of (by kernel_rfl)) rfl (by kernel_rfl) (fun _ _ _ h => h) (yieldsSoIn_of (by kernel_rfl) ?_ (fun _ => rfl)) q0 ?_; rotate_left; focus (intro wq hw; have kq := KC.out wq hw; clear hw; go_simp; try (with_reducible rfl))
      refine wpHeldIn_one (i := 23) (by kernel_rfl) (by kernel_rfl) rfl (by kernel_rfl) (fun K3 hK3 => ?_)
      go_simp
      refine ⟨trivial, (callsIn_wide.2 (HW2.out _ q0)).mono ?_⟩
      rintro e w4 ⟨rfl, hb4⟩
      have q1 := q0.trans (hb4.mono q0.size)
      refine hK3 _ _ q1 ?_
      refine wpHeldIn_take (i := 26) (v := ?_) (plain_of (by kernel_rfl)) rfl (by kernel_rfl) (fun _ _ _ h => h) (yieldsSoIn_of (by kernel_rfl) ?_ (fun _ => rfl)) q1 ?_; rotate_left; focus (intro wq hw; clear hw; go_simp; try (with_reducible rfl))
      refine wpHeldIn_take (i := 27) (v := ?_) (plain_of (by kernel_rfl)) rfl (by kernel_rfl) (fun _ _ _ h => h) (yieldsSoIn_of (by kernel_rfl) ?_ (fun _ => rfl)) q1 ?_; rotate_left; focus (intro wq hw; clear hw; go_simp; try (with_reducible rfl))
      refine wpHeldIn_take (i := 28) (v := ?_) (plain_of (by kernel_rfl)) rfl (by kernel_rfl) (fun _ _ _ h => h) (yieldsSoIn_of (by kernel_rfl) ?_ (fun _ => rfl)) q1 ?_; rotate_left; focus (intro wq hw; clear hw; go_simp; try (with_reducible rfl))
      refine wpHeldIn_done (by kernel_rfl) ?_ _
      go_simp
      have hBB := hB0.trans (q1.mono hB0.size)
      clear KC q0 q1
      go_wp2_with fail
      go_returns
      exact ⟨by rw [HR.out]; rfl, hBB⟩
end Go.Proofs.Ytgpmnkdagpcffaa
