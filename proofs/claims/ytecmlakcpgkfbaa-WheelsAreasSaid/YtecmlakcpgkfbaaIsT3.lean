/- Wheels: how many walks are wrong, and whether an area and a skew are a truth, by the reference. -/
import Derived.Test.YtecmlakcpgkfbaaIsR3
namespace Go.Proofs.Ytecmlakcpgkfbaa
open Go.RowKit
set_option maxRecDepth 100000 in
set_option maxHeartbeats 4000000 in
theorem Wrongs3_any (d : Wh.Desk) (hok : Wh.okB d = true) (A : Option Addr) (c : Nat) (t : Wh.Tr) (w : World) (ht : Wh.tsm t) (hg : Wks w w.heap.size A d.ws) :
    Calls Try.prog 38 #[.agg (whV d), .slice A d.ws.length c, .agg #[.int .i64 t.1, .int .i64 t.2]] w fun e w' => e = .returned (.int .i64 (Wh.wrongN d t : Nat)) ∧ Below w.heap.size w w' := by
  have hd := Wh.ok_of hok
  have hln := Wh.ok_len hok
  have HF : Hid (∀ k, k < d.ws.length → ∀ W, Calls Try.prog 39 #[.agg (whV d), .agg #[.int .i64 (Wh.wkAt d.ws k).1, .int .i64 (Wh.wkAt d.ws k).2.1, .int .i64 (Wh.wkAt d.ws k).2.2.1, .int .i64 (Wh.wkAt d.ws k).2.2.2.1, .int .i64 (Wh.wkAt d.ws k).2.2.2.2], .agg #[.int .i64 t.1, .int .i64 t.2]] W fun e w' => e = .returned (.bool (Wh.rightB d (Wh.wkAt d.ws k) t)) ∧ Below W.heap.size W w') := fun k hk W => IsRight3_any d hd _ (by
    have := Wh.ok_wk hok k hk
    unfold Wh.wkB at this
    simp only [Bool.and_eq_true, Wh.signB_iff] at this
    exact this.1.1.1.1) (Wh.ok_sm hok k hk) t ht W
  have HG := Lib.hid hg
  have HS0 : Hid (∀ k, Wh.wrongTo d t (k + 1) = Wh.wrongTo d t k + (if Wh.rightB d (Wh.wkAt d.ws k) t then 0 else 1)) := fun k => rfl
  have HLE : Hid (∀ k, Wh.wrongTo d t k ≤ k) := Wh.wrongTo_le d t
  have HWN : Hid (Wh.wrongN d t = Wh.wrongTo d t d.ws.length) := rfl
  have HW0 : Hid (Wh.wrongTo d t 0 = 0) := rfl
  generalize Wh.wrongTo d t = WT at *
  generalize Wh.wrongN d t = WN at *
  obtain ⟨RBf, hRB⟩ : ∃ f : Nat → Bool, ∀ k, f k = Wh.rightB d (Wh.wkAt d.ws k) t := ⟨_, fun _ => rfl⟩
  simp only [← hRB] at HF HS0
  clear hRB hd hok hg ht
  obtain ⟨full, read, slip, skew, circ, glo, ghi, wrn, ws⟩ := d
  obtain ⟨t1, t2⟩ := t
  unfold whV at *
  dsimp only at *
  go_enter Try.func38, Try.ntmps38
  go_wp2_with fail
  have hB0 : Below w.heap.size w ((w.alloc (.cells #[.int .i64 full, .int .i64 read, .int .i64 slip, .int .i64 skew, .int .i64 circ, .int .i64 glo, .int .i64 ghi, .int .i64 wrn] 25)).alloc (.cells #[.int .i64 t1, .int .i64 t2] 47)) := by (repeat' (first | (with_reducible exact Below.refl _ _) | (with_reducible assumption) | (with_reducible refine Below.alloc ?_ ?_ _) | (with_reducible refine Below.drew ?_) | (with_reducible refine Below.setCell ?_ ?_ _) | go_size | (exact (by simp)) | omega))
  have bS0 := (BoxS.new w 25 #[.int .i64 full, .int .i64 read, .int .i64 slip, .int .i64 skew, .int .i64 circ, .int .i64 glo, .int .i64 ghi, .int .i64 wrn]).alloc (.cells #[.int .i64 t1, .int .i64 t2] 47)
  have bF0 := BoxS.new (w.alloc (.cells #[.int .i64 full, .int .i64 read, .int .i64 slip, .int .i64 skew, .int .i64 circ, .int .i64 glo, .int .i64 ghi, .int .i64 wrn] 25)) 47 #[.int .i64 t1, .int .i64 t2]
  rw [World.size_alloc] at bF0
  generalize World.alloc (World.alloc w _) _ = w1 at *
  go_loopw [7, 8] (fun m x wr => ∃ k : Nat, (k : Int) ≤ ws.length ∧ x = .int .i64 (k : Int) ∧ m = .int .i64 (WT k : Nat) ∧ BoxS wr w.heap.size 25 #[.int .i64 full, .int .i64 read, .int .i64 slip, .int .i64 skew, .int .i64 circ, .int .i64 glo, .int .i64 ghi, .int .i64 wrn] ∧ BoxS wr (w.heap.size + 1) 47 #[.int .i64 t1, .int .i64 t2] ∧ Below w.heap.size w wr) (fun _ x _ => (ws.length - intOf x).toNat)
  case atStart => exact ⟨0, by omega, rfl, by rw [HW0.out]; rfl, bS0, bF0, hB0⟩
  case round =>
    obtain ⟨k, hk, rfl, rfl, bS, bF, hB⟩ := hrel
    have hk0 := Int.natCast_nonneg k
    by_cases hlt : (k : Int) < ws.length
    · have hkn : k < ws.length := by omega
      obtain ⟨bb, off, hA, hbb, hc⟩ := HG.out (by omega)
      subst hA
      have HF1 := Lib.hid (HF.out k hkn)
      have HS := Lib.hid (HS0.out k)
      have hwl := HLE.out k
      have hw1 : IntKind.i64.wrap ((k : Int) + 1) = (k : Int) + 1 := IntWalk.i64_in _ (by omega)
      have hw2 : IntKind.i64.wrap ((WT k : Int) + 1) = ((WT k : Nat) : Int) + 1 := IntWalk.i64_in _ (by omega)
      have hlw : w.heap.size + 1 < wr.heap.size := bF.lt
      have HCC : Hid (∀ W', Below wr.heap.size wr W' → W'.cell? ⟨bb, off + k * 5, none⟩ = some (.int .i64 (Wh.wkAt ws k).1) ∧ W'.cell? ⟨bb, off + k * 5 + 1, none⟩ = some (.int .i64 (Wh.wkAt ws k).2.1) ∧ W'.cell? ⟨bb, off + k * 5 + 2, none⟩ = some (.int .i64 (Wh.wkAt ws k).2.2.1) ∧ W'.cell? ⟨bb, off + k * 5 + 3, none⟩ = some (.int .i64 (Wh.wkAt ws k).2.2.2.1) ∧ W'.cell? ⟨bb, off + k * 5 + 4, none⟩ = some (.int .i64 (Wh.wkAt ws k).2.2.2.2)) := fun W' hW => by
        obtain ⟨h0, h1, h2, h3, h4⟩ := hc k hkn
        have hBW := hB.trans (hW.mono hB.size)
        exact ⟨(hBW.cell (p := ⟨bb, _, none⟩) hbb).trans h0, (hBW.cell (p := ⟨bb, _, none⟩) hbb).trans h1, (hBW.cell (p := ⟨bb, _, none⟩) hbb).trans h2, (hBW.cell (p := ⟨bb, _, none⟩) hbb).trans h3, (hBW.cell (p := ⟨bb, _, none⟩) hbb).trans h4⟩
      clear hc HF HS0
      obtain ⟨m, hm⟩ : ∃ m, m = WT k := ⟨_, rfl⟩
      rw [← hm] at HS hwl hw2 ⊢
      obtain ⟨b, hb⟩ : ∃ b, b = RBf k := ⟨_, rfl⟩
      rw [← hb] at HS HF1
      clear hm hb
      generalize Wh.wkAt ws k = ct at *
      obtain ⟨c0, c1, c2, c3, c4⟩ := ct
      dsimp only at HCC HF1
      go_wp2_with fail
      refine (wpIn_wide (n := 4)).1 ?_
      have hmo : Try.prog.follows .mixedOrders = true := by kernel_rfl
      have q0 : Below wr.heap.size wr wr.drew := (Below.refl _ _).drew
      have KC : Hid (∀ W', Below wr.heap.size wr W' → (((W'.cell? ⟨w.heap.size, 0, none⟩ = some (.int .i64 full) ∧ W'.cell? ⟨w.heap.size, 1, none⟩ = some (.int .i64 read) ∧ W'.cell? ⟨w.heap.size, 2, none⟩ = some (.int .i64 slip)) ∧ W'.cell? ⟨w.heap.size, 3, none⟩ = some (.int .i64 skew) ∧ W'.cell? ⟨w.heap.size, 4, none⟩ = some (.int .i64 circ) ∧ W'.cell? ⟨w.heap.size, 5, none⟩ = some (.int .i64 glo)) ∧ W'.cell? ⟨w.heap.size, 6, none⟩ = some (.int .i64 ghi) ∧ W'.cell? ⟨w.heap.size, 7, none⟩ = some (.int .i64 wrn)) ∧ (W'.cell? ⟨w.heap.size + 1, 0, none⟩ = some (.int .i64 t1) ∧ W'.cell? ⟨w.heap.size + 1, 1, none⟩ = some (.int .i64 t2)) ∧ (W'.cell? ⟨bb, off + k * 5, none⟩ = some (.int .i64 c0) ∧ W'.cell? ⟨bb, off + k * 5 + 1, none⟩ = some (.int .i64 c1) ∧ W'.cell? ⟨bb, off + k * 5 + 2, none⟩ = some (.int .i64 c2) ∧ W'.cell? ⟨bb, off + k * 5 + 3, none⟩ = some (.int .i64 c3) ∧ W'.cell? ⟨bb, off + k * 5 + 4, none⟩ = some (.int .i64 c4))) :=
        fun W' h => ⟨boxS8 (bS.below h), ⟨(bF.below h).cell 0 rfl, (bF.below h).cell 1 rfl⟩, HCC.out W' h⟩
      clear HCC
      refine wpIn_region_held (fun W' => Below wr.heap.size wr W') 30 hmo ?_
      refine wpHeldIn_take (i := 0) (v := ?_) (plain_of (by kernel_rfl)) rfl (by kernel_rfl) (fun _ _ _ h => h) (yieldsSoIn_of (by kernel_rfl) ?_ (fun _ => rfl)) q0 ?_; rotate_left; focus (intro wq hw; have kq := KC.out wq hw; clear hw; go_simp; try (with_reducible rfl))
      refine wpHeldIn_take (i := 1) (v := ?_) (plain_of (by kernel_rfl)) rfl (by kernel_rfl) (fun _ _ _ h => h) (yieldsSoIn_of (by kernel_rfl) ?_ (fun _ => rfl)) q0 ?_; rotate_left; focus (intro wq hw; clear hw; go_simp; try (with_reducible rfl))
      refine wpHeldIn_take (i := 2) (v := ?_) (plain_of (by kernel_rfl)) rfl (by kernel_rfl) (fun _ _ _ h => h) (yieldsSoIn_of (by kernel_rfl) ?_ (fun _ => rfl)) q0 ?_; rotate_left; focus (intro wq hw; clear hw; go_simp; try (with_reducible rfl))
      refine wpHeldIn_take (i := 3) (v := ?_) (plain_of (by kernel_rfl)) rfl (by kernel_rfl) (fun _ _ _ h => h) (yieldsSoIn_of (by kernel_rfl) ?_ (fun _ => rfl)) q0 ?_; rotate_left; focus (intro wq hw; clear hw; go_simp; try (with_reducible rfl))
      refine wpHeldIn_take (i := 4) (v := ?_) (plain_of (by kernel_rfl)) rfl (by kernel_rfl) (fun _ _ _ h => h) (yieldsSoIn_of (by kernel_rfl) ?_ (fun _ => rfl)) q0 ?_; rotate_left; focus (intro wq hw; have kq := KC.out wq hw; clear hw; go_simp; try (with_reducible rfl))
      refine wpHeldIn_take (i := 5) (v := ?_) (plain_of (by kernel_rfl)) rfl (by kernel_rfl) (fun _ _ _ h => h) (yieldsSoIn_of (by kernel_rfl) ?_ (fun _ => rfl)) q0 ?_; rotate_left; focus (intro wq hw; have kq := KC.out wq hw; clear hw; go_simp; try (with_reducible rfl))
      refine wpHeldIn_one (i := 6) (by kernel_rfl) (by kernel_rfl) rfl (by kernel_rfl) (fun K' hK' => ?_); go_simp; refine ⟨trivial, (callsIn_wide.2 (HF1.out _)).mono ?_⟩; rintro e w3 ⟨rfl, hb3⟩
      have q1 := q0.trans (hb3.mono q0.size)
      refine hK' _ _ q1 ?_
      refine wpHeldIn_take (i := 7) (v := ?_) (plain_of (by kernel_rfl)) rfl (by kernel_rfl) (fun _ _ _ h => h) (yieldsSoIn_of (by kernel_rfl) ?_ (fun _ => rfl)) q1 ?_; rotate_left; focus (intro wq hw; clear hw; go_simp; try (with_reducible rfl))
      refine wpHeldIn_done (by kernel_rfl) ?_ _
      go_simp
      have bF3 := bF.below q1
      have bS3 := bS.below q1
      have hB3 := hB.trans (q1.mono hB.size)
      clear KC q0 q1 bF bS
      cases b with
      | true =>
        have HS2 : Hid (WT (k + 1) = m) := HS.out
        go_wp2_with fail
        go_roundw
        case rel => exact ⟨k + 1, by omega, by go_num, by rw [HS2.out], bS3, bF3, hB3⟩
        case measure => simp [intOf]; omega
      | false =>
        have HS2 : Hid (((WT (k + 1) : Nat) : Int) = (m : Int) + 1) := by unfold Hid; rw [HS.out]; rfl
        go_wp2_with fail
        go_roundw
        case rel => exact ⟨k + 1, by omega, by go_num, by rw [HS2.out], bS3, bF3, hB3⟩
        case measure => simp [intOf]; omega
    · obtain rfl : k = ws.length := by omega
      go_wp2_with fail
      go_returns
      exact ⟨by rw [HWN.out]; rfl, hB⟩
namespace Wh
def truthB (s : Desk) (f : Tr) : Bool := (inB f.1 s.glo s.ghi && inB f.2 (-s.skew) s.skew) && decide ((wrongN s f : Int) ≤ s.wr)
end Wh
set_option maxRecDepth 100000 in
set_option maxHeartbeats 4000000 in
theorem IsTruth3_any (d : Wh.Desk) (hok : Wh.okB d = true) (A : Option Addr) (c : Nat) (t : Wh.Tr) (w : World) (hg : Wks w w.heap.size A d.ws) :
    Calls Try.prog 36 #[.agg (whV d), .slice A d.ws.length c, .agg #[.int .i64 t.1, .int .i64 t.2]] w fun e w' => e = .returned (.bool (Wh.truthB d t)) ∧ Below w.heap.size w w' := by
  have hs := Wh.ok_of hok
  have HW : Hid (inB t.1 d.glo d.ghi = true → inB t.2 (-d.skew) d.skew = true → ∀ W, Below w.heap.size w W → Calls Try.prog 38 #[.agg (whV d), .slice A d.ws.length c, .agg #[.int .i64 t.1, .int .i64 t.2]] W fun e w' => e = .returned (.int .i64 (Wh.wrongN d t : Nat)) ∧ Below W.heap.size W w') := fun h1 h2 W hW =>
    Wrongs3_any d hok A c t W (by
      unfold inB at h1 h2
      simp only [Bool.and_eq_true, decide_eq_true_eq] at h1 h2
      have := hs.g1; have := hs.g3; have := hs.k1; have := hs.k2
      unfold Wh.tsm
      omega) ((hg.keep hW).wider hW.size)
  have HR : Hid (Wh.truthB d t = ((inB t.1 d.glo d.ghi && inB t.2 (-d.skew) d.skew) && decide ((Wh.wrongN d t : Int) ≤ d.wr))) := rfl
  have k1 := hs.k1
  have k2 := hs.k2
  have hwn : IntKind.i64.wrap (-d.skew) = -d.skew := IntWalk.i64_in _ (by omega)
  clear hs hg hok k1 k2
  generalize Wh.wrongN d t = m at *
  generalize Wh.truthB d t = R at *
  obtain ⟨full, read, slip, skew, circ, glo, ghi, wrn, ws⟩ := d
  obtain ⟨t1, t2⟩ := t
  unfold whV at *
  dsimp only at *
  have H1 : Hid (∀ W, Calls Try.prog 68 #[.int .i64 t1, .int .i64 glo, .int .i64 ghi] W fun e w' => e = .returned (.bool (inB t1 glo ghi)) ∧ w' = W) := fun W => within3_any t1 glo ghi W
  have H2 : Hid (∀ W, Calls Try.prog 68 #[.int .i64 t2, .int .i64 (-skew), .int .i64 skew] W fun e w' => e = .returned (.bool (inB t2 (-skew) skew)) ∧ w' = W) := fun W => within3_any t2 (-skew) skew W
  generalize inB t1 glo ghi = b1 at *
  generalize inB t2 (-skew) skew = b2 at *
  go_enter Try.func36, Try.ntmps36
  go_wp2_with fail
  have hB0 : Below w.heap.size w ((w.alloc (.cells #[.int .i64 full, .int .i64 read, .int .i64 slip, .int .i64 skew, .int .i64 circ, .int .i64 glo, .int .i64 ghi, .int .i64 wrn] 25)).alloc (.cells #[.int .i64 t1, .int .i64 t2] 47)) := by (repeat' (first | (with_reducible exact Below.refl _ _) | (with_reducible assumption) | (with_reducible refine Below.alloc ?_ ?_ _) | (with_reducible refine Below.drew ?_) | (with_reducible refine Below.setCell ?_ ?_ _) | go_size | (exact (by simp)) | omega))
  have bS0 := (BoxS.new w 25 #[.int .i64 full, .int .i64 read, .int .i64 slip, .int .i64 skew, .int .i64 circ, .int .i64 glo, .int .i64 ghi, .int .i64 wrn]).alloc (.cells #[.int .i64 t1, .int .i64 t2] 47)
  have bF0 := BoxS.new (w.alloc (.cells #[.int .i64 full, .int .i64 read, .int .i64 slip, .int .i64 skew, .int .i64 circ, .int .i64 glo, .int .i64 ghi, .int .i64 wrn] 25)) 47 #[.int .i64 t1, .int .i64 t2]
  rw [World.size_alloc] at bF0
  generalize World.alloc (World.alloc w _) _ = w1 at *
  refine (wpIn_wide (n := 4)).1 ?_
  have hmo : Try.prog.follows .mixedOrders = true := by kernel_rfl
  have q0 : Below w1.heap.size w1 w1.drew := (Below.refl _ _).drew
  have KC : Hid (∀ W', Below w1.heap.size w1 W' → (((W'.cell? ⟨w.heap.size, 0, none⟩ = some (.int .i64 full) ∧ W'.cell? ⟨w.heap.size, 1, none⟩ = some (.int .i64 read) ∧ W'.cell? ⟨w.heap.size, 2, none⟩ = some (.int .i64 slip)) ∧ W'.cell? ⟨w.heap.size, 3, none⟩ = some (.int .i64 skew) ∧ W'.cell? ⟨w.heap.size, 4, none⟩ = some (.int .i64 circ) ∧ W'.cell? ⟨w.heap.size, 5, none⟩ = some (.int .i64 glo)) ∧ W'.cell? ⟨w.heap.size, 6, none⟩ = some (.int .i64 ghi) ∧ W'.cell? ⟨w.heap.size, 7, none⟩ = some (.int .i64 wrn)) ∧ (W'.cell? ⟨w.heap.size + 1, 0, none⟩ = some (.int .i64 t1) ∧ W'.cell? ⟨w.heap.size + 1, 1, none⟩ = some (.int .i64 t2))) := fun W' h => ⟨boxS8 (bS0.below h), ⟨(bF0.below h).cell 0 rfl, (bF0.below h).cell 1 rfl⟩⟩
  refine wpIn_region_held (fun W' => Below w1.heap.size w1 W') 60 hmo ?_
  refine wpHeldIn_take (i := 0) (v := ?_) (plain_of (by kernel_rfl)) rfl (by kernel_rfl) (fun _ _ _ h => h) (yieldsSoIn_of (by kernel_rfl) ?_ (fun _ => rfl)) q0 ?_; rotate_left; focus (intro wq hw; clear hw; go_simp; try (with_reducible rfl))
  refine wpHeldIn_take (i := 1) (v := ?_) (plain_of (by kernel_rfl)) rfl (by kernel_rfl) (fun _ _ _ h => h) (yieldsSoIn_of (by kernel_rfl) ?_ (fun _ => rfl)) q0 ?_; rotate_left; focus (intro wq hw; have kq := KC.out wq hw; clear hw; go_simp; try (with_reducible rfl))
  refine wpHeldIn_take (i := 2) (v := ?_) (plain_of (by kernel_rfl)) rfl (by kernel_rfl) (fun _ _ _ h => h) (yieldsSoIn_of (by kernel_rfl) ?_ (fun _ => rfl)) q0 ?_; rotate_left; focus (intro wq hw; clear hw; go_simp; try (with_reducible rfl))
  refine wpHeldIn_take (i := 3) (v := ?_) (plain_of (by kernel_rfl)) rfl (by kernel_rfl) (fun _ _ _ h => h) (yieldsSoIn_of (by kernel_rfl) ?_ (fun _ => rfl)) q0 ?_; rotate_left; focus (intro wq hw; clear hw; go_simp; try (with_reducible rfl))
  refine wpHeldIn_take (i := 4) (v := ?_) (plain_of (by kernel_rfl)) rfl (by kernel_rfl) (fun _ _ _ h => h) (yieldsSoIn_of (by kernel_rfl) ?_ (fun _ => rfl)) q0 ?_; rotate_left; focus (intro wq hw; have kq := KC.out wq hw; clear hw; go_simp; try (with_reducible rfl))
  refine wpHeldIn_take (i := 5) (v := ?_) (plain_of (by kernel_rfl)) rfl (by kernel_rfl) (fun _ _ _ h => h) (yieldsSoIn_of (by kernel_rfl) ?_ (fun _ => rfl)) q0 ?_; rotate_left; focus (intro wq hw; clear hw; go_simp; try (with_reducible rfl))
  refine wpHeldIn_take (i := 6) (v := ?_) (plain_of (by kernel_rfl)) rfl (by kernel_rfl) (fun _ _ _ h => h) (yieldsSoIn_of (by kernel_rfl) ?_ (fun _ => rfl)) q0 ?_; rotate_left; focus (intro wq hw; clear hw; go_simp; try (with_reducible rfl))
  refine wpHeldIn_take (i := 7) (v := ?_) (plain_of (by kernel_rfl)) rfl (by kernel_rfl) (fun _ _ _ h => h) (yieldsSoIn_of (by kernel_rfl) ?_ (fun _ => rfl)) q0 ?_; rotate_left; focus (intro wq hw; have kq := KC.out wq hw; clear hw; go_simp; try (with_reducible rfl))
  refine wpHeldIn_one (i := 8) (by kernel_rfl) (by kernel_rfl) rfl (by kernel_rfl) (fun K1 hK1 => ?_)
  go_simp
  refine ⟨trivial, (callsIn_wide.2 (H1.out _)).mono ?_⟩
  rintro e w2 ⟨rfl, hw2⟩
  have hw2 := hw2.symm
  subst hw2
  refine hK1 _ _ q0 ?_
  cases b1 with
  | false =>
    refine wpHeldIn_take (i := 9) (v := ?_) (plain_of (by kernel_rfl)) rfl (by kernel_rfl) (fun _ _ _ h => h) (yieldsSoIn_of (by kernel_rfl) ?_ (fun _ => rfl)) q0 ?_; rotate_left; focus (intro wq hw; clear hw; go_simp; try (with_reducible rfl))
    refine wpHeldIn_skip (i := 10) (plain_of (by kernel_rfl)) rfl (by kernel_rfl) (by kernel_rfl) (fun _ => trivial) (by kernel_rfl) (fun _ _ _ h => h) q0 ?_
    refine wpHeldIn_skip (i := 11) (plain_of (by kernel_rfl)) rfl (by kernel_rfl) (by kernel_rfl) (fun _ => trivial) (by kernel_rfl) (fun _ _ _ h => h) q0 ?_
    refine wpHeldIn_skip (i := 12) (plain_of (by kernel_rfl)) rfl (by kernel_rfl) (by kernel_rfl) (fun _ => trivial) (by kernel_rfl) (fun _ _ _ h => h) q0 ?_
    refine wpHeldIn_skip (i := 13) (plain_of (by kernel_rfl)) rfl (by kernel_rfl) (by kernel_rfl) (fun _ => trivial) (by kernel_rfl) (fun _ _ _ h => h) q0 ?_
    refine wpHeldIn_skip (i := 14) (plain_of (by kernel_rfl)) rfl (by kernel_rfl) (by kernel_rfl) (fun _ => trivial) (by kernel_rfl) (fun _ _ _ h => h) q0 ?_
    refine wpHeldIn_skip (i := 15) (plain_of (by kernel_rfl)) rfl (by kernel_rfl) (by kernel_rfl) (fun _ => trivial) (by kernel_rfl) (fun _ _ _ h => h) q0 ?_
    refine wpHeldIn_skip (i := 16) (plain_of (by kernel_rfl)) rfl (by kernel_rfl) (by kernel_rfl) (fun _ => trivial) (by kernel_rfl) (fun _ _ _ h => h) q0 ?_
    refine wpHeldIn_skip (i := 17) (plain_of (by kernel_rfl)) rfl (by kernel_rfl) (by kernel_rfl) (fun _ => trivial) (by kernel_rfl) (fun _ _ _ h => h) q0 ?_
    refine wpHeldIn_take (i := 18) (v := ?_) (plain_of (by kernel_rfl)) rfl (by kernel_rfl) (fun _ _ _ h => h) (yieldsSoIn_of (by kernel_rfl) ?_ (fun _ => rfl)) q0 ?_; rotate_left; focus (intro wq hw; clear hw; go_simp; try (with_reducible rfl))
    refine wpHeldIn_take (i := 19) (v := ?_) (plain_of (by kernel_rfl)) rfl (by kernel_rfl) (fun _ _ _ h => h) (yieldsSoIn_of (by kernel_rfl) ?_ (fun _ => rfl)) q0 ?_; rotate_left; focus (intro wq hw; clear hw; go_simp; try (with_reducible rfl))
    refine wpHeldIn_skip (i := 20) (plain_of (by kernel_rfl)) rfl (by kernel_rfl) (by kernel_rfl) (fun _ => trivial) (by kernel_rfl) (fun _ _ _ h => h) q0 ?_
    refine wpHeldIn_skip (i := 21) (plain_of (by kernel_rfl)) rfl (by kernel_rfl) (by kernel_rfl) (fun _ => trivial) (by kernel_rfl) (fun _ _ _ h => h) q0 ?_
    refine wpHeldIn_skip (i := 22) (plain_of (by kernel_rfl)) rfl (by kernel_rfl) (by kernel_rfl) (fun _ => trivial) (by kernel_rfl) (fun _ _ _ h => h) q0 ?_
    refine wpHeldIn_skip (i := 23) (plain_of (by kernel_rfl)) rfl (by kernel_rfl) (by kernel_rfl) (fun _ => trivial) (by kernel_rfl) (fun _ _ _ h => h) q0 ?_
    refine wpHeldIn_skip (i := 24) (plain_of (by kernel_rfl)) rfl (by kernel_rfl) (by kernel_rfl) (fun _ => trivial) (by kernel_rfl) (fun _ _ _ h => h) q0 ?_
    refine wpHeldIn_skip (i := 25) (plain_of (by kernel_rfl)) rfl (by kernel_rfl) (by kernel_rfl) (fun _ => trivial) (by kernel_rfl) (fun _ _ _ h => h) q0 ?_
    refine wpHeldIn_skip (i := 26) (plain_of (by kernel_rfl)) rfl (by kernel_rfl) (by kernel_rfl) (fun _ => trivial) (by kernel_rfl) (fun _ _ _ h => h) q0 ?_
    refine wpHeldIn_take (i := 27) (v := ?_) (plain_of (by kernel_rfl)) rfl (by kernel_rfl) (fun _ _ _ h => h) (yieldsSoIn_of (by kernel_rfl) ?_ (fun _ => rfl)) q0 ?_; rotate_left; focus (intro wq hw; clear hw; go_simp; try (with_reducible rfl))
    refine wpHeldIn_take (i := 28) (v := ?_) (plain_of (by kernel_rfl)) rfl (by kernel_rfl) (fun _ _ _ h => h) (yieldsSoIn_of (by kernel_rfl) ?_ (fun _ => rfl)) q0 ?_; rotate_left; focus (intro wq hw; clear hw; go_simp; try (with_reducible rfl))
    refine wpHeldIn_done (by kernel_rfl) ?_ _
    go_simp
    have hBB := hB0.trans (q0.mono hB0.size)
    clear KC q0
    go_wp2_with fail
    go_returns
    exact ⟨by rw [HR.out]; rfl, hBB⟩
  | true =>
    refine wpHeldIn_take (i := 9) (v := ?_) (plain_of (by kernel_rfl)) rfl (by kernel_rfl) (fun _ _ _ h => h) (yieldsSoIn_of (by kernel_rfl) ?_ (fun _ => rfl)) q0 ?_; rotate_left; focus (intro wq hw; clear hw; go_simp; try (with_reducible rfl))
    refine wpHeldIn_take (i := 10) (v := ?_) (plain_of (by kernel_rfl)) rfl (by kernel_rfl) (fun _ _ _ h => h) (yieldsSoIn_of (by kernel_rfl) ?_ (fun _ => rfl)) q0 ?_; rotate_left; focus (intro wq hw; clear hw; go_simp; try (with_reducible rfl))
    refine wpHeldIn_take (i := 11) (v := ?_) (plain_of (by kernel_rfl)) rfl (by kernel_rfl) (fun _ _ _ h => h) (yieldsSoIn_of (by kernel_rfl) ?_ (fun _ => rfl)) q0 ?_; rotate_left; focus (intro wq hw; have kq := KC.out wq hw; clear hw; go_simp; try (with_reducible rfl))
    refine wpHeldIn_take (i := 12) (v := ?_) (plain_of (by kernel_rfl)) rfl (by kernel_rfl) (fun _ _ _ h => h) (yieldsSoIn_of (by kernel_rfl) ?_ (fun _ => rfl)) q0 ?_; rotate_left; focus (intro wq hw; clear hw; go_simp; try (with_reducible rfl))
    refine wpHeldIn_take (i := 13) (v := ?_) (plain_of (by kernel_rfl)) rfl (by kernel_rfl) (fun _ _ _ h => h) (yieldsSoIn_of (by kernel_rfl) ?_ (fun _ => rfl)) q0 ?_; rotate_left; focus (intro wq hw; have kq := KC.out wq hw; clear hw; go_simp; try (with_reducible rfl))
    refine wpHeldIn_take (i := 14) (v := ?_) (plain_of (by kernel_rfl)) rfl (by kernel_rfl) (fun _ _ _ h => h) (yieldsSoIn_of (by kernel_rfl) ?_ (fun _ => rfl)) q0 ?_; rotate_left; focus (intro wq hw; clear hw; go_simp; try (with_reducible rfl))
    refine wpHeldIn_take (i := 15) (v := ?_) (plain_of (by kernel_rfl)) rfl (by kernel_rfl) (fun _ _ _ h => h) (yieldsSoIn_of (by kernel_rfl) ?_ (fun _ => rfl)) q0 ?_; rotate_left; focus (intro wq hw; clear hw; go_simp; try (with_reducible rfl))
    refine wpHeldIn_take (i := 16) (v := ?_) (plain_of (by kernel_rfl)) rfl (by kernel_rfl) (fun _ _ _ h => h) (yieldsSoIn_of (by kernel_rfl) ?_ (fun _ => rfl)) q0 ?_; rotate_left; focus (intro wq hw; have kq := KC.out wq hw; clear hw; go_simp; try (with_reducible rfl))
    refine wpHeldIn_one (i := 17) (by kernel_rfl) (by kernel_rfl) rfl (by kernel_rfl) (fun K2 hK2 => ?_)
    go_simp
    refine ⟨trivial, (callsIn_wide.2 (H2.out _)).mono ?_⟩
    rintro e w2 ⟨rfl, hw2⟩
    have hw2 := hw2.symm
    subst hw2
    refine hK2 _ _ q0 ?_
    cases b2 with
    | false =>
      refine wpHeldIn_take (i := 18) (v := ?_) (plain_of (by kernel_rfl)) rfl (by kernel_rfl) (fun _ _ _ h => h) (yieldsSoIn_of (by kernel_rfl) ?_ (fun _ => rfl)) q0 ?_; rotate_left; focus (intro wq hw; clear hw; go_simp; try (with_reducible rfl))
      refine wpHeldIn_take (i := 19) (v := ?_) (plain_of (by kernel_rfl)) rfl (by kernel_rfl) (fun _ _ _ h => h) (yieldsSoIn_of (by kernel_rfl) ?_ (fun _ => rfl)) q0 ?_; rotate_left; focus (intro wq hw; clear hw; go_simp; try (with_reducible rfl))
      refine wpHeldIn_skip (i := 20) (plain_of (by kernel_rfl)) rfl (by kernel_rfl) (by kernel_rfl) (fun _ => trivial) (by kernel_rfl) (fun _ _ _ h => h) q0 ?_
      refine wpHeldIn_skip (i := 21) (plain_of (by kernel_rfl)) rfl (by kernel_rfl) (by kernel_rfl) (fun _ => trivial) (by kernel_rfl) (fun _ _ _ h => h) q0 ?_
      refine wpHeldIn_skip (i := 22) (plain_of (by kernel_rfl)) rfl (by kernel_rfl) (by kernel_rfl) (fun _ => trivial) (by kernel_rfl) (fun _ _ _ h => h) q0 ?_
      refine wpHeldIn_skip (i := 23) (plain_of (by kernel_rfl)) rfl (by kernel_rfl) (by kernel_rfl) (fun _ => trivial) (by kernel_rfl) (fun _ _ _ h => h) q0 ?_
      refine wpHeldIn_skip (i := 24) (plain_of (by kernel_rfl)) rfl (by kernel_rfl) (by kernel_rfl) (fun _ => trivial) (by kernel_rfl) (fun _ _ _ h => h) q0 ?_
      refine wpHeldIn_skip (i := 25) (plain_of (by kernel_rfl)) rfl (by kernel_rfl) (by kernel_rfl) (fun _ => trivial) (by kernel_rfl) (fun _ _ _ h => h) q0 ?_
      refine wpHeldIn_skip (i := 26) (plain_of (by kernel_rfl)) rfl (by kernel_rfl) (by kernel_rfl) (fun _ => trivial) (by kernel_rfl) (fun _ _ _ h => h) q0 ?_
      refine wpHeldIn_take (i := 27) (v := ?_) (plain_of (by kernel_rfl)) rfl (by kernel_rfl) (fun _ _ _ h => h) (yieldsSoIn_of (by kernel_rfl) ?_ (fun _ => rfl)) q0 ?_; rotate_left; focus (intro wq hw; clear hw; go_simp; try (with_reducible rfl))
      refine wpHeldIn_take (i := 28) (v := ?_) (plain_of (by kernel_rfl)) rfl (by kernel_rfl) (fun _ _ _ h => h) (yieldsSoIn_of (by kernel_rfl) ?_ (fun _ => rfl)) q0 ?_; rotate_left; focus (intro wq hw; clear hw; go_simp; try (with_reducible rfl))
      refine wpHeldIn_done (by kernel_rfl) ?_ _
      go_simp
      have hBB := hB0.trans (q0.mono hB0.size)
      clear KC q0
      go_wp2_with fail
      go_returns
      exact ⟨by rw [HR.out]; rfl, hBB⟩
    | true =>
      have HW1 := Lib.hid (HW.out (by trivial) (by trivial) w1.drew (hB0.trans (q0.mono hB0.size)))
      refine wpHeldIn_take (i := 18) (v := ?_) (plain_of (by kernel_rfl)) rfl (by kernel_rfl) (fun _ _ _ h => h) (yieldsSoIn_of (by kernel_rfl) ?_ (fun _ => rfl)) q0 ?_; rotate_left; focus (intro wq hw; clear hw; go_simp; try (with_reducible rfl))
      refine wpHeldIn_take (i := 19) (v := ?_) (plain_of (by kernel_rfl)) rfl (by kernel_rfl) (fun _ _ _ h => h) (yieldsSoIn_of (by kernel_rfl) ?_ (fun _ => rfl)) q0 ?_; rotate_left; focus (intro wq hw; clear hw; go_simp; try (with_reducible rfl))
      refine wpHeldIn_take (i := 20) (v := ?_) (plain_of (by kernel_rfl)) rfl (by kernel_rfl) (fun _ _ _ h => h) (yieldsSoIn_of (by kernel_rfl) ?_ (fun _ => rfl)) q0 ?_; rotate_left; focus (intro wq hw; have kq := KC.out wq hw; clear hw; go_simp; try (with_reducible rfl))
      refine wpHeldIn_take (i := 21) (v := ?_) (plain_of (by kernel_rfl)) rfl (by kernel_rfl) (fun _ _ _ h => h) (yieldsSoIn_of (by kernel_rfl) ?_ (fun _ => rfl)) q0 ?_; rotate_left; focus (intro wq hw; clear hw; go_simp; try (with_reducible rfl))
      refine wpHeldIn_take (i := 22) (v := ?_) (plain_of (by kernel_rfl)) rfl (by kernel_rfl) (fun _ _ _ h => h) (yieldsSoIn_of (by kernel_rfl) ?_ (fun _ => rfl)) q0 ?_; rotate_left; focus (intro wq hw; have kq := KC.out wq hw; clear hw; go_simp; try (with_reducible rfl))
      refine wpHeldIn_take (i := 24) (v := ?_) (plain_of (by kernel_rfl)) rfl (by kernel_rfl) (fun _ _ _ h => h) (yieldsSoIn_of (by kernel_rfl) ?_ (fun _ => rfl)) q0 ?_; rotate_left; focus (intro wq hw; clear hw; go_simp; try (with_reducible rfl))
      refine wpHeldIn_take (i := 25) (v := ?_) (plain_of (by kernel_rfl)) rfl (by kernel_rfl) (fun _ _ _ h => h) (yieldsSoIn_of (by kernel_rfl) ?_ (fun _ => rfl)) q0 ?_; rotate_left; focus (intro wq hw; have kq := KC.out wq hw; clear hw; go_simp; try (with_reducible rfl))
      refine wpHeldIn_one (i := 23) (by kernel_rfl) (by kernel_rfl) rfl (by kernel_rfl) (fun K3 hK3 => ?_)
      go_simp
      refine ⟨trivial, (callsIn_wide.2 HW1.out).mono ?_⟩
      rintro e w3 ⟨rfl, hb3⟩
      have q1 := q0.trans (hb3.mono q0.size)
      refine hK3 _ _ q1 ?_
      refine wpHeldIn_take (i := 26) (v := ?_) (plain_of (by kernel_rfl)) rfl (by kernel_rfl) (fun _ _ _ h => h) (yieldsSoIn_of (by kernel_rfl) ?_ (fun _ => rfl)) q1 ?_; rotate_left; focus (intro wq hw; clear hw; go_simp; try (with_reducible rfl))
      refine wpHeldIn_take (i := 27) (v := ?_) (plain_of (by kernel_rfl)) rfl (by kernel_rfl) (fun _ _ _ h => h) (yieldsSoIn_of (by kernel_rfl) ?_ (fun _ => rfl)) q1 ?_; rotate_left; focus (intro wq hw; clear hw; go_simp; try (with_reducible rfl))
      refine wpHeldIn_take (i := 28) (v := ?_) (plain_of (by kernel_rfl)) rfl (by kernel_rfl) (fun _ _ _ h => h) (yieldsSoIn_of (by kernel_rfl) ?_ (fun _ => rfl)) q1 ?_; rotate_left; focus (intro wq hw; clear hw; go_simp; try (with_reducible rfl))
      refine wpHeldIn_done (by kernel_rfl) ?_ _
      go_simp
      have hBB := hB0.trans (q1.mono hB0.size)
      clear KC q0 q1
      go_wp2_with fail
      go_returns
      exact ⟨by rw [HR.out]; rfl, hBB⟩
end Go.Proofs.Ytecmlakcpgkfbaa
