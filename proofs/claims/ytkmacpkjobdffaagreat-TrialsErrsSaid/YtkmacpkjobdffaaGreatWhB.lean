/- Wheels: whether a walk is right, and how many are not. -/
import Derived.Test.YtkmacpkjobdffaaGreatWhA
namespace Go.Proofs.YtkmacpkjobdffaaGreat
open Go.RowKit
set_option maxRecDepth 100000 in
set_option maxHeartbeats 2000000 in
theorem loose_any (d : Wh.Desk) (hd : Wh.Ok d) (A : Option Addr) (c : Nat) (w : World) :
    Calls Tryz.prog 159 #[.agg (dkV d A c)] w fun e w' => e = .returned (.int .i64 (Wh.looseV d)) ∧ Below w.heap.size w w' := by
  have h1 := hd.r1
  have h2 := hd.r2
  have h3 := hd.s1
  have h4 := hd.s2
  have hl : Hid (Wh.looseV d = d.slip + 4 * d.read) := rfl
  have hw1 : IntKind.i64.wrap (4 * d.read) = 4 * d.read := IntWalk.i64_in _ (by omega)
  have hw2 : IntKind.i64.wrap (d.slip + 4 * d.read) = d.slip + 4 * d.read := IntWalk.i64_in _ (by omega)
  generalize Wh.looseV d = L at *
  clear hd
  obtain ⟨full, read, slip, skew, circ, glo, ghi, wrn, ws⟩ := d
  dsimp only at *
  go_enter Tryz.func159, Tryz.ntmps159
  go_wp2_with fail
  go_returns
  exact ⟨by rw [hl.out]; rfl, by (repeat' (first | (with_reducible exact Below.refl _ _) | (with_reducible assumption) | (with_reducible refine Below.alloc ?_ ?_ _) | (with_reducible refine Below.drew ?_) | (with_reducible refine Below.setCell ?_ ?_ _) | go_size | (exact (by simp)) | omega))⟩

set_option maxRecDepth 100000 in
set_option maxHeartbeats 4000000 in
theorem right_any (d : Wh.Desk) (hd : Wh.Ok d) (A : Option Addr) (c : Nat) (k : Wh.Wk) (t : Wh.Tr) (w : World) (hk : Wh.ksm k) (ht : Wh.tsm t) :
    Calls Tryz.prog 141 #[.agg (dkV d A c), .agg #[.int .i64 k.1, .int .i64 k.2.1, .int .i64 k.2.2.1, .int .i64 k.2.2.2.1, .int .i64 k.2.2.2.2], .agg #[.int .i64 t.1, .int .i64 t.2]] w fun e w' => e = .returned (.bool (Wh.rightB d k t)) ∧ Below w.heap.size w w' := by
  have HL : Hid (∀ W, Calls Tryz.prog 159 #[.agg (dkV d A c)] W fun e w' => e = .returned (.int .i64 (Wh.looseV d)) ∧ Below W.heap.size W w') := fun W => loose_any d hd A c W
  have HR : Hid (Wh.rightB d k t = decide (Wh.modV (Wh.missV d.full d.read d.circ k t) d.full ≤ Wh.looseV d)) := rfl
  have hf1 := hd.f1
  have hf2 := hd.f2
  have hr1 := hd.r1
  have hr2 := hd.r2
  have hc1 := hd.c1
  have hc2 := hd.c2
  clear hd
  obtain ⟨se, si, ins, st, en⟩ := k
  obtain ⟨ar, sk⟩ := t
  obtain ⟨full, read, slip, skew, circ, glo, ghi, wrn, ws⟩ := d
  unfold Wh.ksm at hk
  unfold Wh.tsm at ht
  unfold dkV at *
  dsimp only at *
  obtain ⟨⟨a1, a2⟩, ⟨a3, a4⟩, ⟨a5, a6⟩, ⟨a7, a8⟩, a9, a10⟩ := hk
  obtain ⟨⟨b1, b2⟩, b3, b4⟩ := ht
  have m1 := mul_bd (a := ins) (b := circ) (x := 1) (y := 9999) (by omega) (by omega) (by omega) (by omega)
  have hw1 : IntKind.i64.wrap (ins * circ) = ins * circ := IntWalk.i64_in _ (by omega)
  have hw2 : IntKind.i64.wrap (ar - ins * circ) = ar - ins * circ := IntWalk.i64_in _ (by omega)
  have m2 := mul_bd (a := se) (b := ar - ins * circ) (x := 1) (y := 20000) (by omega) (by omega) (by omega) (by omega)
  have hw3 : IntKind.i64.wrap (se * (ar - ins * circ)) = se * (ar - ins * circ) := IntWalk.i64_in _ (by omega)
  have m3 := mul_bd (a := si) (b := sk) (x := 1) (y := 20) (by omega) (by omega) (by omega) (by omega)
  have hw4 : IntKind.i64.wrap (si * sk) = si * sk := IntWalk.i64_in _ (by omega)
  have hw5 : IntKind.i64.wrap (se * (ar - ins * circ) + si * sk) = se * (ar - ins * circ) + si * sk := IntWalk.i64_in _ (by omega)
  have hw6 : IntKind.i64.wrap (en - st) = en - st := IntWalk.i64_in _ (by omega)
  have hw7 : IntKind.i64.wrap (se * (ar - ins * circ) + si * sk - (en - st)) = se * (ar - ins * circ) + si * sk - (en - st) := IntWalk.i64_in _ (by omega)
  have m4 := mul_bd (a := se) (b := se * (ar - ins * circ) + si * sk - (en - st)) (x := 1) (y := 40000) (by omega) (by omega) (by omega) (by omega)
  have hw8 : IntKind.i64.wrap (se * (se * (ar - ins * circ) + si * sk - (en - st))) = se * (se * (ar - ins * circ) + si * sk - (en - st)) := IntWalk.i64_in _ (by omega)
  have hw9 : IntKind.i64.wrap (2 * read) = 2 * read := IntWalk.i64_in _ (by omega)
  have hw10 : IntKind.i64.wrap (se * (se * (ar - ins * circ) + si * sk - (en - st)) + 2 * read) = se * (se * (ar - ins * circ) + si * sk - (en - st)) + 2 * read := IntWalk.i64_in _ (by omega)
  have HM : Hid (∀ W, Calls Tryz.prog 158 #[.int .i64 (se * (se * (ar - ins * circ) + si * sk - (en - st)) + 2 * read), .int .i64 full] W fun e w' => e = .returned (.int .i64 (Wh.modV (Wh.missV full read circ (se, si, ins, st, en) (ar, sk)) full)) ∧ w' = W) := fun W => modulo_any _ _ W (by omega) (by omega)
  clear m1 m2 m3 m4 a1 a2 a3 a4 a5 a6 a7 a8 a9 a10 b1 b2 b3 b4 hf1 hf2 hr1 hr2 hc1 hc2
  generalize Wh.modV (Wh.missV full read circ (se, si, ins, st, en) (ar, sk)) full = MV at *
  generalize Wh.looseV ⟨full, read, slip, skew, circ, glo, ghi, wrn, ws⟩ = LV at *
  generalize Wh.rightB ⟨full, read, slip, skew, circ, glo, ghi, wrn, ws⟩ (se, si, ins, st, en) (ar, sk) = R at *
  go_enter Tryz.func141, Tryz.ntmps141
  go_wp2_with fail
  have hB0 : Below w.heap.size w (((w.alloc (.cells #[.int .i64 full, .int .i64 read, .int .i64 slip, .int .i64 skew, .int .i64 circ, .int .i64 glo, .int .i64 ghi, .int .i64 wrn, .slice A ws.length c] 115)).alloc (.cells #[.int .i64 se, .int .i64 si, .int .i64 ins, .int .i64 st, .int .i64 en] 67)).alloc (.cells #[.int .i64 ar, .int .i64 sk] 121)) := by (repeat' (first | (with_reducible exact Below.refl _ _) | (with_reducible assumption) | (with_reducible refine Below.alloc ?_ ?_ _) | (with_reducible refine Below.drew ?_) | (with_reducible refine Below.setCell ?_ ?_ _) | go_size | (exact (by simp)) | omega))
  have bD := ((BoxS.new w 115 #[.int .i64 full, .int .i64 read, .int .i64 slip, .int .i64 skew, .int .i64 circ, .int .i64 glo, .int .i64 ghi, .int .i64 wrn, .slice A ws.length c]).alloc (.cells #[.int .i64 se, .int .i64 si, .int .i64 ins, .int .i64 st, .int .i64 en] 67)).alloc (.cells #[.int .i64 ar, .int .i64 sk] 121)
  clear hw1 hw2 hw3 hw4 hw5 hw6 hw7 hw8 hw9 hw10
  generalize World.alloc (World.alloc (World.alloc w _) _) _ = w1 at *
  refine (wpIn_wide (n := 4)).1 ?_
  have hmo : Tryz.prog.follows .mixedOrders = true := by kernel_rfl
  have q0 : Below w1.heap.size w1 w1.drew := (Below.refl _ _).drew
  have KC : Hid (∀ W', Below w1.heap.size w1 W' → ((W'.cell? ⟨w.heap.size, 0, none⟩ = some (.int .i64 full) ∧ W'.cell? ⟨w.heap.size, 1, none⟩ = some (.int .i64 read) ∧ W'.cell? ⟨w.heap.size, 2, none⟩ = some (.int .i64 slip)) ∧ W'.cell? ⟨w.heap.size, 3, none⟩ = some (.int .i64 skew) ∧ W'.cell? ⟨w.heap.size, 4, none⟩ = some (.int .i64 circ) ∧ W'.cell? ⟨w.heap.size, 5, none⟩ = some (.int .i64 glo)) ∧ W'.cell? ⟨w.heap.size, 6, none⟩ = some (.int .i64 ghi) ∧ W'.cell? ⟨w.heap.size, 7, none⟩ = some (.int .i64 wrn) ∧ W'.cell? ⟨w.heap.size, 8, none⟩ = some (.slice A ws.length c)) := fun W' h => boxS9 (bD.below h)
  refine wpIn_region_held (fun W' => Below w1.heap.size w1 W') 30 hmo ?_
  refine wpHeldIn_take (i := 0) (v := ?_) (plain_of (by kernel_rfl)) rfl (by kernel_rfl) (fun _ _ _ h => h) (yieldsSoIn_of (by kernel_rfl) ?_ (fun _ => rfl)) q0 ?_; rotate_left; focus (intro wq hw; clear hw; go_simp; try (with_reducible rfl))
  refine wpHeldIn_take (i := 1) (v := ?_) (plain_of (by kernel_rfl)) rfl (by kernel_rfl) (fun _ _ _ h => h) (yieldsSoIn_of (by kernel_rfl) ?_ (fun _ => rfl)) q0 ?_; rotate_left; focus (intro wq hw; clear hw; go_simp; try (with_reducible rfl))
  refine wpHeldIn_take (i := 2) (v := ?_) (plain_of (by kernel_rfl)) rfl (by kernel_rfl) (fun _ _ _ h => h) (yieldsSoIn_of (by kernel_rfl) ?_ (fun _ => rfl)) q0 ?_; rotate_left; focus (intro wq hw; clear hw; go_simp; try (with_reducible rfl))
  refine wpHeldIn_take (i := 3) (v := ?_) (plain_of (by kernel_rfl)) rfl (by kernel_rfl) (fun _ _ _ h => h) (yieldsSoIn_of (by kernel_rfl) ?_ (fun _ => rfl)) q0 ?_; rotate_left; focus (intro wq hw; have kq := KC.out wq hw; clear hw; go_simp; try (with_reducible rfl))
  refine wpHeldIn_take (i := 5) (v := ?_) (plain_of (by kernel_rfl)) rfl (by kernel_rfl) (fun _ _ _ h => h) (yieldsSoIn_of (by kernel_rfl) ?_ (fun _ => rfl)) q0 ?_; rotate_left; focus (intro wq hw; have kq := KC.out wq hw; clear hw; go_simp; try (with_reducible rfl))
  refine wpHeldIn_one (i := 4) (by kernel_rfl) (by kernel_rfl) rfl (by kernel_rfl) (fun K2 hK2 => ?_)
  go_simp
  refine ⟨trivial, (callsIn_wide.2 (HM.out _)).mono ?_⟩
  rintro e w3 ⟨rfl, rfl⟩
  refine hK2 _ _ q0 ?_
  refine wpHeldIn_one (i := 6) (by kernel_rfl) (by kernel_rfl) rfl (by kernel_rfl) (fun K' hK' => ?_); go_simp; refine ⟨trivial, (callsIn_wide.2 (HL.out _)).mono ?_⟩; rintro e w2 ⟨rfl, hb2⟩
  have q1 := q0.trans (hb2.mono q0.size)
  refine hK' _ _ q1 ?_
  refine wpHeldIn_take (i := 7) (v := ?_) (plain_of (by kernel_rfl)) rfl (by kernel_rfl) (fun _ _ _ h => h) (yieldsSoIn_of (by kernel_rfl) ?_ (fun _ => rfl)) q1 ?_; rotate_left; focus (intro wq hw; clear hw; go_simp; try (with_reducible rfl))
  refine wpHeldIn_take (i := 8) (v := ?_) (plain_of (by kernel_rfl)) rfl (by kernel_rfl) (fun _ _ _ h => h) (yieldsSoIn_of (by kernel_rfl) ?_ (fun _ => rfl)) q1 ?_; rotate_left; focus (intro wq hw; clear hw; go_simp; try (with_reducible rfl))
  refine wpHeldIn_done (by kernel_rfl) ?_ _
  go_simp
  have hBB := hB0.trans (q1.mono hB0.size)
  clear KC q0 q1
  go_wp2_with fail
  go_returns
  exact ⟨by rw [HR.out]; rfl, hBB⟩

set_option maxRecDepth 100000 in
set_option maxHeartbeats 2000000 in
theorem wrong_any (d : Wh.Desk) (hd : Wh.Ok d) (A : Option Addr) (c : Nat) (t : Wh.Tr) (w : World) (hl : d.ws.length ≤ 1000) (ht : Wh.tsm t) (hc : ∀ k, k < d.ws.length → Wh.ksm (Wh.wkAt d.ws k)) (hg : Wks w w.heap.size A d.ws) :
    Calls Tryz.prog 126 #[.agg (dkV d A c), .agg #[.int .i64 t.1, .int .i64 t.2]] w fun e w' => e = .returned (.int .i64 (Wh.wrongN d t)) ∧ Below w.heap.size w w' := by
  have HF : Hid (∀ k, k < d.ws.length → ∀ W, Calls Tryz.prog 141 #[.agg (dkV d A c), .agg #[.int .i64 (Wh.wkAt d.ws k).1, .int .i64 (Wh.wkAt d.ws k).2.1, .int .i64 (Wh.wkAt d.ws k).2.2.1, .int .i64 (Wh.wkAt d.ws k).2.2.2.1, .int .i64 (Wh.wkAt d.ws k).2.2.2.2], .agg #[.int .i64 t.1, .int .i64 t.2]] W fun e w' => e = .returned (.bool (Wh.rightB d (Wh.wkAt d.ws k) t)) ∧ Below W.heap.size W w') := fun k hk W => right_any d hd A c _ t W (hc k hk) ht
  have HS0 : Hid (∀ k, Wh.wrongTo d t (k + 1) = Wh.wrongTo d t k + (if Wh.rightB d (Wh.wkAt d.ws k) t then 0 else 1)) := fun k => rfl
  have HW0 : Hid (Wh.wrongN d t = Wh.wrongTo d t d.ws.length) := rfl
  have HW1 : Hid (Wh.wrongTo d t 0 = 0) := rfl
  have HWL : Hid (∀ k, Wh.wrongTo d t k ≤ k) := Wh.wrongTo_le d t
  have HG := Lib.hid hg
  have hll : (d.ws.length : Int) ≤ 1000 := by omega
  clear hd ht hc hg hl
  generalize Wh.wrongN d t = WN at *
  generalize Wh.wrongTo d t = WT at *
  generalize Wh.rightB d = RB at *
  obtain ⟨t1, t2⟩ := t
  obtain ⟨full, read, slip, skew, circ, glo, ghi, wrn, ws⟩ := d
  unfold dkV at *
  dsimp only at *
  go_enter Tryz.func126, Tryz.ntmps126
  go_wp2_with fail
  have hB0 : Below w.heap.size w ((w.alloc (.cells #[.int .i64 full, .int .i64 read, .int .i64 slip, .int .i64 skew, .int .i64 circ, .int .i64 glo, .int .i64 ghi, .int .i64 wrn, .slice A ws.length c] 115)).alloc (.cells #[.int .i64 t1, .int .i64 t2] 121)) := by (repeat' (first | (with_reducible exact Below.refl _ _) | (with_reducible assumption) | (with_reducible refine Below.alloc ?_ ?_ _) | (with_reducible refine Below.drew ?_) | (with_reducible refine Below.setCell ?_ ?_ _) | go_size | (exact (by simp)) | omega))
  have bD0 := (BoxS.new w 115 #[.int .i64 full, .int .i64 read, .int .i64 slip, .int .i64 skew, .int .i64 circ, .int .i64 glo, .int .i64 ghi, .int .i64 wrn, .slice A ws.length c]).alloc (.cells #[.int .i64 t1, .int .i64 t2] 121)
  have bF0 := BoxS.new (w.alloc (.cells #[.int .i64 full, .int .i64 read, .int .i64 slip, .int .i64 skew, .int .i64 circ, .int .i64 glo, .int .i64 ghi, .int .i64 wrn, .slice A ws.length c] 115)) 121 #[.int .i64 t1, .int .i64 t2]
  rw [World.size_alloc] at bF0
  generalize World.alloc (World.alloc w _) _ = w1 at *
  go_loopw [5, 11] (fun m x wr => ∃ k : Nat, (k : Int) ≤ ws.length ∧ x = .int .i64 k ∧ m = .int .i64 (WT k : Nat) ∧ (BoxS wr w.heap.size 115 #[.int .i64 full, .int .i64 read, .int .i64 slip, .int .i64 skew, .int .i64 circ, .int .i64 glo, .int .i64 ghi, .int .i64 wrn, .slice A ws.length c] ∧ BoxS wr (w.heap.size + 1) 121 #[.int .i64 t1, .int .i64 t2]) ∧ Below w.heap.size w wr) (fun _ x _ => (ws.length - intOf x).toNat)
  case atStart => exact ⟨0, by omega, rfl, by rw [HW1.out]; rfl, ⟨bD0, bF0⟩, hB0⟩
  case round =>
    clear bD0 bF0 hB0
    obtain ⟨k, hk, rfl, rfl, ⟨bD, bF⟩, hB⟩ := hrel
    have hk0 := Int.natCast_nonneg k
    by_cases hlt : (k : Int) < ws.length
    · have hkn : k < ws.length := by omega
      obtain ⟨bb, off, rfl, hbb, hc⟩ := HG.out (by omega)
      obtain ⟨h0, h1, h2, h3, h4⟩ := hc k hkn
      have a0 := (hB.cell (p := ⟨bb, _, none⟩) hbb).trans h0
      have a1 := (hB.cell (p := ⟨bb, _, none⟩) hbb).trans h1
      have a2 := (hB.cell (p := ⟨bb, _, none⟩) hbb).trans h2
      have a3 := (hB.cell (p := ⟨bb, _, none⟩) hbb).trans h3
      have a4 := (hB.cell (p := ⟨bb, _, none⟩) hbb).trans h4
      have HF1 := Lib.hid (HF.out k hkn)
      have HS := Lib.hid (HS0.out k)
      have hwl := HWL.out k
      have hw1 : IntKind.i64.wrap ((k : Int) + 1) = (k : Int) + 1 := IntWalk.i64_in _ (by omega)
      have hw2 : IntKind.i64.wrap ((WT k : Int) + 1) = ((WT k : Nat) : Int) + 1 := IntWalk.i64_in _ (by omega)
      have hlw : w.heap.size + 1 < wr.heap.size := bF.lt
      have hlw0 : w.heap.size < wr.heap.size := bD.lt
      clear hc h0 h1 h2 h3 h4 HF
      generalize RB (Wh.wkAt ws k) (t1, t2) = b at *
      generalize Wh.wkAt ws k = ct at *
      generalize WT k = m at *
      obtain ⟨c0, c1, c2, c3, c4⟩ := ct
      dsimp only at a0 a1 a2 a3 a4 HF1
      obtain ⟨⟨⟨d0, d1, d2⟩, d3, d4, d5⟩, d6, d7, d8⟩ := boxS9 bD
      obtain ⟨g0, g1⟩ := boxS2 bF
      go_wp2_with fail
      have bD2 := bD.alloc (.cells #[.int .i64 c0, .int .i64 c1, .int .i64 c2, .int .i64 c3, .int .i64 c4] 67)
      have bF2 := bF.alloc (.cells #[.int .i64 c0, .int .i64 c1, .int .i64 c2, .int .i64 c3, .int .i64 c4] 67)
      have hB2 : Below w.heap.size w (wr.alloc (.cells #[.int .i64 c0, .int .i64 c1, .int .i64 c2, .int .i64 c3, .int .i64 c4] 67)) := hB.alloc hB.size _
      clear a0 a1 a2 a3 a4 g0 g1 d0 d1 d2 d3 d4 d5 d6 d7 d8
      generalize World.alloc wr _ = w2 at *
      refine (HF1.out _).mono ?_
      rintro e w3 ⟨rfl, hb3⟩
      have bD3 := bD2.below hb3
      have bF3 := bF2.below hb3
      have hB3 := hB2.trans (hb3.mono hB2.size)
      cases b with
      | true =>
        have HS2 : Hid (WT (k + 1) = m) := HS.out
        go_wp2_with fail
        go_roundw
        case rel => exact ⟨k + 1, by omega, by go_num, by rw [HS2.out], ⟨bD3, bF3⟩, hB3⟩
        case measure => simp [intOf]; omega
      | false =>
        have HS2 : Hid (((WT (k + 1) : Nat) : Int) = (m : Int) + 1) := by unfold Hid; rw [HS.out]; rfl
        go_wp2_with fail
        go_roundw
        case rel => exact ⟨k + 1, by omega, by go_num, by rw [HS2.out], ⟨bD3, bF3⟩, hB3⟩
        case measure => simp [intOf]; omega
    · obtain rfl : k = ws.length := by omega
      go_wp2_with fail
      go_returns
      exact ⟨by rw [HW0.out]; rfl, hB⟩
end Go.Proofs.YtkmacpkjobdffaaGreat
