/- Trials: errors of all truths. -/
import Derived.Test.YtkmacpkjobdffaaGreatTiL
namespace Go.Proofs.YtkmacpkjobdffaaGreat
open Go.RowKit Go.Maps
set_option maxHeartbeats 1000000 in
theorem errs1_any (x : Ti.GkS) (a : Int) (ha : 0 ≤ a ∧ a ≤ 9000) (B : Nat) (w : World) (hc : w.cell? ⟨B, 0, none⟩ = some (.int .i64 a)) (hB : B < w.heap.size) : Calls Tryz.prog 62 #[.agg #[.int .i64 x.1.1, .int .i64 x.1.2], .pointer (some ⟨B, 0, none⟩)] w fun e w' => e = .returned (.int .i64 (Ti.errV x.1 a)) ∧ Below w.heap.size w w' := by
  have HER : Hid (∀ W, Calls Tryz.prog 63 #[.agg #[.int .i64 x.1.1, .int .i64 x.1.2], .int .i64 a] W fun e w' => e = .returned (.int .i64 (Ti.errV x.1 a)) ∧ Below W.heap.size W w') := fun W => err_any x.1 a x.2.1 x.2.2 ha W
  generalize Ti.errV x.1 a = E at *
  go_enter Tryz.func62, Tryz.ntmps62
  go_wp2_with fail
  refine (HER.out _).mono ?_
  rintro e w2 ⟨rfl, hb2⟩
  have hB2 : Below w.heap.size w w2 := Below.trans (by (repeat' (first | (with_reducible exact Below.refl _ _) | (with_reducible assumption) | (with_reducible refine Below.alloc ?_ ?_ _) | (with_reducible refine Below.drew ?_) | (with_reducible refine Below.setCell ?_ ?_ _) | go_size | (exact (by simp)) | omega))) (hb2.mono (by simp))
  go_wp2_with fail
  go_returns
  exact ⟨rfl, hB2⟩
set_option maxRecDepth 100000 in
set_option maxHeartbeats 8000000 in
theorem Errs_any (t : Ti.Tri) (a : Int) (A : Option Addr) (c : Nat) (w : World) (hl : t.ts.length ≤ 1000000000) (hg : Tsts w w.heap.size A t.ts) :
    Calls Tryz.prog 19 #[.agg (tiV t A c), .int .i64 a] w (SpanPost (Ti.lowE (fun x => Ti.errV x a) (Ti.opE t (inB a 0 9000)) t) (Ti.highE (fun x => Ti.errV x a) (Ti.opE t (inB a 0 9000)) t) (Ti.opE t (inB a 0 9000)) w) := by
  have HW1 : Hid (∀ W, Calls Tryz.prog 50 #[.int .i64 a, .int .i64 0, .int .i64 9000] W fun e w' => e = .returned (.bool (inB a 0 9000)) ∧ w' = W) := fun W => withinT_any _ _ _ W
  have HTB : Hid (∀ B W, Below w.heap.size w W → W.cell? ⟨B, 0, none⟩ = some (.int .i64 a) → B < W.heap.size → Calls Tryz.prog 61 #[.agg (tiV t A c), .bool (inB a 0 9000), .func (.func 62) #[] #[.pointer (some ⟨B, 0, none⟩)]] W (SpanPost (Ti.lowE (fun x => Ti.errV x a) (Ti.opE t (inB a 0 9000)) t) (Ti.highE (fun x => Ti.errV x a) (Ti.opE t (inB a 0 9000)) t) (Ti.opE t (inB a 0 9000)) W)) := fun B W hW hc hB =>
    tbounds_any t (inB a 0 9000) 62 (.pointer (some ⟨B, 0, none⟩)) (fun x => Ti.errV x a) (fun args W => enters_of Tryz.func62 (by kernel_rfl) rfl args W) A c W hl ((hg.keep hW).wider hW.size)
      (fun h0 x V hV => errs1_any x a (inB_true.1 (Ti.op_ok h0).2.1) B V ((hV.cell (p := ⟨B, 0, none⟩) hB).trans hc) (by have := hV.size; omega))
  generalize Ti.lowE (fun x => Ti.errV x a) (Ti.opE t (inB a 0 9000)) t = LO at *
  generalize Ti.highE (fun x => Ti.errV x a) (Ti.opE t (inB a 0 9000)) t = HI at *
  generalize Ti.opE t (inB a 0 9000) = E at *
  generalize inB a 0 9000 = IB at *
  have hmo : Tryz.prog.follows .mixedOrders = true := by kernel_rfl
  unfold SpanPost at *
  clear hg
  unfold tiV at *
  obtain ⟨d, gain, ts⟩ := t
  obtain ⟨full, read, slip, skew, circ, glo, ghi, wrn, dws⟩ := d
  dsimp only at *
  go_enter Tryz.func19, Tryz.ntmps19
  go_wp2_with fail
  have bT := ((BoxS.new w 28 #[.int .i64 full, .int .i64 read, .int .i64 slip, .int .i64 skew, .int .i64 circ, .int .i64 glo, .int .i64 ghi, .int .i64 wrn, .int .i64 gain, .slice A ts.length c]).alloc (.cells #[.int .i64 a] 3)).alloc (.cells #[.int .i64 0, .int .i64 0] 23)
  have bA := (BoxS.new (w.alloc (.cells #[.int .i64 full, .int .i64 read, .int .i64 slip, .int .i64 skew, .int .i64 circ, .int .i64 glo, .int .i64 ghi, .int .i64 wrn, .int .i64 gain, .slice A ts.length c] 28)) 3 #[.int .i64 a]).alloc (.cells #[.int .i64 0, .int .i64 0] 23)
  have bR := BoxS.new ((w.alloc (.cells #[.int .i64 full, .int .i64 read, .int .i64 slip, .int .i64 skew, .int .i64 circ, .int .i64 glo, .int .i64 ghi, .int .i64 wrn, .int .i64 gain, .slice A ts.length c] 28)).alloc (.cells #[.int .i64 a] 3)) 23 #[.int .i64 0, .int .i64 0]
  have hB1 : Below w.heap.size w (((w.alloc (.cells #[.int .i64 full, .int .i64 read, .int .i64 slip, .int .i64 skew, .int .i64 circ, .int .i64 glo, .int .i64 ghi, .int .i64 wrn, .int .i64 gain, .slice A ts.length c] 28)).alloc (.cells #[.int .i64 a] 3)).alloc (.cells #[.int .i64 0, .int .i64 0] 23)) := by (repeat' (first | (with_reducible exact Below.refl _ _) | (with_reducible assumption) | (with_reducible refine Below.alloc ?_ ?_ _) | (with_reducible refine Below.drew ?_) | (with_reducible refine Below.setCell ?_ ?_ _) | go_size | (exact (by simp)) | omega))
  simp only [World.size_alloc] at bA bR
  generalize World.alloc (World.alloc (World.alloc w _) _) _ = w1 at *
  try go_wp2_with fail
  have q0 : Below w1.heap.size w1 w1.drew := (Below.refl _ _).drew
  have s0 : BoxS w1.drew w.heap.size 28 #[.int .i64 full, .int .i64 read, .int .i64 slip, .int .i64 skew, .int .i64 circ, .int .i64 glo, .int .i64 ghi, .int .i64 wrn, .int .i64 gain, .slice A ts.length c] ∧ BoxS w1.drew (w.heap.size + 1) 3 #[.int .i64 a] := ⟨bT.drew, bA.drew⟩
  have KC : Hid (∀ V', (BoxS V' w.heap.size 28 #[.int .i64 full, .int .i64 read, .int .i64 slip, .int .i64 skew, .int .i64 circ, .int .i64 glo, .int .i64 ghi, .int .i64 wrn, .int .i64 gain, .slice A ts.length c] ∧ BoxS V' (w.heap.size + 1) 3 #[.int .i64 a]) → (V'.cell? ⟨w.heap.size, 0, none⟩ = some (.int .i64 full) ∧ V'.cell? ⟨w.heap.size, 1, none⟩ = some (.int .i64 read) ∧ V'.cell? ⟨w.heap.size, 2, none⟩ = some (.int .i64 slip) ∧ V'.cell? ⟨w.heap.size, 3, none⟩ = some (.int .i64 skew) ∧ V'.cell? ⟨w.heap.size, 4, none⟩ = some (.int .i64 circ) ∧ V'.cell? ⟨w.heap.size, 5, none⟩ = some (.int .i64 glo) ∧ V'.cell? ⟨w.heap.size, 6, none⟩ = some (.int .i64 ghi) ∧ V'.cell? ⟨w.heap.size, 7, none⟩ = some (.int .i64 wrn) ∧ V'.cell? ⟨w.heap.size, 8, none⟩ = some (.int .i64 gain) ∧ V'.cell? ⟨w.heap.size, 9, none⟩ = some (.slice A ts.length c) ∧ V'.cell? ⟨w.heap.size + 1, 0, none⟩ = some (.int .i64 a))) := fun V' h => ⟨h.1.cell 0 rfl, h.1.cell 1 rfl, h.1.cell 2 rfl, h.1.cell 3 rfl, h.1.cell 4 rfl, h.1.cell 5 rfl, h.1.cell 6 rfl, h.1.cell 7 rfl, h.1.cell 8 rfl, h.1.cell 9 rfl, h.2.cell 0 rfl⟩
  refine (wpIn_wide (n := 4)).1 ?_
  refine wpIn_mono (Q := noPanic _) ?_ noPanic_le
  refine wpIn_region_held (fun V' => BoxS V' w.heap.size 28 #[.int .i64 full, .int .i64 read, .int .i64 slip, .int .i64 skew, .int .i64 circ, .int .i64 glo, .int .i64 ghi, .int .i64 wrn, .int .i64 gain, .slice A ts.length c] ∧ BoxS V' (w.heap.size + 1) 3 #[.int .i64 a]) 30 hmo ?_
  refine wpHeldIn_take (i := 0) (v := ?_) (plain_of (by kernel_rfl)) rfl (by kernel_rfl) (fun _ _ _ h => h) (yieldsSoIn_of (by kernel_rfl) ?_ (fun _ => rfl)) s0 ?_; rotate_left; focus (intro wq hw; have kq := KC.out wq hw; clear hw; go_simp; try (with_reducible rfl))
  refine wpHeldIn_take (i := 1) (v := ?_) (plain_of (by kernel_rfl)) rfl (by kernel_rfl) (fun _ _ _ h => h) (yieldsSoIn_of (by kernel_rfl) ?_ (fun _ => rfl)) s0 ?_; rotate_left; focus (intro wq hw; have kq := KC.out wq hw; clear hw; go_simp; try (with_reducible rfl))
  refine wpHeldIn_take (i := 2) (v := .bool IB) (plain_of (by kernel_rfl)) rfl (by kernel_rfl) (fun _ _ _ h => h) (yieldsSoIn_call (by kernel_rfl) ?_ rfl (fun _ => trivial) (fun m wq hw => callsIn_wide.2 ((HW1.out _).mono (fun e w' h => ⟨h.1, h.2⟩)))) s0 ?_; focus (intro wq hw; clear hw; go_simp; try (with_reducible rfl))
  refine wpHeldIn_take (i := 3) (v := ?_) (plain_of (by kernel_rfl)) rfl (by kernel_rfl) (fun _ _ _ h => h) (yieldsSoIn_of (by kernel_rfl) ?_ (fun _ => rfl)) s0 ?_; rotate_left; focus (intro wq hw; clear hw; go_simp; try (with_reducible rfl))
  refine wpHeldIn_one (i := 4) (by kernel_rfl) (by kernel_rfl) rfl (by kernel_rfl) (fun K1 hK1 => ?_)
  go_simp
  refine ⟨trivial, (callsIn_wide.2 (HTB.out (w.heap.size + 1) _ (hB1.trans (q0.mono hB1.size)) (s0.2.cell 0 rfl) s0.2.lt)).mono ?_⟩
  rintro e w5 ⟨rfl, hb5⟩
  have q1 := q0.trans (hb5.mono q0.size)
  have s1 := And.intro (bT.below q1) (bA.below q1)
  have bR1 := bR.below q1
  have hB5 := hB1.trans (q1.mono hB1.size)
  refine hK1 _ _ s1 ?_
  refine wpHeldIn_take (i := 5) (v := ?_) (plain_of (by kernel_rfl)) rfl (by kernel_rfl) (fun _ _ _ h => h) (yieldsSoIn_of (by kernel_rfl) ?_ (fun _ => rfl)) s1 ?_; rotate_left; focus (intro wq hw; clear hw; go_simp; try (with_reducible rfl))
  refine wpHeldIn_take (i := 6) (v := ?_) (plain_of (by kernel_rfl)) rfl (by kernel_rfl) (fun _ _ _ h => h) (yieldsSoIn_of (by kernel_rfl) ?_ (fun _ => rfl)) s1 ?_; rotate_left; focus (intro wq hw; clear hw; go_simp; try (with_reducible rfl))
  have r0 := bR1.cell 0 rfl
  have r1 := bR1.cell 1 rfl
  have g0 := bR1.frozen 0
  have g1 := bR1.frozen 1
  refine wpHeldIn_one (i := 7) (by kernel_rfl) (by kernel_rfl) rfl (by kernel_rfl) (fun K2 hK2 => ?_)
  go_simp
  have bR2 : BoxS ((w5.setCell ⟨w.heap.size + 1 + 1, 0, none⟩ (.int .i64 LO)).setCell ⟨w.heap.size + 1 + 1, 1, none⟩ (.int .i64 HI)) (w.heap.size + 1 + 1) 23 #[.int .i64 LO, .int .i64 HI] := (bR1.put9 0 _).put9 1 _
  have s2 := And.intro ((s1.1.away (B' := w.heap.size + 1 + 1) (by omega) 0 (.int .i64 LO)).away (B' := w.heap.size + 1 + 1) (by omega) 1 (.int .i64 HI)) ((s1.2.away (B' := w.heap.size + 1 + 1) (by omega) 0 (.int .i64 LO)).away (B' := w.heap.size + 1 + 1) (by omega) 1 (.int .i64 HI))
  have hB6 : Below w.heap.size w ((w5.setCell ⟨w.heap.size + 1 + 1, 0, none⟩ (.int .i64 LO)).setCell ⟨w.heap.size + 1 + 1, 1, none⟩ (.int .i64 HI)) := (hB5.setCell (by simp; omega) _).setCell (by simp; omega) _
  refine hK2 _ _ s2 ?_
  clear r0 r1 g0 g1 bR1
  generalize World.setCell (World.setCell w5 _ _) _ _ = w6 at *
  refine wpHeldIn_take (i := 8) (v := ?_) (plain_of (by kernel_rfl)) rfl (by kernel_rfl) (fun _ _ _ h => h) (yieldsSoIn_of (by kernel_rfl) ?_ (fun _ => rfl)) s2 ?_; rotate_left; focus (intro wq hw; clear hw; go_simp; try (with_reducible rfl))
  refine wpHeldIn_done (by kernel_rfl) ?_ _
  go_simp
  refine noPanic_of ?_
  go_wp2_with fail
  have r0 := bR2.cell 0 rfl
  have r1 := bR2.cell 1 rfl
  exact bodyPost_ret (v := .tuple #[.agg #[.int .i64 LO, .int .i64 HI], .int .i64 E]) (by simp [results, Tryz.results19, go_sem, r0, r1]) rfl ⟨rfl, hB6⟩
end Go.Proofs.YtkmacpkjobdffaaGreat
