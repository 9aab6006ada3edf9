/- Trials: the theorem of the figure without area (P9.16). -/
import Derived.Test.YtkmacpkjobdffaaGreatTiM
import Derived.Test.YtkmacpkjobdffaaGreatTiO
import Derived.Test.YtkmacpkjobdffaaGreatTjG
namespace Go.Proofs.YtkmacpkjobdffaaGreat
open Go.RowKit Go.Maps
set_option maxHeartbeats 1000000 in
theorem seen1_any (x : Ti.GkS) (a : Int) (ha : 0 ≤ a ∧ a ≤ 9000) (B : Nat) (w : World) (hc : w.cell? ⟨B, 0, none⟩ = some (.int .i64 a)) (hB : B < w.heap.size) : Calls Tryz.prog 68 #[.agg #[.int .i64 x.1.1, .int .i64 x.1.2], .pointer (some ⟨B, 0, none⟩)] w fun e w' => e = .returned (.int .i64 (Ti.seenV x.1.1 a)) ∧ Below w.heap.size w w' := by
  have HER : Hid (∀ W, Calls Tryz.prog 69 #[.agg #[.int .i64 x.1.1, .int .i64 x.1.2], .int .i64 a] W fun e w' => e = .returned (.int .i64 (Ti.seenV x.1.1 a)) ∧ Below W.heap.size W w') := fun W => seen_any x.1 a x.2.1 ha W
  generalize Ti.seenV x.1.1 a = E at *
  go_enter Tryz.func68, Tryz.ntmps68
  go_wp2_with fail
  refine (HER.out _).mono ?_
  rintro e w2 ⟨rfl, hb2⟩
  have hB2 : Below w.heap.size w w2 := Below.trans (by (repeat' (first | (with_reducible exact Below.refl _ _) | (with_reducible assumption) | (with_reducible refine Below.alloc ?_ ?_ _) | (with_reducible refine Below.drew ?_) | (with_reducible refine Below.setCell ?_ ?_ _) | go_size | (exact (by simp)) | omega))) (hb2.mono (by simp))
  go_wp2_with fail
  go_returns
  exact ⟨rfl, hB2⟩
set_option maxRecDepth 100000 in
set_option maxHeartbeats 8000000 in
theorem Seen_any (t : Ti.Tri) (a : Int) (A : Option Addr) (c : Nat) (w : World) (hl : t.ts.length ≤ 1000000000) (hg : Tsts w w.heap.size A t.ts) :
    Calls Tryz.prog 25 #[.agg (tiV t A c), .int .i64 a] w (SpanPost (Ti.lowE (fun x => Ti.seenV x.1 a) (Ti.opE t (inB a 0 9000)) t) (Ti.highE (fun x => Ti.seenV x.1 a) (Ti.opE t (inB a 0 9000)) t) (Ti.opE t (inB a 0 9000)) w) := by
  have HW1 : Hid (∀ W, Calls Tryz.prog 50 #[.int .i64 a, .int .i64 0, .int .i64 9000] W fun e w' => e = .returned (.bool (inB a 0 9000)) ∧ w' = W) := fun W => withinT_any _ _ _ W
  have HTB : Hid (∀ B W, Below w.heap.size w W → W.cell? ⟨B, 0, none⟩ = some (.int .i64 a) → B < W.heap.size → Calls Tryz.prog 61 #[.agg (tiV t A c), .bool (inB a 0 9000), .func (.func 68) #[] #[.pointer (some ⟨B, 0, none⟩)]] W (SpanPost (Ti.lowE (fun x => Ti.seenV x.1 a) (Ti.opE t (inB a 0 9000)) t) (Ti.highE (fun x => Ti.seenV x.1 a) (Ti.opE t (inB a 0 9000)) t) (Ti.opE t (inB a 0 9000)) W)) := fun B W hW hc hB =>
    tbounds_any t (inB a 0 9000) 68 (.pointer (some ⟨B, 0, none⟩)) (fun x => Ti.seenV x.1 a) (fun args W => enters_of Tryz.func68 (by kernel_rfl) rfl args W) A c W hl ((hg.keep hW).wider hW.size)
      (fun h0 x V hV => seen1_any x a (inB_true.1 (Ti.op_ok h0).2.1) B V ((hV.cell (p := ⟨B, 0, none⟩) hB).trans hc) (by have := hV.size; omega))
  generalize Ti.lowE (fun x => Ti.seenV x.1 a) (Ti.opE t (inB a 0 9000)) t = LO at *
  generalize Ti.highE (fun x => Ti.seenV x.1 a) (Ti.opE t (inB a 0 9000)) t = HI at *
  generalize Ti.opE t (inB a 0 9000) = E at *
  generalize inB a 0 9000 = IB at *
  have hmo : Tryz.prog.follows .mixedOrders = true := by kernel_rfl
  unfold SpanPost at *
  clear hg
  unfold tiV at *
  obtain ⟨d, gain, ts⟩ := t
  obtain ⟨full, read, slip, skew, circ, glo, ghi, wrn, dws⟩ := d
  dsimp only at *
  go_enter Tryz.func25, Tryz.ntmps25
  go_wp2_with fail
  have bT := ((BoxS.new w 28 #[.int .i64 full, .int .i64 read, .int .i64 slip, .int .i64 skew, .int .i64 circ, .int .i64 glo, .int .i64 ghi, .int .i64 wrn, .int .i64 gain, .slice A ts.length c]).alloc (.cells #[.int .i64 a] 3)).alloc (.cells #[.int .i64 0, .int .i64 0] 23)
  have bA := (BoxS.new (w.alloc (.cells #[.int .i64 full, .int .i64 read, .int .i64 slip, .int .i64 skew, .int .i64 circ, .int .i64 glo, .int .i64 ghi, .int .i64 wrn, .int .i64 gain, .slice A ts.length c] 28)) 3 #[.int .i64 a]).alloc (.cells #[.int .i64 0, .int .i64 0] 23)
  have bR := BoxS.new ((w.alloc (.cells #[.int .i64 full, .int .i64 read, .int .i64 slip, .int .i64 skew, .int .i64 circ, .int .i64 glo, .int .i64 ghi, .int .i64 wrn, .int .i64 gain, .slice A ts.length c] 28)).alloc (.cells #[.int .i64 a] 3)) 23 #[.int .i64 0, .int .i64 0]
  have hB1 : Below w.heap.size w (((w.alloc (.cells #[.int .i64 full, .int .i64 read, .int .i64 slip, .int .i64 skew, .int .i64 circ, .int .i64 glo, .int .i64 ghi, .int .i64 wrn, .int .i64 gain, .slice A ts.length c] 28)).alloc (.cells #[.int .i64 a] 3)).alloc (.cells #[.int .i64 0, .int .i64 0] 23)) := by (repeat' (first | (with_reducible exact Below.refl _ _) | (with_reducible assumption) | (with_reducible refine Below.alloc ?_ ?_ _) | (with_reducible refine Below.drew ?_) | (with_reducible refine Below.setCell ?_ ?_ _) | go_size | (exact (by simp)) | omega))
  simp only [World.size_alloc] at bA bR
  generalize World.alloc (World.alloc (World.alloc w _) _) _ = w1 at *
  try go_wp2_with fail
  have q0 : Below w1.heap.size w1 w1.drew := (Below.refl _ _).drew
  have s0 : BoxS w1.drew w.heap.size 28 #[.int .i64 full, .int .i64 read, .int .i64 slip, .int .i64 skew, .int .i64 circ, .int .i64 glo, .int .i64 ghi, .int .i64 wrn, .int .i64 gain, .slice A ts.length c] ∧ BoxS w1.drew (w.heap.size + 1) 3 #[.int .i64 a] := ⟨bT.drew, bA.drew⟩
  have KC : Hid (∀ V', (BoxS V' w.heap.size 28 #[.int .i64 full, .int .i64 read, .int .i64 slip, .int .i64 skew, .int .i64 circ, .int .i64 glo, .int .i64 ghi, .int .i64 wrn, .int .i64 gain, .slice A ts.length c] ∧ BoxS V' (w.heap.size + 1) 3 #[.int .i64 a]) → (V'.cell? ⟨w.heap.size, 0, none⟩ = some (.int .i64 full) ∧ V'.cell? ⟨w.heap.size, 1, none⟩ = some (.int .i64 read) ∧ V'.cell? ⟨w.heap.size, 2, none⟩ = some (.int .i64 slip) ∧ V'.cell? ⟨w.heap.size, 3, none⟩ = some (.int .i64 skew) ∧ V'.cell? ⟨w.heap.size, 4, none⟩ = some (.int .i64 circ) ∧ V'.cell? ⟨w.heap.size, 5, none⟩ = some (.int .i64 glo) ∧ V'.cell? ⟨w.heap.size, 6, none⟩ = some (.int .i64 ghi) ∧ V'.cell? ⟨w.heap.size, 7, none⟩ = some (.int .i64 wrn) ∧ V'.cell? ⟨w.heap.size, 8, none⟩ = some (.int .i64 gain) ∧ V'.cell? ⟨w.heap.size, 9, none⟩ = some (.slice A ts.length c) ∧ V'.cell? ⟨w.heap.size + 1, 0, none⟩ = some (.int .i64 a))) := fun V' h => ⟨h.1.cell 0 rfl, h.1.cell 1 rfl, h.1.cell 2 rfl, h.1.cell 3 rfl, h.1.cell 4 rfl, h.1.cell 5 rfl, h.1.cell 6 rfl, h.1.cell 7 rfl, h.1.cell 8 rfl, h.1.cell 9 rfl, h.2.cell 0 rfl⟩
  refine (wpIn_wide (n := 4)).1 ?_
  refine wpIn_mono (Q := noPanic _) ?_ noPanic_le
  refine wpIn_region_held (fun V' => BoxS V' w.heap.size 28 #[.int .i64 full, .int .i64 read, .int .i64 slip, .int .i64 skew, .int .i64 circ, .int .i64 glo, .int .i64 ghi, .int .i64 wrn, .int .i64 gain, .slice A ts.length c] ∧ BoxS V' (w.heap.size + 1) 3 #[.int .i64 a]) 30 hmo ?_
  refine wpHeldIn_take (i := 0) (v := ?_) (plain_of (by kernel_rfl)) rfl (by kernel_rfl) (fun _ _ _ h => h) (yieldsSoIn_of (by kernel_rfl) ?_ (fun _ => rfl)) s0 ?_; rotate_left; focus (intro wq hw; have kq := KC.out wq hw; clear hw; go_simp; try (with_reducible rfl))
  refine wpHeldIn_take (i := 1) (v := ?_) (plain_of (by kernel_rfl)) rfl (by kernel_rfl) (fun _ _ _ h => h) (yieldsSoIn_of (by kernel_rfl) ?_ (fun _ => rfl)) s0 ?_; rotate_left; focus (intro wq hw; have kq := KC.out wq hw; clear hw; go_simp; try (with_reducible rfl))
  refine wpHeldIn_take (i := 2) (v := .bool IB) (plain_of (by kernel_rfl)) rfl (by kernel_rfl) (fun _ _ _ h => h) (yieldsSoIn_call (by kernel_rfl) ?_ rfl (fun _ => trivial) (fun m wq hw => callsIn_wide.2 ((HW1.out _).mono (fun e w' h => ⟨h.1, h.2⟩)))) s0 ?_; focus (intro wq hw; clear hw; go_simp; try (with_reducible rfl))
  refine wpHeldIn_take (i := 3) (v := ?_) (plain_of (by kernel_rfl)) rfl (by kernel_rfl) (fun _ _ _ h => h) (yieldsSoIn_of (by kernel_rfl) ?_ (fun _ => rfl)) s0 ?_; rotate_left; focus (intro wq hw; clear hw; go_simp; try (with_reducible rfl))
  refine wpHeldIn_one (i := 4) (by kernel_rfl) (by kernel_rfl) rfl (by kernel_rfl) (fun K1 hK1 => ?_)
  go_simp
  refine ⟨trivial, (callsIn_wide.2 (HTB.out (w.heap.size + 1) _ (hB1.trans (q0.mono hB1.size)) (s0.2.cell 0 rfl) s0.2.lt)).mono ?_⟩
  rintro e w5 ⟨rfl, hb5⟩
  have q1 := q0.trans (hb5.mono q0.size)
  have s1 := And.intro (bT.below q1) (bA.below q1)
  have bR1 := bR.below q1
  have hB5 := hB1.trans (q1.mono hB1.size)
  refine hK1 _ _ s1 ?_
  refine wpHeldIn_take (i := 5) (v := ?_) (plain_of (by kernel_rfl)) rfl (by kernel_rfl) (fun _ _ _ h => h) (yieldsSoIn_of (by kernel_rfl) ?_ (fun _ => rfl)) s1 ?_; rotate_left; focus (intro wq hw; clear hw; go_simp; try (with_reducible rfl))
  refine wpHeldIn_take (i := 6) (v := ?_) (plain_of (by kernel_rfl)) rfl (by kernel_rfl) (fun _ _ _ h => h) (yieldsSoIn_of (by kernel_rfl) ?_ (fun _ => rfl)) s1 ?_; rotate_left; focus (intro wq hw; clear hw; go_simp; try (with_reducible rfl))
  have r0 := bR1.cell 0 rfl
  have r1 := bR1.cell 1 rfl
  have g0 := bR1.frozen 0
  have g1 := bR1.frozen 1
  refine wpHeldIn_one (i := 7) (by kernel_rfl) (by kernel_rfl) rfl (by kernel_rfl) (fun K2 hK2 => ?_)
  go_simp
  have bR2 : BoxS ((w5.setCell ⟨w.heap.size + 1 + 1, 0, none⟩ (.int .i64 LO)).setCell ⟨w.heap.size + 1 + 1, 1, none⟩ (.int .i64 HI)) (w.heap.size + 1 + 1) 23 #[.int .i64 LO, .int .i64 HI] := (bR1.put9 0 _).put9 1 _
  have s2 := And.intro ((s1.1.away (B' := w.heap.size + 1 + 1) (by omega) 0 (.int .i64 LO)).away (B' := w.heap.size + 1 + 1) (by omega) 1 (.int .i64 HI)) ((s1.2.away (B' := w.heap.size + 1 + 1) (by omega) 0 (.int .i64 LO)).away (B' := w.heap.size + 1 + 1) (by omega) 1 (.int .i64 HI))
  have hB6 : Below w.heap.size w ((w5.setCell ⟨w.heap.size + 1 + 1, 0, none⟩ (.int .i64 LO)).setCell ⟨w.heap.size + 1 + 1, 1, none⟩ (.int .i64 HI)) := (hB5.setCell (by simp; omega) _).setCell (by simp; omega) _
  refine hK2 _ _ s2 ?_
  clear r0 r1 g0 g1 bR1
  generalize World.setCell (World.setCell w5 _ _) _ _ = w6 at *
  refine wpHeldIn_take (i := 8) (v := ?_) (plain_of (by kernel_rfl)) rfl (by kernel_rfl) (fun _ _ _ h => h) (yieldsSoIn_of (by kernel_rfl) ?_ (fun _ => rfl)) s2 ?_; rotate_left; focus (intro wq hw; clear hw; go_simp; try (with_reducible rfl))
  refine wpHeldIn_done (by kernel_rfl) ?_ _
  go_simp
  refine noPanic_of ?_
  go_wp2_with fail
  have r0 := bR2.cell 0 rfl
  have r1 := bR2.cell 1 rfl
  exact bodyPost_ret (v := .tuple #[.agg #[.int .i64 LO, .int .i64 HI], .int .i64 E]) (by simp [results, Tryz.results25, go_sem, r0, r1]) rfl ⟨rfl, hB6⟩
end Go.Proofs.YtkmacpkjobdffaaGreat
namespace Go.Proofs.YtkmacpkjobdffaaGreat
open Go.RowKit Go.Shelf Go.Maps
attribute [local go_sem] Oper.semAt_some
namespace Ti
def manyE (E : Int) (t : Tri) : Int := if E = 0 then ((truthsL t).length : Int) else 0
end Ti
set_option maxRecDepth 100000 in
set_option maxHeartbeats 8000000 in
theorem ManyT_any (t : Ti.Tri) (A : Option Addr) (c : Nat) (w : World) (hl : t.ts.length ≤ 1000000000) (hg : Tsts w w.heap.size A t.ts) :
    Calls Tryz.prog 13 #[.agg (tiV t A c)] w (TwoPost (Ti.manyE (Ti.opE t true) t) (Ti.opE t true) w) := by
  have HOP : Hid (∀ W, Below w.heap.size w W → Calls Tryz.prog 54 #[.agg (tiV t A c), .bool true] W (OpPost (Ti.opE t true) t A c W)) := fun W hW => openT_any t true A c W hl ((hg.keep hW).wider hW.size)
  have HSEQ : Hid (Ti.opE t true = 0 → ∀ (AL : Option Addr) (cm n₀ : Nat) w', n₀ ≤ w'.heap.size → SeqFarG Tryz.prog (fun V => Alw V V.heap.size AL t) 55 #[.agg (fV t A c AL t.ts.length cm)] #[] encGk n₀ (fun ys => ys = Ti.truthsL t) (fun pre => pre <+: Ti.truthsL t) 5000 w') := fun h0 AL cm n₀ w' h => by
    obtain ⟨h1, _, _⟩ := Ti.op_ok h0
    obtain ⟨g1, g2, g3, _⟩ := Ti.chk_ok h1
    exact truthsT_far t g1 g2 (by omega) A c AL cm n₀ w' h
  have HAK : Hid (∀ AL V V', Alw V V.heap.size AL t → Below V.heap.size V V' → Alw V' V'.heap.size AL t) := fun AL V V' h hb => (h.keep hb).wider hb.size
  have HLE : Hid (Ti.manyE (Ti.opE t true) t = if Ti.opE t true = 0 then ((Ti.truthsL t).length : Int) else 0) := rfl
  have HLN : Hid (Ti.opE t true = 0 → (Ti.truthsL t).length ≤ 5000) := fun h0 => by
    obtain ⟨h1, _, _⟩ := Ti.op_ok h0
    obtain ⟨g1, g2, g3, _⟩ := Ti.chk_ok h1
    have h4 : (Ti.truthsL t).length ≤ (Ti.casesL t).length := List.length_filter_le _ _
    have h5 : (Ti.casesL t).length = Ti.nG t * Ti.nS t := Ti.casesTo_len t _
    have h6 : Ti.nG t * Ti.nS t ≤ 101 * 41 := Nat.mul_le_mul (by unfold Ti.nG; omega) (by unfold Ti.nS; omega)
    omega
  unfold OpPost at HOP
  have HOV : Hid (∀ AL cm, opV (Ti.opE t true) t A c AL cm = if Ti.opE t true = 0 then fV t A c AL t.ts.length cm else #[.int .i64 0, .int .i64 0, .int .i64 0, .int .i64 0, .int .i64 0, .int .i64 0, .int .i64 0, .int .i64 0, .int .i64 0, .slice none 0 0, .slice none 0 0]) := fun AL cm => rfl
  clear hg
  generalize opV (Ti.opE t true) t A c = OV at *
  generalize Ti.manyE (Ti.opE t true) t = LE at *
  generalize Ti.opE t true = E at *
  generalize Ti.truthsL t = TL at *
  obtain ⟨AW, hAW⟩ : ∃ AW : Option Addr → World → Prop, AW = fun AL V => Alw V V.heap.size AL t := ⟨_, rfl⟩
  have HAW : ∀ AL V, Alw V V.heap.size AL t = AW AL V := fun AL V => by rw [hAW]
  simp only [HAW] at HAK HSEQ HOP
  clear HAW hAW
  unfold fV at *
  unfold tiV at *
  unfold TwoPost
  obtain ⟨d, gain, ts⟩ := t
  obtain ⟨full, read, slip, skew, circ, glo, ghi, wrn, dws⟩ := d
  dsimp only at *
  by_cases h0 : E = 0
  · subst h0
    have HL1 : Hid (LE = (TL.length : Int)) := by unfold Hid; rw [HLE.out, if_pos rfl]
    have HSQ := Lib.hid (HSEQ.out rfl)
    have HOV1 : Hid (∀ AL cm, OV AL cm = #[.int .i64 full, .int .i64 read, .int .i64 slip, .int .i64 skew, .int .i64 circ, .int .i64 glo, .int .i64 ghi, .int .i64 wrn, .int .i64 gain, .slice A ts.length c, .slice AL ts.length cm]) := fun AL cm => by rw [HOV.out, if_pos rfl]
    clear HLE HSEQ HOV
    refine (callsIn_wide (n := 8)).1 ?_
    refine callsIn_of_wp_marks Tryz.func13 rfl trivial ?_ rfl
    simp only [Tryz.ntmps13, List.size_toArray, List.length_cons, List.length_nil, Nat.reduceAdd, Nat.reduceSub, Array.replicate_succ, Array.replicate_zero, List.push_toArray, List.append_toArray, List.nil_append, List.cons_append]
    gi_wp2
    have hB1 : Below w.heap.size w (w.alloc (.cells #[.int .i64 full, .int .i64 read, .int .i64 slip, .int .i64 skew, .int .i64 circ, .int .i64 glo, .int .i64 ghi, .int .i64 wrn, .int .i64 gain, .slice A ts.length c] 28)) := by (repeat' (first | (with_reducible exact Below.refl _ _) | (with_reducible assumption) | (with_reducible refine Below.alloc ?_ ?_ _) | (with_reducible refine Below.drew ?_) | (with_reducible refine Below.setCell ?_ ?_ _) | go_size | (exact (by simp)) | omega))
    generalize World.alloc w _ = w1 at *
    refine ⟨trivial, (callsIn_wide.2 (HOP.out _ hB1)).mono ?_⟩
    rintro e w2 ⟨AL, cm, rfl, hal, hb2⟩
    rw [HOV1.out]
    have hB2 := hB1.trans (hb2.mono hB1.size)
    have hal2 : AW AL w2 := by first | exact hal.out rfl | exact hal.out trivial
    clear HOV1 HOP hB1 hb2 hal
    gi_wp2
    have bV5 : BoxS ((w2.alloc (.cells #[.int .i64 full, .int .i64 read, .int .i64 slip, .int .i64 skew, .int .i64 circ, .int .i64 glo, .int .i64 ghi, .int .i64 wrn, .int .i64 gain, .slice A ts.length c, .slice AL ts.length cm] 84)).alloc (.cells #[.int .i64 0] 3)) (w2.heap.size + 1) 3 #[.int .i64 0] := by
      have := BoxS.new (w2.alloc (.cells #[.int .i64 full, .int .i64 read, .int .i64 slip, .int .i64 skew, .int .i64 circ, .int .i64 glo, .int .i64 ghi, .int .i64 wrn, .int .i64 gain, .slice A ts.length c, .slice AL ts.length cm] 84)) 3 #[.int .i64 0]
      simp only [World.size_alloc] at this
      exact this
    have hB5 : Below w2.heap.size w2 ((w2.alloc (.cells #[.int .i64 full, .int .i64 read, .int .i64 slip, .int .i64 skew, .int .i64 circ, .int .i64 glo, .int .i64 ghi, .int .i64 wrn, .int .i64 gain, .slice A ts.length c, .slice AL ts.length cm] 84)).alloc (.cells #[.int .i64 0] 3)) := by (repeat' (first | (with_reducible exact Below.refl _ _) | (with_reducible assumption) | (with_reducible refine Below.alloc ?_ ?_ _) | (with_reducible refine Below.drew ?_) | (with_reducible refine Below.setCell ?_ ?_ _) | go_size | (exact (by simp)) | omega))
    have hz5 : ((w2.alloc (.cells #[.int .i64 full, .int .i64 read, .int .i64 slip, .int .i64 skew, .int .i64 circ, .int .i64 glo, .int .i64 ghi, .int .i64 wrn, .int .i64 gain, .slice A ts.length c, .slice AL ts.length cm] 84)).alloc (.cells #[.int .i64 0] 3)).heap.size = w2.heap.size + 2 := by simp
    have hw2s := hB2.size
    generalize World.alloc (World.alloc w2 _) _ = w5 at *
    refine wpIn_farG (n₀ := w2.heap.size) (gf := 55) (pb := #[.agg #[.int .i64 full, .int .i64 read, .int .i64 slip, .int .i64 skew, .int .i64 circ, .int .i64 glo, .int .i64 ghi, .int .i64 wrn, .int .i64 gain, .slice A ts.length c, .slice AL ts.length cm]]) (lb := #[]) rfl (enters_of Tryz.func55 (by kernel_rfl) rfl)
      (HSQ.out AL cm w2.heap.size w5 (by omega)) (Below.refl _ _) (by omega) (fun _ => rfl)
      (fun (pre : List Ti.GkS) V => BoxS V (w2.heap.size + 1) 3 #[.int .i64 (pre.length : Int)] ∧ Below w2.heap.size w2 V)
      (fun _ _ _ => False)
      (fun pre V h => HAK.out _ _ _ hal2 h.2)
      (OwnFrom.and (Own.from (boxS_own _ _ (fun (pre : List Ti.GkS) => #[.int .i64 (pre.length : Int)])) _) (ownFrom_below (Nat.le_refl _) (by omega)))
      (fun _ _ _ _ _ hs _ _ => hs)
      ⟨bV5, hB5⟩
      (fun x a' V => a' = { tmps := #[.agg #[.int .i64 full, .int .i64 read, .int .i64 slip, .int .i64 skew, .int .i64 circ, .int .i64 glo, .int .i64 ghi, .int .i64 wrn, .int .i64 gain, .slice A ts.length c], .pointer (some ⟨w.heap.size, 0, none⟩), .int .i64 0, .int .i64 0, .pointer (some ⟨w2.heap.size, 0, none⟩), .int .i64 0, .pointer (some ⟨w2.heap.size + 1, 0, none⟩), .tuple #[.agg #[.int .i64 full, .int .i64 read, .int .i64 slip, .int .i64 skew, .int .i64 circ, .int .i64 glo, .int .i64 ghi, .int .i64 wrn, .int .i64 gain, .slice A ts.length c, .slice AL ts.length cm], .int .i64 0], .agg #[.int .i64 full, .int .i64 read, .int .i64 slip, .int .i64 skew, .int .i64 circ, .int .i64 glo, .int .i64 ghi, .int .i64 wrn, .int .i64 gain, .slice A ts.length c], .tuple #[.agg #[.int .i64 full, .int .i64 read, .int .i64 slip, .int .i64 skew, .int .i64 circ, .int .i64 glo, .int .i64 ghi, .int .i64 wrn, .int .i64 gain, .slice A ts.length c, .slice AL ts.length cm], .int .i64 0], .agg #[.int .i64 full, .int .i64 read, .int .i64 slip, .int .i64 skew, .int .i64 circ, .int .i64 glo, .int .i64 ghi, .int .i64 wrn, .int .i64 gain, .slice A ts.length c, .slice AL ts.length cm], .int .i64 0, .int .i64 0, .bool false, undef, .agg #[.int .i64 full, .int .i64 read, .int .i64 slip, .int .i64 skew, .int .i64 circ, .int .i64 glo, .int .i64 ghi, .int .i64 wrn, .int .i64 gain, .slice A ts.length c, .slice AL ts.length cm], .func (.func 55) #[.agg #[.int .i64 full, .int .i64 read, .int .i64 slip, .int .i64 skew, .int .i64 circ, .int .i64 glo, .int .i64 ghi, .int .i64 wrn, .int .i64 gain, .slice A ts.length c, .slice AL ts.length cm]] #[], .agg #[.int .i64 x.1.1, .int .i64 x.1.2], undef, undef, undef], defers := [] })
      (fun x a' => ownFrom_pure _ (fun _ => _))
      ?assign ?body ?done ?stop
    case assign =>
      rintro l2 pre x V K h hK
      unfold encGk
      gi_wp2
      exact hK _ _ (Apart.refl _ _ _) h (by simp)
    case body =>
      rintro l2 pre x a' V ⟨bV, hB⟩ rfl hlt
      have v0 := bV.cell 0 rfl
      have g0 := bV.frozen 0
      have hBs := hB.size
      have hw1 : IntKind.i64.wrap ((pre.length : Int) + 1) = (pre.length : Int) + 1 := IntWalk.i64_in _ (by omega)
      gi_wp2
      have hA3 : Apart w2.heap.size w5.heap.size V (V.setCell ⟨w2.heap.size + 1, 0, none⟩ (.int .i64 ((pre.length : Int) + 1))) := Apart.setCell _ ⟨w2.heap.size + 1, 0, none⟩ (by simp) (by simp; omega) _
      have e : (((pre ++ [x]).length : Nat) : Int) = (pre.length : Int) + 1 := by rw [List.length_append]; simp
      exact ⟨hA3, by rw [e]; exact bV.put1 _, hB.trans (hA3.below hB.size)⟩
    case done =>
      rintro D0 zs V hD0 rfl ⟨bV, hB⟩ hK
      have v0 := bV.cell 0 rfl
      have hB3 := hB2.trans (hB.mono hw2s)
      have hVs := hB.size
      obtain ⟨n, hn⟩ : ∃ n : Int, n = (zs.length : Int) := ⟨_, rfl⟩
      have HL2 : Hid (LE = n) := by unfold Hid; rw [HL1.out, hn]
      rw [← hn] at v0
      clear hn
      gi_wp2
      refine ⟨by simp, .inl ⟨_, _, rfl, run_takeDeferred hK, ?_⟩⟩
      exact ⟨.tuple #[.int .i64 n, .int .i64 0], by simp [results, Tryz.f13, go_sem], by rw [HL2.out], hB3.trans (belowK_b (w := w) (Nat.le_refl _) V D0 _ _ (by omega) hK rfl rfl)⟩
    case stop =>
      rintro D0 cc pre V hD0 hpre h hK
      exact h.elim
  · have HL1 : Hid (LE = 0) := by unfold Hid; rw [HLE.out, if_neg h0]
    have HOV1 : Hid (∀ AL cm, OV AL cm = #[.int .i64 0, .int .i64 0, .int .i64 0, .int .i64 0, .int .i64 0, .int .i64 0, .int .i64 0, .int .i64 0, .int .i64 0, .slice none 0 0, .slice none 0 0]) := fun AL cm => by rw [HOV.out, if_neg h0]
    have hne : (E != 0) = true := by simpa using h0
    clear HLE HSEQ HOV h0 HLN
    go_enter Tryz.func13, Tryz.ntmps13
    go_wp2_with fail
    have hB1 : Below w.heap.size w (w.alloc (.cells #[.int .i64 full, .int .i64 read, .int .i64 slip, .int .i64 skew, .int .i64 circ, .int .i64 glo, .int .i64 ghi, .int .i64 wrn, .int .i64 gain, .slice A ts.length c] 28)) := by (repeat' (first | (with_reducible exact Below.refl _ _) | (with_reducible assumption) | (with_reducible refine Below.alloc ?_ ?_ _) | (with_reducible refine Below.drew ?_) | (with_reducible refine Below.setCell ?_ ?_ _) | go_size | (exact (by simp)) | omega))
    try generalize World.alloc w _ = w1 at *
    refine (HOP.out _ hB1).mono ?_
    rintro e w2 ⟨AL, cm, rfl, hal, hb2⟩
    rw [HOV1.out]
    have hB2 := hB1.trans (hb2.mono hB1.size)
    go_wp2_with fail
    go_returns
    exact ⟨by rw [HL1.out]; rfl, hB2.alloc hB2.size _⟩
end Go.Proofs.YtkmacpkjobdffaaGreat
namespace Go.Proofs.YtkmacpkjobdffaaGreat
open Go.RowKit
namespace Ti
/-- The least of what is asked: it is asked of some truth, and of none is less. -/
theorem lowL_spec (f : Gk → Int) : ∀ (L : List GkS), (∀ x ∈ L, f x.1 ≤ 9223372036854775807) → L ≠ [] → (∃ x ∈ L, lowL f L = f x.1) ∧ ∀ x ∈ L, lowL f L ≤ f x.1 := by
  have key : ∀ (L : List GkS) (a : Int), (L.foldl (fun m x => min m (f x.1)) a = a ∨ ∃ x ∈ L, L.foldl (fun m x => min m (f x.1)) a = f x.1) ∧ L.foldl (fun m x => min m (f x.1)) a ≤ a ∧ ∀ x ∈ L, L.foldl (fun m x => min m (f x.1)) a ≤ f x.1 := by
    intro L
    induction L with
    | nil => exact fun a => ⟨.inl rfl, Int.le_refl _, fun x h => by cases h⟩
    | cons y l ih =>
      intro a
      obtain ⟨h1, h2, h3⟩ := ih (min a (f y.1))
      simp only [List.foldl_cons]
      refine ⟨?_, by omega, fun x hx => ?_⟩
      · rcases h1 with h1 | ⟨x, hx, h1⟩
        · by_cases hc : a ≤ f y.1
          · left; rw [h1]; omega
          · right; exact ⟨y, List.mem_cons_self .., by rw [h1]; omega⟩
        · right; exact ⟨x, List.mem_cons_of_mem _ hx, h1⟩
      · rcases List.mem_cons.1 hx with rfl | hx
        · omega
        · exact h3 x hx
  intro L hb hn
  obtain ⟨h1, h2, h3⟩ := key L 9223372036854775807
  refine ⟨?_, h3⟩
  rcases h1 with h1 | h1
  · cases L with
    | nil => exact absurd rfl hn
    | cons y l =>
      refine ⟨y, List.mem_cons_self .., ?_⟩
      have := h3 y (List.mem_cons_self ..)
      have := hb y (List.mem_cons_self ..)
      unfold lowL
      omega
  · exact h1
theorem highL_spec (f : Gk → Int) : ∀ (L : List GkS), (∀ x ∈ L, -9223372036854775808 ≤ f x.1) → L ≠ [] → (∃ x ∈ L, highL f L = f x.1) ∧ ∀ x ∈ L, f x.1 ≤ highL f L := by
  have key : ∀ (L : List GkS) (a : Int), (L.foldl (fun m x => max m (f x.1)) a = a ∨ ∃ x ∈ L, L.foldl (fun m x => max m (f x.1)) a = f x.1) ∧ a ≤ L.foldl (fun m x => max m (f x.1)) a ∧ ∀ x ∈ L, f x.1 ≤ L.foldl (fun m x => max m (f x.1)) a := by
    intro L
    induction L with
    | nil => exact fun a => ⟨.inl rfl, Int.le_refl _, fun x h => by cases h⟩
    | cons y l ih =>
      intro a
      obtain ⟨h1, h2, h3⟩ := ih (max a (f y.1))
      simp only [List.foldl_cons]
      refine ⟨?_, by omega, fun x hx => ?_⟩
      · rcases h1 with h1 | ⟨x, hx, h1⟩
        · by_cases hc : f y.1 ≤ a
          · left; rw [h1]; omega
          · right; exact ⟨y, List.mem_cons_self .., by rw [h1]; omega⟩
        · right; exact ⟨x, List.mem_cons_of_mem _ hx, h1⟩
      · rcases List.mem_cons.1 hx with rfl | hx
        · omega
        · exact h3 x hx
  intro L hb hn
  obtain ⟨h1, h2, h3⟩ := key L (-9223372036854775808)
  refine ⟨?_, h3⟩
  rcases h1 with h1 | h1
  · cases L with
    | nil => exact absurd rfl hn
    | cons y l =>
      refine ⟨y, List.mem_cons_self .., ?_⟩
      have := h3 y (List.mem_cons_self ..)
      have := hb y (List.mem_cons_self ..)
      unfold highL
      omega
  · exact h1
/-- The least and the greatest size of the first numbers of a list. -/
def zLo (l : List Int) : Nat → Int
  | 0 => sizeV (l.headD 0)
  | k + 1 => min (zLo l k) (sizeV ((l[k]?).getD 0))
def zHi (l : List Int) : Nat → Int
  | 0 => sizeV (l.headD 0)
  | k + 1 => max (zHi l k) (sizeV ((l[k]?).getD 0))
theorem zLo_spec (l : List Int) : ∀ k, k ≤ l.length → (zLo l k = sizeV (l.headD 0) ∨ ∃ s ∈ l, zLo l k = sizeV s) ∧ ∀ i s, i < k → l[i]? = some s → zLo l k ≤ sizeV s
  | 0, _ => ⟨.inl rfl, fun i s h => by omega⟩
  | k + 1, hk => by
    obtain ⟨h1, h2⟩ := zLo_spec l k (by omega)
    have hkl : k < l.length := by omega
    have e : l[k]? = some l[k] := List.getElem?_eq_getElem hkl
    have hz : zLo l (k + 1) = min (zLo l k) (sizeV l[k]) := by show min _ (sizeV ((l[k]?).getD 0)) = _; rw [e]; rfl
    rw [hz]
    refine ⟨?_, fun i s hi hs => ?_⟩
    · by_cases hc : zLo l k ≤ sizeV l[k]
      · rw [show min (zLo l k) (sizeV l[k]) = zLo l k by omega]; exact h1
      · right; exact ⟨l[k], List.getElem_mem hkl, by omega⟩
    · by_cases hik : i = k
      · subst hik; rw [e] at hs; injection hs with hs; subst hs; omega
      · have := h2 i s (by omega) hs; omega
theorem zHi_spec (l : List Int) : ∀ k, k ≤ l.length → (zHi l k = sizeV (l.headD 0) ∨ ∃ s ∈ l, zHi l k = sizeV s) ∧ ∀ i s, i < k → l[i]? = some s → sizeV s ≤ zHi l k
  | 0, _ => ⟨.inl rfl, fun i s h => by omega⟩
  | k + 1, hk => by
    obtain ⟨h1, h2⟩ := zHi_spec l k (by omega)
    have hkl : k < l.length := by omega
    have e : l[k]? = some l[k] := List.getElem?_eq_getElem hkl
    have hz : zHi l (k + 1) = max (zHi l k) (sizeV l[k]) := by show max _ (sizeV ((l[k]?).getD 0)) = _; rw [e]; rfl
    rw [hz]
    refine ⟨?_, fun i s hi hs => ?_⟩
    · by_cases hc : sizeV l[k] ≤ zHi l k
      · rw [show max (zHi l k) (sizeV l[k]) = zHi l k by omega]; exact h1
      · right; exact ⟨l[k], List.getElem_mem hkl, by omega⟩
    · by_cases hik : i = k
      · subst hik; rw [e] at hs; injection hs with hs; subst hs; omega
      · have := h2 i s (by omega) hs; omega
theorem mem_skewF {L : List GkS} {s : Int} : s ∈ skewF L ↔ ∃ f ∈ L, f.1.2 = s := by
  rw [← tskews_eq]
  have h : ∀ x, x ∈ skewF L ↔ ∃ f ∈ L, f.1.2 = x := fun x => by
    unfold skewF
    rw [List.mem_filter, decide_eq_true_eq]
    constructor
    · exact fun h => h.2
    · rintro ⟨f, hf, rfl⟩
      refine ⟨?_, f, hf, rfl⟩
      have := f.2
      unfold gsm at this
      rw [List.mem_map]
      exact ⟨(f.1.2 + 20).toNat, List.mem_range.2 (by omega), by omega⟩
  rw [tskews_eq]
  exact h s
theorem seen_zero (g : Int) : seenV g 0 = 0 := by unfold seenV; rw [Int.zero_mul]; rfl
theorem err_zero (x : Gk) : errV x 0 = sizeV x.2 := by
  unfold errV
  rw [seen_zero]
  have : sizeV (0 - 0) = 0 := rfl
  omega
theorem size_bd {s : Int} (h : -20 ≤ s ∧ s ≤ 20) : 0 ≤ sizeV s ∧ sizeV s ≤ 20 := by unfold sizeV; omega
/-- Errs of the area 0 goes from the least to the greatest size of a skew. -/
theorem zero_errs {L : List GkS} (hn : L ≠ []) : zLo (skewF L) (skewF L).length = lowL (fun x => errV x 0) L ∧ zHi (skewF L) (skewF L).length = highL (fun x => errV x 0) L ∧ skewF L ≠ [] := by
  have hbx : ∀ x ∈ L, 0 ≤ errV x.1 0 ∧ errV x.1 0 ≤ 20 := fun x _ => by
    have := x.2
    unfold gsm at this
    rw [err_zero]
    exact size_bd this.2
  obtain ⟨⟨x1, hx1, e1⟩, l1⟩ := lowL_spec (fun x => errV x 0) L (fun x hx => by have := (hbx x hx).2; omega) hn
  obtain ⟨⟨x2, hx2, e2⟩, l2⟩ := highL_spec (fun x => errV x 0) L (fun x hx => by have := (hbx x hx).1; omega) hn
  have hne : skewF L ≠ [] := fun h => by
    have := mem_skewF.2 ⟨x1, hx1, rfl⟩
    rw [h] at this
    cases this
  have hhd : (skewF L).headD 0 ∈ skewF L := by
    cases hs : skewF L with
    | nil => exact absurd hs hne
    | cons a b => exact List.mem_cons_self ..
  have each : ∀ s ∈ skewF L, ∃ x ∈ L, sizeV s = errV x.1 0 := fun s hs => by
    obtain ⟨x, hx, rfl⟩ := mem_skewF.1 hs
    exact ⟨x, hx, (err_zero _).symm⟩
  have idx : ∀ x ∈ L, ∃ i : Nat, i < (skewF L).length ∧ (skewF L)[i]? = some x.1.2 := fun x hx => by
    obtain ⟨i, hi⟩ := List.mem_iff_getElem?.1 (mem_skewF.2 ⟨x, hx, rfl⟩)
    exact ⟨i, (List.getElem?_eq_some_iff.1 hi).1, hi⟩
  refine ⟨?_, ?_, hne⟩
  · obtain ⟨z1, z2⟩ := zLo_spec (skewF L) _ (Nat.le_refl _)
    obtain ⟨i, hi, hi2⟩ := idx x1 hx1
    have a1 := z2 i _ hi hi2
    rw [← err_zero, ← e1] at a1
    have a2 : lowL (fun x => errV x 0) L ≤ zLo (skewF L) (skewF L).length := by
      rcases z1 with z1 | ⟨s, hs, z1⟩
      · obtain ⟨x, hx, e⟩ := each _ hhd
        rw [z1, e]; exact l1 x hx
      · obtain ⟨x, hx, e⟩ := each s hs
        rw [z1, e]; exact l1 x hx
    omega
  · obtain ⟨z1, z2⟩ := zHi_spec (skewF L) _ (Nat.le_refl _)
    obtain ⟨i, hi, hi2⟩ := idx x2 hx2
    have a1 := z2 i _ hi hi2
    rw [← err_zero, ← e2] at a1
    have a2 : zHi (skewF L) (skewF L).length ≤ highL (fun x => errV x 0) L := by
      rcases z1 with z1 | ⟨s, hs, z1⟩
      · obtain ⟨x, hx, e⟩ := each _ hhd
        rw [z1, e]; exact l2 x hx
      · obtain ⟨x, hx, e⟩ := each s hs
        rw [z1, e]; exact l2 x hx
    omega
theorem seen_mono {g a b : Int} (hg : -50 ≤ g) (h0 : 0 ≤ a) (h : a ≤ b) : seenV g a ≤ seenV g b := by
  unfold seenV
  have h1 : a * (1000 + g) ≤ b * (1000 + g) := Int.mul_le_mul_of_nonneg_right h (by omega)
  have h2 : 0 ≤ a * (1000 + g) := Int.mul_nonneg h0 (by omega)
  rw [Int.tdiv_eq_ediv_of_nonneg h2, Int.tdiv_eq_ediv_of_nonneg (by omega)]
  omega
theorem seen_bd {g a : Int} (hg : -50 ≤ g ∧ g ≤ 50) (h0 : 0 ≤ a ∧ a ≤ 9000) : 0 ≤ seenV g a ∧ seenV g a ≤ 9450 := by
  unfold seenV
  have h2 : 0 ≤ a * (1000 + g) := Int.mul_nonneg h0.1 (by omega)
  have h3 : a * (1000 + g) ≤ 9000 * 1050 := Int.mul_le_mul h0.2 (by omega) (by omega) (by omega)
  rw [Int.tdiv_eq_ediv_of_nonneg h2]
  omega
/-- A greater area is not seen as less than a lesser one. -/
theorem seen_ends {L : List GkS} (hn : L ≠ []) {a b : Int} (h0 : 0 ≤ a) (h : a ≤ b) (hb : b ≤ 9000) : lowL (fun x => seenV x.1 a) L ≤ lowL (fun x => seenV x.1 b) L ∧ highL (fun x => seenV x.1 a) L ≤ highL (fun x => seenV x.1 b) L := by
  have bd : ∀ (z : Int), 0 ≤ z ∧ z ≤ 9000 → ∀ x ∈ L, 0 ≤ seenV x.1.1 z ∧ seenV x.1.1 z ≤ 9450 := fun z hz x _ => by
    have := x.2
    unfold gsm at this
    exact seen_bd this.1 hz
  have gx : ∀ x : GkS, -50 ≤ x.1.1 := fun x => by have := x.2; unfold gsm at this; omega
  obtain ⟨⟨x1, hx1, e1⟩, l1⟩ := lowL_spec (fun x => seenV x.1 b) L (fun x hx => by have := (bd b ⟨by omega, hb⟩ x hx).2; omega) hn
  obtain ⟨_, l2⟩ := lowL_spec (fun x => seenV x.1 a) L (fun x hx => by have := (bd a ⟨h0, by omega⟩ x hx).2; omega) hn
  obtain ⟨_, l3⟩ := highL_spec (fun x => seenV x.1 b) L (fun x hx => by have := (bd b ⟨by omega, hb⟩ x hx).1; omega) hn
  obtain ⟨⟨x4, hx4, e4⟩, _⟩ := highL_spec (fun x => seenV x.1 a) L (fun x hx => by have := (bd a ⟨h0, by omega⟩ x hx).1; omega) hn
  have m1 := seen_mono (gx x1) h0 h
  have m4 := seen_mono (gx x4) h0 h
  have a1 := l2 x1 hx1
  have a4 := l3 x4 hx4
  omega
theorem asc_ext : ∀ (a b : List Int), a.Pairwise (fun x y => x < y) → b.Pairwise (fun x y => x < y) → (∀ x, x ∈ a ↔ x ∈ b) → a = b
  | [], [], _, _, _ => rfl
  | [], y :: b, _, _, h => by have := (h y).2 (List.mem_cons_self ..); cases this
  | x :: a, [], _, _, h => by have := (h x).1 (List.mem_cons_self ..); cases this
  | x :: a, y :: b, ha, hb, h => by
    rw [List.pairwise_cons] at ha hb
    have e : x = y := by
      rcases List.mem_cons.1 ((h x).1 (List.mem_cons_self ..)) with e | hx
      · exact e
      · rcases List.mem_cons.1 ((h y).2 (List.mem_cons_self ..)) with e | hy
        · exact e.symm
        · have := hb.1 x hx; have := ha.1 y hy; omega
    subst e
    congr 1
    refine asc_ext a b ha.2 hb.2 fun z => ?_
    constructor
    · intro hz
      rcases List.mem_cons.1 ((h z).1 (List.mem_cons_of_mem _ hz)) with e | hz'
      · subst e; have := ha.1 z hz; omega
      · exact hz'
    · intro hz
      rcases List.mem_cons.1 ((h z).2 (List.mem_cons_of_mem _ hz)) with e | hz'
      · subst e; have := hb.1 z hz; omega
      · exact hz'
/-- A trial with the walks of its first test around a figure without area. -/
def zT (t : Tri) (ws : List Wh.Wk) : Tri := ⟨t.d, t.gain, [(0, ws)]⟩
theorem walks_first {t : Tri} (h : walksTo t t.ts.length = 0) (hn : 0 < t.ts.length) : Wh.chkE (whl t (tstAt t.ts 0).2) = 0 := by
  by_cases h1 : walksTo t 1 = 0
  · have e : walksTo t 1 = if walksTo t 0 = 0 then Wh.chkE (whl t (tstAt t.ts 0).2) else walksTo t 0 := rfl
    rw [e, if_pos (show walksTo t 0 = 0 from rfl)] at h1
    exact h1
  · rw [walksTo_err h1 _ hn] at h
    exact absurd h h1
theorem chk_parts {t : Tri} (h : chkV t = 0) : headB t = true ∧ walksTo t t.ts.length = 0 ∧ Wh.chkE (whl t []) = 0 := by
  unfold chkV at h
  by_cases hh : headB t = true
  · rw [if_pos hh] at h
    by_cases h0 : walksTo t t.ts.length = 0
    · rw [if_pos h0] at h; exact ⟨hh, h0, h⟩
    · rw [if_neg h0] at h; exact absurd h h0
  · rw [if_neg hh] at h; omega
theorem zT_chk {t : Tri} (h : chkV t = 0) (hn : 0 < t.ts.length) : chkV (zT t (tstAt t.ts 0).2) = 0 := by
  obtain ⟨h1, h2, h3⟩ := chk_parts h
  have h4 := walks_first h2 hn
  have hg : inB t.gain 0 50 = true := by
    unfold headB at h1
    rw [Bool.and_eq_true, Bool.and_eq_true] at h1
    exact h1.1.1
  have e1 : headB (zT t (tstAt t.ts 0).2) = true := by
    unfold headB
    show ((inB t.gain 0 50 && decide (1 ≤ 6)) && areasTo [(0, (tstAt t.ts 0).2)] 1) = true
    rw [hg]
    rfl
  have e2 : walksTo (zT t (tstAt t.ts 0).2) 1 = 0 := by
    show (if (0 : Int) = 0 then Wh.chkE (whl t (tstAt t.ts 0).2) else 0) = 0
    rw [if_pos rfl]
    exact h4
  unfold chkV
  rw [if_pos e1]
  show (if walksTo (zT t (tstAt t.ts 0).2) 1 = 0 then Wh.chkE (whl t []) else _) = 0
  rw [if_pos e2]
  exact h3
theorem zD_ok {t : Tri} (h : chkV t = 0) (hn : 0 < t.ts.length) : Wh.okB (dsk t 0 (tstAt t.ts 0).2) = true := by
  have h4 := Wh.chkE_zero.1 (walks_first (chk_parts h).2.1 hn)
  rw [Wh.okB_iff] at h4 ⊢
  refine ⟨?_, h4.2⟩
  have h5 := h4.1
  unfold Wh.whB at h5 ⊢
  simp only [Bool.and_eq_true] at h5 ⊢
  obtain ⟨⟨⟨⟨⟨⟨⟨a1, a2⟩, a3⟩, a4⟩, a5⟩, _⟩, _⟩, a8⟩ := h5
  exact ⟨⟨⟨⟨⟨⟨⟨a1, a2⟩, a3⟩, a4⟩, a5⟩, rfl⟩, rfl⟩, a8⟩
theorem wh_skew_bd {d : Wh.Desk} (hk : 0 ≤ d.skew ∧ d.skew ≤ 20) (ha : d.glo = 0 ∧ d.ghi = 0) {f : Wh.TrS} (h : f ∈ Wh.truthsL d) : -d.skew ≤ f.1.2 ∧ f.1.2 ≤ d.skew := by
  have h1 := (List.mem_filter.1 h).1
  unfold Wh.casesL Wh.casesTo at h1
  rw [List.mem_flatMap] at h1
  obtain ⟨i, hi, hm⟩ := h1
  unfold Wh.rowTo at hm
  rw [List.mem_map] at hm
  obtain ⟨j, hj, rfl⟩ := hm
  rw [List.mem_range] at hi hj
  unfold Wh.na at hi
  unfold Wh.nb at hj
  rw [Wh.trOf_val (by unfold Wh.tsm; dsimp only; omega)]
  dsimp only
  omega
theorem skews_in {t : Tri} {ws : List Wh.Wk} (hk : 0 ≤ t.d.skew ∧ t.d.skew ≤ 20) {s : Int} (h : s ∈ Wh.skewsV (dsk t 0 ws)) : -t.d.skew ≤ s ∧ s ≤ t.d.skew := by
  have h1 : skewB (dsk t 0 ws) s = true := by rw [← mem_skews]; exact decide_eq_true h
  unfold skewB at h1
  rw [Bool.and_eq_true, List.any_eq_true] at h1
  obtain ⟨_, f, hf, e⟩ := h1
  rw [decide_eq_true_eq] at e
  subst e
  exact wh_skew_bd (d := dsk t 0 ws) hk ⟨rfl, rfl⟩ hf
theorem zT_truths {t : Tri} (hg : 0 ≤ t.gain ∧ t.gain ≤ 50) (hk : 0 ≤ t.d.skew ∧ t.d.skew ≤ 20) (ws : List Wh.Wk) : truthsL (zT t ws) = (casesL t).filter fun x => decide (x.1.2 ∈ Wh.skewsV (dsk t 0 ws)) := by
  rw [truths_fast (t := zT t ws) hg hk]
  unfold fastL
  show (casesL t).filter _ = _
  refine List.filter_congr fun x _ => ?_
  show fastTo (zT t ws) x.1 1 = _
  rw [mem_skews]
  show ((List.range 1).all fun k => fastB (zT t ws) x.1 k) = _
  have e : fastB (zT t ws) x.1 0 = skewB (dsk t 0 ws) x.1.2 := by
    show skewB (dsk (zT t ws) (seenV x.1.1 0) ws) x.1.2 = _
    rw [seen_zero]
    rfl
  simp [e]
theorem mem_zT {t : Tri} (hg : 0 ≤ t.gain ∧ t.gain ≤ 50) (hk : 0 ≤ t.d.skew ∧ t.d.skew ≤ 20) (ws : List Wh.Wk) {x : GkS} : x ∈ truthsL (zT t ws) ↔ (-t.gain ≤ x.1.1 ∧ x.1.1 ≤ t.gain) ∧ x.1.2 ∈ Wh.skewsV (dsk t 0 ws) := by
  rw [zT_truths hg hk, List.mem_filter, decide_eq_true_eq, mem_cases hg hk]
  constructor
  · rintro ⟨⟨h1, _⟩, h2⟩; exact ⟨h1, h2⟩
  · rintro ⟨h1, h2⟩; exact ⟨⟨h1, skews_in hk h2⟩, h2⟩
theorem zT_skewF {t : Tri} (hg : 0 ≤ t.gain ∧ t.gain ≤ 50) (hk : 0 ≤ t.d.skew ∧ t.d.skew ≤ 20) (ws : List Wh.Wk) : skewF (truthsL (zT t ws)) = Wh.skewsV (dsk t 0 ws) := by
  refine asc_ext _ _ (by unfold skewF; exact asc41.filter _) (skews_asc _) fun s => ?_
  rw [mem_skewF]
  constructor
  · rintro ⟨f, hf, rfl⟩; exact ((mem_zT hg hk ws).1 hf).2
  · intro h
    have hb := skews_in hk h
    have hs : gsm ((0 : Int), s) := by unfold gsm; dsimp only; omega
    exact ⟨⟨(0, s), hs⟩, (mem_zT hg hk ws).2 ⟨by dsimp only; omega, h⟩, rfl⟩
theorem zT_nil {t : Tri} (hg : 0 ≤ t.gain ∧ t.gain ≤ 50) (hk : 0 ≤ t.d.skew ∧ t.d.skew ≤ 20) (ws : List Wh.Wk) : truthsL (zT t ws) = [] ↔ Wh.skewsV (dsk t 0 ws) = [] := by
  rw [← zT_skewF hg hk ws]
  constructor
  · intro h; rw [h]; rfl
  · intro h
    cases hs : truthsL (zT t ws) with
    | nil => rfl
    | cons x l =>
      have := (mem_skewF (L := truthsL (zT t ws)) (s := x.1.2)).2 ⟨x, (by rw [hs]; exact List.mem_cons_self ..), rfl⟩
      rw [h] at this
      cases this
theorem zT_len {t : Tri} (hg : 0 ≤ t.gain ∧ t.gain ≤ 50) (hk : 0 ≤ t.d.skew ∧ t.d.skew ≤ 20) (ws : List Wh.Wk) : ((truthsL (zT t ws)).length : Int) = ((Wh.skewsV (dsk t 0 ws)).length : Int) * (2 * t.gain + 1) := by
  have hc : ∀ i : Nat, ((rowTo t i (nS t)).filter fun x => decide (i < nG t ∧ x.1.2 ∈ Wh.skewsV (dsk t 0 ws))).length = if i < nG t then (Wh.skewsV (dsk t 0 ws)).length else 0 := by
    intro i
    by_cases hi : i < nG t
    · rw [if_pos hi]
      have e : ((rowTo t i (nS t)).filter fun x => decide (i < nG t ∧ x.1.2 ∈ Wh.skewsV (dsk t 0 ws))).map (fun x : GkS => x.1.2) = Wh.skewsV (dsk t 0 ws) := by
        have hv : ∀ j : Nat, j < nS t → (gkOf (-t.gain + (i : Int), -t.d.skew + (j : Int))).1 = (-t.gain + (i : Int), -t.d.skew + (j : Int)) := fun j hj => by
          unfold nS at hj
          unfold nG at hi
          exact gkOf_val (by unfold gsm; dsimp only; omega)
        refine asc_ext _ _ ?_ (skews_asc _) fun s => ?_
        · rw [List.pairwise_map]
          refine List.Pairwise.filter _ ?_
          unfold rowTo
          rw [List.pairwise_map]
          refine List.Pairwise.imp_of_mem (R := fun a b => a < b) (fun {a b} ha hb h => ?_) List.pairwise_lt_range
          rw [hv a (List.mem_range.1 ha), hv b (List.mem_range.1 hb)]
          dsimp only
          omega
        · rw [List.mem_map]
          constructor
          · rintro ⟨x, hx, rfl⟩
            have := (List.mem_filter.1 hx).2
            rw [decide_eq_true_eq] at this
            exact this.2
          · intro h
            have hb := skews_in hk h
            have hj : (s + t.d.skew).toNat < nS t := by unfold nS; omega
            refine ⟨gkOf (-t.gain + (i : Int), -t.d.skew + ((s + t.d.skew).toNat : Int)), List.mem_filter.2 ⟨?_, ?_⟩, ?_⟩
            · unfold rowTo
              exact List.mem_map.2 ⟨_, List.mem_range.2 hj, rfl⟩
            · rw [decide_eq_true_eq, hv _ hj]
              refine ⟨hi, ?_⟩
              rw [show -t.d.skew + ((s + t.d.skew).toNat : Int) = s by omega]
              exact h
            · rw [hv _ hj]
              show -t.d.skew + ((s + t.d.skew).toNat : Int) = s
              omega
      have e2 := congrArg List.length e
      rw [List.length_map] at e2
      exact e2
    · rw [if_neg hi]
      rw [List.length_eq_zero_iff, List.filter_eq_nil_iff]
      intro x _
      simp [hi]
  have hs : ∀ n, n ≤ nG t → ((casesTo t n).filter fun x => decide (x.1.2 ∈ Wh.skewsV (dsk t 0 ws))).length = n * (Wh.skewsV (dsk t 0 ws)).length := by
    intro n
    induction n with
    | zero => intro _; simp [casesTo]
    | succ n ih =>
      intro hn
      rw [casesTo_succ, List.filter_append, List.length_append, ih (by omega), Nat.succ_mul]
      have := hc n
      rw [if_pos (by omega)] at this
      have e : ((rowTo t n (nS t)).filter fun x => decide (n < nG t ∧ x.1.2 ∈ Wh.skewsV (dsk t 0 ws))) = (rowTo t n (nS t)).filter fun x => decide (x.1.2 ∈ Wh.skewsV (dsk t 0 ws)) := List.filter_congr fun x _ => by simp [show n < nG t by omega]
      rw [e] at this
      rw [this]
  rw [zT_truths hg hk]
  have := hs (nG t) (Nat.le_refl _)
  show (((casesTo t (nG t)).filter fun x => decide (x.1.2 ∈ Wh.skewsV (dsk t 0 ws))).length : Int) = _
  rw [this]
  have hng : ((nG t : Nat) : Int) = 2 * t.gain + 1 := by unfold nG; omega
  rw [Int.natCast_mul, hng, Int.mul_comm]
theorem zD_err {t : Tri} (h : chkV t = 0) (hn : 0 < t.ts.length) : opE (zT t (tstAt t.ts 0).2) true = Wh.spE (dsk t 0 (tstAt t.ts 0).2) := by
  obtain ⟨hg, hk, _⟩ := chk_ok h
  have h1 := zT_chk h hn
  have h2 := zD_ok h hn
  unfold opE
  rw [if_pos h1, if_pos rfl]
  have h3 : Wh.skewsV (dsk t 0 (tstAt t.ts 0).2) = [] ↔ Wh.truthsL (dsk t 0 (tstAt t.ts 0).2) = [] := by
    constructor
    · intro h4
      cases hs : Wh.truthsL (dsk t 0 (tstAt t.ts 0).2) with
      | nil => rfl
      | cons f l =>
        have h5 : skewB (dsk t 0 (tstAt t.ts 0).2) f.1.2 = true := by
          unfold skewB Wh.spE
          rw [if_pos h2, hs, if_neg (by simp)]
          simp
        rw [← mem_skews, decide_eq_true_eq, h4] at h5
        cases h5
    · intro h4
      unfold Wh.skewsV Wh.spE
      rw [if_pos h2, if_pos h4, if_neg (by decide)]
  unfold Wh.spE
  rw [if_pos h2]
  by_cases h4 : Wh.truthsL (dsk t 0 (tstAt t.ts 0).2) = []
  · rw [if_pos h4, if_pos ((zT_nil hg hk _).2 (h3.2 h4))]
  · rw [if_neg h4, if_neg (fun h5 => h4 (h3.1 ((zT_nil hg hk _).1 h5)))]
end Ti
end Go.Proofs.YtkmacpkjobdffaaGreat
namespace Go.Proofs.YtkmacpkjobdffaaGreat
open Go.RowKit
set_option maxHeartbeats 1000000 in
theorem Size9_any (n : Int) (hn : -9000000000000000000 ≤ n ∧ n ≤ 9000000000000000000) (w : World) : Calls Tryz.prog 80 #[.int .i64 n] w fun e w' => e = .returned (.int .i64 (Ti.sizeV n)) ∧ w' = w := by
  have hw1 : IntKind.i64.wrap (-n) = -n := IntWalk.i64_in _ (by omega)
  have HR : Hid (Ti.sizeV n = max n (-n)) := rfl
  generalize Ti.sizeV n = R at *
  go_enter Tryz.func80, Tryz.ntmps80
  go_wp2_with fail
  go_returns
  exact ⟨by rw [HR.out]; rfl, rfl⟩
theorem ten_put {W : World} {B : Nat} {t : TypeId} {a0 a1 a2 a3 a4 a5 a6 a7 a8 a9 : Value} (h : BoxS W B t #[a0, a1, a2, a3, a4, a5, a6, a7, a8, a9]) (u0 u1 u2 u3 u4 u5 u6 u7 u8 u9 : Value) : BoxS ((((((((((((((((((((W).setCell ⟨B, 0, none⟩ u0)).setCell ⟨B, 1, none⟩ u1)).setCell ⟨B, 2, none⟩ u2)).setCell ⟨B, 3, none⟩ u3)).setCell ⟨B, 4, none⟩ u4)).setCell ⟨B, 5, none⟩ u5)).setCell ⟨B, 6, none⟩ u6)).setCell ⟨B, 7, none⟩ u7)).setCell ⟨B, 8, none⟩ u8)).setCell ⟨B, 9, none⟩ u9) B t #[u0, u1, u2, u3, u4, u5, u6, u7, u8, u9] := by
  have h0 : BoxS ((W).setCell ⟨B, 0, none⟩ u0) B t #[u0, a1, a2, a3, a4, a5, a6, a7, a8, a9] := h.put9 0 u0
  have h1 : BoxS ((((W).setCell ⟨B, 0, none⟩ u0)).setCell ⟨B, 1, none⟩ u1) B t #[u0, u1, a2, a3, a4, a5, a6, a7, a8, a9] := h0.put9 1 u1
  have h2 : BoxS ((((((W).setCell ⟨B, 0, none⟩ u0)).setCell ⟨B, 1, none⟩ u1)).setCell ⟨B, 2, none⟩ u2) B t #[u0, u1, u2, a3, a4, a5, a6, a7, a8, a9] := h1.put9 2 u2
  have h3 : BoxS ((((((((W).setCell ⟨B, 0, none⟩ u0)).setCell ⟨B, 1, none⟩ u1)).setCell ⟨B, 2, none⟩ u2)).setCell ⟨B, 3, none⟩ u3) B t #[u0, u1, u2, u3, a4, a5, a6, a7, a8, a9] := h2.put9 3 u3
  have h4 : BoxS ((((((((((W).setCell ⟨B, 0, none⟩ u0)).setCell ⟨B, 1, none⟩ u1)).setCell ⟨B, 2, none⟩ u2)).setCell ⟨B, 3, none⟩ u3)).setCell ⟨B, 4, none⟩ u4) B t #[u0, u1, u2, u3, u4, a5, a6, a7, a8, a9] := h3.put9 4 u4
  have h5 : BoxS ((((((((((((W).setCell ⟨B, 0, none⟩ u0)).setCell ⟨B, 1, none⟩ u1)).setCell ⟨B, 2, none⟩ u2)).setCell ⟨B, 3, none⟩ u3)).setCell ⟨B, 4, none⟩ u4)).setCell ⟨B, 5, none⟩ u5) B t #[u0, u1, u2, u3, u4, u5, a6, a7, a8, a9] := h4.put9 5 u5
  have h6 : BoxS ((((((((((((((W).setCell ⟨B, 0, none⟩ u0)).setCell ⟨B, 1, none⟩ u1)).setCell ⟨B, 2, none⟩ u2)).setCell ⟨B, 3, none⟩ u3)).setCell ⟨B, 4, none⟩ u4)).setCell ⟨B, 5, none⟩ u5)).setCell ⟨B, 6, none⟩ u6) B t #[u0, u1, u2, u3, u4, u5, u6, a7, a8, a9] := h5.put9 6 u6
  have h7 : BoxS ((((((((((((((((W).setCell ⟨B, 0, none⟩ u0)).setCell ⟨B, 1, none⟩ u1)).setCell ⟨B, 2, none⟩ u2)).setCell ⟨B, 3, none⟩ u3)).setCell ⟨B, 4, none⟩ u4)).setCell ⟨B, 5, none⟩ u5)).setCell ⟨B, 6, none⟩ u6)).setCell ⟨B, 7, none⟩ u7) B t #[u0, u1, u2, u3, u4, u5, u6, u7, a8, a9] := h6.put9 7 u7
  have h8 : BoxS ((((((((((((((((((W).setCell ⟨B, 0, none⟩ u0)).setCell ⟨B, 1, none⟩ u1)).setCell ⟨B, 2, none⟩ u2)).setCell ⟨B, 3, none⟩ u3)).setCell ⟨B, 4, none⟩ u4)).setCell ⟨B, 5, none⟩ u5)).setCell ⟨B, 6, none⟩ u6)).setCell ⟨B, 7, none⟩ u7)).setCell ⟨B, 8, none⟩ u8) B t #[u0, u1, u2, u3, u4, u5, u6, u7, u8, a9] := h7.put9 8 u8
  have h9 : BoxS ((((((((((((((((((((W).setCell ⟨B, 0, none⟩ u0)).setCell ⟨B, 1, none⟩ u1)).setCell ⟨B, 2, none⟩ u2)).setCell ⟨B, 3, none⟩ u3)).setCell ⟨B, 4, none⟩ u4)).setCell ⟨B, 5, none⟩ u5)).setCell ⟨B, 6, none⟩ u6)).setCell ⟨B, 7, none⟩ u7)).setCell ⟨B, 8, none⟩ u8)).setCell ⟨B, 9, none⟩ u9) B t #[u0, u1, u2, u3, u4, u5, u6, u7, u8, u9] := h8.put9 9 u9
  exact h9
theorem ten_other {W : World} {B B' : Nat} {t : TypeId} {vs : Array Value} (h : BoxS W B t vs) (hne : B ≠ B') (u0 u1 u2 u3 u4 u5 u6 u7 u8 u9 : Value) : BoxS ((((((((((((((((((((W).setCell ⟨B', 0, none⟩ u0)).setCell ⟨B', 1, none⟩ u1)).setCell ⟨B', 2, none⟩ u2)).setCell ⟨B', 3, none⟩ u3)).setCell ⟨B', 4, none⟩ u4)).setCell ⟨B', 5, none⟩ u5)).setCell ⟨B', 6, none⟩ u6)).setCell ⟨B', 7, none⟩ u7)).setCell ⟨B', 8, none⟩ u8)).setCell ⟨B', 9, none⟩ u9) B t vs := by
  have oth : ∀ {W : World} (_ : BoxS W B t vs) (i : Nat) (v : Value), BoxS (W.setCell ⟨B', i, none⟩ v) B t vs := fun h i v => (Below.heap_setCell _ _ _ B hne).trans h
  exact (oth (oth (oth (oth (oth (oth (oth (oth (oth (oth h 0 u0) 1 u1) 2 u2) 3 u3) 4 u4) 5 u5) 6 u6) 7 u7) 8 u8) 9 u9)
theorem ten_below {n : Nat} {W0 W : World} {B : Nat} (h : Below n W0 W) (hB : n ≤ B) (u0 u1 u2 u3 u4 u5 u6 u7 u8 u9 : Value) : Below n W0 ((((((((((((((((((((W).setCell ⟨B, 0, none⟩ u0)).setCell ⟨B, 1, none⟩ u1)).setCell ⟨B, 2, none⟩ u2)).setCell ⟨B, 3, none⟩ u3)).setCell ⟨B, 4, none⟩ u4)).setCell ⟨B, 5, none⟩ u5)).setCell ⟨B, 6, none⟩ u6)).setCell ⟨B, 7, none⟩ u7)).setCell ⟨B, 8, none⟩ u8)).setCell ⟨B, 9, none⟩ u9) := by
  have st : ∀ {X : World} (i : Nat) (v : Value), Below n W0 X → Below n W0 (X.setCell ⟨B, i, none⟩ v) := fun i v h => h.setCell hB v
  exact (st 9 u9 (st 8 u8 (st 7 u7 (st 6 u6 (st 5 u5 (st 4 u4 (st 3 u3 (st 2 u2 (st 1 u1 (st 0 u0 h))))))))))
theorem ints_some {w : World} {B : Nat} {A : Option Addr} {n c : Nat} {xs : List Int} (h : Ints w B (.slice A n c) xs) (hn : xs ≠ []) : ∃ b off, A = some ⟨b, off, none⟩ ∧ b < B ∧ ∀ k x, xs[k]? = some x → w.cell? ⟨b, off + k, none⟩ = some (.int .i64 x) := by
  rcases h with ⟨_, e⟩ | ⟨b, off, cap, e, hb, hc⟩
  · exact absurd e hn
  · injection e with e1
    exact ⟨b, off, e1, hb, hc⟩
theorem tsts_one {w : World} {B : Nat} {A : Option Addr} {c : Nat} {ws : List Wh.Wk} (h : BoxS w B 78 #[.int .i64 0, .slice A ws.length c]) (hw : Wks w w.heap.size A ws) (hl : ws.length ≤ 1000000000) : Tsts w w.heap.size (some ⟨B, 0, none⟩) [(0, ws)] := fun _ => ⟨B, 0, rfl, h.lt, fun k x hk => by
  rcases k with _ | k
  · obtain rfl := Option.some.inj hk
    exact ⟨A, c, h.cell 0 rfl, h.cell 1 rfl, hw, hl⟩
  · simp at hk⟩
namespace Ti
theorem zT_many {t : Tri} (h : chkV t = 0) (hn : 0 < t.ts.length) : manyE (Wh.spE (dsk t 0 (tstAt t.ts 0).2)) (zT t (tstAt t.ts 0).2) = ((Wh.skewsV (dsk t 0 (tstAt t.ts 0).2)).length : Int) * (2 * t.gain + 1) := by
  obtain ⟨hg, hk, _⟩ := chk_ok h
  unfold manyE
  by_cases h0 : Wh.spE (dsk t 0 (tstAt t.ts 0).2) = 0
  · rw [if_pos h0]
    exact zT_len hg hk _
  · rw [if_neg h0]
    have : Wh.skewsV (dsk t 0 (tstAt t.ts 0).2) = [] := by unfold Wh.skewsV; rw [if_neg h0]
    rw [this]
    simp
theorem zT_skews {t : Tri} (h : chkV t = 0) (hn : 0 < t.ts.length) : allE (fun x => x.2) (Wh.spE (dsk t 0 (tstAt t.ts 0).2)) (zT t (tstAt t.ts 0).2) = Wh.skewsV (dsk t 0 (tstAt t.ts 0).2) := by
  obtain ⟨hg, hk, _⟩ := chk_ok h
  unfold allE
  by_cases h0 : Wh.spE (dsk t 0 (tstAt t.ts 0).2) = 0
  · rw [if_pos h0, tskews_eq]
    exact zT_skewF hg hk _
  · rw [if_neg h0]
    unfold Wh.skewsV
    rw [if_neg h0]
theorem spE_cases {t : Tri} (h : chkV t = 0) (hn : 0 < t.ts.length) : Wh.spE (dsk t 0 (tstAt t.ts 0).2) = 0 ∨ Wh.spE (dsk t 0 (tstAt t.ts 0).2) = 3 := by
  unfold Wh.spE
  rw [if_pos (zD_ok h hn)]
  split <;> simp
theorem op_cases0 {t : Tri} (h : chkV t = 0) (v : Bool) (hv : v = true) : opE t v = 0 ∨ opE t v = 3 := by
  unfold opE
  rw [if_pos h, if_pos hv]
  split <;> simp
end Ti
end Go.Proofs.YtkmacpkjobdffaaGreat
