/- Trials: bounds of all truths of a trial; errors. -/
import Derived.Test.YtkmacpkjobdffaaGreatTiK
namespace Go.Proofs.YtkmacpkjobdffaaGreat
open Go.RowKit Go.Maps
namespace Ti
theorem op_ok {t : Tri} {v : Bool} (h : opE t v = 0) : chkV t = 0 ∧ v = true ∧ truthsL t ≠ [] := by
  unfold opE at h
  by_cases h0 : chkV t = 0
  · rw [if_pos h0] at h
    cases v
    · exact absurd (show (1 : Int) = 0 from h) (by decide)
    · refine ⟨h0, rfl, fun e => ?_⟩
      rw [if_pos rfl, if_pos e] at h
      exact absurd (show (3 : Int) = 0 from h) (by decide)
  · rw [if_neg h0] at h
    exact absurd h h0
def lowE (f : Gk → Int) (E : Int) (t : Tri) : Int := if E = 0 then lowL f (truthsL t) else 0
def highE (f : Gk → Int) (E : Int) (t : Tri) : Int := if E = 0 then highL f (truthsL t) else 0
end Ti
/-- A span, and an error. -/
def SpanPost (lo hi x : Int) (w : World) (e : Ending) (w' : World) : Prop := e = .returned (.tuple #[.agg #[.int .i64 lo, .int .i64 hi], .int .i64 x]) ∧ Below w.heap.size w w'
set_option maxRecDepth 100000 in
set_option maxHeartbeats 8000000 in
theorem tbounds_any (t : Ti.Tri) (valid : Bool) (g : FuncId) (cp : Value) (f : Ti.Gk → Int) (HE : ∀ args W, (callFunc g args).run Tryz.prog W = .ok (.enter g args) W)
    (A : Option Addr) (c : Nat) (w : World) (hl : t.ts.length ≤ 1000000000) (hg : Tsts w w.heap.size A t.ts) (HO : Hid (Ti.opE t valid = 0 → ∀ (x : Ti.GkS) W, Below w.heap.size w W → Calls Tryz.prog g #[.agg #[.int .i64 x.1.1, .int .i64 x.1.2], cp] W fun e w' => e = .returned (.int .i64 (f x.1)) ∧ Below W.heap.size W w')) :
    Calls Tryz.prog 61 #[.agg (tiV t A c), .bool valid, .func (.func g) #[] #[cp]] w (SpanPost (Ti.lowE f (Ti.opE t valid) t) (Ti.highE f (Ti.opE t valid) t) (Ti.opE t valid) w) := by
  have HOP : Hid (∀ W, Below w.heap.size w W → Calls Tryz.prog 54 #[.agg (tiV t A c), .bool valid] W (OpPost (Ti.opE t valid) t A c W)) := fun W hW => openT_any t valid A c W hl ((hg.keep hW).wider hW.size)
  have HFB : Hid (Ti.opE t valid = 0 → ∀ AL cm W, Below w.heap.size w W → Alw W W.heap.size AL t → Calls Tryz.prog 97 #[.agg (fV t A c AL t.ts.length cm), .func (.func g) #[] #[cp]] W fun e w' => e = .returned (.agg #[.int .i64 (Ti.lowL f (Ti.truthsL t)), .int .i64 (Ti.highL f (Ti.truthsL t))]) ∧ Below W.heap.size W w') := fun h0 AL cm W hW hal => by
    obtain ⟨h1, _, _⟩ := Ti.op_ok h0
    obtain ⟨g1, g2, g3, _⟩ := Ti.chk_ok h1
    exact fbounds_any t g1 g2 g3 g cp f HE A c AL cm W (fun x V hV => HO.out h0 x V (hW.trans (hV.mono hW.size))) hal
  have HAK : Hid (∀ AL V V', Alw V V.heap.size AL t → Below V.heap.size V V' → Alw V' V'.heap.size AL t) := fun AL V V' h hb => (h.keep hb).wider hb.size
  have HLE : Hid (Ti.lowE f (Ti.opE t valid) t = if Ti.opE t valid = 0 then Ti.lowL f (Ti.truthsL t) else 0) := rfl
  have HHE : Hid (Ti.highE f (Ti.opE t valid) t = if Ti.opE t valid = 0 then Ti.highL f (Ti.truthsL t) else 0) := rfl
  unfold SpanPost
  unfold OpPost at HOP
  have HOV : Hid (∀ AL cm, opV (Ti.opE t valid) t A c AL cm = if Ti.opE t valid = 0 then fV t A c AL t.ts.length cm else #[.int .i64 0, .int .i64 0, .int .i64 0, .int .i64 0, .int .i64 0, .int .i64 0, .int .i64 0, .int .i64 0, .int .i64 0, .slice none 0 0, .slice none 0 0]) := fun AL cm => rfl
  clear HO HE hg
  generalize opV (Ti.opE t valid) t A c = OV at *
  generalize Ti.lowE f (Ti.opE t valid) t = LE at *
  generalize Ti.highE f (Ti.opE t valid) t = HE at *
  generalize Ti.opE t valid = E at *
  generalize Ti.lowL f (Ti.truthsL t) = LO at *
  generalize Ti.highL f (Ti.truthsL t) = HI at *
  obtain ⟨AW, hAW⟩ : ∃ AW : Option Addr → World → Prop, AW = fun AL V => Alw V V.heap.size AL t := ⟨_, rfl⟩
  have HAW : ∀ AL V, Alw V V.heap.size AL t = AW AL V := fun AL V => by rw [hAW]
  simp only [HAW] at HAK HFB HOP
  clear HAW hAW
  unfold fV at *
  unfold tiV at *
  obtain ⟨d, gain, ts⟩ := t
  obtain ⟨full, read, slip, skew, circ, glo, ghi, wrn, dws⟩ := d
  dsimp only at *
  by_cases h0 : E = 0
  · subst h0
    have HL1 : Hid (LE = LO) := by unfold Hid; rw [HLE.out, if_pos rfl]
    have HH1 : Hid (HE = HI) := by unfold Hid; rw [HHE.out, if_pos rfl]
    have HFB1 := Lib.hid (HFB.out rfl)
    have HOV1 : Hid (∀ AL cm, OV AL cm = #[.int .i64 full, .int .i64 read, .int .i64 slip, .int .i64 skew, .int .i64 circ, .int .i64 glo, .int .i64 ghi, .int .i64 wrn, .int .i64 gain, .slice A ts.length c, .slice AL ts.length cm]) := fun AL cm => by rw [HOV.out, if_pos rfl]
    clear HLE HHE HFB HOV
    go_enter Tryz.func61, Tryz.ntmps61
    go_wp2_with fail
    have bR := BoxS.new (w.alloc (.cells #[.int .i64 full, .int .i64 read, .int .i64 slip, .int .i64 skew, .int .i64 circ, .int .i64 glo, .int .i64 ghi, .int .i64 wrn, .int .i64 gain, .slice A ts.length c] 28)) 23 #[.int .i64 0, .int .i64 0]
    have hB1 : Below w.heap.size w ((w.alloc (.cells #[.int .i64 full, .int .i64 read, .int .i64 slip, .int .i64 skew, .int .i64 circ, .int .i64 glo, .int .i64 ghi, .int .i64 wrn, .int .i64 gain, .slice A ts.length c] 28)).alloc (.cells #[.int .i64 0, .int .i64 0] 23)) := by (repeat' (first | (with_reducible exact Below.refl _ _) | (with_reducible assumption) | (with_reducible refine Below.alloc ?_ ?_ _) | (with_reducible refine Below.drew ?_) | (with_reducible refine Below.setCell ?_ ?_ _) | go_size | (exact (by simp)) | omega))
    rw [World.size_alloc] at bR
    generalize World.alloc (World.alloc w _) _ = w1 at *
    refine (HOP.out _ hB1).mono ?_
    rintro e w2 ⟨AL, cm, rfl, hal, hb2⟩
    rw [HOV1.out]
    have bR2 := bR.below hb2
    have hB2 := hB1.trans (hb2.mono hB1.size)
    clear HOV1 HOP bR hB1 hb2
    have r0 := bR2.cell 0 rfl
    have r1 := bR2.cell 1 rfl
    have g0 := bR2.frozen 0
    have g1 := bR2.frozen 1
    have lR := bR2.lt
    go_wp2_with fail
    have bR3 := bR2.alloc (.cells #[.int .i64 full, .int .i64 read, .int .i64 slip, .int .i64 skew, .int .i64 circ, .int .i64 glo, .int .i64 ghi, .int .i64 wrn, .int .i64 gain, .slice A ts.length c, .slice AL ts.length cm] 84)
    have hB3 : Below w.heap.size w (w2.alloc (.cells #[.int .i64 full, .int .i64 read, .int .i64 slip, .int .i64 skew, .int .i64 circ, .int .i64 glo, .int .i64 ghi, .int .i64 wrn, .int .i64 gain, .slice A ts.length c, .slice AL ts.length cm] 84)) := hB2.alloc hB2.size _
    have hal3 := HAK.out _ _ _ (by first | exact hal.out rfl | exact hal.out trivial) ((Below.refl _ w2).alloc (Nat.le_refl _) (.cells #[.int .i64 full, .int .i64 read, .int .i64 slip, .int .i64 skew, .int .i64 circ, .int .i64 glo, .int .i64 ghi, .int .i64 wrn, .int .i64 gain, .slice A ts.length c, .slice AL ts.length cm] 84))
    clear r0 r1 g0 g1 lR bR2 hB2 hal
    try generalize World.alloc w2 _ = w3 at *
    refine (HFB1.out _ _ _ hB3 hal3).mono ?_
    rintro e w4 ⟨rfl, hb4⟩
    replace bR3 := bR3.below hb4
    replace hB3 := hB3.trans (hb4.mono hB3.size)
    have r0 := bR3.cell 0 rfl
    have r1 := bR3.cell 1 rfl
    have g0 := bR3.frozen 0
    have g1 := bR3.frozen 1
    go_wp2_with fail
    clear r0 r1 g0 g1
    have bR4 : BoxS ((w4.setCell ⟨w.heap.size + 1, 0, none⟩ (.int .i64 LO)).setCell ⟨w.heap.size + 1, 1, none⟩ (.int .i64 HI)) (w.heap.size + 1) 23 #[.int .i64 LO, .int .i64 HI] := (bR3.put9 0 _).put9 1 _
    have hB4 : Below w.heap.size w ((w4.setCell ⟨w.heap.size + 1, 0, none⟩ (.int .i64 LO)).setCell ⟨w.heap.size + 1, 1, none⟩ (.int .i64 HI)) := (hB3.setCell (by simp) _).setCell (by simp) _
    have q0 := bR4.cell 0 rfl
    have q1 := bR4.cell 1 rfl
    exact bodyPost_ret (v := .tuple #[.agg #[.int .i64 LO, .int .i64 HI], .int .i64 0]) (by simp [results, Tryz.results61, go_sem, q0, q1]) rfl ⟨by rw [HL1.out, HH1.out], hB4⟩
  · have HL1 : Hid (LE = 0) := by unfold Hid; rw [HLE.out, if_neg h0]
    have HH1 : Hid (HE = 0) := by unfold Hid; rw [HHE.out, if_neg h0]
    have HOV1 : Hid (∀ AL cm, OV AL cm = #[.int .i64 0, .int .i64 0, .int .i64 0, .int .i64 0, .int .i64 0, .int .i64 0, .int .i64 0, .int .i64 0, .int .i64 0, .slice none 0 0, .slice none 0 0]) := fun AL cm => by rw [HOV.out, if_neg h0]
    have hne : (E != 0) = true := by simpa using h0
    clear HLE HHE HFB HOV h0
    go_enter Tryz.func61, Tryz.ntmps61
    go_wp2_with fail
    have bR := BoxS.new (w.alloc (.cells #[.int .i64 full, .int .i64 read, .int .i64 slip, .int .i64 skew, .int .i64 circ, .int .i64 glo, .int .i64 ghi, .int .i64 wrn, .int .i64 gain, .slice A ts.length c] 28)) 23 #[.int .i64 0, .int .i64 0]
    have hB1 : Below w.heap.size w ((w.alloc (.cells #[.int .i64 full, .int .i64 read, .int .i64 slip, .int .i64 skew, .int .i64 circ, .int .i64 glo, .int .i64 ghi, .int .i64 wrn, .int .i64 gain, .slice A ts.length c] 28)).alloc (.cells #[.int .i64 0, .int .i64 0] 23)) := by (repeat' (first | (with_reducible exact Below.refl _ _) | (with_reducible assumption) | (with_reducible refine Below.alloc ?_ ?_ _) | (with_reducible refine Below.drew ?_) | (with_reducible refine Below.setCell ?_ ?_ _) | go_size | (exact (by simp)) | omega))
    rw [World.size_alloc] at bR
    generalize World.alloc (World.alloc w _) _ = w1 at *
    refine (HOP.out _ hB1).mono ?_
    rintro e w2 ⟨AL, cm, rfl, hal, hb2⟩
    rw [HOV1.out]
    have bR2 := bR.below hb2
    have hB2 := hB1.trans (hb2.mono hB1.size)
    clear HOV1 HOP bR hB1 hb2
    have r0 := bR2.cell 0 rfl
    have r1 := bR2.cell 1 rfl
    have g0 := bR2.frozen 0
    have g1 := bR2.frozen 1
    have lR := bR2.lt
    go_wp2_with fail
    have bR4 : BoxS (((w2.setCell ⟨w.heap.size + 1, 0, none⟩ (.int .i64 0)).setCell ⟨w.heap.size + 1, 1, none⟩ (.int .i64 0)).alloc (.cells #[.int .i64 0, .int .i64 0, .int .i64 0, .int .i64 0, .int .i64 0, .int .i64 0, .int .i64 0, .int .i64 0, .int .i64 0, .slice none 0 0, .slice none 0 0] 84)) (w.heap.size + 1) 23 #[.int .i64 0, .int .i64 0] := ((bR2.put9 0 _).put9 1 _).alloc _
    have hB4 : Below w.heap.size w (((w2.setCell ⟨w.heap.size + 1, 0, none⟩ (.int .i64 0)).setCell ⟨w.heap.size + 1, 1, none⟩ (.int .i64 0)).alloc (.cells #[.int .i64 0, .int .i64 0, .int .i64 0, .int .i64 0, .int .i64 0, .int .i64 0, .int .i64 0, .int .i64 0, .int .i64 0, .slice none 0 0, .slice none 0 0] 84)) := ((hB2.setCell (by simp) _).setCell (by simp) _).alloc (by have := hB2.size; simp [World.setCell]; omega) _
    clear r0 r1 g0 g1 lR bR2 hB2 hal
    have q0 := bR4.cell 0 rfl
    have q1 := bR4.cell 1 rfl
    exact bodyPost_ret (v := .tuple #[.agg #[.int .i64 0, .int .i64 0], .int .i64 E]) (by simp [results, Tryz.results61, go_sem, q0, q1]) rfl ⟨by rw [HL1.out, HH1.out], hB4⟩
end Go.Proofs.YtkmacpkjobdffaaGreat
