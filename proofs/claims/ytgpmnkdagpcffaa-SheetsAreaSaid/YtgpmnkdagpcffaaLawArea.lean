/- Sheets: the law SheetsArea: Area and Length answer as the document says, for any sheet, polygon and two points. -/
import Derived.Test.YtgpmnkdagpcffaaLen4
import Derived.Test.YtgpmnkdagpcffaaStr
import Derived.Test.YtgpmnkdagpcffaaAgr
namespace Go.Proofs.Ytgpmnkdagpcffaa
open Go.RowKit
set_option maxRecDepth 100000 in
set_option maxHeartbeats 8000000 in
theorem SheetsArea_walk (s : Sheet) (A : Option Addr) (c : Nat) (A2 : Option Addr) (c2 : Nat) (ps : List Geo.Pt) (x1 x2 y1 y2 : Int) (w : World) (hg : Cts w w.heap.size A s.cs) (hP : Prs w w.heap.size A2 ps) :
    Calls Try.prog 10 #[.agg (shV s A c), .slice A2 ps.length c2, .agg #[.int .i64 x1, .int .i64 x2, .int .i64 y1, .int .i64 y2]] w (TruePost w) := by
  have HWK : Hid (∀ W, Calls Try.prog 15 #[] W fun e w' => e = .returned (.bool true) ∧ Below W.heap.size W w') := works_any
  have HF1 : Hid (∀ W, Below w.heap.size w W → Calls Try.prog 40 #[.agg (shV s A c)] W fun e w' => e = .returned (.bool (Sh.farB s)) ∧ Below W.heap.size W w') := fun W hW => Far4_any s A c W ((hg.keep hW).wider hW.size)
  have HF2 : Hid (∀ W, Calls Try.prog 48 #[.slice A2 ps.length c2] W fun e w' => e = .returned (.bool (decide (40 < ps.length))) ∧ w' = W) := fun W => Far2_any A2 c2 ps W
  have HCO : Hid (Sh.farB s = false → ∀ W, Below w.heap.size w W → Calls Try.prog 19 #[.agg (shV s A c)] W (Copy4Post s W)) := fun h W hW => Copy4_any s A c (by have := Sh.far_len h; omega) W ((hg.keep hW).wider hW.size)
  have HCP : Hid (ps.length ≤ 40 → ∀ W, Below w.heap.size w W → Calls Try.prog 49 #[.slice A2 ps.length c2] W (CopyPost ps W)) := fun h W hW => Copy_any A2 c2 ps (by omega) W (prs_keep hP hW)
  have HA1 : Hid (Sh.farB s = false → ps.length ≤ 40 → ∀ A c A2 c2 W, Cts W W.heap.size A s.cs → Prs W W.heap.size A2 ps → Calls Try.prog 23 #[.agg (shV s A c), .slice A2 ps.length c2] W (SpanEPost (Sh.areaLoE s ps) (Sh.areaHiE s ps) (Sh.areaE s ps) W)) := fun h h2 A c A2 c2 W hC hQ => Area_any s A c A2 c2 ps W (by have := Sh.far_len h; omega) (by omega) hC hQ
  have HA2 : Hid (Sh.farB s = false → ps.length ≤ 40 → ∀ W, Below w.heap.size w W → Calls Try.prog 50 #[.agg (shV s A c), .slice A2 ps.length c2] W (SpanEPost (Sh.areaLoE s ps) (Sh.areaHiE s ps) (Sh.areaE s ps) W)) := fun h h2 W hW => Area4_any s A c A2 c2 ps W (by have := Sh.far_len h; omega) (by omega) ((hg.keep hW).wider hW.size) (prs_keep hP hW)
  have HL1 : Hid (Sh.farB s = false → ∀ A c W, Cts W W.heap.size A s.cs → Calls Try.prog 24 #[.agg (shV s A c), .agg #[.int .i64 x1, .int .i64 x2], .agg #[.int .i64 y1, .int .i64 y2]] W (SpanEPost (Sh.lenLoE s (x1, x2) (y1, y2)) (Sh.lenHiE s (x1, x2) (y1, y2)) (Sh.lenE s (x1, x2) (y1, y2)) W)) := fun h A c W hC => Length_any s (x1, x2) (y1, y2) A c W (by have := Sh.far_len h; omega) hC
  have HL2 : Hid (Sh.farB s = false → ∀ W, Below w.heap.size w W → Calls Try.prog 51 #[.agg (shV s A c), .agg #[.int .i64 x1, .int .i64 x2], .agg #[.int .i64 y1, .int .i64 y2]] W (SpanEPost (Sh.lenLoE s (x1, x2) (y1, y2)) (Sh.lenHiE s (x1, x2) (y1, y2)) (Sh.lenE s (x1, x2) (y1, y2)) W)) := fun h W hW => Length4_any s (x1, x2) (y1, y2) A c W (by have := Sh.far_len h; omega) ((hg.keep hW).wider hW.size)
  have HSA : Hid (Sh.farB s = false → ∀ A' c' W, Below w.heap.size w W → Cts W W.heap.size A' s.cs → Calls Try.prog 45 #[.agg (shV s A' c'), .agg (shV s A c)] W (TruePost W)) := fun h A' c' W hW hC => same4_yes s A A' c c' (by have := Sh.far_len h; omega) W ((hg.keep hW).wider hW.size) hC
  have HSP : Hid (ps.length ≤ 40 → ∀ A' c' W, Below w.heap.size w W → Prs W W.heap.size A' ps → Calls Try.prog 52 #[.slice A' ps.length c', .slice A2 ps.length c2] W (TruePost W)) := fun h A' c' W hW hQ => Same_yes A' A2 c' c2 ps (by omega) W hQ (prs_keep hP hW)
  have HLP : Hid (decide (40 < ps.length) = false → ps.length ≤ 40) := fun h => by have := of_decide_eq_false h; omega
  unfold Copy4Post at HCO
  unfold CopyPost at HCP
  generalize decide (40 < ps.length) = FP at *
  generalize Sh.areaLoE s ps = aL at *
  generalize Sh.areaHiE s ps = aH at *
  generalize Sh.areaE s ps = aE at *
  generalize Sh.lenLoE s (x1, x2) (y1, y2) = lL at *
  generalize Sh.lenHiE s (x1, x2) (y1, y2) = lH at *
  generalize Sh.lenE s (x1, x2) (y1, y2) = lE at *
  generalize Sh.farB s = FB at *
  clear hg hP
  obtain ⟨al, ah, bl, bh, cs, wrn⟩ := s
  unfold shV at *
  dsimp only at *
  cases FB with
  | true =>
    go_enter Try.func10, Try.ntmps10
    go_wp2_with fail
    have bS1 := (BoxS.new w 26 #[.int .i64 al, .int .i64 ah, .int .i64 bl, .int .i64 bh, .slice A cs.length c, .int .i64 wrn]).alloc (.cells #[.int .i64 x1, .int .i64 x2, .int .i64 y1, .int .i64 y2] 44)
    have bX1 := BoxS.new (w.alloc (.cells #[.int .i64 al, .int .i64 ah, .int .i64 bl, .int .i64 bh, .slice A cs.length c, .int .i64 wrn] 26)) 44 #[.int .i64 x1, .int .i64 x2, .int .i64 y1, .int .i64 y2]
    rw [World.size_alloc] at bX1
    have hB1 : Below w.heap.size w ((w.alloc (.cells #[.int .i64 al, .int .i64 ah, .int .i64 bl, .int .i64 bh, .slice A cs.length c, .int .i64 wrn] 26)).alloc (.cells #[.int .i64 x1, .int .i64 x2, .int .i64 y1, .int .i64 y2] 44)) := by (repeat' (first | (with_reducible exact Below.refl _ _) | (with_reducible assumption) | (with_reducible refine Below.alloc ?_ ?_ _) | (with_reducible refine Below.drew ?_) | (with_reducible refine Below.setCell ?_ ?_ _) | go_size | (exact (by simp)) | omega))
    generalize World.alloc (World.alloc w _) _ = w1 at *
    refine (HF1.out _ hB1).mono ?_
    rintro e w2 ⟨rfl, hb2⟩
    have bS2 := bS1.below hb2
    have bX2 := bX1.below hb2
    have hB2 := hB1.trans (hb2.mono hB1.size)
    clear bS1 bX1 hB1 hb2
    obtain ⟨⟨s0, s1, s2⟩, s3, s4, s5⟩ := boxS6 bS2
    have lS2 := bS2.lt
    obtain ⟨x0, x1, x2, x3⟩ := boxS4 bX2
    have lX2 := bX2.lt
    go_wp2_with fail
    refine (HWK.out _).mono ?_
    rintro e wz ⟨rfl, hbz⟩
    have hBz := hB2.trans (hbz.mono hB2.size)
    go_wp2_with fail
    go_returns
    exact ⟨rfl, hBz⟩
  | false =>
    have HCO2 := Lib.hid (HCO.out rfl)
    have HL12 := Lib.hid (HL1.out rfl)
    have HL22 := Lib.hid (HL2.out rfl)
    have HSA2 := Lib.hid (HSA.out rfl)
    cases FP with
    | true =>
      go_enter Try.func10, Try.ntmps10
      go_wp2_with fail
      have bS1 := (BoxS.new w 26 #[.int .i64 al, .int .i64 ah, .int .i64 bl, .int .i64 bh, .slice A cs.length c, .int .i64 wrn]).alloc (.cells #[.int .i64 x1, .int .i64 x2, .int .i64 y1, .int .i64 y2] 44)
      have bX1 := BoxS.new (w.alloc (.cells #[.int .i64 al, .int .i64 ah, .int .i64 bl, .int .i64 bh, .slice A cs.length c, .int .i64 wrn] 26)) 44 #[.int .i64 x1, .int .i64 x2, .int .i64 y1, .int .i64 y2]
      rw [World.size_alloc] at bX1
      have hB1 : Below w.heap.size w ((w.alloc (.cells #[.int .i64 al, .int .i64 ah, .int .i64 bl, .int .i64 bh, .slice A cs.length c, .int .i64 wrn] 26)).alloc (.cells #[.int .i64 x1, .int .i64 x2, .int .i64 y1, .int .i64 y2] 44)) := by (repeat' (first | (with_reducible exact Below.refl _ _) | (with_reducible assumption) | (with_reducible refine Below.alloc ?_ ?_ _) | (with_reducible refine Below.drew ?_) | (with_reducible refine Below.setCell ?_ ?_ _) | go_size | (exact (by simp)) | omega))
      generalize World.alloc (World.alloc w _) _ = w1 at *
      refine (HF1.out _ hB1).mono ?_
      rintro e w2 ⟨rfl, hb2⟩
      have bS2 := bS1.below hb2
      have bX2 := bX1.below hb2
      have hB2 := hB1.trans (hb2.mono hB1.size)
      clear bS1 bX1 hB1 hb2
      obtain ⟨⟨s0, s1, s2⟩, s3, s4, s5⟩ := boxS6 bS2
      have lS2 := bS2.lt
      obtain ⟨x0, x1, x2, x3⟩ := boxS4 bX2
      have lX2 := bX2.lt
      go_wp2_with fail
      refine (HF2.out _).mono ?_
      rintro e wq ⟨rfl, rfl⟩
      go_wp2_with fail
      refine (HWK.out _).mono ?_
      rintro e wz ⟨rfl, hbz⟩
      have hBz := hB2.trans (hbz.mono hB2.size)
      go_wp2_with fail
      go_returns
      exact ⟨rfl, hBz⟩
    | false =>
      have hlp := HLP.out rfl
      have HCP2 := Lib.hid (HCP.out hlp)
      have HA12 := Lib.hid (HA1.out rfl hlp)
      have HA22 := Lib.hid (HA2.out rfl hlp)
      have HSP2 := Lib.hid (HSP.out hlp)
      clear HCO HCP HA1 HA2 HL1 HL2 HSA HSP HLP hlp
      go_enter Try.func10, Try.ntmps10
      go_wp2_with fail
      have bS1 := (BoxS.new w 26 #[.int .i64 al, .int .i64 ah, .int .i64 bl, .int .i64 bh, .slice A cs.length c, .int .i64 wrn]).alloc (.cells #[.int .i64 x1, .int .i64 x2, .int .i64 y1, .int .i64 y2] 44)
      have bX1 := BoxS.new (w.alloc (.cells #[.int .i64 al, .int .i64 ah, .int .i64 bl, .int .i64 bh, .slice A cs.length c, .int .i64 wrn] 26)) 44 #[.int .i64 x1, .int .i64 x2, .int .i64 y1, .int .i64 y2]
      rw [World.size_alloc] at bX1
      have hB1 : Below w.heap.size w ((w.alloc (.cells #[.int .i64 al, .int .i64 ah, .int .i64 bl, .int .i64 bh, .slice A cs.length c, .int .i64 wrn] 26)).alloc (.cells #[.int .i64 x1, .int .i64 x2, .int .i64 y1, .int .i64 y2] 44)) := by (repeat' (first | (with_reducible exact Below.refl _ _) | (with_reducible assumption) | (with_reducible refine Below.alloc ?_ ?_ _) | (with_reducible refine Below.drew ?_) | (with_reducible refine Below.setCell ?_ ?_ _) | go_size | (exact (by simp)) | omega))
      generalize World.alloc (World.alloc w _) _ = w1 at *
      refine (HF1.out _ hB1).mono ?_
      rintro e w2 ⟨rfl, hb2⟩
      have bS2 := bS1.below hb2
      have bX2 := bX1.below hb2
      have hB2 := hB1.trans (hb2.mono hB1.size)
      clear bS1 bX1 hB1 hb2
      obtain ⟨⟨s0, s1, s2⟩, s3, s4, s5⟩ := boxS6 bS2
      have lS2 := bS2.lt
      obtain ⟨x0, x1, x2, x3⟩ := boxS4 bX2
      have lX2 := bX2.lt
      go_wp2_with fail
      refine (HF2.out _).mono ?_
      rintro e wq ⟨rfl, rfl⟩
      clear HF1 HF2
      go_wp2_with fail
      refine (HCO2.out _ hB2).mono ?_
      rintro e w3 ⟨A', c', rfl, hC, hb3⟩
      have bS3 := bS2.below hb3
      have bX3 := bX2.below hb3
      have hB3 := hB2.trans (hb3.mono hB2.size)
      clear s0 s1 s2 s3 s4 s5 lS2 x0 x1 x2 x3 lX2 bS2 bX2 hB2 hb3 HCO2
      have HC3 := Lib.hid hC
      clear hC
      obtain ⟨⟨s0, s1, s2⟩, s3, s4, s5⟩ := boxS6 bS3
      have lS3 := bS3.lt
      obtain ⟨x0, x1, x2, x3⟩ := boxS4 bX3
      have lX3 := bX3.lt
      go_wp2_with fail
      refine (HCP2.out _ hB3).mono ?_
      rintro e w4 ⟨A3, c3, rfl, hQ, hb4⟩
      have bS4 := bS3.below hb4
      have bX4 := bX3.below hb4
      have hB4 := hB3.trans (hb4.mono hB3.size)
      have HC4 : Hid (Cts w4 w4.heap.size A' cs) := (HC3.out.keep hb4).wider hb4.size
      clear s0 s1 s2 s3 s4 s5 lS3 x0 x1 x2 x3 lX3 bS3 bX3 HC3 hB3 hb4 HCP2
      have HQ4 := Lib.hid hQ
      clear hQ
      obtain ⟨⟨s0, s1, s2⟩, s3, s4, s5⟩ := boxS6 bS4
      have lS4 := bS4.lt
      obtain ⟨x0, x1, x2, x3⟩ := boxS4 bX4
      have lX4 := bX4.lt
      go_wp2_with fail
      have bO5n := BoxS.new w4 26 #[.int .i64 al, .int .i64 ah, .int .i64 bl, .int .i64 bh, .slice A' cs.length c', .int .i64 wrn]
      have hbx : Below w4.heap.size w4 (w4.alloc (.cells #[.int .i64 al, .int .i64 ah, .int .i64 bl, .int .i64 bh, .slice A' cs.length c', .int .i64 wrn] 26)) := (Below.refl _ _).alloc (Nat.le_refl _) _
      have bS5 := bS4.below hbx
      have bX5 := bX4.below hbx
      have hB5 := hB4.trans (hbx.mono hB4.size)
      have HC5 : Hid (Cts (w4.alloc (.cells #[.int .i64 al, .int .i64 ah, .int .i64 bl, .int .i64 bh, .slice A' cs.length c', .int .i64 wrn] 26)) (w4.alloc (.cells #[.int .i64 al, .int .i64 ah, .int .i64 bl, .int .i64 bh, .slice A' cs.length c', .int .i64 wrn] 26)).heap.size A' cs) := (HC4.out.keep hbx).wider hbx.size
      have HQ5 : Hid (Prs (w4.alloc (.cells #[.int .i64 al, .int .i64 ah, .int .i64 bl, .int .i64 bh, .slice A' cs.length c', .int .i64 wrn] 26)) (w4.alloc (.cells #[.int .i64 al, .int .i64 ah, .int .i64 bl, .int .i64 bh, .slice A' cs.length c', .int .i64 wrn] 26)).heap.size A3 ps) := prs_keep HQ4.out hbx
      obtain ⟨BO, hBe⟩ : ∃ B, B = w4.heap.size := ⟨_, rfl⟩
      have kO : w.heap.size + 1 < BO := by have := bX4.lt; omega
      rw [← hBe] at bO5n ⊢
      have bO5 := bO5n
      clear s0 s1 s2 s3 s4 s5 lS4 x0 x1 x2 x3 lX4 bS4 bX4 HC4 HQ4 hB4 hbx hBe bO5n
      generalize World.alloc w4 _ = w5 at *
      obtain ⟨⟨o0, o1, o2⟩, o3, o4, o5⟩ := boxS6 bO5
      have lO5 := bO5.lt
      obtain ⟨⟨s0, s1, s2⟩, s3, s4, s5⟩ := boxS6 bS5
      have lS5 := bS5.lt
      obtain ⟨x0, x1, x2, x3⟩ := boxS4 bX5
      have lX5 := bX5.lt
      refine (HA12.out A' c' A3 c3 _ HC5.out HQ5.out).mono ?_
      rintro e w6 ⟨rfl, hb6⟩
      have bS6 := bS5.below hb6
      have bX6 := bX5.below hb6
      have bO6 := bO5.below hb6
      have hB6 := hB5.trans (hb6.mono hB5.size)
      have HC6 : Hid (Cts w6 w6.heap.size A' cs) := (HC5.out.keep hb6).wider hb6.size
      have HQ6 : Hid (Prs w6 w6.heap.size A3 ps) := prs_keep HQ5.out hb6
      clear o0 o1 o2 o3 o4 o5 lO5 s0 s1 s2 s3 s4 s5 lS5 x0 x1 x2 x3 lX5 bS5 bX5 bO5 HC5 HQ5 hB5 hb6 HA12
      obtain ⟨⟨o0, o1, o2⟩, o3, o4, o5⟩ := boxS6 bO6
      have lO6 := bO6.lt
      obtain ⟨⟨s0, s1, s2⟩, s3, s4, s5⟩ := boxS6 bS6
      have lS6 := bS6.lt
      obtain ⟨x0, x1, x2, x3⟩ := boxS4 bX6
      have lX6 := bX6.lt
      go_wp2_with fail
      have bP7n := BoxS.new w6 23 #[.int .i64 aL, .int .i64 aH]
      have hbx : Below w6.heap.size w6 (w6.alloc (.cells #[.int .i64 aL, .int .i64 aH] 23)) := (Below.refl _ _).alloc (Nat.le_refl _) _
      have bS7 := bS6.below hbx
      have bX7 := bX6.below hbx
      have bO7 := bO6.below hbx
      have hB7 := hB6.trans (hbx.mono hB6.size)
      have HC7 : Hid (Cts (w6.alloc (.cells #[.int .i64 aL, .int .i64 aH] 23)) (w6.alloc (.cells #[.int .i64 aL, .int .i64 aH] 23)).heap.size A' cs) := (HC6.out.keep hbx).wider hbx.size
      have HQ7 : Hid (Prs (w6.alloc (.cells #[.int .i64 aL, .int .i64 aH] 23)) (w6.alloc (.cells #[.int .i64 aL, .int .i64 aH] 23)).heap.size A3 ps) := prs_keep HQ6.out hbx
      obtain ⟨BP, hBe⟩ : ∃ B, B = w6.heap.size := ⟨_, rfl⟩
      have kP : BO < BP := by have := bO6.lt; omega
      rw [← hBe] at bP7n ⊢
      have bP7 := bP7n
      clear o0 o1 o2 o3 o4 o5 lO6 s0 s1 s2 s3 s4 s5 lS6 x0 x1 x2 x3 lX6 bS6 bX6 bO6 HC6 HQ6 hB6 hbx hBe bP7n
      generalize World.alloc w6 _ = w7 at *
      obtain ⟨⟨o0, o1, o2⟩, o3, o4, o5⟩ := boxS6 bO7
      have lO7 := bO7.lt
      obtain ⟨⟨s0, s1, s2⟩, s3, s4, s5⟩ := boxS6 bS7
      have lS7 := bS7.lt
      obtain ⟨x0, x1, x2, x3⟩ := boxS4 bX7
      have lX7 := bX7.lt
      refine (HA22.out _ hB7).mono ?_
      rintro e w8 ⟨rfl, hb8⟩
      have bS8 := bS7.below hb8
      have bX8 := bX7.below hb8
      have bO8 := bO7.below hb8
      have bP8 := bP7.below hb8
      have hB8 := hB7.trans (hb8.mono hB7.size)
      have HC8 : Hid (Cts w8 w8.heap.size A' cs) := (HC7.out.keep hb8).wider hb8.size
      have HQ8 : Hid (Prs w8 w8.heap.size A3 ps) := prs_keep HQ7.out hb8
      clear o0 o1 o2 o3 o4 o5 lO7 s0 s1 s2 s3 s4 s5 lS7 x0 x1 x2 x3 lX7 bS7 bX7 bO7 bP7 HC7 HQ7 hB7 hb8 HA22
      obtain ⟨⟨o0, o1, o2⟩, o3, o4, o5⟩ := boxS6 bO8
      have lO8 := bO8.lt
      obtain ⟨⟨s0, s1, s2⟩, s3, s4, s5⟩ := boxS6 bS8
      have lS8 := bS8.lt
      obtain ⟨x0, x1, x2, x3⟩ := boxS4 bX8
      have lX8 := bX8.lt
      obtain ⟨p0, p1⟩ := boxS2 bP8
      have lP8 := bP8.lt
      go_wp2_with fail
      have bQ9n := BoxS.new w8 23 #[.int .i64 aL, .int .i64 aH]
      have hbx : Below w8.heap.size w8 (w8.alloc (.cells #[.int .i64 aL, .int .i64 aH] 23)) := (Below.refl _ _).alloc (Nat.le_refl _) _
      have bS9 := bS8.below hbx
      have bX9 := bX8.below hbx
      have bO9 := bO8.below hbx
      have bP9 := bP8.below hbx
      have hB9 := hB8.trans (hbx.mono hB8.size)
      have HC9 : Hid (Cts (w8.alloc (.cells #[.int .i64 aL, .int .i64 aH] 23)) (w8.alloc (.cells #[.int .i64 aL, .int .i64 aH] 23)).heap.size A' cs) := (HC8.out.keep hbx).wider hbx.size
      have HQ9 : Hid (Prs (w8.alloc (.cells #[.int .i64 aL, .int .i64 aH] 23)) (w8.alloc (.cells #[.int .i64 aL, .int .i64 aH] 23)).heap.size A3 ps) := prs_keep HQ8.out hbx
      obtain ⟨BQ, hBe⟩ : ∃ B, B = w8.heap.size := ⟨_, rfl⟩
      have kQ : BP < BQ := by have := bP8.lt; omega
      rw [← hBe] at bQ9n ⊢
      have bQ9 := bQ9n
      clear o0 o1 o2 o3 o4 o5 lO8 s0 s1 s2 s3 s4 s5 lS8 x0 x1 x2 x3 lX8 p0 p1 lP8 bS8 bX8 bO8 bP8 HC8 HQ8 hB8 hbx hBe bQ9n
      generalize World.alloc w8 _ = w9 at *
      obtain ⟨⟨o0, o1, o2⟩, o3, o4, o5⟩ := boxS6 bO9
      have lO9 := bO9.lt
      obtain ⟨⟨s0, s1, s2⟩, s3, s4, s5⟩ := boxS6 bS9
      have lS9 := bS9.lt
      obtain ⟨x0, x1, x2, x3⟩ := boxS4 bX9
      have lX9 := bX9.lt
      refine (HL12.out A' c' _ HC9.out).mono ?_
      rintro e w10 ⟨rfl, hb10⟩
      have bS10 := bS9.below hb10
      have bX10 := bX9.below hb10
      have bO10 := bO9.below hb10
      have bP10 := bP9.below hb10
      have bQ10 := bQ9.below hb10
      have hB10 := hB9.trans (hb10.mono hB9.size)
      have HC10 : Hid (Cts w10 w10.heap.size A' cs) := (HC9.out.keep hb10).wider hb10.size
      have HQ10 : Hid (Prs w10 w10.heap.size A3 ps) := prs_keep HQ9.out hb10
      clear o0 o1 o2 o3 o4 o5 lO9 s0 s1 s2 s3 s4 s5 lS9 x0 x1 x2 x3 lX9 bS9 bX9 bO9 bP9 bQ9 HC9 HQ9 hB9 hb10 HL12
      obtain ⟨⟨o0, o1, o2⟩, o3, o4, o5⟩ := boxS6 bO10
      have lO10 := bO10.lt
      obtain ⟨⟨s0, s1, s2⟩, s3, s4, s5⟩ := boxS6 bS10
      have lS10 := bS10.lt
      obtain ⟨x0, x1, x2, x3⟩ := boxS4 bX10
      have lX10 := bX10.lt
      obtain ⟨p0, p1⟩ := boxS2 bP10
      have lP10 := bP10.lt
      obtain ⟨q0, q1⟩ := boxS2 bQ10
      have lQ10 := bQ10.lt
      go_wp2_with fail
      have bR11n := BoxS.new w10 23 #[.int .i64 lL, .int .i64 lH]
      have hbx : Below w10.heap.size w10 (w10.alloc (.cells #[.int .i64 lL, .int .i64 lH] 23)) := (Below.refl _ _).alloc (Nat.le_refl _) _
      have bS11 := bS10.below hbx
      have bX11 := bX10.below hbx
      have bO11 := bO10.below hbx
      have bP11 := bP10.below hbx
      have bQ11 := bQ10.below hbx
      have hB11 := hB10.trans (hbx.mono hB10.size)
      have HC11 : Hid (Cts (w10.alloc (.cells #[.int .i64 lL, .int .i64 lH] 23)) (w10.alloc (.cells #[.int .i64 lL, .int .i64 lH] 23)).heap.size A' cs) := (HC10.out.keep hbx).wider hbx.size
      have HQ11 : Hid (Prs (w10.alloc (.cells #[.int .i64 lL, .int .i64 lH] 23)) (w10.alloc (.cells #[.int .i64 lL, .int .i64 lH] 23)).heap.size A3 ps) := prs_keep HQ10.out hbx
      obtain ⟨BR, hBe⟩ : ∃ B, B = w10.heap.size := ⟨_, rfl⟩
      have kR : BQ < BR := by have := bQ10.lt; omega
      rw [← hBe] at bR11n ⊢
      have bR11 := bR11n
      clear o0 o1 o2 o3 o4 o5 lO10 s0 s1 s2 s3 s4 s5 lS10 x0 x1 x2 x3 lX10 p0 p1 lP10 q0 q1 lQ10 bS10 bX10 bO10 bP10 bQ10 HC10 HQ10 hB10 hbx hBe bR11n
      generalize World.alloc w10 _ = w11 at *
      obtain ⟨⟨o0, o1, o2⟩, o3, o4, o5⟩ := boxS6 bO11
      have lO11 := bO11.lt
      obtain ⟨⟨s0, s1, s2⟩, s3, s4, s5⟩ := boxS6 bS11
      have lS11 := bS11.lt
      obtain ⟨x0, x1, x2, x3⟩ := boxS4 bX11
      have lX11 := bX11.lt
      refine (HL22.out _ hB11).mono ?_
      rintro e w12 ⟨rfl, hb12⟩
      have bS12 := bS11.below hb12
      have bX12 := bX11.below hb12
      have bO12 := bO11.below hb12
      have bP12 := bP11.below hb12
      have bQ12 := bQ11.below hb12
      have bR12 := bR11.below hb12
      have hB12 := hB11.trans (hb12.mono hB11.size)
      have HC12 : Hid (Cts w12 w12.heap.size A' cs) := (HC11.out.keep hb12).wider hb12.size
      have HQ12 : Hid (Prs w12 w12.heap.size A3 ps) := prs_keep HQ11.out hb12
      clear o0 o1 o2 o3 o4 o5 lO11 s0 s1 s2 s3 s4 s5 lS11 x0 x1 x2 x3 lX11 bS11 bX11 bO11 bP11 bQ11 bR11 HC11 HQ11 hB11 hb12 HL22
      obtain ⟨⟨o0, o1, o2⟩, o3, o4, o5⟩ := boxS6 bO12
      have lO12 := bO12.lt
      obtain ⟨⟨s0, s1, s2⟩, s3, s4, s5⟩ := boxS6 bS12
      have lS12 := bS12.lt
      obtain ⟨x0, x1, x2, x3⟩ := boxS4 bX12
      have lX12 := bX12.lt
      obtain ⟨p0, p1⟩ := boxS2 bP12
      have lP12 := bP12.lt
      obtain ⟨q0, q1⟩ := boxS2 bQ12
      have lQ12 := bQ12.lt
      obtain ⟨r0, r1⟩ := boxS2 bR12
      have lR12 := bR12.lt
      go_wp2_with fail
      have bT13n := BoxS.new w12 23 #[.int .i64 lL, .int .i64 lH]
      have hbx : Below w12.heap.size w12 (w12.alloc (.cells #[.int .i64 lL, .int .i64 lH] 23)) := (Below.refl _ _).alloc (Nat.le_refl _) _
      have bS13 := bS12.below hbx
      have bX13 := bX12.below hbx
      have bO13 := bO12.below hbx
      have bP13 := bP12.below hbx
      have bQ13 := bQ12.below hbx
      have bR13 := bR12.below hbx
      have hB13 := hB12.trans (hbx.mono hB12.size)
      have HC13 : Hid (Cts (w12.alloc (.cells #[.int .i64 lL, .int .i64 lH] 23)) (w12.alloc (.cells #[.int .i64 lL, .int .i64 lH] 23)).heap.size A' cs) := (HC12.out.keep hbx).wider hbx.size
      have HQ13 : Hid (Prs (w12.alloc (.cells #[.int .i64 lL, .int .i64 lH] 23)) (w12.alloc (.cells #[.int .i64 lL, .int .i64 lH] 23)).heap.size A3 ps) := prs_keep HQ12.out hbx
      obtain ⟨BT, hBe⟩ : ∃ B, B = w12.heap.size := ⟨_, rfl⟩
      have kT : BR < BT := by have := bR12.lt; omega
      rw [← hBe] at bT13n ⊢
      have bT13 := bT13n
      clear o0 o1 o2 o3 o4 o5 lO12 s0 s1 s2 s3 s4 s5 lS12 x0 x1 x2 x3 lX12 p0 p1 lP12 q0 q1 lQ12 r0 r1 lR12 bS12 bX12 bO12 bP12 bQ12 bR12 HC12 HQ12 hB12 hbx hBe bT13n
      generalize World.alloc w12 _ = w13 at *
      obtain ⟨⟨o0, o1, o2⟩, o3, o4, o5⟩ := boxS6 bO13
      have lO13 := bO13.lt
      obtain ⟨⟨s0, s1, s2⟩, s3, s4, s5⟩ := boxS6 bS13
      have lS13 := bS13.lt
      obtain ⟨p0, p1⟩ := boxS2 bP13
      have lP13 := bP13.lt
      obtain ⟨q0, q1⟩ := boxS2 bQ13
      have lQ13 := bQ13.lt
      obtain ⟨r0, r1⟩ := boxS2 bR13
      have lR13 := bR13.lt
      obtain ⟨t0, t1⟩ := boxS2 bT13
      have lT13 := bT13.lt
      go_wp2_with fail
      refine (HSA2.out A' c' _ hB13 HC13.out).mono ?_
      rintro e w14 ⟨rfl, hb14⟩
      have bS14 := bS13.below hb14
      have bX14 := bX13.below hb14
      have bO14 := bO13.below hb14
      have bP14 := bP13.below hb14
      have bQ14 := bQ13.below hb14
      have bR14 := bR13.below hb14
      have bT14 := bT13.below hb14
      have hB14 := hB13.trans (hb14.mono hB13.size)
      have HC14 : Hid (Cts w14 w14.heap.size A' cs) := (HC13.out.keep hb14).wider hb14.size
      have HQ14 : Hid (Prs w14 w14.heap.size A3 ps) := prs_keep HQ13.out hb14
      clear o0 o1 o2 o3 o4 o5 lO13 s0 s1 s2 s3 s4 s5 lS13 p0 p1 lP13 q0 q1 lQ13 r0 r1 lR13 t0 t1 lT13 bS13 bX13 bO13 bP13 bQ13 bR13 bT13 HC13 HQ13 hB13 hb14 HSA2
      obtain ⟨⟨o0, o1, o2⟩, o3, o4, o5⟩ := boxS6 bO14
      have lO14 := bO14.lt
      obtain ⟨⟨s0, s1, s2⟩, s3, s4, s5⟩ := boxS6 bS14
      have lS14 := bS14.lt
      obtain ⟨p0, p1⟩ := boxS2 bP14
      have lP14 := bP14.lt
      obtain ⟨q0, q1⟩ := boxS2 bQ14
      have lQ14 := bQ14.lt
      obtain ⟨r0, r1⟩ := boxS2 bR14
      have lR14 := bR14.lt
      obtain ⟨t0, t1⟩ := boxS2 bT14
      have lT14 := bT14.lt
      go_wp2_with fail
      refine (HSP2.out A3 c3 _ hB14 HQ14.out).mono ?_
      rintro e w15 ⟨rfl, hb15⟩
      have bS15 := bS14.below hb15
      have bX15 := bX14.below hb15
      have bO15 := bO14.below hb15
      have bP15 := bP14.below hb15
      have bQ15 := bQ14.below hb15
      have bR15 := bR14.below hb15
      have bT15 := bT14.below hb15
      have hB15 := hB14.trans (hb15.mono hB14.size)
      have HC15 : Hid (Cts w15 w15.heap.size A' cs) := (HC14.out.keep hb15).wider hb15.size
      have HQ15 : Hid (Prs w15 w15.heap.size A3 ps) := prs_keep HQ14.out hb15
      clear o0 o1 o2 o3 o4 o5 lO14 s0 s1 s2 s3 s4 s5 lS14 p0 p1 lP14 q0 q1 lQ14 r0 r1 lR14 t0 t1 lT14 bS14 bX14 bO14 bP14 bQ14 bR14 bT14 HC14 HQ14 hB14 hb15 HSP2
      go_wp2_with fail
      refine (HWK.out _).mono ?_
      rintro e wz ⟨rfl, hbz⟩
      have hBz := hB15.trans (hbz.mono hB15.size)
      go_wp2_with fail
      go_returns
      exact ⟨rfl, hBz⟩

open Go.ChangeShapes Go.WideShapes Go.ChangeAt Go.RowKit Go.Joins Go.Deep
theorem okWide_arr {P : Program} {w : World} {r : Reach} {base n : Nat} {t e : TypeId} {v : Value} (ht : P.underlying t = some (.array n e)) (h : Value.okWide P w r base t v) : ∃ cs, v = .agg cs ∧ cs.size = P.cellsOf t := by
  simp only [Value.okWide, ht] at h
  obtain ⟨cs, h1, h2, _⟩ := h
  exact ⟨cs, h1, h2⟩
theorem cells_pt4 : Try.prog.cellsOf 43 = 2 := by kernel_rfl
section
variable {H : Type} {enc : TypeId × Value → H} {w : World} {base : Nat} {spare : Nat → Bool} {held : Bool} {r : Reach} {b0 : Nat} {v : Value} {d : DataW H} {p : List MemPlace}
set_option maxRecDepth 100000 in
theorem trod_pt_cells {n : Nat} {c0 c1 : Value} {x : DataW H × List MemPlace} (h : DataW.trod enc Try.prog w base spare held n 43 [c0, c1] = some x) : ∃ a b : Int, c0 = .int .i64 a ∧ c1 = .int .i64 b := by
  obtain ⟨y0, y1, m, hx, _, h0, h1⟩ := trod_struct2 Try.underlying43 h
  obtain ⟨a, e0, rfl, wa⟩ := DataW.trod_int Try.underlying3 (by simpa using h0)
  obtain ⟨b, e1, rfl, wb⟩ := DataW.trod_int Try.underlying3 (by simpa using h1)
  rw [cells_int4] at e0 e1
  exact ⟨a, b, by simpa using e0, by simpa using e1⟩
set_option maxRecDepth 100000 in
theorem open_Two (hv : Value.okWide Try.prog w r b0 44 v) (h : DataW.Trod enc Try.prog w base spare held 44 v d p) :
    ∃ x1 x2 y1 y2 : Int, v = .agg #[.int .i64 x1, .int .i64 x2, .int .i64 y1, .int .i64 y2] := by
  obtain ⟨cs, rfl, hsz⟩ := okWide_arr Try.underlying44 hv
  obtain ⟨l⟩ := cs
  match l, hsz.trans (by kernel_rfl : Try.prog.cellsOf 44 = 4) with
  | [c0, c1, c2, c3], _ =>
    obtain ⟨fuel, hf⟩ := h
    obtain ⟨xs, n, _, hx, _, hlen, hg⟩ := DataW.trod_array Try.underlying44 hf
    match xs, hlen with
    | [z0, z1], _ =>
      have g0 := hg 0 (by omega)
      have g1 := hg 1 (by omega)
      simp [Value.cells, cells_pt4] at g0 g1
      obtain ⟨x1, x2, rfl, rfl⟩ := trod_pt_cells g0
      obtain ⟨y1, y2, rfl, rfl⟩ := trod_pt_cells g1
      exact ⟨x1, x2, y1, y2, rfl⟩
set_option maxRecDepth 100000 in
theorem open_Ctls (hv : Value.okWide Try.prog w r b0 24 v) (h : DataW.Trod enc Try.prog w base spare held 24 v d p) :
    ∃ (A : Option Addr) (c : Nat) (cs : List Sh.Ct), v = .slice A cs.length c ∧ Cts w w.heap.size A cs ∧ cs.length ≤ maxLen := by
  obtain ⟨A, len, cap, rfl⟩ := okWide_slice Try.underlying24 hv
  obtain ⟨fuel, hf⟩ := h
  exact trod_ctls (by simpa [Value.cells] using hf)
end
theorem lawArea_walk (s : Sheet) (A : Option Addr) (c : Nat) (A2 : Option Addr) (c2 : Nat) (ps : List (Int × Int)) (x1 x2 y1 y2 : Int) (w : World) (_hl : ps.length ≤ maxLen) (hP : Prs w w.heap.size A2 ps) (hg : Cts w w.heap.size A s.cs) :
    Calls Try.prog 10 #[.agg (shV s A c), .slice A2 ps.length c2, .agg #[.int .i64 x1, .int .i64 x2, .int .i64 y1, .int .i64 y2]] w (TruePost w) :=
  SheetsArea_walk s A c A2 c2 ps x1 x2 y1 y2 w hg hP

open Go.ChangeShapes Go.WideShapes Go.ChangeAt Go.RowKit Go.Joins

set_option maxRecDepth 100000 in
theorem area_lifted (os : Os) (started : os.Started) (H : Type) (enc : TypeId × Value → H) :
    ReturnsInHanded {} Try.checked os 10 .any (Rows.sheetsAreaSpec.pre6 enc Try.prog Try.f10 Rows.sheetsAreaRow.domain false) (Rows.sheetsAreaSpec.post enc Try.prog Try.f10 false true false false) := by
  refine returnsInHanded_of_change (C := Try.checked) own started (by kernel_rfl) Try.func10
    (ChangeSpec.witness6 (enc := enc) (C := Try.checked) false ⟨#[], #[.agg #[.int .i64 0, .int .i64 0, .int .i64 0, .int .i64 0, .slice none 0 0, .int .i64 0], .slice none 0 0, .agg #[.int .i64 0, .int .i64 0, .int .i64 0, .int .i64 0]], []⟩ 8 (by kernel_rfl) (by kernel_rfl) (by kernel_rfl) (by kernel_rfl)) ?_
  intro W base args ds gs before hval0 hW hcnd _
  have hval : ∀ (j : Nat) t v, Try.f10.params[j]? = some t → args[j]? = some v → Value.okWide Try.prog W .any base t v := hval0
  have hW' := hW
  obtain ⟨p, q, hA0, hV, rfl, hfz, hnd⟩ := hW
  have hA : DataW.TrodAll enc Try.prog W 0 (fun _ => true) true Try.f10.params.toList args.toList ds p := hA0
  rw [Try.params10] at hA hval
  obtain ⟨v0, v1, v2, d0, d1, d2, p0, p1, p2, rfl, rfl, rfl, h0, h1, h2⟩ := trodAll_three hA
  obtain ⟨rfl, rfl⟩ := trodVars_none hV
  obtain ⟨s, A, c, rfl, hg_s, hl_s⟩ := open_Sheet (hval 0 26 v0 rfl rfl) h0
  obtain ⟨A2, c2, ps, rfl, hg_ps, hl_ps⟩ := open_prs Try.underlying27 Try.underlying43 (by kernel_rfl) (by kernel_rfl) (by kernel_rfl) (by kernel_rfl) (by kernel_rfl) Try.underlying3 Try.underlying3 (hval 1 27 v1 rfl rfl) h1
  obtain ⟨x1, x2, y1, y2, rfl⟩ := open_Two (hval 2 44 v2 rfl rfl) h2
  refine (lawArea_walk s A c A2 c2 ps x1 x2 y1 y2 W hl_ps hg_ps hg_s).mono fun e W' ⟨he, hb⟩ => ?_
  subst he
  exact ⟨_, rfl, law_post hW' rfl rfl (by intro t ht; have : t = 26 ∨ t = 27 ∨ t = 44 := (by rw [Try.params10] at ht; simpa using ht); rcases this with rfl | rfl | rfl <;> exact ⟨by kernel_rfl, of_decide_eq_true (by kernel_rfl)⟩) rfl rfl rfl hb⟩

theorem area_holds : Rows.SheetsAreaSaid :=
  OpenClaim.holds_of_wide 10 Try.f10 rfl rfl rfl rfl rfl rfl rfl ⟨rfl, rfl, rfl, rfl, rfl⟩ rfl rfl rfl rfl rfl (by kernel_rfl) Try.func10 (by kernel_rfl)
    (of_decide_eq_true (by kernel_rfl)) (by unfold Func.isWrapper; rw [if_neg (of_decide_eq_false (by kernel_rfl))]; exact ⟨rfl, rfl⟩)
    (fun os started H enc _ => area_lifted os started H enc)
end Go.Proofs.Ytgpmnkdagpcffaa
