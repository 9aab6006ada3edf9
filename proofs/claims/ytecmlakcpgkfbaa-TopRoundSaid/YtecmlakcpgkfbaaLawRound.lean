/- Through the layers: the law TopRound: both sides of the pole tell the area and the skew, for any polygon, wheel and beginnings. -/
import Derived.Test.YtecmlakcpgkfbaaDial
import Derived.Test.YtecmlakcpgkfbaaFrame
namespace Go.Proofs.Ytecmlakcpgkfbaa
open Go.RowKit
def TruePost (w : World) (e : Ending) (w' : World) : Prop := e = .returned (.bool true) ∧ Below w.heap.size w w'
theorem Far2_any (A : Option Addr) (c : Nat) (ps : List Geo.Pt) (w : World) :
    Calls Try.prog 44 #[.slice A ps.length c] w fun e w' => e = .returned (.bool (decide (40 < ps.length))) ∧ w' = w := by
  go_enter Try.func44, Try.ntmps44
  go_wp2
  all_goals
    go_ret
    refine ⟨ret_b ?_, rfl⟩
    first | (simp; done) | (simp; omega)
theorem boxS4r {W : World} {B : Nat} {t : TypeId} {a b c d : Value} (H : BoxS W B t #[a, b, c, d]) : W.cell? ⟨B, 0, none⟩ = some a ∧ W.cell? ⟨B, 1, none⟩ = some b ∧ W.cell? ⟨B, 2, none⟩ = some c ∧ W.cell? ⟨B, 3, none⟩ = some d := ⟨H.cell 0 rfl, H.cell 1 rfl, H.cell 2 rfl, H.cell 3 rfl⟩
set_option maxRecDepth 100000 in
set_option maxHeartbeats 16000000 in
theorem TopRound_walk (A : Option Addr) (c : Nat) (ps : List Geo.Pt) (F k s1 s2 : Int) (w : World) (hP : Prs w w.heap.size A ps) :
    Calls Try.prog 11 #[.slice A ps.length c, .agg #[.int .i64 F, .int .i64 k, .int .i64 s1, .int .i64 s2]] w (TruePost w) := by
  have HWK : Hid (∀ W, Calls Try.prog 46 #[] W fun e w' => e = .returned (.bool true) ∧ Below W.heap.size W w') := dialled_any
  have HF2 : Hid (∀ W, Calls Try.prog 44 #[.slice A ps.length c] W fun e w' => e = .returned (.bool (decide (40 < ps.length))) ∧ w' = W) := fun W => Far2_any A c ps W
  have HRC : Hid (decide (40 < ps.length) = false → ∀ W, Below w.heap.size w W → Calls Try.prog 45 #[.slice A ps.length c] W fun e w' => e = .returned (.int .i64 (Geo.errV ps)) ∧ Below W.heap.size W w') := fun h W hW => by
    have := refchk_any A c ps (by have := of_decide_eq_false h; omega) W (prs_keep hP hW)
    unfold RefPost at this
    rw [Geo.refV_errV] at this
    exact this
  have HTW : Hid (Geo.errV ps = 0 → ∀ W, Below w.heap.size w W → Calls Try.prog 47 #[.slice A ps.length c] W fun e w' => e = .returned (.tuple #[.int .i64 (Geo.tot Geo.fanV ps), .int .i64 0]) ∧ Below W.heap.size W w') := fun h W hW => by
    have hv : Geo.validB ps = true := by
      unfold Geo.errV at h
      split at h
      · assumption
      · omega
    have := Twice_any A c ps (by have := (Geo.valid_len hv).2; omega) W (prs_keep hP hW)
    rw [Geo.whenV_yes hv, h] at this
    exact this
  have HNE : Hid (Geo.errV ps = 0 → Geo.tot Geo.fanV ps ≠ 0 ∧ -1000000 ≤ Geo.tot Geo.fanV ps ∧ Geo.tot Geo.fanV ps ≤ 1000000) := fun h => by
    have hv : Geo.validB ps = true := by
      unfold Geo.errV at h
      split at h
      · assumption
      · omega
    exact ⟨Geo.area_ne hv, Geo.tot_small hv⟩
  have HAR : Hid (∀ (a : Int) A c W, (60 ≤ F ∧ F ≤ 10000) → (0 ≤ a ∧ a ≤ 9999) → (-4 ≤ k ∧ k ≤ 4) → (0 ≤ s1 ∧ s1 < F) → (0 ≤ s2 ∧ s2 < F) → Wks W W.heap.size A [(1, 1, 0, s1, (s1 + a + k + F).tmod F), (1, -1, 0, s2, (s2 + a - k + F).tmod F)] →
      Calls Try.prog 20 #[.agg #[.int .i64 F, .int .i64 0, .int .i64 0, .int .i64 4, .int .i64 0, .int .i64 (max 0 (a - 10)), .int .i64 (min 9999 (a + 10)), .int .i64 0], .slice A 2 c] W (IntsEPost [a] 0 W)) := fun a A c W h1 h2 h3 h4 h5 hW => by
    have := Areas_any (Wh.rnd F a k s1 s2) A c W (by unfold Wh.rnd; simp) hW
    have e := Wh.rnd_one h1 h2 h3 h4 h5
    rw [e.1, e.2.1] at this
    exact this
  have HSK : Hid (∀ (a : Int) A c W, (60 ≤ F ∧ F ≤ 10000) → (0 ≤ a ∧ a ≤ 9999) → (-4 ≤ k ∧ k ≤ 4) → (0 ≤ s1 ∧ s1 < F) → (0 ≤ s2 ∧ s2 < F) → Wks W W.heap.size A [(1, 1, 0, s1, (s1 + a + k + F).tmod F), (1, -1, 0, s2, (s2 + a - k + F).tmod F)] →
      Calls Try.prog 25 #[.agg #[.int .i64 F, .int .i64 0, .int .i64 0, .int .i64 4, .int .i64 0, .int .i64 (max 0 (a - 10)), .int .i64 (min 9999 (a + 10)), .int .i64 0], .slice A 2 c] W (IntsEPost [k] 0 W)) := fun a A c W h1 h2 h3 h4 h5 hW => by
    have := Skews_any (Wh.rnd F a k s1 s2) A c W (by unfold Wh.rnd; simp) hW
    have e := Wh.rnd_one h1 h2 h3 h4 h5
    rw [e.1, e.2.2] at this
    exact this
  unfold IntsEPost at HAR HSK
  generalize Geo.errV ps = EV at *
  generalize Geo.tot Geo.fanV ps = n at *
  clear hP
  generalize decide (40 < ps.length) = FB at *
  generalize ps.length = np at *
  cases FB with
  | true =>
    clear HRC
    go_enter Try.func11, Try.ntmps11
    go_wp2_with fail
    have bX1 := BoxS.new w 68 #[.int .i64 F, .int .i64 k, .int .i64 s1, .int .i64 s2]
    have hB1 : Below w.heap.size w (w.alloc (.cells #[.int .i64 F, .int .i64 k, .int .i64 s1, .int .i64 s2] 68)) := (Below.refl _ _).alloc (Nat.le_refl _) _
    generalize World.alloc w _ = w1 at *
    obtain ⟨x0, x1, x2, x3⟩ := boxS4r bX1
    have lX1 := bX1.lt
    refine (HF2.out _).mono ?_
    rintro e wq ⟨rfl, hq⟩
    obtain rfl : w1 = wq := hq.symm
    go_wp2_with fail
    refine (HWK.out _).mono ?_
    rintro e wz ⟨rfl, hbz⟩
    have hBz := hB1.trans (hbz.mono hB1.size)
    go_wp2_with fail
    go_returns
    exact ⟨rfl, hBz⟩
  | false =>
    have HRC2 := Lib.hid (HRC.out rfl)
    clear HRC
    by_cases hE : EV = 0
    rotate_left
    · have hEb : (EV != 0) = true := by simpa using hE
      go_enter Try.func11, Try.ntmps11
      go_wp2_with fail
      have bX1 := BoxS.new w 68 #[.int .i64 F, .int .i64 k, .int .i64 s1, .int .i64 s2]
      have hB1 : Below w.heap.size w (w.alloc (.cells #[.int .i64 F, .int .i64 k, .int .i64 s1, .int .i64 s2] 68)) := (Below.refl _ _).alloc (Nat.le_refl _) _
      generalize World.alloc w _ = w1 at *
      obtain ⟨x0, x1, x2, x3⟩ := boxS4r bX1
      have lX1 := bX1.lt
      refine (HF2.out _).mono ?_
      rintro e wq ⟨rfl, hq⟩
      obtain rfl : w1 = wq := hq.symm
      go_wp2_with fail
      refine (HRC2.out _ hB1).mono ?_
      rintro e w2 ⟨rfl, hb2⟩
      have bX2 := bX1.below hb2
      have hB2 := hB1.trans (hb2.mono hB1.size)
      clear x0 x1 x2 x3 lX1 bX1 hB1 hb2
      obtain ⟨x0, x1, x2, x3⟩ := boxS4r bX2
      have lX2 := bX2.lt
      go_wp2_with fail
      refine (HWK.out _).mono ?_
      rintro e wz ⟨rfl, hbz⟩
      have hBz := hB2.trans (hbz.mono hB2.size)
      go_wp2_with fail
      go_returns
      exact ⟨rfl, hBz⟩
    · subst hE
      have HTW2 := Lib.hid (HTW.out rfl)
      obtain ⟨hn0, hn1, hn2⟩ := HNE.out rfl
      clear HTW HNE
      by_cases h0 : F < 60
      · have d0 : decide (F < 60) = true := decide_eq_true h0
        go_enter Try.func11, Try.ntmps11
        go_wp2_with fail
        have bX1 := BoxS.new w 68 #[.int .i64 F, .int .i64 k, .int .i64 s1, .int .i64 s2]
        have hB1 : Below w.heap.size w (w.alloc (.cells #[.int .i64 F, .int .i64 k, .int .i64 s1, .int .i64 s2] 68)) := (Below.refl _ _).alloc (Nat.le_refl _) _
        generalize World.alloc w _ = w1 at *
        obtain ⟨x0, x1, x2, x3⟩ := boxS4r bX1
        have lX1 := bX1.lt
        refine (HF2.out _).mono ?_
        rintro e wq ⟨rfl, hq⟩
        obtain rfl : w1 = wq := hq.symm
        go_wp2_with fail
        refine (HRC2.out _ hB1).mono ?_
        rintro e w2 ⟨rfl, hb2⟩
        have bX2 := bX1.below hb2
        have hB2 := hB1.trans (hb2.mono hB1.size)
        clear x0 x1 x2 x3 lX1 bX1 hB1 hb2
        obtain ⟨x0, x1, x2, x3⟩ := boxS4r bX2
        have lX2 := bX2.lt
        go_wp2_with fail
        refine (HWK.out _).mono ?_
        rintro e wz ⟨rfl, hbz⟩
        have hBz := hB2.trans (hbz.mono hB2.size)
        go_wp2_with fail
        go_returns
        exact ⟨rfl, hBz⟩
      · have d0 : decide (F < 60) = false := decide_eq_false h0
        by_cases h1 : 10000 < F
        · have d1 : decide (10000 < F) = true := decide_eq_true h1
          go_enter Try.func11, Try.ntmps11
          go_wp2_with fail
          have bX1 := BoxS.new w 68 #[.int .i64 F, .int .i64 k, .int .i64 s1, .int .i64 s2]
          have hB1 : Below w.heap.size w (w.alloc (.cells #[.int .i64 F, .int .i64 k, .int .i64 s1, .int .i64 s2] 68)) := (Below.refl _ _).alloc (Nat.le_refl _) _
          generalize World.alloc w _ = w1 at *
          obtain ⟨x0, x1, x2, x3⟩ := boxS4r bX1
          have lX1 := bX1.lt
          refine (HF2.out _).mono ?_
          rintro e wq ⟨rfl, hq⟩
          obtain rfl : w1 = wq := hq.symm
          go_wp2_with fail
          refine (HRC2.out _ hB1).mono ?_
          rintro e w2 ⟨rfl, hb2⟩
          have bX2 := bX1.below hb2
          have hB2 := hB1.trans (hb2.mono hB1.size)
          clear x0 x1 x2 x3 lX1 bX1 hB1 hb2
          obtain ⟨x0, x1, x2, x3⟩ := boxS4r bX2
          have lX2 := bX2.lt
          go_wp2_with fail
          refine (HWK.out _).mono ?_
          rintro e wz ⟨rfl, hbz⟩
          have hBz := hB2.trans (hbz.mono hB2.size)
          go_wp2_with fail
          go_returns
          exact ⟨rfl, hBz⟩
        · have d1 : decide (10000 < F) = false := decide_eq_false h1
          by_cases h2 : k < -4
          · have d2 : decide (k < -4) = true := decide_eq_true h2
            go_enter Try.func11, Try.ntmps11
            go_wp2_with fail
            have bX1 := BoxS.new w 68 #[.int .i64 F, .int .i64 k, .int .i64 s1, .int .i64 s2]
            have hB1 : Below w.heap.size w (w.alloc (.cells #[.int .i64 F, .int .i64 k, .int .i64 s1, .int .i64 s2] 68)) := (Below.refl _ _).alloc (Nat.le_refl _) _
            generalize World.alloc w _ = w1 at *
            obtain ⟨x0, x1, x2, x3⟩ := boxS4r bX1
            have lX1 := bX1.lt
            refine (HF2.out _).mono ?_
            rintro e wq ⟨rfl, hq⟩
            obtain rfl : w1 = wq := hq.symm
            go_wp2_with fail
            refine (HRC2.out _ hB1).mono ?_
            rintro e w2 ⟨rfl, hb2⟩
            have bX2 := bX1.below hb2
            have hB2 := hB1.trans (hb2.mono hB1.size)
            clear x0 x1 x2 x3 lX1 bX1 hB1 hb2
            obtain ⟨x0, x1, x2, x3⟩ := boxS4r bX2
            have lX2 := bX2.lt
            go_wp2_with fail
            refine (HWK.out _).mono ?_
            rintro e wz ⟨rfl, hbz⟩
            have hBz := hB2.trans (hbz.mono hB2.size)
            go_wp2_with fail
            go_returns
            exact ⟨rfl, hBz⟩
          · have d2 : decide (k < -4) = false := decide_eq_false h2
            by_cases h3 : 4 < k
            · have d3 : decide (4 < k) = true := decide_eq_true h3
              go_enter Try.func11, Try.ntmps11
              go_wp2_with fail
              have bX1 := BoxS.new w 68 #[.int .i64 F, .int .i64 k, .int .i64 s1, .int .i64 s2]
              have hB1 : Below w.heap.size w (w.alloc (.cells #[.int .i64 F, .int .i64 k, .int .i64 s1, .int .i64 s2] 68)) := (Below.refl _ _).alloc (Nat.le_refl _) _
              generalize World.alloc w _ = w1 at *
              obtain ⟨x0, x1, x2, x3⟩ := boxS4r bX1
              have lX1 := bX1.lt
              refine (HF2.out _).mono ?_
              rintro e wq ⟨rfl, hq⟩
              obtain rfl : w1 = wq := hq.symm
              go_wp2_with fail
              refine (HRC2.out _ hB1).mono ?_
              rintro e w2 ⟨rfl, hb2⟩
              have bX2 := bX1.below hb2
              have hB2 := hB1.trans (hb2.mono hB1.size)
              clear x0 x1 x2 x3 lX1 bX1 hB1 hb2
              obtain ⟨x0, x1, x2, x3⟩ := boxS4r bX2
              have lX2 := bX2.lt
              go_wp2_with fail
              refine (HWK.out _).mono ?_
              rintro e wz ⟨rfl, hbz⟩
              have hBz := hB2.trans (hbz.mono hB2.size)
              go_wp2_with fail
              go_returns
              exact ⟨rfl, hBz⟩
            · have d3 : decide (4 < k) = false := decide_eq_false h3
              by_cases h4 : s1 < 0
              · have d4 : decide (s1 < 0) = true := decide_eq_true h4
                go_enter Try.func11, Try.ntmps11
                go_wp2_with fail
                have bX1 := BoxS.new w 68 #[.int .i64 F, .int .i64 k, .int .i64 s1, .int .i64 s2]
                have hB1 : Below w.heap.size w (w.alloc (.cells #[.int .i64 F, .int .i64 k, .int .i64 s1, .int .i64 s2] 68)) := (Below.refl _ _).alloc (Nat.le_refl _) _
                generalize World.alloc w _ = w1 at *
                obtain ⟨x0, x1, x2, x3⟩ := boxS4r bX1
                have lX1 := bX1.lt
                refine (HF2.out _).mono ?_
                rintro e wq ⟨rfl, hq⟩
                obtain rfl : w1 = wq := hq.symm
                go_wp2_with fail
                refine (HRC2.out _ hB1).mono ?_
                rintro e w2 ⟨rfl, hb2⟩
                have bX2 := bX1.below hb2
                have hB2 := hB1.trans (hb2.mono hB1.size)
                clear x0 x1 x2 x3 lX1 bX1 hB1 hb2
                obtain ⟨x0, x1, x2, x3⟩ := boxS4r bX2
                have lX2 := bX2.lt
                go_wp2_with fail
                refine (HWK.out _).mono ?_
                rintro e wz ⟨rfl, hbz⟩
                have hBz := hB2.trans (hbz.mono hB2.size)
                go_wp2_with fail
                go_returns
                exact ⟨rfl, hBz⟩
              · have d4 : decide (s1 < 0) = false := decide_eq_false h4
                by_cases h5 : F ≤ s1
                · have d5 : decide (F ≤ s1) = true := decide_eq_true h5
                  go_enter Try.func11, Try.ntmps11
                  go_wp2_with fail
                  have bX1 := BoxS.new w 68 #[.int .i64 F, .int .i64 k, .int .i64 s1, .int .i64 s2]
                  have hB1 : Below w.heap.size w (w.alloc (.cells #[.int .i64 F, .int .i64 k, .int .i64 s1, .int .i64 s2] 68)) := (Below.refl _ _).alloc (Nat.le_refl _) _
                  generalize World.alloc w _ = w1 at *
                  obtain ⟨x0, x1, x2, x3⟩ := boxS4r bX1
                  have lX1 := bX1.lt
                  refine (HF2.out _).mono ?_
                  rintro e wq ⟨rfl, hq⟩
                  obtain rfl : w1 = wq := hq.symm
                  go_wp2_with fail
                  refine (HRC2.out _ hB1).mono ?_
                  rintro e w2 ⟨rfl, hb2⟩
                  have bX2 := bX1.below hb2
                  have hB2 := hB1.trans (hb2.mono hB1.size)
                  clear x0 x1 x2 x3 lX1 bX1 hB1 hb2
                  obtain ⟨x0, x1, x2, x3⟩ := boxS4r bX2
                  have lX2 := bX2.lt
                  go_wp2_with fail
                  refine (HWK.out _).mono ?_
                  rintro e wz ⟨rfl, hbz⟩
                  have hBz := hB2.trans (hbz.mono hB2.size)
                  go_wp2_with fail
                  go_returns
                  exact ⟨rfl, hBz⟩
                · have d5 : decide (F ≤ s1) = false := decide_eq_false h5
                  by_cases h6 : s2 < 0
                  · have d6 : decide (s2 < 0) = true := decide_eq_true h6
                    go_enter Try.func11, Try.ntmps11
                    go_wp2_with fail
                    have bX1 := BoxS.new w 68 #[.int .i64 F, .int .i64 k, .int .i64 s1, .int .i64 s2]
                    have hB1 : Below w.heap.size w (w.alloc (.cells #[.int .i64 F, .int .i64 k, .int .i64 s1, .int .i64 s2] 68)) := (Below.refl _ _).alloc (Nat.le_refl _) _
                    generalize World.alloc w _ = w1 at *
                    obtain ⟨x0, x1, x2, x3⟩ := boxS4r bX1
                    have lX1 := bX1.lt
                    refine (HF2.out _).mono ?_
                    rintro e wq ⟨rfl, hq⟩
                    obtain rfl : w1 = wq := hq.symm
                    go_wp2_with fail
                    refine (HRC2.out _ hB1).mono ?_
                    rintro e w2 ⟨rfl, hb2⟩
                    have bX2 := bX1.below hb2
                    have hB2 := hB1.trans (hb2.mono hB1.size)
                    clear x0 x1 x2 x3 lX1 bX1 hB1 hb2
                    obtain ⟨x0, x1, x2, x3⟩ := boxS4r bX2
                    have lX2 := bX2.lt
                    go_wp2_with fail
                    refine (HWK.out _).mono ?_
                    rintro e wz ⟨rfl, hbz⟩
                    have hBz := hB2.trans (hbz.mono hB2.size)
                    go_wp2_with fail
                    go_returns
                    exact ⟨rfl, hBz⟩
                  · have d6 : decide (s2 < 0) = false := decide_eq_false h6
                    by_cases h7 : F ≤ s2
                    · have d7 : decide (F ≤ s2) = true := decide_eq_true h7
                      go_enter Try.func11, Try.ntmps11
                      go_wp2_with fail
                      have bX1 := BoxS.new w 68 #[.int .i64 F, .int .i64 k, .int .i64 s1, .int .i64 s2]
                      have hB1 : Below w.heap.size w (w.alloc (.cells #[.int .i64 F, .int .i64 k, .int .i64 s1, .int .i64 s2] 68)) := (Below.refl _ _).alloc (Nat.le_refl _) _
                      generalize World.alloc w _ = w1 at *
                      obtain ⟨x0, x1, x2, x3⟩ := boxS4r bX1
                      have lX1 := bX1.lt
                      refine (HF2.out _).mono ?_
                      rintro e wq ⟨rfl, hq⟩
                      obtain rfl : w1 = wq := hq.symm
                      go_wp2_with fail
                      refine (HRC2.out _ hB1).mono ?_
                      rintro e w2 ⟨rfl, hb2⟩
                      have bX2 := bX1.below hb2
                      have hB2 := hB1.trans (hb2.mono hB1.size)
                      clear x0 x1 x2 x3 lX1 bX1 hB1 hb2
                      obtain ⟨x0, x1, x2, x3⟩ := boxS4r bX2
                      have lX2 := bX2.lt
                      go_wp2_with fail
                      refine (HWK.out _).mono ?_
                      rintro e wz ⟨rfl, hbz⟩
                      have hBz := hB2.trans (hbz.mono hB2.size)
                      go_wp2_with fail
                      go_returns
                      exact ⟨rfl, hBz⟩
                    · have d7 : decide (F ≤ s2) = false := decide_eq_false h7
                      go_enter Try.func11, Try.ntmps11
                      go_wp2_with fail
                      have bX1 := BoxS.new w 68 #[.int .i64 F, .int .i64 k, .int .i64 s1, .int .i64 s2]
                      have hB1 : Below w.heap.size w (w.alloc (.cells #[.int .i64 F, .int .i64 k, .int .i64 s1, .int .i64 s2] 68)) := (Below.refl _ _).alloc (Nat.le_refl _) _
                      generalize World.alloc w _ = w1 at *
                      obtain ⟨x0, x1, x2, x3⟩ := boxS4r bX1
                      have lX1 := bX1.lt
                      refine (HF2.out _).mono ?_
                      rintro e wq ⟨rfl, hq⟩
                      obtain rfl : w1 = wq := hq.symm
                      go_wp2_with fail
                      refine (HRC2.out _ hB1).mono ?_
                      rintro e w2 ⟨rfl, hb2⟩
                      have bX2 := bX1.below hb2
                      have hB2 := hB1.trans (hb2.mono hB1.size)
                      clear x0 x1 x2 x3 lX1 bX1 hB1 hb2
                      obtain ⟨x0, x1, x2, x3⟩ := boxS4r bX2
                      have lX2 := bX2.lt
                      go_wp2_with fail
                      clear HF2 HRC2 d0 d1 d2 d3 d4 d5 d6 d7
                      have e0 : decide (n < -1000000) = false := decide_eq_false (by omega)
                      have e1 : decide (1000000 < n) = false := decide_eq_false (by omega)
                      have e2 : (n == 0) = false := by simpa using hn0
                      have hwn : IntKind.i64.wrap (-n) = -n := IntWalk.i64_in _ (by omega)
                      refine (HTW2.out _ hB2).mono ?_
                      rintro e w3 ⟨rfl, hb3⟩
                      have bX3 := bX2.below hb3
                      have hB3 := hB2.trans (hb3.mono hB2.size)
                      clear x0 x1 x2 x3 lX2 bX2 hB2 hb3 HTW2
                      go_upto_region 7 with fail
                      obtain ⟨a, ha⟩ : ∃ a, a = max n (-n) := ⟨_, rfl⟩
                      rw [← ha]
                      have ha0 : 0 ≤ a ∧ a ≤ 1000000 := by omega
                      clear ha e0 e1 e2 hwn hn0 hn1 hn2
                      by_cases h9 : 9999 < a
                      · have d9 : decide (9999 < a) = true := decide_eq_true h9
                        go_wp2_with fail
                        refine (HWK.out _).mono ?_
                        rintro e wz ⟨rfl, hbz⟩
                        have hBz := hB3.trans (hbz.mono hB3.size)
                        go_wp2_with fail
                        go_returns
                        exact ⟨rfl, hBz⟩
                      · have d9 : decide (9999 < a) = false := decide_eq_false h9
                        obtain ⟨x0, x1, x2, x3⟩ := boxS4r bX3
                        have lX3 := bX3.lt
                        have hwa : IntKind.i64.wrap (a - 10) = a - 10 := IntWalk.i64_in _ (by omega)
                        have hwb : IntKind.i64.wrap (a + 10) = a + 10 := IntWalk.i64_in _ (by omega)
                        go_upto_region 10 with fail
                        have hA := Lib.hid (HAR.out a)
                        have hS := Lib.hid (HSK.out a)
                        clear HAR HSK
                        generalize max 0 (a - 10) = lo at *
                        generalize min 9999 (a + 10) = hi at *
                        have bW4 := BoxS.new w3 25 #[.int .i64 F, .int .i64 0, .int .i64 0, .int .i64 4, .int .i64 0, .int .i64 lo, .int .i64 hi, .int .i64 0]
                        have bX4 := bX3.alloc (.cells #[.int .i64 F, .int .i64 0, .int .i64 0, .int .i64 4, .int .i64 0, .int .i64 lo, .int .i64 hi, .int .i64 0] 25)
                        have hB4 : Below w.heap.size w (w3.alloc (.cells #[.int .i64 F, .int .i64 0, .int .i64 0, .int .i64 4, .int .i64 0, .int .i64 lo, .int .i64 hi, .int .i64 0] 25)) := hB3.alloc hB3.size _
                        have hBW : w.heap.size < w3.heap.size := bX3.lt
                        obtain ⟨BW, hBWe⟩ : ∃ B, B = w3.heap.size := ⟨_, rfl⟩
                        rw [← hBWe] at bW4 hBW ⊢
                        clear x0 x1 x2 x3 lX3 bX3 hB3 hBWe hwa hwb
                        generalize World.alloc w3 _ = w4 at *
                        obtain ⟨x0, x1, x2, x3⟩ := boxS4r bX4
                        have v1 : IntKind.i64.wrap (s1 + a) = s1 + a := IntWalk.i64_in _ (by omega)
                        have v2 : IntKind.i64.wrap (s1 + a + k) = s1 + a + k := IntWalk.i64_in _ (by omega)
                        have v3 : IntKind.i64.wrap (s1 + a + k + F) = s1 + a + k + F := IntWalk.i64_in _ (by omega)
                        have t1 := Wh.tmod_bd (a := s1 + a + k + F) (b := F) (by omega)
                        have v4 : IntKind.i64.wrap ((s1 + a + k + F).tmod F) = (s1 + a + k + F).tmod F := IntWalk.i64_in _ (by omega)
                        have v5 : IntKind.i64.wrap (s2 + a) = s2 + a := IntWalk.i64_in _ (by omega)
                        have v6 : IntKind.i64.wrap (s2 + a - k) = s2 + a - k := IntWalk.i64_in _ (by omega)
                        have v7 : IntKind.i64.wrap (s2 + a - k + F) = s2 + a - k + F := IntWalk.i64_in _ (by omega)
                        have t2 := Wh.tmod_bd (a := s2 + a - k + F) (b := F) (by omega)
                        have v8 : IntKind.i64.wrap ((s2 + a - k + F).tmod F) = (s2 + a - k + F).tmod F := IntWalk.i64_in _ (by omega)
                        have hF0 : ¬ F = 0 := by omega
                        clear t1 t2
                        have hA2 := Lib.hid (fun A c W hW => hA.out A c W (by omega) (by omega) (by omega) (by omega) (by omega) hW)
                        have hS2 := Lib.hid (fun A c W hW => hS.out A c W (by omega) (by omega) (by omega) (by omega) (by omega) hW)
                        clear hA hS
                        refine (wpIn_wide (n := 4)).1 ?_
                        have hmo : Try.prog.follows .mixedOrders = true := by kernel_rfl
                        refine wpIn_region_held (fun W' => W' = w4.drew) 32 hmo ?_
                        refine wpHeldIn_take (i := 0) (v := ?_) (plain_of (by kernel_rfl)) rfl (by kernel_rfl) (fun _ _ _ h => h) (yieldsSoIn_of (by kernel_rfl) ?_ (fun _ => rfl)) rfl ?_; rotate_left; focus (intro w hw; cases hw; go_simp; try (with_reducible rfl))
                        refine wpHeldIn_take (i := 1) (v := ?_) (plain_of (by kernel_rfl)) rfl (by kernel_rfl) (fun _ _ _ h => h) (yieldsSoIn_of (by kernel_rfl) ?_ (fun _ => rfl)) rfl ?_; rotate_left; focus (intro w hw; cases hw; go_simp; try (with_reducible rfl))
                        refine wpHeldIn_take (i := 2) (v := ?_) (plain_of (by kernel_rfl)) rfl (by kernel_rfl) (fun _ _ _ h => h) (yieldsSoIn_of (by kernel_rfl) ?_ (fun _ => rfl)) rfl ?_; rotate_left; focus (intro w hw; cases hw; go_simp; try (with_reducible rfl))
                        refine wpHeldIn_take (i := 3) (v := ?_) (plain_of (by kernel_rfl)) rfl (by kernel_rfl) (fun _ _ _ h => h) (yieldsSoIn_of (by kernel_rfl) ?_ (fun _ => rfl)) rfl ?_; rotate_left; focus (intro w hw; cases hw; go_simp; try (with_reducible rfl))
                        refine wpHeldIn_take (i := 4) (v := ?_) (plain_of (by kernel_rfl)) rfl (by kernel_rfl) (fun _ _ _ h => h) (yieldsSoIn_of (by kernel_rfl) ?_ (fun _ => rfl)) rfl ?_; rotate_left; focus (intro w hw; cases hw; go_simp; try (with_reducible rfl))
                        refine wpHeldIn_take (i := 5) (v := ?_) (plain_of (by kernel_rfl)) rfl (by kernel_rfl) (fun _ _ _ h => h) (yieldsSoIn_of (by kernel_rfl) ?_ (fun _ => rfl)) rfl ?_; rotate_left; focus (intro w hw; cases hw; go_simp; try (with_reducible rfl))
                        refine wpHeldIn_take (i := 6) (v := ?_) (plain_of (by kernel_rfl)) rfl (by kernel_rfl) (fun _ _ _ h => h) (yieldsSoIn_of (by kernel_rfl) ?_ (fun _ => rfl)) rfl ?_; rotate_left; focus (intro w hw; cases hw; go_simp; try (with_reducible rfl))
                        refine wpHeldIn_take (i := 7) (v := ?_) (plain_of (by kernel_rfl)) rfl (by kernel_rfl) (fun _ _ _ h => h) (yieldsSoIn_of (by kernel_rfl) ?_ (fun _ => rfl)) rfl ?_; rotate_left; focus (intro w hw; cases hw; go_simp; try (with_reducible rfl))
                        refine wpHeldIn_take (i := 8) (v := ?_) (plain_of (by kernel_rfl)) rfl (by kernel_rfl) (fun _ _ _ h => h) (yieldsSoIn_of (by kernel_rfl) ?_ (fun _ => rfl)) rfl ?_; rotate_left; focus (intro w hw; cases hw; go_simp; try (with_reducible rfl))
                        refine wpHeldIn_take (i := 9) (v := ?_) (plain_of (by kernel_rfl)) rfl (by kernel_rfl) (fun _ _ _ h => h) (yieldsSoIn_of (by kernel_rfl) ?_ (fun _ => rfl)) rfl ?_; rotate_left; focus (intro w hw; cases hw; go_simp; try (with_reducible rfl))
                        refine wpHeldIn_take (i := 10) (v := ?_) (plain_of (by kernel_rfl)) rfl (by kernel_rfl) (fun _ _ _ h => h) (yieldsSoIn_of (by kernel_rfl) ?_ (fun _ => rfl)) rfl ?_; rotate_left; focus (intro w hw; cases hw; go_simp; try (with_reducible rfl))
                        refine wpHeldIn_take (i := 11) (v := ?_) (plain_of (by kernel_rfl)) rfl (by kernel_rfl) (fun _ _ _ h => h) (yieldsSoIn_of (by kernel_rfl) ?_ (fun _ => rfl)) rfl ?_; rotate_left; focus (intro w hw; cases hw; go_simp; try (with_reducible rfl))
                        refine wpHeldIn_take (i := 12) (v := ?_) (plain_of (by kernel_rfl)) rfl (by kernel_rfl) (fun _ _ _ h => h) (yieldsSoIn_of (by kernel_rfl) ?_ (fun _ => rfl)) rfl ?_; rotate_left; focus (intro w hw; cases hw; go_simp; try (with_reducible rfl))
                        refine wpHeldIn_take (i := 13) (v := ?_) (plain_of (by kernel_rfl)) rfl (by kernel_rfl) (fun _ _ _ h => h) (yieldsSoIn_of (by kernel_rfl) ?_ (fun _ => rfl)) rfl ?_; rotate_left; focus (intro w hw; cases hw; go_simp; try (with_reducible rfl))
                        refine wpHeldIn_take (i := 14) (v := ?_) (plain_of (by kernel_rfl)) rfl (by kernel_rfl) (fun _ _ _ h => h) (yieldsSoIn_of (by kernel_rfl) ?_ (fun _ => rfl)) rfl ?_; rotate_left; focus (intro w hw; cases hw; go_simp; try (with_reducible rfl))
                        refine wpHeldIn_take (i := 15) (v := ?_) (plain_of (by kernel_rfl)) rfl (by kernel_rfl) (fun _ _ _ h => h) (yieldsSoIn_of (by kernel_rfl) ?_ (fun _ => rfl)) rfl ?_; rotate_left; focus (intro w hw; cases hw; go_simp; try (with_reducible rfl))
                        refine wpHeldIn_take (i := 16) (v := ?_) (plain_of (by kernel_rfl)) rfl (by kernel_rfl) (fun _ _ _ h => h) (yieldsSoIn_of (by kernel_rfl) ?_ (fun _ => rfl)) rfl ?_; rotate_left; focus (intro w hw; cases hw; go_simp; try (with_reducible rfl))
                        refine wpHeldIn_take (i := 17) (v := ?_) (plain_of (by kernel_rfl)) rfl (by kernel_rfl) (fun _ _ _ h => h) (yieldsSoIn_of (by kernel_rfl) ?_ (fun _ => rfl)) rfl ?_; rotate_left; focus (intro w hw; cases hw; go_simp; try (with_reducible rfl))
                        refine wpHeldIn_take (i := 18) (v := ?_) (plain_of (by kernel_rfl)) rfl (by kernel_rfl) (fun _ _ _ h => h) (yieldsSoIn_of (by kernel_rfl) ?_ (fun _ => rfl)) rfl ?_; rotate_left; focus (intro w hw; cases hw; go_simp; try (with_reducible rfl))
                        refine wpHeldIn_take (i := 19) (v := ?_) (plain_of (by kernel_rfl)) rfl (by kernel_rfl) (fun _ _ _ h => h) (yieldsSoIn_of (by kernel_rfl) ?_ (fun _ => rfl)) rfl ?_; rotate_left; focus (intro w hw; cases hw; go_simp; try (with_reducible rfl))
                        refine wpHeldIn_take (i := 20) (v := ?_) (plain_of (by kernel_rfl)) rfl (by kernel_rfl) (fun _ _ _ h => h) (yieldsSoIn_of (by kernel_rfl) ?_ (fun _ => rfl)) rfl ?_; rotate_left; focus (intro w hw; cases hw; go_simp; try (with_reducible rfl))
                        refine wpHeldIn_take (i := 21) (v := ?_) (plain_of (by kernel_rfl)) rfl (by kernel_rfl) (fun _ _ _ h => h) (yieldsSoIn_of (by kernel_rfl) ?_ (fun _ => rfl)) rfl ?_; rotate_left; focus (intro w hw; cases hw; go_simp; try (with_reducible rfl))
                        refine wpHeldIn_take (i := 22) (v := ?_) (plain_of (by kernel_rfl)) rfl (by kernel_rfl) (fun _ _ _ h => h) (yieldsSoIn_of (by kernel_rfl) ?_ (fun _ => rfl)) rfl ?_; rotate_left; focus (intro w hw; cases hw; go_simp; try (with_reducible rfl))
                        refine wpHeldIn_take (i := 23) (v := ?_) (plain_of (by kernel_rfl)) rfl (by kernel_rfl) (fun _ _ _ h => h) (yieldsSoIn_of (by kernel_rfl) ?_ (fun _ => rfl)) rfl ?_; rotate_left; focus (intro w hw; cases hw; go_simp; try (with_reducible rfl))
                        refine wpHeldIn_take (i := 24) (v := ?_) (plain_of (by kernel_rfl)) rfl (by kernel_rfl) (fun _ _ _ h => h) (yieldsSoIn_of (by kernel_rfl) ?_ (fun _ => rfl)) rfl ?_; rotate_left; focus (intro w hw; cases hw; go_simp; try (with_reducible rfl))
                        refine wpHeldIn_take (i := 25) (v := ?_) (plain_of (by kernel_rfl)) rfl (by kernel_rfl) (fun _ _ _ h => h) (yieldsSoIn_of (by kernel_rfl) ?_ (fun _ => rfl)) rfl ?_; rotate_left; focus (intro w hw; cases hw; go_simp; try (with_reducible rfl))
                        refine wpHeldIn_take (i := 26) (v := ?_) (plain_of (by kernel_rfl)) rfl (by kernel_rfl) (fun _ _ _ h => h) (yieldsSoIn_of (by kernel_rfl) ?_ (fun _ => rfl)) rfl ?_; rotate_left; focus (intro w hw; cases hw; go_simp; try (with_reducible rfl))
                        refine wpHeldIn_take (i := 27) (v := ?_) (plain_of (by kernel_rfl)) rfl (by kernel_rfl) (fun _ _ _ h => h) (yieldsSoIn_of (by kernel_rfl) ?_ (fun _ => rfl)) rfl ?_; rotate_left; focus (intro w hw; cases hw; go_simp; try (with_reducible rfl))
                        refine wpHeldIn_take (i := 28) (v := ?_) (plain_of (by kernel_rfl)) rfl (by kernel_rfl) (fun _ _ _ h => h) (yieldsSoIn_of (by kernel_rfl) ?_ (fun _ => rfl)) rfl ?_; rotate_left; focus (intro w hw; cases hw; go_simp; try (with_reducible rfl))
                        refine wpHeldIn_take (i := 29) (v := ?_) (plain_of (by kernel_rfl)) rfl (by kernel_rfl) (fun _ _ _ h => h) (yieldsSoIn_of (by kernel_rfl) ?_ (fun _ => rfl)) rfl ?_; rotate_left; focus (intro w hw; cases hw; go_simp; try (with_reducible rfl))
                        refine wpHeldIn_take (i := 30) (v := ?_) (plain_of (by kernel_rfl)) rfl (by kernel_rfl) (fun _ _ _ h => h) (yieldsSoIn_of (by kernel_rfl) ?_ (fun _ => rfl)) rfl ?_; rotate_left; focus (intro w hw; cases hw; go_simp; try (with_reducible rfl))
                        refine wpHeldIn_take (i := 31) (v := ?_) (plain_of (by kernel_rfl)) rfl (by kernel_rfl) (fun _ _ _ h => h) (yieldsSoIn_of (by kernel_rfl) ?_ (fun _ => rfl)) rfl ?_; rotate_left; focus (intro w hw; cases hw; go_simp; try (with_reducible rfl))
                        refine wpHeldIn_last (by kernel_rfl) rfl (by kernel_rfl) (fun K2 hK2 => ?_)
                        go_simp
                        refine hK2 _ _ ?_
                        refine wpHeldIn_take (i := 33) (v := ?_) (plain_of (by kernel_rfl)) rfl (by kernel_rfl) (fun _ _ _ h => h) (yieldsSoIn_of (by kernel_rfl) ?_ (fun _ => rfl)) trivial ?_; rotate_left; focus (intro w _; go_simp; try (with_reducible rfl))
                        refine wpHeldIn_done (by kernel_rfl) ?_ _
                        go_simp
                        clear v1 v2 v3 v4 v5 v6 v7 v8 x0 x1 x2 x3
                        generalize (s1 + a + k + F).tmod F = r1 at *
                        generalize (s2 + a - k + F).tmod F = r2 at *
                        have hx : Below w4.heap.size w4 ((w4.alloc (.cells #[.int .i64 1, .int .i64 1, .int .i64 0, .int .i64 s1, .int .i64 r1, .int .i64 1, .int .i64 (-1), .int .i64 0, .int .i64 s2, .int .i64 r2] 54)).drew) := ((Below.refl _ _).alloc (Nat.le_refl _) _).drew
                        have bK5 : BoxS ((w4.alloc (.cells #[.int .i64 1, .int .i64 1, .int .i64 0, .int .i64 s1, .int .i64 r1, .int .i64 1, .int .i64 (-1), .int .i64 0, .int .i64 s2, .int .i64 r2] 54)).drew) w4.heap.size 54 #[.int .i64 1, .int .i64 1, .int .i64 0, .int .i64 s1, .int .i64 r1, .int .i64 1, .int .i64 (-1), .int .i64 0, .int .i64 s2, .int .i64 r2] := (BoxS.new w4 54 #[.int .i64 1, .int .i64 1, .int .i64 0, .int .i64 s1, .int .i64 r1, .int .i64 1, .int .i64 (-1), .int .i64 0, .int .i64 s2, .int .i64 r2]).drew
                        have bW5 := bW4.below hx
                        have bX5 := bX4.below hx
                        have hB5 := hB4.trans (hx.mono hB4.size)
                        have HK5 : Hid (Wks ((w4.alloc (.cells #[.int .i64 1, .int .i64 1, .int .i64 0, .int .i64 s1, .int .i64 r1, .int .i64 1, .int .i64 (-1), .int .i64 0, .int .i64 s2, .int .i64 r2] 54)).drew) ((w4.alloc (.cells #[.int .i64 1, .int .i64 1, .int .i64 0, .int .i64 s1, .int .i64 r1, .int .i64 1, .int .i64 (-1), .int .i64 0, .int .i64 s2, .int .i64 r2] 54)).drew).heap.size (some ⟨w4.heap.size, 0, none⟩) [(1, 1, 0, s1, r1), (1, -1, 0, s2, r2)]) := fun _ => ⟨w4.heap.size, 0, rfl, bK5.lt, fun j hj => by
                          rcases j with _ | _ | j
                          · exact ⟨bK5.cell 0 rfl, bK5.cell 1 rfl, bK5.cell 2 rfl, bK5.cell 3 rfl, bK5.cell 4 rfl⟩
                          · exact ⟨bK5.cell 5 rfl, bK5.cell 6 rfl, bK5.cell 7 rfl, bK5.cell 8 rfl, bK5.cell 9 rfl⟩
                          · simp at hj
                            omega⟩
                        obtain ⟨BK, hBK⟩ : ∃ B, B = w4.heap.size := ⟨_, rfl⟩
                        rw [← hBK] at HK5 ⊢
                        clear hx bK5 hBK bW4 bX4 hB4
                        generalize World.drew (World.alloc w4 _) = w5 at *
                        obtain ⟨⟨⟨z0, z1, z2⟩, z3, z4, z5⟩, z6, z7⟩ := boxS8 bW5
                        have lW5 := bW5.lt
                        go_wp2_with fail
                        refine (hA2.out _ _ _ HK5.out).mono ?_
                        rintro e w6 ⟨v, rfl, hI6, hb6⟩
                        have bW6 := bW5.below hb6
                        have bX6 := bX5.below hb6
                        have HK6 := Lib.hid ((HK5.out.keep hb6).wider hb6.size)
                        have hB6 := hB5.trans (hb6.mono hB5.size)
                        clear z0 z1 z2 z3 z4 z5 z6 z7 lW5 bW5 bX5 HK5 hB5 hb6 hA2
                        obtain ⟨⟨⟨z0, z1, z2⟩, z3, z4, z5⟩, z6, z7⟩ := boxS8 bW6
                        have lW6 := bW6.lt
                        go_wp2_with fail
                        refine (hS2.out _ _ _ HK6.out).mono ?_
                        rintro e w7 ⟨u, rfl, hJ7, hb7⟩
                        have bX7 := bX6.below hb7
                        have hI7 := Ints.more (Ints.keep hI6.out hb7) hb7.size
                        have hB7 := hB6.trans (hb7.mono hB6.size)
                        have hJ8 := hJ7.out
                        clear z0 z1 z2 z3 z4 z5 z6 z7 lW6 bW6 bX6 HK6 hB6 hb7 hS2 hI6 hJ7
                        rcases hI7 with ⟨_, h⟩ | ⟨b, off, cap, rfl, hbl, hc⟩
                        · cases h
                        rcases hJ8 with ⟨_, h⟩ | ⟨b', off', cap', rfl, hbl', hc'⟩
                        · cases h
                        have c0 : w7.cell? ⟨b, off, none⟩ = some (.int .i64 a) := hc 0 a rfl
                        have c1 : w7.cell? ⟨b', off', none⟩ = some (.int .i64 k) := hc' 0 k rfl
                        clear hc hc'
                        go_wp2_with fail
                        refine (wpIn_wide (n := 4)).1 ?_
                        have q0 : Below w7.heap.size w7 w7.drew := (Below.refl _ _).drew
                        have KC : Hid (∀ W', Below w7.heap.size w7 W' → (W'.cell? ⟨b, off, none⟩ = some (.int .i64 a) ∧ W'.cell? ⟨b', off', none⟩ = some (.int .i64 k)) ∧ W'.cell? ⟨w.heap.size, 1, none⟩ = some (.int .i64 k)) := fun W' h => ⟨⟨(h.cell (p := ⟨b, _, none⟩) hbl).trans c0, (h.cell (p := ⟨b', _, none⟩) hbl').trans c1⟩, (bX7.below h).cell 1 rfl⟩
                        clear c0 c1
                        refine wpIn_region_held (fun W' => Below w7.heap.size w7 W') 60 hmo ?_
                        refine wpHeldIn_take (i := 0) (v := ?_) (plain_of (by kernel_rfl)) rfl (by kernel_rfl) (fun _ _ _ h => h) (yieldsSoIn_of (by kernel_rfl) ?_ (fun _ => rfl)) q0 ?_; rotate_left; focus (intro wq hw; clear hw; go_simp; try (with_reducible rfl))
                        refine wpHeldIn_take (i := 1) (v := ?_) (plain_of (by kernel_rfl)) rfl (by kernel_rfl) (fun _ _ _ h => h) (yieldsSoIn_of (by kernel_rfl) ?_ (fun _ => rfl)) q0 ?_; rotate_left; focus (intro wq hw; clear hw; go_simp; try (with_reducible rfl))
                        refine wpHeldIn_take (i := 2) (v := ?_) (plain_of (by kernel_rfl)) rfl (by kernel_rfl) (fun _ _ _ h => h) (yieldsSoIn_of (by kernel_rfl) ?_ (fun _ => rfl)) q0 ?_; rotate_left; focus (intro wq hw; clear hw; go_simp; try (with_reducible rfl))
                        refine wpHeldIn_take (i := 3) (v := ?_) (plain_of (by kernel_rfl)) rfl (by kernel_rfl) (fun _ _ _ h => h) (yieldsSoIn_of (by kernel_rfl) ?_ (fun _ => rfl)) q0 ?_; rotate_left; focus (intro wq hw; clear hw; go_simp; try (with_reducible rfl))
                        refine wpHeldIn_take (i := 4) (v := ?_) (plain_of (by kernel_rfl)) rfl (by kernel_rfl) (fun _ _ _ h => h) (yieldsSoIn_of (by kernel_rfl) ?_ (fun _ => rfl)) q0 ?_; rotate_left; focus (intro wq hw; clear hw; go_simp; try (with_reducible rfl))
                        refine wpHeldIn_take (i := 5) (v := ?_) (plain_of (by kernel_rfl)) rfl (by kernel_rfl) (fun _ _ _ h => h) (yieldsSoIn_of (by kernel_rfl) ?_ (fun _ => rfl)) q0 ?_; rotate_left; focus (intro wq hw; clear hw; go_simp; try (with_reducible rfl))
                        refine wpHeldIn_take (i := 6) (v := ?_) (plain_of (by kernel_rfl)) rfl (by kernel_rfl) (fun _ _ _ h => h) (yieldsSoIn_of (by kernel_rfl) ?_ (fun _ => rfl)) q0 ?_; rotate_left; focus (intro wq hw; clear hw; go_simp; try (with_reducible rfl))
                        refine wpHeldIn_take (i := 7) (v := ?_) (plain_of (by kernel_rfl)) rfl (by kernel_rfl) (fun _ _ _ h => h) (yieldsSoIn_of (by kernel_rfl) ?_ (fun _ => rfl)) q0 ?_; rotate_left; focus (intro wq hw; clear hw; go_simp; try (with_reducible rfl))
                        refine wpHeldIn_take (i := 8) (v := ?_) (plain_of (by kernel_rfl)) rfl (by kernel_rfl) (fun _ _ _ h => h) (yieldsSoIn_of (by kernel_rfl) ?_ (fun _ => rfl)) q0 ?_; rotate_left; focus (intro wq hw; clear hw; go_simp; try (with_reducible rfl))
                        refine wpHeldIn_take (i := 9) (v := ?_) (plain_of (by kernel_rfl)) rfl (by kernel_rfl) (fun _ _ _ h => h) (yieldsSoIn_of (by kernel_rfl) ?_ (fun _ => rfl)) q0 ?_; rotate_left; focus (intro wq hw; clear hw; go_simp; try (with_reducible rfl))
                        refine wpHeldIn_take (i := 10) (v := ?_) (plain_of (by kernel_rfl)) rfl (by kernel_rfl) (fun _ _ _ h => h) (yieldsSoIn_of (by kernel_rfl) ?_ (fun _ => rfl)) q0 ?_; rotate_left; focus (intro wq hw; clear hw; go_simp; try (with_reducible rfl))
                        refine wpHeldIn_take (i := 11) (v := ?_) (plain_of (by kernel_rfl)) rfl (by kernel_rfl) (fun _ _ _ h => h) (yieldsSoIn_of (by kernel_rfl) ?_ (fun _ => rfl)) q0 ?_; rotate_left; focus (intro wq hw; clear hw; go_simp; try (with_reducible rfl))
                        refine wpHeldIn_take (i := 12) (v := ?_) (plain_of (by kernel_rfl)) rfl (by kernel_rfl) (fun _ _ _ h => h) (yieldsSoIn_of (by kernel_rfl) ?_ (fun _ => rfl)) q0 ?_; rotate_left; focus (intro wq hw; clear hw; go_simp; try (with_reducible rfl))
                        refine wpHeldIn_take (i := 13) (v := ?_) (plain_of (by kernel_rfl)) rfl (by kernel_rfl) (fun _ _ _ h => h) (yieldsSoIn_of (by kernel_rfl) ?_ (fun _ => rfl)) q0 ?_; rotate_left; focus (intro wq hw; clear hw; go_simp; try (with_reducible rfl))
                        refine wpHeldIn_take (i := 14) (v := ?_) (plain_of (by kernel_rfl)) rfl (by kernel_rfl) (fun _ _ _ h => h) (yieldsSoIn_of (by kernel_rfl) ?_ (fun _ => rfl)) q0 ?_; rotate_left; focus (intro wq hw; have kq := KC.out wq hw; clear hw; go_simp; try (with_reducible rfl))
                        refine wpHeldIn_take (i := 15) (v := ?_) (plain_of (by kernel_rfl)) rfl (by kernel_rfl) (fun _ _ _ h => h) (yieldsSoIn_of (by kernel_rfl) ?_ (fun _ => rfl)) q0 ?_; rotate_left; focus (intro wq hw; clear hw; go_simp; try (with_reducible rfl))
                        refine wpHeldIn_take (i := 16) (v := ?_) (plain_of (by kernel_rfl)) rfl (by kernel_rfl) (fun _ _ _ h => h) (yieldsSoIn_of (by kernel_rfl) ?_ (fun _ => rfl)) q0 ?_; rotate_left; focus (intro wq hw; clear hw; go_simp; try (with_reducible rfl))
                        refine wpHeldIn_take (i := 17) (v := ?_) (plain_of (by kernel_rfl)) rfl (by kernel_rfl) (fun _ _ _ h => h) (yieldsSoIn_of (by kernel_rfl) ?_ (fun _ => rfl)) q0 ?_; rotate_left; focus (intro wq hw; clear hw; go_simp; try (with_reducible rfl))
                        refine wpHeldIn_take (i := 18) (v := ?_) (plain_of (by kernel_rfl)) rfl (by kernel_rfl) (fun _ _ _ h => h) (yieldsSoIn_of (by kernel_rfl) ?_ (fun _ => rfl)) q0 ?_; rotate_left; focus (intro wq hw; clear hw; go_simp; try (with_reducible rfl))
                        refine wpHeldIn_take (i := 19) (v := ?_) (plain_of (by kernel_rfl)) rfl (by kernel_rfl) (fun _ _ _ h => h) (yieldsSoIn_of (by kernel_rfl) ?_ (fun _ => rfl)) q0 ?_; rotate_left; focus (intro wq hw; clear hw; go_simp; try (with_reducible rfl))
                        refine wpHeldIn_take (i := 20) (v := ?_) (plain_of (by kernel_rfl)) rfl (by kernel_rfl) (fun _ _ _ h => h) (yieldsSoIn_of (by kernel_rfl) ?_ (fun _ => rfl)) q0 ?_; rotate_left; focus (intro wq hw; clear hw; go_simp; try (with_reducible rfl))
                        refine wpHeldIn_take (i := 21) (v := ?_) (plain_of (by kernel_rfl)) rfl (by kernel_rfl) (fun _ _ _ h => h) (yieldsSoIn_of (by kernel_rfl) ?_ (fun _ => rfl)) q0 ?_; rotate_left; focus (intro wq hw; clear hw; go_simp; try (with_reducible rfl))
                        refine wpHeldIn_take (i := 22) (v := ?_) (plain_of (by kernel_rfl)) rfl (by kernel_rfl) (fun _ _ _ h => h) (yieldsSoIn_of (by kernel_rfl) ?_ (fun _ => rfl)) q0 ?_; rotate_left; focus (intro wq hw; clear hw; go_simp; try (with_reducible rfl))
                        refine wpHeldIn_take (i := 23) (v := ?_) (plain_of (by kernel_rfl)) rfl (by kernel_rfl) (fun _ _ _ h => h) (yieldsSoIn_of (by kernel_rfl) ?_ (fun _ => rfl)) q0 ?_; rotate_left; focus (intro wq hw; clear hw; go_simp; try (with_reducible rfl))
                        refine wpHeldIn_take (i := 24) (v := ?_) (plain_of (by kernel_rfl)) rfl (by kernel_rfl) (fun _ _ _ h => h) (yieldsSoIn_of (by kernel_rfl) ?_ (fun _ => rfl)) q0 ?_; rotate_left; focus (intro wq hw; clear hw; go_simp; try (with_reducible rfl))
                        refine wpHeldIn_take (i := 25) (v := ?_) (plain_of (by kernel_rfl)) rfl (by kernel_rfl) (fun _ _ _ h => h) (yieldsSoIn_of (by kernel_rfl) ?_ (fun _ => rfl)) q0 ?_; rotate_left; focus (intro wq hw; clear hw; go_simp; try (with_reducible rfl))
                        refine wpHeldIn_take (i := 26) (v := ?_) (plain_of (by kernel_rfl)) rfl (by kernel_rfl) (fun _ _ _ h => h) (yieldsSoIn_of (by kernel_rfl) ?_ (fun _ => rfl)) q0 ?_; rotate_left; focus (intro wq hw; have kq := KC.out wq hw; clear hw; go_simp; try (with_reducible rfl))
                        refine wpHeldIn_take (i := 27) (v := ?_) (plain_of (by kernel_rfl)) rfl (by kernel_rfl) (fun _ _ _ h => h) (yieldsSoIn_of (by kernel_rfl) ?_ (fun _ => rfl)) q0 ?_; rotate_left; focus (intro wq hw; clear hw; go_simp; try (with_reducible rfl))
                        refine wpHeldIn_take (i := 28) (v := ?_) (plain_of (by kernel_rfl)) rfl (by kernel_rfl) (fun _ _ _ h => h) (yieldsSoIn_of (by kernel_rfl) ?_ (fun _ => rfl)) q0 ?_; rotate_left; focus (intro wq hw; have kq := KC.out wq hw; clear hw; go_simp; try (with_reducible rfl))
                        refine wpHeldIn_take (i := 29) (v := ?_) (plain_of (by kernel_rfl)) rfl (by kernel_rfl) (fun _ _ _ h => h) (yieldsSoIn_of (by kernel_rfl) ?_ (fun _ => rfl)) q0 ?_; rotate_left; focus (intro wq hw; clear hw; go_simp; try (with_reducible rfl))
                        refine wpHeldIn_take (i := 30) (v := ?_) (plain_of (by kernel_rfl)) rfl (by kernel_rfl) (fun _ _ _ h => h) (yieldsSoIn_of (by kernel_rfl) ?_ (fun _ => rfl)) q0 ?_; rotate_left; focus (intro wq hw; clear hw; go_simp; try (with_reducible rfl))
                        refine wpHeldIn_take (i := 31) (v := ?_) (plain_of (by kernel_rfl)) rfl (by kernel_rfl) (fun _ _ _ h => h) (yieldsSoIn_of (by kernel_rfl) ?_ (fun _ => rfl)) q0 ?_; rotate_left; focus (intro wq hw; clear hw; go_simp; try (with_reducible rfl))
                        refine wpHeldIn_one (i := 32) (by kernel_rfl) (by kernel_rfl) rfl (by kernel_rfl) (fun K' hK' => ?_); go_simp; refine ⟨trivial, (callsIn_wide.2 (HWK.out _)).mono ?_⟩; rintro e w8 ⟨rfl, hb8⟩
                        have q1 := q0.trans (hb8.mono q0.size)
                        refine hK' _ _ q1 ?_
                        refine wpHeldIn_take (i := 33) (v := ?_) (plain_of (by kernel_rfl)) rfl (by kernel_rfl) (fun _ _ _ h => h) (yieldsSoIn_of (by kernel_rfl) ?_ (fun _ => rfl)) q1 ?_; rotate_left; focus (intro wq hw; clear hw; go_simp; try (with_reducible rfl))
                        refine wpHeldIn_take (i := 34) (v := ?_) (plain_of (by kernel_rfl)) rfl (by kernel_rfl) (fun _ _ _ h => h) (yieldsSoIn_of (by kernel_rfl) ?_ (fun _ => rfl)) q1 ?_; rotate_left; focus (intro wq hw; clear hw; go_simp; try (with_reducible rfl))
                        refine wpHeldIn_done (by kernel_rfl) ?_ _
                        go_simp
                        have hB8 := hB7.trans (q1.mono hB7.size)
                        go_wp2_with fail
                        go_returns
                        exact ⟨rfl, hB8⟩

open Go.ChangeShapes Go.WideShapes Go.ChangeAt Go.RowKit Go.Joins Go.Deep
theorem cells_int4 : Try.prog.cellsOf 3 = 1 := by kernel_rfl
section
variable {H : Type} {enc : TypeId × Value → H} {w : World} {base : Nat} {spare : Nat → Bool} {held : Bool} {r : Reach} {b0 : Nat} {v : Value} {d : DataW H} {p : List MemPlace}
set_option maxRecDepth 100000 in
theorem open_Round (hv : Value.okWide Try.prog w r b0 68 v) (h : DataW.Trod enc Try.prog w base spare held 68 v d p) :
    ∃ F k s1 s2 : Int, v = .agg #[.int .i64 F, .int .i64 k, .int .i64 s1, .int .i64 s2] := by
  obtain ⟨cs, rfl, hsz⟩ := okWide_struct Try.underlying68 hv
  obtain ⟨l⟩ := cs
  match l, hsz.trans (by kernel_rfl : Try.prog.cellsOf 68 = 4) with
  | [c0, c1, c2, c3], _ =>
    obtain ⟨fuel, hf⟩ := h
    obtain ⟨xs, n, _, hx, _, hlen, hg⟩ := DataW.trod_struct Try.underlying68 hf
    match xs, hlen with
    | [y0, y1, y2, y3], _ =>
      have g0 := hg 0 _ rfl
      have g1 := hg 1 _ rfl
      have g2 := hg 2 _ rfl
      have g3 := hg 3 _ rfl
      simp [Value.cells, cells_int4] at g0 g1 g2 g3
      obtain ⟨F, e0, rfl, _⟩ := DataW.trod_int Try.underlying3 g0
      obtain ⟨k, e1, rfl, _⟩ := DataW.trod_int Try.underlying3 g1
      obtain ⟨s1, e2, rfl, _⟩ := DataW.trod_int Try.underlying3 g2
      obtain ⟨s2, e3, rfl, _⟩ := DataW.trod_int Try.underlying3 g3
      simp at e0 e1 e2 e3
      subst e0 e1 e2 e3
      exact ⟨F, k, s1, s2, rfl⟩
end
theorem lawRound_walk (A : Option Addr) (c : Nat) (ps : List (Int × Int)) (F k s1 s2 : Int) (w : World) (_hl : ps.length ≤ maxLen) (hP : Prs w w.heap.size A ps) :
    Calls Try.prog 11 #[.slice A ps.length c, .agg #[.int .i64 F, .int .i64 k, .int .i64 s1, .int .i64 s2]] w (TruePost w) := TopRound_walk A c ps F k s1 s2 w hP

open Go.ChangeShapes Go.WideShapes Go.ChangeAt Go.RowKit Go.Joins

set_option maxRecDepth 100000 in
theorem round_lifted (os : Os) (started : os.Started) (H : Type) (enc : TypeId × Value → H) :
    ReturnsInHanded {} Try.checked os 11 .any (Rows.topRoundSpec.pre6 enc Try.prog Try.f11 Rows.topRoundRow.domain false) (Rows.topRoundSpec.post enc Try.prog Try.f11 false true false false) := by
  refine returnsInHanded_of_change (C := Try.checked) own started (by kernel_rfl) Try.func11
    (ChangeSpec.witness6 (enc := enc) (C := Try.checked) false ⟨#[], #[.slice none 0 0, .agg #[.int .i64 0, .int .i64 0, .int .i64 0, .int .i64 0]], []⟩ 8 (by kernel_rfl) (by kernel_rfl) (by kernel_rfl) (by kernel_rfl)) ?_
  intro W base args ds gs before hval0 hW hcnd _
  have hval : ∀ (j : Nat) t v, Try.f11.params[j]? = some t → args[j]? = some v → Value.okWide Try.prog W .any base t v := hval0
  have hW' := hW
  obtain ⟨p, q, hA0, hV, rfl, hfz, hnd⟩ := hW
  have hA : DataW.TrodAll enc Try.prog W 0 (fun _ => true) true Try.f11.params.toList args.toList ds p := hA0
  rw [Try.params11] at hA hval
  obtain ⟨v0, v1, d0, d1, p0, p1, rfl, rfl, rfl, h0, h1⟩ := trodAll_two hA
  obtain ⟨rfl, rfl⟩ := trodVars_none hV
  obtain ⟨A, c, ps, rfl, hg_ps, hl_ps⟩ := open_prs Try.underlying66 Try.underlying105 (by kernel_rfl) (by kernel_rfl) (by kernel_rfl) (by kernel_rfl) (by kernel_rfl) Try.underlying3 Try.underlying3 (hval 0 66 v0 rfl rfl) h0
  obtain ⟨F, k, s1, s2, rfl⟩ := open_Round (hval 1 68 v1 rfl rfl) h1
  refine (lawRound_walk A c ps F k s1 s2 W hl_ps hg_ps).mono fun e W' ⟨he, hb⟩ => ?_
  subst he
  exact ⟨_, rfl, law_post hW' rfl rfl (by intro t ht; have : t = 66 ∨ t = 68 := (by rw [Try.params11] at ht; simpa using ht); rcases this with rfl | rfl <;> exact ⟨by kernel_rfl, of_decide_eq_true (by kernel_rfl)⟩) rfl rfl rfl hb⟩

theorem round_holds : Rows.TopRoundSaid :=
  OpenClaim.holds_of_wide 11 Try.f11 rfl rfl rfl rfl rfl rfl rfl ⟨rfl, rfl, rfl, rfl, rfl⟩ rfl rfl rfl rfl rfl (by kernel_rfl) Try.func11 (by kernel_rfl)
    (of_decide_eq_true (by kernel_rfl)) (by unfold Func.isWrapper; rw [if_neg (of_decide_eq_false (by kernel_rfl))]; exact ⟨rfl, rfl⟩)
    (fun os started H enc _ => round_lifted os started H enc)
end Go.Proofs.Ytecmlakcpgkfbaa
