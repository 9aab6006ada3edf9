/- The law TopInside (P0.4): a pole inside adds the circle of the track. -/
import Derived.Test.YtmjcdggmofohcaaGreatMh20
namespace Go.Proofs.YtmjcdggmofohcaaGreat
open Go.RowKit
set_option maxRecDepth 100000 in
set_option maxHeartbeats 16000000 in
theorem TopInside_all (t : Wl.Trk) (ws : List Wl.Pt) (es : List Int) (rd : Int) (A Aw Ae : Option Addr) (c cw ce : Nat) (w : World) (hP : Prs w w.heap.size A t.ps) (hQ : Prs w w.heap.size Aw ws) (hE : 0 < es.length → Ints w w.heap.size (.slice Ae es.length ce) es) :
    Calls Tryz.prog 4 #[.agg (trV t A c), .slice Aw ws.length cw, .agg #[.slice Ae es.length ce, .int .i64 rd]] w fun e w' => e = .returned (.bool true) ∧ Below w.heap.size w w' := by
  have HWK : Hid (∀ W, Calls Tryz.prog 8 #[] W fun e w' => e = .returned (.bool true) ∧ Below W.heap.size W w') := swept_any
  have HFR : Hid (∀ W, Below w.heap.size w W → Calls Tryz.prog 5 #[.agg (trV t A c), .slice Aw ws.length cw] W fun e w' => e = .returned (.bool (Wl.farB t ws)) ∧ Below W.heap.size W w') := fun W hW => Far5_any t ws A Aw c cw W (prs_keep hP hW) (prs_keep hQ hW)
  cases hf : Wl.farB t ws with
  | true =>
    rw [hf] at HFR
    clear hP hQ hE hf
    obtain ⟨ps, cl, lo, hi⟩ := t
    unfold trV at *
    dsimp only at *
    go_enter Tryz.func4, Tryz.ntmps4
    go_wp2_with fail
    have bT1 := (BoxS.new w 26 #[.slice A ps.length c, .int .i64 cl, .int .i64 lo, .int .i64 hi]).alloc (.cells #[.slice Ae es.length ce, .int .i64 rd] 40)
    have bX1 := BoxS.new (w.alloc (.cells #[.slice A ps.length c, .int .i64 cl, .int .i64 lo, .int .i64 hi] 26)) 40 #[.slice Ae es.length ce, .int .i64 rd]
    rw [World.size_alloc] at bX1
    have hB1 : Below w.heap.size w ((w.alloc (.cells #[.slice A ps.length c, .int .i64 cl, .int .i64 lo, .int .i64 hi] 26)).alloc (.cells #[.slice Ae es.length ce, .int .i64 rd] 40)) := by (repeat' (first | (with_reducible exact Below.refl _ _) | (with_reducible assumption) | (with_reducible refine Below.alloc ?_ ?_ _) | (with_reducible refine Below.drew ?_) | (with_reducible refine Below.setCell ?_ ?_ _) | go_size | (exact (by simp)) | omega))
    generalize World.alloc (World.alloc w _) _ = w1 at *
    have ct0 : w1.cell? ⟨w.heap.size, 0, none⟩ = some (.slice A ps.length c) := bT1.cell 0 rfl
    have ct1 : w1.cell? ⟨w.heap.size, 1, none⟩ = some (.int .i64 cl) := bT1.cell 1 rfl
    have ct2 : w1.cell? ⟨w.heap.size, 2, none⟩ = some (.int .i64 lo) := bT1.cell 2 rfl
    have ct3 : w1.cell? ⟨w.heap.size, 3, none⟩ = some (.int .i64 hi) := bT1.cell 3 rfl
    have lT1 := bT1.lt
    have cx0 : w1.cell? ⟨w.heap.size + 1, 0, none⟩ = some (.slice Ae es.length ce) := bX1.cell 0 rfl
    have cx1 : w1.cell? ⟨w.heap.size + 1, 1, none⟩ = some (.int .i64 rd) := bX1.cell 1 rfl
    have lX1 := bX1.lt
    try go_wp2_with fail
    refine (HFR.out _ hB1).mono ?_
    rintro e w2 ⟨rfl, hb2⟩
    have bT2 := bT1.below hb2
    have bX2 := bX1.below hb2
    have hB2 := hB1.trans (hb2.mono hB1.size)
    clear ct0 ct1 ct2 ct3 lT1 cx0 cx1 lX1 bT1 bX1 hB1 hb2
    have ct0 : w2.cell? ⟨w.heap.size, 0, none⟩ = some (.slice A ps.length c) := bT2.cell 0 rfl
    have ct1 : w2.cell? ⟨w.heap.size, 1, none⟩ = some (.int .i64 cl) := bT2.cell 1 rfl
    have ct2 : w2.cell? ⟨w.heap.size, 2, none⟩ = some (.int .i64 lo) := bT2.cell 2 rfl
    have ct3 : w2.cell? ⟨w.heap.size, 3, none⟩ = some (.int .i64 hi) := bT2.cell 3 rfl
    have lT2 := bT2.lt
    have cx0 : w2.cell? ⟨w.heap.size + 1, 0, none⟩ = some (.slice Ae es.length ce) := bX2.cell 0 rfl
    have cx1 : w2.cell? ⟨w.heap.size + 1, 1, none⟩ = some (.int .i64 rd) := bX2.cell 1 rfl
    have lX2 := bX2.lt
    go_wp2_with fail
    refine (HWK.out _).mono ?_
    rintro e wz ⟨rfl, hbz⟩
    have hBz := hB2.trans (hbz.mono hB2.size)
    go_wp2_with fail
    go_returns
    exact ⟨rfl, hBz⟩
  | false =>
    obtain ⟨l1, l2⟩ := Wl.farB_len hf
    rw [hf] at HFR
    have HCK : Hid (∀ W, Below w.heap.size w W → Calls Tryz.prog 6 #[.agg (trV t A c), .slice Aw ws.length cw] W (ErrPost (Wl.chkV t ws) W)) := fun W hW => Check5_any t ws A Aw c cw (by omega) (by omega) W (prs_keep hP hW) (prs_keep hQ hW)
    unfold ErrPost at HCK
    by_cases h0 : Wl.chkV t ws = 0
    · obtain ⟨f1, f2⟩ := Wl.farB_five hf h0
      rw [h0] at HCK
      have HRF : Hid (∀ W, Below w.heap.size w W → Calls Tryz.prog 7 #[.slice Aw ws.length cw] W (ErrPost (Geo.errV ws) W)) := fun W hW => refC_any Aw cw ws l2 W (prs_keep hQ hW)
      unfold ErrPost at HRF
      by_cases hv : Geo.errV ws = 0
      · rw [hv] at HRF
        by_cases h40 : 40 < es.length
        · have d1 : decide (40 < (es.length : Int)) = true := decide_eq_true (by omega)
          have d2 : decide (40 < es.length) = true := decide_eq_true h40
          clear hP hQ hE hf h0 hv l1 l2 h40 f1 f2
          obtain ⟨ps, cl, lo, hi⟩ := t
          unfold trV at *
          dsimp only at *
          go_enter Tryz.func4, Tryz.ntmps4
          go_wp2_with fail
          have bT1 := (BoxS.new w 26 #[.slice A ps.length c, .int .i64 cl, .int .i64 lo, .int .i64 hi]).alloc (.cells #[.slice Ae es.length ce, .int .i64 rd] 40)
          have bX1 := BoxS.new (w.alloc (.cells #[.slice A ps.length c, .int .i64 cl, .int .i64 lo, .int .i64 hi] 26)) 40 #[.slice Ae es.length ce, .int .i64 rd]
          rw [World.size_alloc] at bX1
          have hB1 : Below w.heap.size w ((w.alloc (.cells #[.slice A ps.length c, .int .i64 cl, .int .i64 lo, .int .i64 hi] 26)).alloc (.cells #[.slice Ae es.length ce, .int .i64 rd] 40)) := by (repeat' (first | (with_reducible exact Below.refl _ _) | (with_reducible assumption) | (with_reducible refine Below.alloc ?_ ?_ _) | (with_reducible refine Below.drew ?_) | (with_reducible refine Below.setCell ?_ ?_ _) | go_size | (exact (by simp)) | omega))
          generalize World.alloc (World.alloc w _) _ = w1 at *
          have ct0 : w1.cell? ⟨w.heap.size, 0, none⟩ = some (.slice A ps.length c) := bT1.cell 0 rfl
          have ct1 : w1.cell? ⟨w.heap.size, 1, none⟩ = some (.int .i64 cl) := bT1.cell 1 rfl
          have ct2 : w1.cell? ⟨w.heap.size, 2, none⟩ = some (.int .i64 lo) := bT1.cell 2 rfl
          have ct3 : w1.cell? ⟨w.heap.size, 3, none⟩ = some (.int .i64 hi) := bT1.cell 3 rfl
          have lT1 := bT1.lt
          have cx0 : w1.cell? ⟨w.heap.size + 1, 0, none⟩ = some (.slice Ae es.length ce) := bX1.cell 0 rfl
          have cx1 : w1.cell? ⟨w.heap.size + 1, 1, none⟩ = some (.int .i64 rd) := bX1.cell 1 rfl
          have lX1 := bX1.lt
          try go_wp2_with fail
          refine (HFR.out _ hB1).mono ?_
          rintro e w2 ⟨rfl, hb2⟩
          have bT2 := bT1.below hb2
          have bX2 := bX1.below hb2
          have hB2 := hB1.trans (hb2.mono hB1.size)
          clear ct0 ct1 ct2 ct3 lT1 cx0 cx1 lX1 bT1 bX1 hB1 hb2
          have ct0 : w2.cell? ⟨w.heap.size, 0, none⟩ = some (.slice A ps.length c) := bT2.cell 0 rfl
          have ct1 : w2.cell? ⟨w.heap.size, 1, none⟩ = some (.int .i64 cl) := bT2.cell 1 rfl
          have ct2 : w2.cell? ⟨w.heap.size, 2, none⟩ = some (.int .i64 lo) := bT2.cell 2 rfl
          have ct3 : w2.cell? ⟨w.heap.size, 3, none⟩ = some (.int .i64 hi) := bT2.cell 3 rfl
          have lT2 := bT2.lt
          have cx0 : w2.cell? ⟨w.heap.size + 1, 0, none⟩ = some (.slice Ae es.length ce) := bX2.cell 0 rfl
          have cx1 : w2.cell? ⟨w.heap.size + 1, 1, none⟩ = some (.int .i64 rd) := bX2.cell 1 rfl
          have lX2 := bX2.lt
          go_wp2_with fail
          refine (HCK.out _ hB2).mono ?_
          rintro e w3 ⟨rfl, hb3⟩
          have bT3 := bT2.below hb3
          have bX3 := bX2.below hb3
          have hB3 := hB2.trans (hb3.mono hB2.size)
          clear ct0 ct1 ct2 ct3 lT2 cx0 cx1 lX2 bT2 bX2 hB2 hb3
          have ct0 : w3.cell? ⟨w.heap.size, 0, none⟩ = some (.slice A ps.length c) := bT3.cell 0 rfl
          have ct1 : w3.cell? ⟨w.heap.size, 1, none⟩ = some (.int .i64 cl) := bT3.cell 1 rfl
          have ct2 : w3.cell? ⟨w.heap.size, 2, none⟩ = some (.int .i64 lo) := bT3.cell 2 rfl
          have ct3 : w3.cell? ⟨w.heap.size, 3, none⟩ = some (.int .i64 hi) := bT3.cell 3 rfl
          have lT3 := bT3.lt
          have cx0 : w3.cell? ⟨w.heap.size + 1, 0, none⟩ = some (.slice Ae es.length ce) := bX3.cell 0 rfl
          have cx1 : w3.cell? ⟨w.heap.size + 1, 1, none⟩ = some (.int .i64 rd) := bX3.cell 1 rfl
          have lX3 := bX3.lt
          go_wp2_with fail
          refine (HRF.out _ hB3).mono ?_
          rintro e w4 ⟨rfl, hb4⟩
          have bT4 := bT3.below hb4
          have bX4 := bX3.below hb4
          have hB4 := hB3.trans (hb4.mono hB3.size)
          clear ct0 ct1 ct2 ct3 lT3 cx0 cx1 lX3 bT3 bX3 hB3 hb4
          have ct0 : w4.cell? ⟨w.heap.size, 0, none⟩ = some (.slice A ps.length c) := bT4.cell 0 rfl
          have ct1 : w4.cell? ⟨w.heap.size, 1, none⟩ = some (.int .i64 cl) := bT4.cell 1 rfl
          have ct2 : w4.cell? ⟨w.heap.size, 2, none⟩ = some (.int .i64 lo) := bT4.cell 2 rfl
          have ct3 : w4.cell? ⟨w.heap.size, 3, none⟩ = some (.int .i64 hi) := bT4.cell 3 rfl
          have lT4 := bT4.lt
          have cx0 : w4.cell? ⟨w.heap.size + 1, 0, none⟩ = some (.slice Ae es.length ce) := bX4.cell 0 rfl
          have cx1 : w4.cell? ⟨w.heap.size + 1, 1, none⟩ = some (.int .i64 rd) := bX4.cell 1 rfl
          have lX4 := bX4.lt
          go_wp2_with fail
          refine (HWK.out _).mono ?_
          rintro e wz ⟨rfl, hbz⟩
          have hBz := hB4.trans (hbz.mono hB4.size)
          go_wp2_with fail
          go_returns
          exact ⟨rfl, hBz⟩
        · have d1 : decide (40 < (es.length : Int)) = false := decide_eq_false (by omega)
          have d2 : decide (40 < es.length) = false := decide_eq_false h40
          obtain ⟨ht, hw⟩ := Wl.chk_yes.1 h0
          have hpt := (Wl.trk_parts ht).1
          have HAE : Hid (∀ W, Below w.heap.size w W → Calls Tryz.prog 11 #[.agg (trV t A c), .slice Aw ws.length cw, .slice Ae es.length ce] W fun e w' => e = .returned (.bool (Wl.elbV t ws es)) ∧ Below W.heap.size W w') := fun W hW => AreElbows5_all t ws es A Aw Ae c cw ce ht hw (by omega) (by omega) W (prs_keep hP hW) (prs_keep hQ hW) (fun h => ((hE h).keep hW).more hW.size)
          cases he : Wl.elbV t ws es with
          | false =>
            rw [he] at HAE
            clear hP hQ hE hf h0 hv l1 l2 h40 f1 f2 ht hw hpt he
            obtain ⟨ps, cl, lo, hi⟩ := t
            unfold trV at *
            dsimp only at *
            go_enter Tryz.func4, Tryz.ntmps4
            go_wp2_with fail
            have bT1 := (BoxS.new w 26 #[.slice A ps.length c, .int .i64 cl, .int .i64 lo, .int .i64 hi]).alloc (.cells #[.slice Ae es.length ce, .int .i64 rd] 40)
            have bX1 := BoxS.new (w.alloc (.cells #[.slice A ps.length c, .int .i64 cl, .int .i64 lo, .int .i64 hi] 26)) 40 #[.slice Ae es.length ce, .int .i64 rd]
            rw [World.size_alloc] at bX1
            have hB1 : Below w.heap.size w ((w.alloc (.cells #[.slice A ps.length c, .int .i64 cl, .int .i64 lo, .int .i64 hi] 26)).alloc (.cells #[.slice Ae es.length ce, .int .i64 rd] 40)) := by (repeat' (first | (with_reducible exact Below.refl _ _) | (with_reducible assumption) | (with_reducible refine Below.alloc ?_ ?_ _) | (with_reducible refine Below.drew ?_) | (with_reducible refine Below.setCell ?_ ?_ _) | go_size | (exact (by simp)) | omega))
            generalize World.alloc (World.alloc w _) _ = w1 at *
            have ct0 : w1.cell? ⟨w.heap.size, 0, none⟩ = some (.slice A ps.length c) := bT1.cell 0 rfl
            have ct1 : w1.cell? ⟨w.heap.size, 1, none⟩ = some (.int .i64 cl) := bT1.cell 1 rfl
            have ct2 : w1.cell? ⟨w.heap.size, 2, none⟩ = some (.int .i64 lo) := bT1.cell 2 rfl
            have ct3 : w1.cell? ⟨w.heap.size, 3, none⟩ = some (.int .i64 hi) := bT1.cell 3 rfl
            have lT1 := bT1.lt
            have cx0 : w1.cell? ⟨w.heap.size + 1, 0, none⟩ = some (.slice Ae es.length ce) := bX1.cell 0 rfl
            have cx1 : w1.cell? ⟨w.heap.size + 1, 1, none⟩ = some (.int .i64 rd) := bX1.cell 1 rfl
            have lX1 := bX1.lt
            try go_wp2_with fail
            refine (HFR.out _ hB1).mono ?_
            rintro e w2 ⟨rfl, hb2⟩
            have bT2 := bT1.below hb2
            have bX2 := bX1.below hb2
            have hB2 := hB1.trans (hb2.mono hB1.size)
            clear ct0 ct1 ct2 ct3 lT1 cx0 cx1 lX1 bT1 bX1 hB1 hb2
            have ct0 : w2.cell? ⟨w.heap.size, 0, none⟩ = some (.slice A ps.length c) := bT2.cell 0 rfl
            have ct1 : w2.cell? ⟨w.heap.size, 1, none⟩ = some (.int .i64 cl) := bT2.cell 1 rfl
            have ct2 : w2.cell? ⟨w.heap.size, 2, none⟩ = some (.int .i64 lo) := bT2.cell 2 rfl
            have ct3 : w2.cell? ⟨w.heap.size, 3, none⟩ = some (.int .i64 hi) := bT2.cell 3 rfl
            have lT2 := bT2.lt
            have cx0 : w2.cell? ⟨w.heap.size + 1, 0, none⟩ = some (.slice Ae es.length ce) := bX2.cell 0 rfl
            have cx1 : w2.cell? ⟨w.heap.size + 1, 1, none⟩ = some (.int .i64 rd) := bX2.cell 1 rfl
            have lX2 := bX2.lt
            go_wp2_with fail
            refine (HCK.out _ hB2).mono ?_
            rintro e w3 ⟨rfl, hb3⟩
            have bT3 := bT2.below hb3
            have bX3 := bX2.below hb3
            have hB3 := hB2.trans (hb3.mono hB2.size)
            clear ct0 ct1 ct2 ct3 lT2 cx0 cx1 lX2 bT2 bX2 hB2 hb3
            have ct0 : w3.cell? ⟨w.heap.size, 0, none⟩ = some (.slice A ps.length c) := bT3.cell 0 rfl
            have ct1 : w3.cell? ⟨w.heap.size, 1, none⟩ = some (.int .i64 cl) := bT3.cell 1 rfl
            have ct2 : w3.cell? ⟨w.heap.size, 2, none⟩ = some (.int .i64 lo) := bT3.cell 2 rfl
            have ct3 : w3.cell? ⟨w.heap.size, 3, none⟩ = some (.int .i64 hi) := bT3.cell 3 rfl
            have lT3 := bT3.lt
            have cx0 : w3.cell? ⟨w.heap.size + 1, 0, none⟩ = some (.slice Ae es.length ce) := bX3.cell 0 rfl
            have cx1 : w3.cell? ⟨w.heap.size + 1, 1, none⟩ = some (.int .i64 rd) := bX3.cell 1 rfl
            have lX3 := bX3.lt
            go_wp2_with fail
            refine (HRF.out _ hB3).mono ?_
            rintro e w4 ⟨rfl, hb4⟩
            have bT4 := bT3.below hb4
            have bX4 := bX3.below hb4
            have hB4 := hB3.trans (hb4.mono hB3.size)
            clear ct0 ct1 ct2 ct3 lT3 cx0 cx1 lX3 bT3 bX3 hB3 hb4
            have ct0 : w4.cell? ⟨w.heap.size, 0, none⟩ = some (.slice A ps.length c) := bT4.cell 0 rfl
            have ct1 : w4.cell? ⟨w.heap.size, 1, none⟩ = some (.int .i64 cl) := bT4.cell 1 rfl
            have ct2 : w4.cell? ⟨w.heap.size, 2, none⟩ = some (.int .i64 lo) := bT4.cell 2 rfl
            have ct3 : w4.cell? ⟨w.heap.size, 3, none⟩ = some (.int .i64 hi) := bT4.cell 3 rfl
            have lT4 := bT4.lt
            have cx0 : w4.cell? ⟨w.heap.size + 1, 0, none⟩ = some (.slice Ae es.length ce) := bX4.cell 0 rfl
            have cx1 : w4.cell? ⟨w.heap.size + 1, 1, none⟩ = some (.int .i64 rd) := bX4.cell 1 rfl
            have lX4 := bX4.lt
            go_wp2_with fail
            refine (HAE.out _ hB4).mono ?_
            rintro e w5 ⟨rfl, hb5⟩
            have bT5 := bT4.below hb5
            have bX5 := bX4.below hb5
            have hB5 := hB4.trans (hb5.mono hB4.size)
            clear ct0 ct1 ct2 ct3 lT4 cx0 cx1 lX4 bT4 bX4 hB4 hb5
            have ct0 : w5.cell? ⟨w.heap.size, 0, none⟩ = some (.slice A ps.length c) := bT5.cell 0 rfl
            have ct1 : w5.cell? ⟨w.heap.size, 1, none⟩ = some (.int .i64 cl) := bT5.cell 1 rfl
            have ct2 : w5.cell? ⟨w.heap.size, 2, none⟩ = some (.int .i64 lo) := bT5.cell 2 rfl
            have ct3 : w5.cell? ⟨w.heap.size, 3, none⟩ = some (.int .i64 hi) := bT5.cell 3 rfl
            have lT5 := bT5.lt
            have cx0 : w5.cell? ⟨w.heap.size + 1, 0, none⟩ = some (.slice Ae es.length ce) := bX5.cell 0 rfl
            have cx1 : w5.cell? ⟨w.heap.size + 1, 1, none⟩ = some (.int .i64 rd) := bX5.cell 1 rfl
            have lX5 := bX5.lt
            go_wp2_with fail
            refine (HWK.out _).mono ?_
            rintro e wz ⟨rfl, hbz⟩
            have hBz := hB5.trans (hbz.mono hB5.size)
            go_wp2_with fail
            go_returns
            exact ⟨rfl, hBz⟩
          | true =>
            rw [he] at HAE
            by_cases hr0 : rd < 0
            · have r1 : decide (rd < 0) = true := decide_eq_true hr0
              clear hP hQ hE hf h0 hv l1 l2 h40 f1 f2 ht hw hpt he hr0
              obtain ⟨ps, cl, lo, hi⟩ := t
              unfold trV at *
              dsimp only at *
              go_enter Tryz.func4, Tryz.ntmps4
              go_wp2_with fail
              have bT1 := (BoxS.new w 26 #[.slice A ps.length c, .int .i64 cl, .int .i64 lo, .int .i64 hi]).alloc (.cells #[.slice Ae es.length ce, .int .i64 rd] 40)
              have bX1 := BoxS.new (w.alloc (.cells #[.slice A ps.length c, .int .i64 cl, .int .i64 lo, .int .i64 hi] 26)) 40 #[.slice Ae es.length ce, .int .i64 rd]
              rw [World.size_alloc] at bX1
              have hB1 : Below w.heap.size w ((w.alloc (.cells #[.slice A ps.length c, .int .i64 cl, .int .i64 lo, .int .i64 hi] 26)).alloc (.cells #[.slice Ae es.length ce, .int .i64 rd] 40)) := by (repeat' (first | (with_reducible exact Below.refl _ _) | (with_reducible assumption) | (with_reducible refine Below.alloc ?_ ?_ _) | (with_reducible refine Below.drew ?_) | (with_reducible refine Below.setCell ?_ ?_ _) | go_size | (exact (by simp)) | omega))
              generalize World.alloc (World.alloc w _) _ = w1 at *
              have ct0 : w1.cell? ⟨w.heap.size, 0, none⟩ = some (.slice A ps.length c) := bT1.cell 0 rfl
              have ct1 : w1.cell? ⟨w.heap.size, 1, none⟩ = some (.int .i64 cl) := bT1.cell 1 rfl
              have ct2 : w1.cell? ⟨w.heap.size, 2, none⟩ = some (.int .i64 lo) := bT1.cell 2 rfl
              have ct3 : w1.cell? ⟨w.heap.size, 3, none⟩ = some (.int .i64 hi) := bT1.cell 3 rfl
              have lT1 := bT1.lt
              have cx0 : w1.cell? ⟨w.heap.size + 1, 0, none⟩ = some (.slice Ae es.length ce) := bX1.cell 0 rfl
              have cx1 : w1.cell? ⟨w.heap.size + 1, 1, none⟩ = some (.int .i64 rd) := bX1.cell 1 rfl
              have lX1 := bX1.lt
              try go_wp2_with fail
              refine (HFR.out _ hB1).mono ?_
              rintro e w2 ⟨rfl, hb2⟩
              have bT2 := bT1.below hb2
              have bX2 := bX1.below hb2
              have hB2 := hB1.trans (hb2.mono hB1.size)
              clear ct0 ct1 ct2 ct3 lT1 cx0 cx1 lX1 bT1 bX1 hB1 hb2
              have ct0 : w2.cell? ⟨w.heap.size, 0, none⟩ = some (.slice A ps.length c) := bT2.cell 0 rfl
              have ct1 : w2.cell? ⟨w.heap.size, 1, none⟩ = some (.int .i64 cl) := bT2.cell 1 rfl
              have ct2 : w2.cell? ⟨w.heap.size, 2, none⟩ = some (.int .i64 lo) := bT2.cell 2 rfl
              have ct3 : w2.cell? ⟨w.heap.size, 3, none⟩ = some (.int .i64 hi) := bT2.cell 3 rfl
              have lT2 := bT2.lt
              have cx0 : w2.cell? ⟨w.heap.size + 1, 0, none⟩ = some (.slice Ae es.length ce) := bX2.cell 0 rfl
              have cx1 : w2.cell? ⟨w.heap.size + 1, 1, none⟩ = some (.int .i64 rd) := bX2.cell 1 rfl
              have lX2 := bX2.lt
              go_wp2_with fail
              refine (HCK.out _ hB2).mono ?_
              rintro e w3 ⟨rfl, hb3⟩
              have bT3 := bT2.below hb3
              have bX3 := bX2.below hb3
              have hB3 := hB2.trans (hb3.mono hB2.size)
              clear ct0 ct1 ct2 ct3 lT2 cx0 cx1 lX2 bT2 bX2 hB2 hb3
              have ct0 : w3.cell? ⟨w.heap.size, 0, none⟩ = some (.slice A ps.length c) := bT3.cell 0 rfl
              have ct1 : w3.cell? ⟨w.heap.size, 1, none⟩ = some (.int .i64 cl) := bT3.cell 1 rfl
              have ct2 : w3.cell? ⟨w.heap.size, 2, none⟩ = some (.int .i64 lo) := bT3.cell 2 rfl
              have ct3 : w3.cell? ⟨w.heap.size, 3, none⟩ = some (.int .i64 hi) := bT3.cell 3 rfl
              have lT3 := bT3.lt
              have cx0 : w3.cell? ⟨w.heap.size + 1, 0, none⟩ = some (.slice Ae es.length ce) := bX3.cell 0 rfl
              have cx1 : w3.cell? ⟨w.heap.size + 1, 1, none⟩ = some (.int .i64 rd) := bX3.cell 1 rfl
              have lX3 := bX3.lt
              go_wp2_with fail
              refine (HRF.out _ hB3).mono ?_
              rintro e w4 ⟨rfl, hb4⟩
              have bT4 := bT3.below hb4
              have bX4 := bX3.below hb4
              have hB4 := hB3.trans (hb4.mono hB3.size)
              clear ct0 ct1 ct2 ct3 lT3 cx0 cx1 lX3 bT3 bX3 hB3 hb4
              have ct0 : w4.cell? ⟨w.heap.size, 0, none⟩ = some (.slice A ps.length c) := bT4.cell 0 rfl
              have ct1 : w4.cell? ⟨w.heap.size, 1, none⟩ = some (.int .i64 cl) := bT4.cell 1 rfl
              have ct2 : w4.cell? ⟨w.heap.size, 2, none⟩ = some (.int .i64 lo) := bT4.cell 2 rfl
              have ct3 : w4.cell? ⟨w.heap.size, 3, none⟩ = some (.int .i64 hi) := bT4.cell 3 rfl
              have lT4 := bT4.lt
              have cx0 : w4.cell? ⟨w.heap.size + 1, 0, none⟩ = some (.slice Ae es.length ce) := bX4.cell 0 rfl
              have cx1 : w4.cell? ⟨w.heap.size + 1, 1, none⟩ = some (.int .i64 rd) := bX4.cell 1 rfl
              have lX4 := bX4.lt
              go_wp2_with fail
              refine (HAE.out _ hB4).mono ?_
              rintro e w5 ⟨rfl, hb5⟩
              have bT5 := bT4.below hb5
              have bX5 := bX4.below hb5
              have hB5 := hB4.trans (hb5.mono hB4.size)
              clear ct0 ct1 ct2 ct3 lT4 cx0 cx1 lX4 bT4 bX4 hB4 hb5
              have ct0 : w5.cell? ⟨w.heap.size, 0, none⟩ = some (.slice A ps.length c) := bT5.cell 0 rfl
              have ct1 : w5.cell? ⟨w.heap.size, 1, none⟩ = some (.int .i64 cl) := bT5.cell 1 rfl
              have ct2 : w5.cell? ⟨w.heap.size, 2, none⟩ = some (.int .i64 lo) := bT5.cell 2 rfl
              have ct3 : w5.cell? ⟨w.heap.size, 3, none⟩ = some (.int .i64 hi) := bT5.cell 3 rfl
              have lT5 := bT5.lt
              have cx0 : w5.cell? ⟨w.heap.size + 1, 0, none⟩ = some (.slice Ae es.length ce) := bX5.cell 0 rfl
              have cx1 : w5.cell? ⟨w.heap.size + 1, 1, none⟩ = some (.int .i64 rd) := bX5.cell 1 rfl
              have lX5 := bX5.lt
              go_wp2_with fail
              refine (HWK.out _).mono ?_
              rintro e wz ⟨rfl, hbz⟩
              have hBz := hB5.trans (hbz.mono hB5.size)
              go_wp2_with fail
              go_returns
              exact ⟨rfl, hBz⟩
            · have r1 : decide (rd < 0) = false := decide_eq_false hr0
              by_cases hr9 : 10000 ≤ rd
              · have r2 : decide (10000 ≤ rd) = true := decide_eq_true hr9
                clear hP hQ hE hf h0 hv l1 l2 h40 f1 f2 ht hw hpt he hr0 hr9
                obtain ⟨ps, cl, lo, hi⟩ := t
                unfold trV at *
                dsimp only at *
                go_enter Tryz.func4, Tryz.ntmps4
                go_wp2_with fail
                have bT1 := (BoxS.new w 26 #[.slice A ps.length c, .int .i64 cl, .int .i64 lo, .int .i64 hi]).alloc (.cells #[.slice Ae es.length ce, .int .i64 rd] 40)
                have bX1 := BoxS.new (w.alloc (.cells #[.slice A ps.length c, .int .i64 cl, .int .i64 lo, .int .i64 hi] 26)) 40 #[.slice Ae es.length ce, .int .i64 rd]
                rw [World.size_alloc] at bX1
                have hB1 : Below w.heap.size w ((w.alloc (.cells #[.slice A ps.length c, .int .i64 cl, .int .i64 lo, .int .i64 hi] 26)).alloc (.cells #[.slice Ae es.length ce, .int .i64 rd] 40)) := by (repeat' (first | (with_reducible exact Below.refl _ _) | (with_reducible assumption) | (with_reducible refine Below.alloc ?_ ?_ _) | (with_reducible refine Below.drew ?_) | (with_reducible refine Below.setCell ?_ ?_ _) | go_size | (exact (by simp)) | omega))
                generalize World.alloc (World.alloc w _) _ = w1 at *
                have ct0 : w1.cell? ⟨w.heap.size, 0, none⟩ = some (.slice A ps.length c) := bT1.cell 0 rfl
                have ct1 : w1.cell? ⟨w.heap.size, 1, none⟩ = some (.int .i64 cl) := bT1.cell 1 rfl
                have ct2 : w1.cell? ⟨w.heap.size, 2, none⟩ = some (.int .i64 lo) := bT1.cell 2 rfl
                have ct3 : w1.cell? ⟨w.heap.size, 3, none⟩ = some (.int .i64 hi) := bT1.cell 3 rfl
                have lT1 := bT1.lt
                have cx0 : w1.cell? ⟨w.heap.size + 1, 0, none⟩ = some (.slice Ae es.length ce) := bX1.cell 0 rfl
                have cx1 : w1.cell? ⟨w.heap.size + 1, 1, none⟩ = some (.int .i64 rd) := bX1.cell 1 rfl
                have lX1 := bX1.lt
                try go_wp2_with fail
                refine (HFR.out _ hB1).mono ?_
                rintro e w2 ⟨rfl, hb2⟩
                have bT2 := bT1.below hb2
                have bX2 := bX1.below hb2
                have hB2 := hB1.trans (hb2.mono hB1.size)
                clear ct0 ct1 ct2 ct3 lT1 cx0 cx1 lX1 bT1 bX1 hB1 hb2
                have ct0 : w2.cell? ⟨w.heap.size, 0, none⟩ = some (.slice A ps.length c) := bT2.cell 0 rfl
                have ct1 : w2.cell? ⟨w.heap.size, 1, none⟩ = some (.int .i64 cl) := bT2.cell 1 rfl
                have ct2 : w2.cell? ⟨w.heap.size, 2, none⟩ = some (.int .i64 lo) := bT2.cell 2 rfl
                have ct3 : w2.cell? ⟨w.heap.size, 3, none⟩ = some (.int .i64 hi) := bT2.cell 3 rfl
                have lT2 := bT2.lt
                have cx0 : w2.cell? ⟨w.heap.size + 1, 0, none⟩ = some (.slice Ae es.length ce) := bX2.cell 0 rfl
                have cx1 : w2.cell? ⟨w.heap.size + 1, 1, none⟩ = some (.int .i64 rd) := bX2.cell 1 rfl
                have lX2 := bX2.lt
                go_wp2_with fail
                refine (HCK.out _ hB2).mono ?_
                rintro e w3 ⟨rfl, hb3⟩
                have bT3 := bT2.below hb3
                have bX3 := bX2.below hb3
                have hB3 := hB2.trans (hb3.mono hB2.size)
                clear ct0 ct1 ct2 ct3 lT2 cx0 cx1 lX2 bT2 bX2 hB2 hb3
                have ct0 : w3.cell? ⟨w.heap.size, 0, none⟩ = some (.slice A ps.length c) := bT3.cell 0 rfl
                have ct1 : w3.cell? ⟨w.heap.size, 1, none⟩ = some (.int .i64 cl) := bT3.cell 1 rfl
                have ct2 : w3.cell? ⟨w.heap.size, 2, none⟩ = some (.int .i64 lo) := bT3.cell 2 rfl
                have ct3 : w3.cell? ⟨w.heap.size, 3, none⟩ = some (.int .i64 hi) := bT3.cell 3 rfl
                have lT3 := bT3.lt
                have cx0 : w3.cell? ⟨w.heap.size + 1, 0, none⟩ = some (.slice Ae es.length ce) := bX3.cell 0 rfl
                have cx1 : w3.cell? ⟨w.heap.size + 1, 1, none⟩ = some (.int .i64 rd) := bX3.cell 1 rfl
                have lX3 := bX3.lt
                go_wp2_with fail
                refine (HRF.out _ hB3).mono ?_
                rintro e w4 ⟨rfl, hb4⟩
                have bT4 := bT3.below hb4
                have bX4 := bX3.below hb4
                have hB4 := hB3.trans (hb4.mono hB3.size)
                clear ct0 ct1 ct2 ct3 lT3 cx0 cx1 lX3 bT3 bX3 hB3 hb4
                have ct0 : w4.cell? ⟨w.heap.size, 0, none⟩ = some (.slice A ps.length c) := bT4.cell 0 rfl
                have ct1 : w4.cell? ⟨w.heap.size, 1, none⟩ = some (.int .i64 cl) := bT4.cell 1 rfl
                have ct2 : w4.cell? ⟨w.heap.size, 2, none⟩ = some (.int .i64 lo) := bT4.cell 2 rfl
                have ct3 : w4.cell? ⟨w.heap.size, 3, none⟩ = some (.int .i64 hi) := bT4.cell 3 rfl
                have lT4 := bT4.lt
                have cx0 : w4.cell? ⟨w.heap.size + 1, 0, none⟩ = some (.slice Ae es.length ce) := bX4.cell 0 rfl
                have cx1 : w4.cell? ⟨w.heap.size + 1, 1, none⟩ = some (.int .i64 rd) := bX4.cell 1 rfl
                have lX4 := bX4.lt
                go_wp2_with fail
                refine (HAE.out _ hB4).mono ?_
                rintro e w5 ⟨rfl, hb5⟩
                have bT5 := bT4.below hb5
                have bX5 := bX4.below hb5
                have hB5 := hB4.trans (hb5.mono hB4.size)
                clear ct0 ct1 ct2 ct3 lT4 cx0 cx1 lX4 bT4 bX4 hB4 hb5
                have ct0 : w5.cell? ⟨w.heap.size, 0, none⟩ = some (.slice A ps.length c) := bT5.cell 0 rfl
                have ct1 : w5.cell? ⟨w.heap.size, 1, none⟩ = some (.int .i64 cl) := bT5.cell 1 rfl
                have ct2 : w5.cell? ⟨w.heap.size, 2, none⟩ = some (.int .i64 lo) := bT5.cell 2 rfl
                have ct3 : w5.cell? ⟨w.heap.size, 3, none⟩ = some (.int .i64 hi) := bT5.cell 3 rfl
                have lT5 := bT5.lt
                have cx0 : w5.cell? ⟨w.heap.size + 1, 0, none⟩ = some (.slice Ae es.length ce) := bX5.cell 0 rfl
                have cx1 : w5.cell? ⟨w.heap.size + 1, 1, none⟩ = some (.int .i64 rd) := bX5.cell 1 rfl
                have lX5 := bX5.lt
                go_wp2_with fail
                refine (HWK.out _).mono ?_
                rintro e wz ⟨rfl, hbz⟩
                have hBz := hB5.trans (hbz.mono hB5.size)
                go_wp2_with fail
                go_returns
                exact ⟨rfl, hBz⟩
              · have r2 : decide (10000 ≤ rd) = false := decide_eq_false hr9
                have hl := (Wl.elbV_iff.1 he).1
                have hw0 : 0 < ws.length := by
                  have := hw
                  unfold Wl.ptsB inB at this
                  simp only [Bool.and_eq_true, decide_eq_true_eq] at this
                  omega
                have HTU : Hid (∀ W, Below w.heap.size w W → Calls Tryz.prog 13 #[.agg (trV t A c), .slice Aw ws.length cw, .slice Ae es.length ce] W (TwoPost (Wl.turnsV t es) 0 W)) := fun W hW => by
                  have := TurnsW_any t ws es A Aw Ae c cw ce (by omega) (by omega) (by omega) W (prs_keep hP hW) (prs_keep hQ hW) (((hE (by omega)).keep hW).more hW.size)
                  rw [Wl.movE_of h0 he] at this
                  exact this
                have HSW : Hid (∀ W, Below w.heap.size w W → Calls Tryz.prog 12 #[.agg (trV t A c), .slice Aw ws.length cw, .slice Ae es.length ce] W (TwoPost (Wl.sweepV t ws es) 0 W)) := fun W hW => by
                  have := SweepW_any t ws es A Aw Ae c cw ce (by omega) (by omega) (by omega) W (prs_keep hP hW) (prs_keep hQ hW) (((hE (by omega)).keep hW).more hW.size)
                  rw [Wl.movE_of h0 he] at this
                  exact this
                have HTW : Hid (∀ W, Below w.heap.size w W → Calls Tryz.prog 9 #[.slice Aw ws.length cw] W fun e w' => e = .returned (.tuple #[.int .i64 (Wl.dbl ws), .int .i64 0]) ∧ Below W.heap.size W w') := fun W hW => by
                  have := Twice_any Aw cw ws (by omega) W (prs_keep hQ hW)
                  have hvb : Geo.validB ws = true := by
                    cases hb : Geo.validB ws with
                    | true => rfl
                    | false => unfold Geo.errV at hv; rw [hb] at hv; exact absurd hv (by decide)
                  rw [Geo.whenV_yes hvb, tot_dblZ, hv] at this
                  exact this
                have HAP : Hid (∀ W, Below w.heap.size w W → Calls Tryz.prog 14 #[.slice A t.ps.length c] W (TwoPost (Wl.dbl t.ps) 0 W)) := fun W hW => by
                  have := AreaW_any A c t.ps (by omega) W (prs_keep hP hW)
                  rw [hpt] at this
                  exact this
                have HMT := Lib.hid (Wl.few_meter ht hw f1 f2 he)
                have HRD := Lib.hid (And.intro hr0 hr9)
                clear hP hQ hE hf h0 hv l1 l2 h40 f1 f2 ht hw hpt he hl hw0 hr0 hr9
                unfold TwoPost at HTU HSW HAP
                generalize Wl.turnsV t es = TU at *
                generalize Wl.sweepV t ws es = SW at *
                generalize Wl.dbl ws = DW at *
                generalize Wl.dbl t.ps = DP at *
                obtain ⟨ps, cl, lo, hi⟩ := t
                unfold trV at *
                dsimp only at *
                have b1 : decide (SW < -1000000) = false := decide_eq_false (by have := HMT.out.2; omega)
                have b2 : decide (1000000 < SW) = false := decide_eq_false (by have := HMT.out.2; omega)
                by_cases ht1 : TU = 1
                · have ht1b : (TU != 1) = false := by simpa using ht1
                  by_cases hc0 : DP < 0
                  · have c1 : decide (DP < 0) = true := decide_eq_true hc0
                    clear ht1 hc0
                    go_enter Tryz.func4, Tryz.ntmps4
                    go_wp2_with fail
                    have bT1 := (BoxS.new w 26 #[.slice A ps.length c, .int .i64 cl, .int .i64 lo, .int .i64 hi]).alloc (.cells #[.slice Ae es.length ce, .int .i64 rd] 40)
                    have bX1 := BoxS.new (w.alloc (.cells #[.slice A ps.length c, .int .i64 cl, .int .i64 lo, .int .i64 hi] 26)) 40 #[.slice Ae es.length ce, .int .i64 rd]
                    rw [World.size_alloc] at bX1
                    have hB1 : Below w.heap.size w ((w.alloc (.cells #[.slice A ps.length c, .int .i64 cl, .int .i64 lo, .int .i64 hi] 26)).alloc (.cells #[.slice Ae es.length ce, .int .i64 rd] 40)) := by (repeat' (first | (with_reducible exact Below.refl _ _) | (with_reducible assumption) | (with_reducible refine Below.alloc ?_ ?_ _) | (with_reducible refine Below.drew ?_) | (with_reducible refine Below.setCell ?_ ?_ _) | go_size | (exact (by simp)) | omega))
                    generalize World.alloc (World.alloc w _) _ = w1 at *
                    have ct0 : w1.cell? ⟨w.heap.size, 0, none⟩ = some (.slice A ps.length c) := bT1.cell 0 rfl
                    have ct1 : w1.cell? ⟨w.heap.size, 1, none⟩ = some (.int .i64 cl) := bT1.cell 1 rfl
                    have ct2 : w1.cell? ⟨w.heap.size, 2, none⟩ = some (.int .i64 lo) := bT1.cell 2 rfl
                    have ct3 : w1.cell? ⟨w.heap.size, 3, none⟩ = some (.int .i64 hi) := bT1.cell 3 rfl
                    have lT1 := bT1.lt
                    have cx0 : w1.cell? ⟨w.heap.size + 1, 0, none⟩ = some (.slice Ae es.length ce) := bX1.cell 0 rfl
                    have cx1 : w1.cell? ⟨w.heap.size + 1, 1, none⟩ = some (.int .i64 rd) := bX1.cell 1 rfl
                    have lX1 := bX1.lt
                    try go_wp2_with fail
                    refine (HFR.out _ hB1).mono ?_
                    rintro e w2 ⟨rfl, hb2⟩
                    have bT2 := bT1.below hb2
                    have bX2 := bX1.below hb2
                    have hB2 := hB1.trans (hb2.mono hB1.size)
                    clear ct0 ct1 ct2 ct3 lT1 cx0 cx1 lX1 bT1 bX1 hB1 hb2
                    have ct0 : w2.cell? ⟨w.heap.size, 0, none⟩ = some (.slice A ps.length c) := bT2.cell 0 rfl
                    have ct1 : w2.cell? ⟨w.heap.size, 1, none⟩ = some (.int .i64 cl) := bT2.cell 1 rfl
                    have ct2 : w2.cell? ⟨w.heap.size, 2, none⟩ = some (.int .i64 lo) := bT2.cell 2 rfl
                    have ct3 : w2.cell? ⟨w.heap.size, 3, none⟩ = some (.int .i64 hi) := bT2.cell 3 rfl
                    have lT2 := bT2.lt
                    have cx0 : w2.cell? ⟨w.heap.size + 1, 0, none⟩ = some (.slice Ae es.length ce) := bX2.cell 0 rfl
                    have cx1 : w2.cell? ⟨w.heap.size + 1, 1, none⟩ = some (.int .i64 rd) := bX2.cell 1 rfl
                    have lX2 := bX2.lt
                    go_wp2_with fail
                    refine (HCK.out _ hB2).mono ?_
                    rintro e w3 ⟨rfl, hb3⟩
                    have bT3 := bT2.below hb3
                    have bX3 := bX2.below hb3
                    have hB3 := hB2.trans (hb3.mono hB2.size)
                    clear ct0 ct1 ct2 ct3 lT2 cx0 cx1 lX2 bT2 bX2 hB2 hb3
                    have ct0 : w3.cell? ⟨w.heap.size, 0, none⟩ = some (.slice A ps.length c) := bT3.cell 0 rfl
                    have ct1 : w3.cell? ⟨w.heap.size, 1, none⟩ = some (.int .i64 cl) := bT3.cell 1 rfl
                    have ct2 : w3.cell? ⟨w.heap.size, 2, none⟩ = some (.int .i64 lo) := bT3.cell 2 rfl
                    have ct3 : w3.cell? ⟨w.heap.size, 3, none⟩ = some (.int .i64 hi) := bT3.cell 3 rfl
                    have lT3 := bT3.lt
                    have cx0 : w3.cell? ⟨w.heap.size + 1, 0, none⟩ = some (.slice Ae es.length ce) := bX3.cell 0 rfl
                    have cx1 : w3.cell? ⟨w.heap.size + 1, 1, none⟩ = some (.int .i64 rd) := bX3.cell 1 rfl
                    have lX3 := bX3.lt
                    go_wp2_with fail
                    refine (HRF.out _ hB3).mono ?_
                    rintro e w4 ⟨rfl, hb4⟩
                    have bT4 := bT3.below hb4
                    have bX4 := bX3.below hb4
                    have hB4 := hB3.trans (hb4.mono hB3.size)
                    clear ct0 ct1 ct2 ct3 lT3 cx0 cx1 lX3 bT3 bX3 hB3 hb4
                    have ct0 : w4.cell? ⟨w.heap.size, 0, none⟩ = some (.slice A ps.length c) := bT4.cell 0 rfl
                    have ct1 : w4.cell? ⟨w.heap.size, 1, none⟩ = some (.int .i64 cl) := bT4.cell 1 rfl
                    have ct2 : w4.cell? ⟨w.heap.size, 2, none⟩ = some (.int .i64 lo) := bT4.cell 2 rfl
                    have ct3 : w4.cell? ⟨w.heap.size, 3, none⟩ = some (.int .i64 hi) := bT4.cell 3 rfl
                    have lT4 := bT4.lt
                    have cx0 : w4.cell? ⟨w.heap.size + 1, 0, none⟩ = some (.slice Ae es.length ce) := bX4.cell 0 rfl
                    have cx1 : w4.cell? ⟨w.heap.size + 1, 1, none⟩ = some (.int .i64 rd) := bX4.cell 1 rfl
                    have lX4 := bX4.lt
                    go_wp2_with fail
                    refine (HAE.out _ hB4).mono ?_
                    rintro e w5 ⟨rfl, hb5⟩
                    have bT5 := bT4.below hb5
                    have bX5 := bX4.below hb5
                    have hB5 := hB4.trans (hb5.mono hB4.size)
                    clear ct0 ct1 ct2 ct3 lT4 cx0 cx1 lX4 bT4 bX4 hB4 hb5
                    have ct0 : w5.cell? ⟨w.heap.size, 0, none⟩ = some (.slice A ps.length c) := bT5.cell 0 rfl
                    have ct1 : w5.cell? ⟨w.heap.size, 1, none⟩ = some (.int .i64 cl) := bT5.cell 1 rfl
                    have ct2 : w5.cell? ⟨w.heap.size, 2, none⟩ = some (.int .i64 lo) := bT5.cell 2 rfl
                    have ct3 : w5.cell? ⟨w.heap.size, 3, none⟩ = some (.int .i64 hi) := bT5.cell 3 rfl
                    have lT5 := bT5.lt
                    have cx0 : w5.cell? ⟨w.heap.size + 1, 0, none⟩ = some (.slice Ae es.length ce) := bX5.cell 0 rfl
                    have cx1 : w5.cell? ⟨w.heap.size + 1, 1, none⟩ = some (.int .i64 rd) := bX5.cell 1 rfl
                    have lX5 := bX5.lt
                    go_wp2_with fail
                    refine (HTU.out _ hB5).mono ?_
                    rintro e w6 ⟨rfl, hb6⟩
                    have bT6 := bT5.below hb6
                    have bX6 := bX5.below hb6
                    have hB6 := hB5.trans (hb6.mono hB5.size)
                    clear ct0 ct1 ct2 ct3 lT5 cx0 cx1 lX5 bT5 bX5 hB5 hb6
                    have ct0 : w6.cell? ⟨w.heap.size, 0, none⟩ = some (.slice A ps.length c) := bT6.cell 0 rfl
                    have ct1 : w6.cell? ⟨w.heap.size, 1, none⟩ = some (.int .i64 cl) := bT6.cell 1 rfl
                    have ct2 : w6.cell? ⟨w.heap.size, 2, none⟩ = some (.int .i64 lo) := bT6.cell 2 rfl
                    have ct3 : w6.cell? ⟨w.heap.size, 3, none⟩ = some (.int .i64 hi) := bT6.cell 3 rfl
                    have lT6 := bT6.lt
                    have cx0 : w6.cell? ⟨w.heap.size + 1, 0, none⟩ = some (.slice Ae es.length ce) := bX6.cell 0 rfl
                    have cx1 : w6.cell? ⟨w.heap.size + 1, 1, none⟩ = some (.int .i64 rd) := bX6.cell 1 rfl
                    have lX6 := bX6.lt
                    go_wp2_with fail
                    refine (HSW.out _ hB6).mono ?_
                    rintro e w7 ⟨rfl, hb7⟩
                    have bT7 := bT6.below hb7
                    have bX7 := bX6.below hb7
                    have hB7 := hB6.trans (hb7.mono hB6.size)
                    clear ct0 ct1 ct2 ct3 lT6 cx0 cx1 lX6 bT6 bX6 hB6 hb7
                    have ct0 : w7.cell? ⟨w.heap.size, 0, none⟩ = some (.slice A ps.length c) := bT7.cell 0 rfl
                    have ct1 : w7.cell? ⟨w.heap.size, 1, none⟩ = some (.int .i64 cl) := bT7.cell 1 rfl
                    have ct2 : w7.cell? ⟨w.heap.size, 2, none⟩ = some (.int .i64 lo) := bT7.cell 2 rfl
                    have ct3 : w7.cell? ⟨w.heap.size, 3, none⟩ = some (.int .i64 hi) := bT7.cell 3 rfl
                    have lT7 := bT7.lt
                    have cx0 : w7.cell? ⟨w.heap.size + 1, 0, none⟩ = some (.slice Ae es.length ce) := bX7.cell 0 rfl
                    have cx1 : w7.cell? ⟨w.heap.size + 1, 1, none⟩ = some (.int .i64 rd) := bX7.cell 1 rfl
                    have lX7 := bX7.lt
                    go_wp2_with fail
                    refine (HTW.out _ hB7).mono ?_
                    rintro e w8 ⟨rfl, hb8⟩
                    have bT8 := bT7.below hb8
                    have bX8 := bX7.below hb8
                    have hB8 := hB7.trans (hb8.mono hB7.size)
                    clear ct0 ct1 ct2 ct3 lT7 cx0 cx1 lX7 bT7 bX7 hB7 hb8
                    have ct0 : w8.cell? ⟨w.heap.size, 0, none⟩ = some (.slice A ps.length c) := bT8.cell 0 rfl
                    have ct1 : w8.cell? ⟨w.heap.size, 1, none⟩ = some (.int .i64 cl) := bT8.cell 1 rfl
                    have ct2 : w8.cell? ⟨w.heap.size, 2, none⟩ = some (.int .i64 lo) := bT8.cell 2 rfl
                    have ct3 : w8.cell? ⟨w.heap.size, 3, none⟩ = some (.int .i64 hi) := bT8.cell 3 rfl
                    have lT8 := bT8.lt
                    have cx0 : w8.cell? ⟨w.heap.size + 1, 0, none⟩ = some (.slice Ae es.length ce) := bX8.cell 0 rfl
                    have cx1 : w8.cell? ⟨w.heap.size + 1, 1, none⟩ = some (.int .i64 rd) := bX8.cell 1 rfl
                    have lX8 := bX8.lt
                    go_wp2_with fail
                    refine (HAP.out _ hB8).mono ?_
                    rintro e w9 ⟨rfl, hb9⟩
                    have bT9 := bT8.below hb9
                    have bX9 := bX8.below hb9
                    have hB9 := hB8.trans (hb9.mono hB8.size)
                    clear ct0 ct1 ct2 ct3 lT8 cx0 cx1 lX8 bT8 bX8 hB8 hb9
                    have ct0 : w9.cell? ⟨w.heap.size, 0, none⟩ = some (.slice A ps.length c) := bT9.cell 0 rfl
                    have ct1 : w9.cell? ⟨w.heap.size, 1, none⟩ = some (.int .i64 cl) := bT9.cell 1 rfl
                    have ct2 : w9.cell? ⟨w.heap.size, 2, none⟩ = some (.int .i64 lo) := bT9.cell 2 rfl
                    have ct3 : w9.cell? ⟨w.heap.size, 3, none⟩ = some (.int .i64 hi) := bT9.cell 3 rfl
                    have lT9 := bT9.lt
                    have cx0 : w9.cell? ⟨w.heap.size + 1, 0, none⟩ = some (.slice Ae es.length ce) := bX9.cell 0 rfl
                    have cx1 : w9.cell? ⟨w.heap.size + 1, 1, none⟩ = some (.int .i64 rd) := bX9.cell 1 rfl
                    have lX9 := bX9.lt
                    go_wp2_with fail
                    refine (HWK.out _).mono ?_
                    rintro e wz ⟨rfl, hbz⟩
                    have hBz := hB9.trans (hbz.mono hB9.size)
                    go_wp2_with fail
                    go_returns
                    exact ⟨rfl, hBz⟩
                  · have c1 : decide (DP < 0) = false := decide_eq_false hc0
                    by_cases hc9 : 9999 < DP
                    · have c2 : decide (9999 < DP) = true := decide_eq_true hc9
                      clear ht1 hc0 hc9
                      go_enter Tryz.func4, Tryz.ntmps4
                      go_wp2_with fail
                      have bT1 := (BoxS.new w 26 #[.slice A ps.length c, .int .i64 cl, .int .i64 lo, .int .i64 hi]).alloc (.cells #[.slice Ae es.length ce, .int .i64 rd] 40)
                      have bX1 := BoxS.new (w.alloc (.cells #[.slice A ps.length c, .int .i64 cl, .int .i64 lo, .int .i64 hi] 26)) 40 #[.slice Ae es.length ce, .int .i64 rd]
                      rw [World.size_alloc] at bX1
                      have hB1 : Below w.heap.size w ((w.alloc (.cells #[.slice A ps.length c, .int .i64 cl, .int .i64 lo, .int .i64 hi] 26)).alloc (.cells #[.slice Ae es.length ce, .int .i64 rd] 40)) := by (repeat' (first | (with_reducible exact Below.refl _ _) | (with_reducible assumption) | (with_reducible refine Below.alloc ?_ ?_ _) | (with_reducible refine Below.drew ?_) | (with_reducible refine Below.setCell ?_ ?_ _) | go_size | (exact (by simp)) | omega))
                      generalize World.alloc (World.alloc w _) _ = w1 at *
                      have ct0 : w1.cell? ⟨w.heap.size, 0, none⟩ = some (.slice A ps.length c) := bT1.cell 0 rfl
                      have ct1 : w1.cell? ⟨w.heap.size, 1, none⟩ = some (.int .i64 cl) := bT1.cell 1 rfl
                      have ct2 : w1.cell? ⟨w.heap.size, 2, none⟩ = some (.int .i64 lo) := bT1.cell 2 rfl
                      have ct3 : w1.cell? ⟨w.heap.size, 3, none⟩ = some (.int .i64 hi) := bT1.cell 3 rfl
                      have lT1 := bT1.lt
                      have cx0 : w1.cell? ⟨w.heap.size + 1, 0, none⟩ = some (.slice Ae es.length ce) := bX1.cell 0 rfl
                      have cx1 : w1.cell? ⟨w.heap.size + 1, 1, none⟩ = some (.int .i64 rd) := bX1.cell 1 rfl
                      have lX1 := bX1.lt
                      try go_wp2_with fail
                      refine (HFR.out _ hB1).mono ?_
                      rintro e w2 ⟨rfl, hb2⟩
                      have bT2 := bT1.below hb2
                      have bX2 := bX1.below hb2
                      have hB2 := hB1.trans (hb2.mono hB1.size)
                      clear ct0 ct1 ct2 ct3 lT1 cx0 cx1 lX1 bT1 bX1 hB1 hb2
                      have ct0 : w2.cell? ⟨w.heap.size, 0, none⟩ = some (.slice A ps.length c) := bT2.cell 0 rfl
                      have ct1 : w2.cell? ⟨w.heap.size, 1, none⟩ = some (.int .i64 cl) := bT2.cell 1 rfl
                      have ct2 : w2.cell? ⟨w.heap.size, 2, none⟩ = some (.int .i64 lo) := bT2.cell 2 rfl
                      have ct3 : w2.cell? ⟨w.heap.size, 3, none⟩ = some (.int .i64 hi) := bT2.cell 3 rfl
                      have lT2 := bT2.lt
                      have cx0 : w2.cell? ⟨w.heap.size + 1, 0, none⟩ = some (.slice Ae es.length ce) := bX2.cell 0 rfl
                      have cx1 : w2.cell? ⟨w.heap.size + 1, 1, none⟩ = some (.int .i64 rd) := bX2.cell 1 rfl
                      have lX2 := bX2.lt
                      go_wp2_with fail
                      refine (HCK.out _ hB2).mono ?_
                      rintro e w3 ⟨rfl, hb3⟩
                      have bT3 := bT2.below hb3
                      have bX3 := bX2.below hb3
                      have hB3 := hB2.trans (hb3.mono hB2.size)
                      clear ct0 ct1 ct2 ct3 lT2 cx0 cx1 lX2 bT2 bX2 hB2 hb3
                      have ct0 : w3.cell? ⟨w.heap.size, 0, none⟩ = some (.slice A ps.length c) := bT3.cell 0 rfl
                      have ct1 : w3.cell? ⟨w.heap.size, 1, none⟩ = some (.int .i64 cl) := bT3.cell 1 rfl
                      have ct2 : w3.cell? ⟨w.heap.size, 2, none⟩ = some (.int .i64 lo) := bT3.cell 2 rfl
                      have ct3 : w3.cell? ⟨w.heap.size, 3, none⟩ = some (.int .i64 hi) := bT3.cell 3 rfl
                      have lT3 := bT3.lt
                      have cx0 : w3.cell? ⟨w.heap.size + 1, 0, none⟩ = some (.slice Ae es.length ce) := bX3.cell 0 rfl
                      have cx1 : w3.cell? ⟨w.heap.size + 1, 1, none⟩ = some (.int .i64 rd) := bX3.cell 1 rfl
                      have lX3 := bX3.lt
                      go_wp2_with fail
                      refine (HRF.out _ hB3).mono ?_
                      rintro e w4 ⟨rfl, hb4⟩
                      have bT4 := bT3.below hb4
                      have bX4 := bX3.below hb4
                      have hB4 := hB3.trans (hb4.mono hB3.size)
                      clear ct0 ct1 ct2 ct3 lT3 cx0 cx1 lX3 bT3 bX3 hB3 hb4
                      have ct0 : w4.cell? ⟨w.heap.size, 0, none⟩ = some (.slice A ps.length c) := bT4.cell 0 rfl
                      have ct1 : w4.cell? ⟨w.heap.size, 1, none⟩ = some (.int .i64 cl) := bT4.cell 1 rfl
                      have ct2 : w4.cell? ⟨w.heap.size, 2, none⟩ = some (.int .i64 lo) := bT4.cell 2 rfl
                      have ct3 : w4.cell? ⟨w.heap.size, 3, none⟩ = some (.int .i64 hi) := bT4.cell 3 rfl
                      have lT4 := bT4.lt
                      have cx0 : w4.cell? ⟨w.heap.size + 1, 0, none⟩ = some (.slice Ae es.length ce) := bX4.cell 0 rfl
                      have cx1 : w4.cell? ⟨w.heap.size + 1, 1, none⟩ = some (.int .i64 rd) := bX4.cell 1 rfl
                      have lX4 := bX4.lt
                      go_wp2_with fail
                      refine (HAE.out _ hB4).mono ?_
                      rintro e w5 ⟨rfl, hb5⟩
                      have bT5 := bT4.below hb5
                      have bX5 := bX4.below hb5
                      have hB5 := hB4.trans (hb5.mono hB4.size)
                      clear ct0 ct1 ct2 ct3 lT4 cx0 cx1 lX4 bT4 bX4 hB4 hb5
                      have ct0 : w5.cell? ⟨w.heap.size, 0, none⟩ = some (.slice A ps.length c) := bT5.cell 0 rfl
                      have ct1 : w5.cell? ⟨w.heap.size, 1, none⟩ = some (.int .i64 cl) := bT5.cell 1 rfl
                      have ct2 : w5.cell? ⟨w.heap.size, 2, none⟩ = some (.int .i64 lo) := bT5.cell 2 rfl
                      have ct3 : w5.cell? ⟨w.heap.size, 3, none⟩ = some (.int .i64 hi) := bT5.cell 3 rfl
                      have lT5 := bT5.lt
                      have cx0 : w5.cell? ⟨w.heap.size + 1, 0, none⟩ = some (.slice Ae es.length ce) := bX5.cell 0 rfl
                      have cx1 : w5.cell? ⟨w.heap.size + 1, 1, none⟩ = some (.int .i64 rd) := bX5.cell 1 rfl
                      have lX5 := bX5.lt
                      go_wp2_with fail
                      refine (HTU.out _ hB5).mono ?_
                      rintro e w6 ⟨rfl, hb6⟩
                      have bT6 := bT5.below hb6
                      have bX6 := bX5.below hb6
                      have hB6 := hB5.trans (hb6.mono hB5.size)
                      clear ct0 ct1 ct2 ct3 lT5 cx0 cx1 lX5 bT5 bX5 hB5 hb6
                      have ct0 : w6.cell? ⟨w.heap.size, 0, none⟩ = some (.slice A ps.length c) := bT6.cell 0 rfl
                      have ct1 : w6.cell? ⟨w.heap.size, 1, none⟩ = some (.int .i64 cl) := bT6.cell 1 rfl
                      have ct2 : w6.cell? ⟨w.heap.size, 2, none⟩ = some (.int .i64 lo) := bT6.cell 2 rfl
                      have ct3 : w6.cell? ⟨w.heap.size, 3, none⟩ = some (.int .i64 hi) := bT6.cell 3 rfl
                      have lT6 := bT6.lt
                      have cx0 : w6.cell? ⟨w.heap.size + 1, 0, none⟩ = some (.slice Ae es.length ce) := bX6.cell 0 rfl
                      have cx1 : w6.cell? ⟨w.heap.size + 1, 1, none⟩ = some (.int .i64 rd) := bX6.cell 1 rfl
                      have lX6 := bX6.lt
                      go_wp2_with fail
                      refine (HSW.out _ hB6).mono ?_
                      rintro e w7 ⟨rfl, hb7⟩
                      have bT7 := bT6.below hb7
                      have bX7 := bX6.below hb7
                      have hB7 := hB6.trans (hb7.mono hB6.size)
                      clear ct0 ct1 ct2 ct3 lT6 cx0 cx1 lX6 bT6 bX6 hB6 hb7
                      have ct0 : w7.cell? ⟨w.heap.size, 0, none⟩ = some (.slice A ps.length c) := bT7.cell 0 rfl
                      have ct1 : w7.cell? ⟨w.heap.size, 1, none⟩ = some (.int .i64 cl) := bT7.cell 1 rfl
                      have ct2 : w7.cell? ⟨w.heap.size, 2, none⟩ = some (.int .i64 lo) := bT7.cell 2 rfl
                      have ct3 : w7.cell? ⟨w.heap.size, 3, none⟩ = some (.int .i64 hi) := bT7.cell 3 rfl
                      have lT7 := bT7.lt
                      have cx0 : w7.cell? ⟨w.heap.size + 1, 0, none⟩ = some (.slice Ae es.length ce) := bX7.cell 0 rfl
                      have cx1 : w7.cell? ⟨w.heap.size + 1, 1, none⟩ = some (.int .i64 rd) := bX7.cell 1 rfl
                      have lX7 := bX7.lt
                      go_wp2_with fail
                      refine (HTW.out _ hB7).mono ?_
                      rintro e w8 ⟨rfl, hb8⟩
                      have bT8 := bT7.below hb8
                      have bX8 := bX7.below hb8
                      have hB8 := hB7.trans (hb8.mono hB7.size)
                      clear ct0 ct1 ct2 ct3 lT7 cx0 cx1 lX7 bT7 bX7 hB7 hb8
                      have ct0 : w8.cell? ⟨w.heap.size, 0, none⟩ = some (.slice A ps.length c) := bT8.cell 0 rfl
                      have ct1 : w8.cell? ⟨w.heap.size, 1, none⟩ = some (.int .i64 cl) := bT8.cell 1 rfl
                      have ct2 : w8.cell? ⟨w.heap.size, 2, none⟩ = some (.int .i64 lo) := bT8.cell 2 rfl
                      have ct3 : w8.cell? ⟨w.heap.size, 3, none⟩ = some (.int .i64 hi) := bT8.cell 3 rfl
                      have lT8 := bT8.lt
                      have cx0 : w8.cell? ⟨w.heap.size + 1, 0, none⟩ = some (.slice Ae es.length ce) := bX8.cell 0 rfl
                      have cx1 : w8.cell? ⟨w.heap.size + 1, 1, none⟩ = some (.int .i64 rd) := bX8.cell 1 rfl
                      have lX8 := bX8.lt
                      go_wp2_with fail
                      refine (HAP.out _ hB8).mono ?_
                      rintro e w9 ⟨rfl, hb9⟩
                      have bT9 := bT8.below hb9
                      have bX9 := bX8.below hb9
                      have hB9 := hB8.trans (hb9.mono hB8.size)
                      clear ct0 ct1 ct2 ct3 lT8 cx0 cx1 lX8 bT8 bX8 hB8 hb9
                      have ct0 : w9.cell? ⟨w.heap.size, 0, none⟩ = some (.slice A ps.length c) := bT9.cell 0 rfl
                      have ct1 : w9.cell? ⟨w.heap.size, 1, none⟩ = some (.int .i64 cl) := bT9.cell 1 rfl
                      have ct2 : w9.cell? ⟨w.heap.size, 2, none⟩ = some (.int .i64 lo) := bT9.cell 2 rfl
                      have ct3 : w9.cell? ⟨w.heap.size, 3, none⟩ = some (.int .i64 hi) := bT9.cell 3 rfl
                      have lT9 := bT9.lt
                      have cx0 : w9.cell? ⟨w.heap.size + 1, 0, none⟩ = some (.slice Ae es.length ce) := bX9.cell 0 rfl
                      have cx1 : w9.cell? ⟨w.heap.size + 1, 1, none⟩ = some (.int .i64 rd) := bX9.cell 1 rfl
                      have lX9 := bX9.lt
                      go_wp2_with fail
                      refine (HWK.out _).mono ?_
                      rintro e wz ⟨rfl, hbz⟩
                      have hBz := hB9.trans (hbz.mono hB9.size)
                      go_wp2_with fail
                      go_returns
                      exact ⟨rfl, hBz⟩
                    · have c2 : decide (9999 < DP) = false := decide_eq_false hc9
                      by_cases ha0 : DW < 0
                      · have a1 : decide (DW < 0) = true := decide_eq_true ha0
                        clear ht1 hc0 hc9 ha0
                        go_enter Tryz.func4, Tryz.ntmps4
                        go_wp2_with fail
                        have bT1 := (BoxS.new w 26 #[.slice A ps.length c, .int .i64 cl, .int .i64 lo, .int .i64 hi]).alloc (.cells #[.slice Ae es.length ce, .int .i64 rd] 40)
                        have bX1 := BoxS.new (w.alloc (.cells #[.slice A ps.length c, .int .i64 cl, .int .i64 lo, .int .i64 hi] 26)) 40 #[.slice Ae es.length ce, .int .i64 rd]
                        rw [World.size_alloc] at bX1
                        have hB1 : Below w.heap.size w ((w.alloc (.cells #[.slice A ps.length c, .int .i64 cl, .int .i64 lo, .int .i64 hi] 26)).alloc (.cells #[.slice Ae es.length ce, .int .i64 rd] 40)) := by (repeat' (first | (with_reducible exact Below.refl _ _) | (with_reducible assumption) | (with_reducible refine Below.alloc ?_ ?_ _) | (with_reducible refine Below.drew ?_) | (with_reducible refine Below.setCell ?_ ?_ _) | go_size | (exact (by simp)) | omega))
                        generalize World.alloc (World.alloc w _) _ = w1 at *
                        have ct0 : w1.cell? ⟨w.heap.size, 0, none⟩ = some (.slice A ps.length c) := bT1.cell 0 rfl
                        have ct1 : w1.cell? ⟨w.heap.size, 1, none⟩ = some (.int .i64 cl) := bT1.cell 1 rfl
                        have ct2 : w1.cell? ⟨w.heap.size, 2, none⟩ = some (.int .i64 lo) := bT1.cell 2 rfl
                        have ct3 : w1.cell? ⟨w.heap.size, 3, none⟩ = some (.int .i64 hi) := bT1.cell 3 rfl
                        have lT1 := bT1.lt
                        have cx0 : w1.cell? ⟨w.heap.size + 1, 0, none⟩ = some (.slice Ae es.length ce) := bX1.cell 0 rfl
                        have cx1 : w1.cell? ⟨w.heap.size + 1, 1, none⟩ = some (.int .i64 rd) := bX1.cell 1 rfl
                        have lX1 := bX1.lt
                        try go_wp2_with fail
                        refine (HFR.out _ hB1).mono ?_
                        rintro e w2 ⟨rfl, hb2⟩
                        have bT2 := bT1.below hb2
                        have bX2 := bX1.below hb2
                        have hB2 := hB1.trans (hb2.mono hB1.size)
                        clear ct0 ct1 ct2 ct3 lT1 cx0 cx1 lX1 bT1 bX1 hB1 hb2
                        have ct0 : w2.cell? ⟨w.heap.size, 0, none⟩ = some (.slice A ps.length c) := bT2.cell 0 rfl
                        have ct1 : w2.cell? ⟨w.heap.size, 1, none⟩ = some (.int .i64 cl) := bT2.cell 1 rfl
                        have ct2 : w2.cell? ⟨w.heap.size, 2, none⟩ = some (.int .i64 lo) := bT2.cell 2 rfl
                        have ct3 : w2.cell? ⟨w.heap.size, 3, none⟩ = some (.int .i64 hi) := bT2.cell 3 rfl
                        have lT2 := bT2.lt
                        have cx0 : w2.cell? ⟨w.heap.size + 1, 0, none⟩ = some (.slice Ae es.length ce) := bX2.cell 0 rfl
                        have cx1 : w2.cell? ⟨w.heap.size + 1, 1, none⟩ = some (.int .i64 rd) := bX2.cell 1 rfl
                        have lX2 := bX2.lt
                        go_wp2_with fail
                        refine (HCK.out _ hB2).mono ?_
                        rintro e w3 ⟨rfl, hb3⟩
                        have bT3 := bT2.below hb3
                        have bX3 := bX2.below hb3
                        have hB3 := hB2.trans (hb3.mono hB2.size)
                        clear ct0 ct1 ct2 ct3 lT2 cx0 cx1 lX2 bT2 bX2 hB2 hb3
                        have ct0 : w3.cell? ⟨w.heap.size, 0, none⟩ = some (.slice A ps.length c) := bT3.cell 0 rfl
                        have ct1 : w3.cell? ⟨w.heap.size, 1, none⟩ = some (.int .i64 cl) := bT3.cell 1 rfl
                        have ct2 : w3.cell? ⟨w.heap.size, 2, none⟩ = some (.int .i64 lo) := bT3.cell 2 rfl
                        have ct3 : w3.cell? ⟨w.heap.size, 3, none⟩ = some (.int .i64 hi) := bT3.cell 3 rfl
                        have lT3 := bT3.lt
                        have cx0 : w3.cell? ⟨w.heap.size + 1, 0, none⟩ = some (.slice Ae es.length ce) := bX3.cell 0 rfl
                        have cx1 : w3.cell? ⟨w.heap.size + 1, 1, none⟩ = some (.int .i64 rd) := bX3.cell 1 rfl
                        have lX3 := bX3.lt
                        go_wp2_with fail
                        refine (HRF.out _ hB3).mono ?_
                        rintro e w4 ⟨rfl, hb4⟩
                        have bT4 := bT3.below hb4
                        have bX4 := bX3.below hb4
                        have hB4 := hB3.trans (hb4.mono hB3.size)
                        clear ct0 ct1 ct2 ct3 lT3 cx0 cx1 lX3 bT3 bX3 hB3 hb4
                        have ct0 : w4.cell? ⟨w.heap.size, 0, none⟩ = some (.slice A ps.length c) := bT4.cell 0 rfl
                        have ct1 : w4.cell? ⟨w.heap.size, 1, none⟩ = some (.int .i64 cl) := bT4.cell 1 rfl
                        have ct2 : w4.cell? ⟨w.heap.size, 2, none⟩ = some (.int .i64 lo) := bT4.cell 2 rfl
                        have ct3 : w4.cell? ⟨w.heap.size, 3, none⟩ = some (.int .i64 hi) := bT4.cell 3 rfl
                        have lT4 := bT4.lt
                        have cx0 : w4.cell? ⟨w.heap.size + 1, 0, none⟩ = some (.slice Ae es.length ce) := bX4.cell 0 rfl
                        have cx1 : w4.cell? ⟨w.heap.size + 1, 1, none⟩ = some (.int .i64 rd) := bX4.cell 1 rfl
                        have lX4 := bX4.lt
                        go_wp2_with fail
                        refine (HAE.out _ hB4).mono ?_
                        rintro e w5 ⟨rfl, hb5⟩
                        have bT5 := bT4.below hb5
                        have bX5 := bX4.below hb5
                        have hB5 := hB4.trans (hb5.mono hB4.size)
                        clear ct0 ct1 ct2 ct3 lT4 cx0 cx1 lX4 bT4 bX4 hB4 hb5
                        have ct0 : w5.cell? ⟨w.heap.size, 0, none⟩ = some (.slice A ps.length c) := bT5.cell 0 rfl
                        have ct1 : w5.cell? ⟨w.heap.size, 1, none⟩ = some (.int .i64 cl) := bT5.cell 1 rfl
                        have ct2 : w5.cell? ⟨w.heap.size, 2, none⟩ = some (.int .i64 lo) := bT5.cell 2 rfl
                        have ct3 : w5.cell? ⟨w.heap.size, 3, none⟩ = some (.int .i64 hi) := bT5.cell 3 rfl
                        have lT5 := bT5.lt
                        have cx0 : w5.cell? ⟨w.heap.size + 1, 0, none⟩ = some (.slice Ae es.length ce) := bX5.cell 0 rfl
                        have cx1 : w5.cell? ⟨w.heap.size + 1, 1, none⟩ = some (.int .i64 rd) := bX5.cell 1 rfl
                        have lX5 := bX5.lt
                        go_wp2_with fail
                        refine (HTU.out _ hB5).mono ?_
                        rintro e w6 ⟨rfl, hb6⟩
                        have bT6 := bT5.below hb6
                        have bX6 := bX5.below hb6
                        have hB6 := hB5.trans (hb6.mono hB5.size)
                        clear ct0 ct1 ct2 ct3 lT5 cx0 cx1 lX5 bT5 bX5 hB5 hb6
                        have ct0 : w6.cell? ⟨w.heap.size, 0, none⟩ = some (.slice A ps.length c) := bT6.cell 0 rfl
                        have ct1 : w6.cell? ⟨w.heap.size, 1, none⟩ = some (.int .i64 cl) := bT6.cell 1 rfl
                        have ct2 : w6.cell? ⟨w.heap.size, 2, none⟩ = some (.int .i64 lo) := bT6.cell 2 rfl
                        have ct3 : w6.cell? ⟨w.heap.size, 3, none⟩ = some (.int .i64 hi) := bT6.cell 3 rfl
                        have lT6 := bT6.lt
                        have cx0 : w6.cell? ⟨w.heap.size + 1, 0, none⟩ = some (.slice Ae es.length ce) := bX6.cell 0 rfl
                        have cx1 : w6.cell? ⟨w.heap.size + 1, 1, none⟩ = some (.int .i64 rd) := bX6.cell 1 rfl
                        have lX6 := bX6.lt
                        go_wp2_with fail
                        refine (HSW.out _ hB6).mono ?_
                        rintro e w7 ⟨rfl, hb7⟩
                        have bT7 := bT6.below hb7
                        have bX7 := bX6.below hb7
                        have hB7 := hB6.trans (hb7.mono hB6.size)
                        clear ct0 ct1 ct2 ct3 lT6 cx0 cx1 lX6 bT6 bX6 hB6 hb7
                        have ct0 : w7.cell? ⟨w.heap.size, 0, none⟩ = some (.slice A ps.length c) := bT7.cell 0 rfl
                        have ct1 : w7.cell? ⟨w.heap.size, 1, none⟩ = some (.int .i64 cl) := bT7.cell 1 rfl
                        have ct2 : w7.cell? ⟨w.heap.size, 2, none⟩ = some (.int .i64 lo) := bT7.cell 2 rfl
                        have ct3 : w7.cell? ⟨w.heap.size, 3, none⟩ = some (.int .i64 hi) := bT7.cell 3 rfl
                        have lT7 := bT7.lt
                        have cx0 : w7.cell? ⟨w.heap.size + 1, 0, none⟩ = some (.slice Ae es.length ce) := bX7.cell 0 rfl
                        have cx1 : w7.cell? ⟨w.heap.size + 1, 1, none⟩ = some (.int .i64 rd) := bX7.cell 1 rfl
                        have lX7 := bX7.lt
                        go_wp2_with fail
                        refine (HTW.out _ hB7).mono ?_
                        rintro e w8 ⟨rfl, hb8⟩
                        have bT8 := bT7.below hb8
                        have bX8 := bX7.below hb8
                        have hB8 := hB7.trans (hb8.mono hB7.size)
                        clear ct0 ct1 ct2 ct3 lT7 cx0 cx1 lX7 bT7 bX7 hB7 hb8
                        have ct0 : w8.cell? ⟨w.heap.size, 0, none⟩ = some (.slice A ps.length c) := bT8.cell 0 rfl
                        have ct1 : w8.cell? ⟨w.heap.size, 1, none⟩ = some (.int .i64 cl) := bT8.cell 1 rfl
                        have ct2 : w8.cell? ⟨w.heap.size, 2, none⟩ = some (.int .i64 lo) := bT8.cell 2 rfl
                        have ct3 : w8.cell? ⟨w.heap.size, 3, none⟩ = some (.int .i64 hi) := bT8.cell 3 rfl
                        have lT8 := bT8.lt
                        have cx0 : w8.cell? ⟨w.heap.size + 1, 0, none⟩ = some (.slice Ae es.length ce) := bX8.cell 0 rfl
                        have cx1 : w8.cell? ⟨w.heap.size + 1, 1, none⟩ = some (.int .i64 rd) := bX8.cell 1 rfl
                        have lX8 := bX8.lt
                        go_wp2_with fail
                        refine (HAP.out _ hB8).mono ?_
                        rintro e w9 ⟨rfl, hb9⟩
                        have bT9 := bT8.below hb9
                        have bX9 := bX8.below hb9
                        have hB9 := hB8.trans (hb9.mono hB8.size)
                        clear ct0 ct1 ct2 ct3 lT8 cx0 cx1 lX8 bT8 bX8 hB8 hb9
                        have ct0 : w9.cell? ⟨w.heap.size, 0, none⟩ = some (.slice A ps.length c) := bT9.cell 0 rfl
                        have ct1 : w9.cell? ⟨w.heap.size, 1, none⟩ = some (.int .i64 cl) := bT9.cell 1 rfl
                        have ct2 : w9.cell? ⟨w.heap.size, 2, none⟩ = some (.int .i64 lo) := bT9.cell 2 rfl
                        have ct3 : w9.cell? ⟨w.heap.size, 3, none⟩ = some (.int .i64 hi) := bT9.cell 3 rfl
                        have lT9 := bT9.lt
                        have cx0 : w9.cell? ⟨w.heap.size + 1, 0, none⟩ = some (.slice Ae es.length ce) := bX9.cell 0 rfl
                        have cx1 : w9.cell? ⟨w.heap.size + 1, 1, none⟩ = some (.int .i64 rd) := bX9.cell 1 rfl
                        have lX9 := bX9.lt
                        go_wp2_with fail
                        refine (HWK.out _).mono ?_
                        rintro e wz ⟨rfl, hbz⟩
                        have hBz := hB9.trans (hbz.mono hB9.size)
                        go_wp2_with fail
                        go_returns
                        exact ⟨rfl, hBz⟩
                      · have a1 : decide (DW < 0) = false := decide_eq_false ha0
                        by_cases ha9 : 9999 < DW
                        · have a2 : decide (9999 < DW) = true := decide_eq_true ha9
                          clear ht1 hc0 hc9 ha0 ha9
                          go_enter Tryz.func4, Tryz.ntmps4
                          go_wp2_with fail
                          have bT1 := (BoxS.new w 26 #[.slice A ps.length c, .int .i64 cl, .int .i64 lo, .int .i64 hi]).alloc (.cells #[.slice Ae es.length ce, .int .i64 rd] 40)
                          have bX1 := BoxS.new (w.alloc (.cells #[.slice A ps.length c, .int .i64 cl, .int .i64 lo, .int .i64 hi] 26)) 40 #[.slice Ae es.length ce, .int .i64 rd]
                          rw [World.size_alloc] at bX1
                          have hB1 : Below w.heap.size w ((w.alloc (.cells #[.slice A ps.length c, .int .i64 cl, .int .i64 lo, .int .i64 hi] 26)).alloc (.cells #[.slice Ae es.length ce, .int .i64 rd] 40)) := by (repeat' (first | (with_reducible exact Below.refl _ _) | (with_reducible assumption) | (with_reducible refine Below.alloc ?_ ?_ _) | (with_reducible refine Below.drew ?_) | (with_reducible refine Below.setCell ?_ ?_ _) | go_size | (exact (by simp)) | omega))
                          generalize World.alloc (World.alloc w _) _ = w1 at *
                          have ct0 : w1.cell? ⟨w.heap.size, 0, none⟩ = some (.slice A ps.length c) := bT1.cell 0 rfl
                          have ct1 : w1.cell? ⟨w.heap.size, 1, none⟩ = some (.int .i64 cl) := bT1.cell 1 rfl
                          have ct2 : w1.cell? ⟨w.heap.size, 2, none⟩ = some (.int .i64 lo) := bT1.cell 2 rfl
                          have ct3 : w1.cell? ⟨w.heap.size, 3, none⟩ = some (.int .i64 hi) := bT1.cell 3 rfl
                          have lT1 := bT1.lt
                          have cx0 : w1.cell? ⟨w.heap.size + 1, 0, none⟩ = some (.slice Ae es.length ce) := bX1.cell 0 rfl
                          have cx1 : w1.cell? ⟨w.heap.size + 1, 1, none⟩ = some (.int .i64 rd) := bX1.cell 1 rfl
                          have lX1 := bX1.lt
                          try go_wp2_with fail
                          refine (HFR.out _ hB1).mono ?_
                          rintro e w2 ⟨rfl, hb2⟩
                          have bT2 := bT1.below hb2
                          have bX2 := bX1.below hb2
                          have hB2 := hB1.trans (hb2.mono hB1.size)
                          clear ct0 ct1 ct2 ct3 lT1 cx0 cx1 lX1 bT1 bX1 hB1 hb2
                          have ct0 : w2.cell? ⟨w.heap.size, 0, none⟩ = some (.slice A ps.length c) := bT2.cell 0 rfl
                          have ct1 : w2.cell? ⟨w.heap.size, 1, none⟩ = some (.int .i64 cl) := bT2.cell 1 rfl
                          have ct2 : w2.cell? ⟨w.heap.size, 2, none⟩ = some (.int .i64 lo) := bT2.cell 2 rfl
                          have ct3 : w2.cell? ⟨w.heap.size, 3, none⟩ = some (.int .i64 hi) := bT2.cell 3 rfl
                          have lT2 := bT2.lt
                          have cx0 : w2.cell? ⟨w.heap.size + 1, 0, none⟩ = some (.slice Ae es.length ce) := bX2.cell 0 rfl
                          have cx1 : w2.cell? ⟨w.heap.size + 1, 1, none⟩ = some (.int .i64 rd) := bX2.cell 1 rfl
                          have lX2 := bX2.lt
                          go_wp2_with fail
                          refine (HCK.out _ hB2).mono ?_
                          rintro e w3 ⟨rfl, hb3⟩
                          have bT3 := bT2.below hb3
                          have bX3 := bX2.below hb3
                          have hB3 := hB2.trans (hb3.mono hB2.size)
                          clear ct0 ct1 ct2 ct3 lT2 cx0 cx1 lX2 bT2 bX2 hB2 hb3
                          have ct0 : w3.cell? ⟨w.heap.size, 0, none⟩ = some (.slice A ps.length c) := bT3.cell 0 rfl
                          have ct1 : w3.cell? ⟨w.heap.size, 1, none⟩ = some (.int .i64 cl) := bT3.cell 1 rfl
                          have ct2 : w3.cell? ⟨w.heap.size, 2, none⟩ = some (.int .i64 lo) := bT3.cell 2 rfl
                          have ct3 : w3.cell? ⟨w.heap.size, 3, none⟩ = some (.int .i64 hi) := bT3.cell 3 rfl
                          have lT3 := bT3.lt
                          have cx0 : w3.cell? ⟨w.heap.size + 1, 0, none⟩ = some (.slice Ae es.length ce) := bX3.cell 0 rfl
                          have cx1 : w3.cell? ⟨w.heap.size + 1, 1, none⟩ = some (.int .i64 rd) := bX3.cell 1 rfl
                          have lX3 := bX3.lt
                          go_wp2_with fail
                          refine (HRF.out _ hB3).mono ?_
                          rintro e w4 ⟨rfl, hb4⟩
                          have bT4 := bT3.below hb4
                          have bX4 := bX3.below hb4
                          have hB4 := hB3.trans (hb4.mono hB3.size)
                          clear ct0 ct1 ct2 ct3 lT3 cx0 cx1 lX3 bT3 bX3 hB3 hb4
                          have ct0 : w4.cell? ⟨w.heap.size, 0, none⟩ = some (.slice A ps.length c) := bT4.cell 0 rfl
                          have ct1 : w4.cell? ⟨w.heap.size, 1, none⟩ = some (.int .i64 cl) := bT4.cell 1 rfl
                          have ct2 : w4.cell? ⟨w.heap.size, 2, none⟩ = some (.int .i64 lo) := bT4.cell 2 rfl
                          have ct3 : w4.cell? ⟨w.heap.size, 3, none⟩ = some (.int .i64 hi) := bT4.cell 3 rfl
                          have lT4 := bT4.lt
                          have cx0 : w4.cell? ⟨w.heap.size + 1, 0, none⟩ = some (.slice Ae es.length ce) := bX4.cell 0 rfl
                          have cx1 : w4.cell? ⟨w.heap.size + 1, 1, none⟩ = some (.int .i64 rd) := bX4.cell 1 rfl
                          have lX4 := bX4.lt
                          go_wp2_with fail
                          refine (HAE.out _ hB4).mono ?_
                          rintro e w5 ⟨rfl, hb5⟩
                          have bT5 := bT4.below hb5
                          have bX5 := bX4.below hb5
                          have hB5 := hB4.trans (hb5.mono hB4.size)
                          clear ct0 ct1 ct2 ct3 lT4 cx0 cx1 lX4 bT4 bX4 hB4 hb5
                          have ct0 : w5.cell? ⟨w.heap.size, 0, none⟩ = some (.slice A ps.length c) := bT5.cell 0 rfl
                          have ct1 : w5.cell? ⟨w.heap.size, 1, none⟩ = some (.int .i64 cl) := bT5.cell 1 rfl
                          have ct2 : w5.cell? ⟨w.heap.size, 2, none⟩ = some (.int .i64 lo) := bT5.cell 2 rfl
                          have ct3 : w5.cell? ⟨w.heap.size, 3, none⟩ = some (.int .i64 hi) := bT5.cell 3 rfl
                          have lT5 := bT5.lt
                          have cx0 : w5.cell? ⟨w.heap.size + 1, 0, none⟩ = some (.slice Ae es.length ce) := bX5.cell 0 rfl
                          have cx1 : w5.cell? ⟨w.heap.size + 1, 1, none⟩ = some (.int .i64 rd) := bX5.cell 1 rfl
                          have lX5 := bX5.lt
                          go_wp2_with fail
                          refine (HTU.out _ hB5).mono ?_
                          rintro e w6 ⟨rfl, hb6⟩
                          have bT6 := bT5.below hb6
                          have bX6 := bX5.below hb6
                          have hB6 := hB5.trans (hb6.mono hB5.size)
                          clear ct0 ct1 ct2 ct3 lT5 cx0 cx1 lX5 bT5 bX5 hB5 hb6
                          have ct0 : w6.cell? ⟨w.heap.size, 0, none⟩ = some (.slice A ps.length c) := bT6.cell 0 rfl
                          have ct1 : w6.cell? ⟨w.heap.size, 1, none⟩ = some (.int .i64 cl) := bT6.cell 1 rfl
                          have ct2 : w6.cell? ⟨w.heap.size, 2, none⟩ = some (.int .i64 lo) := bT6.cell 2 rfl
                          have ct3 : w6.cell? ⟨w.heap.size, 3, none⟩ = some (.int .i64 hi) := bT6.cell 3 rfl
                          have lT6 := bT6.lt
                          have cx0 : w6.cell? ⟨w.heap.size + 1, 0, none⟩ = some (.slice Ae es.length ce) := bX6.cell 0 rfl
                          have cx1 : w6.cell? ⟨w.heap.size + 1, 1, none⟩ = some (.int .i64 rd) := bX6.cell 1 rfl
                          have lX6 := bX6.lt
                          go_wp2_with fail
                          refine (HSW.out _ hB6).mono ?_
                          rintro e w7 ⟨rfl, hb7⟩
                          have bT7 := bT6.below hb7
                          have bX7 := bX6.below hb7
                          have hB7 := hB6.trans (hb7.mono hB6.size)
                          clear ct0 ct1 ct2 ct3 lT6 cx0 cx1 lX6 bT6 bX6 hB6 hb7
                          have ct0 : w7.cell? ⟨w.heap.size, 0, none⟩ = some (.slice A ps.length c) := bT7.cell 0 rfl
                          have ct1 : w7.cell? ⟨w.heap.size, 1, none⟩ = some (.int .i64 cl) := bT7.cell 1 rfl
                          have ct2 : w7.cell? ⟨w.heap.size, 2, none⟩ = some (.int .i64 lo) := bT7.cell 2 rfl
                          have ct3 : w7.cell? ⟨w.heap.size, 3, none⟩ = some (.int .i64 hi) := bT7.cell 3 rfl
                          have lT7 := bT7.lt
                          have cx0 : w7.cell? ⟨w.heap.size + 1, 0, none⟩ = some (.slice Ae es.length ce) := bX7.cell 0 rfl
                          have cx1 : w7.cell? ⟨w.heap.size + 1, 1, none⟩ = some (.int .i64 rd) := bX7.cell 1 rfl
                          have lX7 := bX7.lt
                          go_wp2_with fail
                          refine (HTW.out _ hB7).mono ?_
                          rintro e w8 ⟨rfl, hb8⟩
                          have bT8 := bT7.below hb8
                          have bX8 := bX7.below hb8
                          have hB8 := hB7.trans (hb8.mono hB7.size)
                          clear ct0 ct1 ct2 ct3 lT7 cx0 cx1 lX7 bT7 bX7 hB7 hb8
                          have ct0 : w8.cell? ⟨w.heap.size, 0, none⟩ = some (.slice A ps.length c) := bT8.cell 0 rfl
                          have ct1 : w8.cell? ⟨w.heap.size, 1, none⟩ = some (.int .i64 cl) := bT8.cell 1 rfl
                          have ct2 : w8.cell? ⟨w.heap.size, 2, none⟩ = some (.int .i64 lo) := bT8.cell 2 rfl
                          have ct3 : w8.cell? ⟨w.heap.size, 3, none⟩ = some (.int .i64 hi) := bT8.cell 3 rfl
                          have lT8 := bT8.lt
                          have cx0 : w8.cell? ⟨w.heap.size + 1, 0, none⟩ = some (.slice Ae es.length ce) := bX8.cell 0 rfl
                          have cx1 : w8.cell? ⟨w.heap.size + 1, 1, none⟩ = some (.int .i64 rd) := bX8.cell 1 rfl
                          have lX8 := bX8.lt
                          go_wp2_with fail
                          refine (HAP.out _ hB8).mono ?_
                          rintro e w9 ⟨rfl, hb9⟩
                          have bT9 := bT8.below hb9
                          have bX9 := bX8.below hb9
                          have hB9 := hB8.trans (hb9.mono hB8.size)
                          clear ct0 ct1 ct2 ct3 lT8 cx0 cx1 lX8 bT8 bX8 hB8 hb9
                          have ct0 : w9.cell? ⟨w.heap.size, 0, none⟩ = some (.slice A ps.length c) := bT9.cell 0 rfl
                          have ct1 : w9.cell? ⟨w.heap.size, 1, none⟩ = some (.int .i64 cl) := bT9.cell 1 rfl
                          have ct2 : w9.cell? ⟨w.heap.size, 2, none⟩ = some (.int .i64 lo) := bT9.cell 2 rfl
                          have ct3 : w9.cell? ⟨w.heap.size, 3, none⟩ = some (.int .i64 hi) := bT9.cell 3 rfl
                          have lT9 := bT9.lt
                          have cx0 : w9.cell? ⟨w.heap.size + 1, 0, none⟩ = some (.slice Ae es.length ce) := bX9.cell 0 rfl
                          have cx1 : w9.cell? ⟨w.heap.size + 1, 1, none⟩ = some (.int .i64 rd) := bX9.cell 1 rfl
                          have lX9 := bX9.lt
                          go_wp2_with fail
                          refine (HWK.out _).mono ?_
                          rintro e wz ⟨rfl, hbz⟩
                          have hBz := hB9.trans (hbz.mono hB9.size)
                          go_wp2_with fail
                          go_returns
                          exact ⟨rfl, hBz⟩
                        · have a2 : decide (9999 < DW) = false := decide_eq_false ha9
                          have HSWE : SW = DW - DP := by rw [HMT.out.1, ht1, Int.one_mul]
                          obtain ⟨n1, n2, n3⟩ := Wh.ins_one (a := DW) (c := DP) (r := rd) HSWE (by omega) (by omega) (by have := HRD.out; omega)
                          have HAR : Hid (∀ (A' : Option Addr) (c' : Nat) W, Wks W W.heap.size A' [(1, 1, 1, rd, ((rd + SW).tmod 10000 + 10000).tmod 10000)] → Calls Tryz.prog 15 #[.agg #[.int .i64 10000, .int .i64 0, .int .i64 0, .int .i64 0, .int .i64 DP, .int .i64 (max 0 (DW - 10)), .int .i64 (min 9999 (DW + 10)), .int .i64 0], .slice A' 1 c'] W (IntsEPost [DW] 0 W)) := fun A' c' W hW => by
                            have := Areas_any (Wh.ins DW DP rd SW) A' c' W (show (1 : Nat) ≤ 1000000000 by omega) hW
                            rw [n1, n2] at this
                            exact this
                          have hm1 := Int.tmod_lt_of_pos (rd + SW) (show (0 : Int) < 10000 by omega)
                          have hm2 : -10000 < (rd + SW).tmod 10000 := Int.lt_tmod_of_pos (rd + SW) (show (0 : Int) < 10000 by omega)
                          have hm3 := Int.tmod_lt_of_pos ((rd + SW).tmod 10000 + 10000) (show (0 : Int) < 10000 by omega)
                          have hm4 : -10000 < ((rd + SW).tmod 10000 + 10000).tmod 10000 := Int.lt_tmod_of_pos _ (show (0 : Int) < 10000 by omega)
                          have u1 : IntKind.i64.wrap (rd + SW) = rd + SW := IntWalk.i64_in _ (by have := HRD.out; omega)
                          have u2 : IntKind.i64.wrap ((rd + SW).tmod 10000) = (rd + SW).tmod 10000 := IntWalk.i64_in _ (by omega)
                          have u3 : IntKind.i64.wrap ((rd + SW).tmod 10000 + 10000) = (rd + SW).tmod 10000 + 10000 := IntWalk.i64_in _ (by omega)
                          have u4 : IntKind.i64.wrap (((rd + SW).tmod 10000 + 10000).tmod 10000) = ((rd + SW).tmod 10000 + 10000).tmod 10000 := IntWalk.i64_in _ (by omega)
                          have u5 : IntKind.i64.wrap (DW - 10) = DW - 10 := IntWalk.i64_in _ (by omega)
                          have u6 : IntKind.i64.wrap (DW + 10) = DW + 10 := IntWalk.i64_in _ (by omega)
                          obtain ⟨en, hen⟩ : ∃ en, en = ((rd + SW).tmod 10000 + 10000).tmod 10000 := ⟨_, rfl⟩
                          obtain ⟨gl, hgl⟩ : ∃ gl, gl = max 0 (DW - 10) := ⟨_, rfl⟩
                          obtain ⟨gh, hgh⟩ : ∃ gh, gh = min 9999 (DW + 10) := ⟨_, rfl⟩
                          rw [← hen, ← hgl, ← hgh] at HAR
                          rw [← hen] at u4
                          unfold IntsEPost at HAR
                          have hdd : (DW == DW) = true := by simp
                          clear ht1 hc0 hc9 ha0 ha9 n1 n2 n3 HSWE hm1 hm2 hm3 hm4 HMT HRD
                          go_enter Tryz.func4, Tryz.ntmps4
                          go_wp2_with fail
                          have bT1 := (BoxS.new w 26 #[.slice A ps.length c, .int .i64 cl, .int .i64 lo, .int .i64 hi]).alloc (.cells #[.slice Ae es.length ce, .int .i64 rd] 40)
                          have bX1 := BoxS.new (w.alloc (.cells #[.slice A ps.length c, .int .i64 cl, .int .i64 lo, .int .i64 hi] 26)) 40 #[.slice Ae es.length ce, .int .i64 rd]
                          rw [World.size_alloc] at bX1
                          have hB1 : Below w.heap.size w ((w.alloc (.cells #[.slice A ps.length c, .int .i64 cl, .int .i64 lo, .int .i64 hi] 26)).alloc (.cells #[.slice Ae es.length ce, .int .i64 rd] 40)) := by (repeat' (first | (with_reducible exact Below.refl _ _) | (with_reducible assumption) | (with_reducible refine Below.alloc ?_ ?_ _) | (with_reducible refine Below.drew ?_) | (with_reducible refine Below.setCell ?_ ?_ _) | go_size | (exact (by simp)) | omega))
                          generalize World.alloc (World.alloc w _) _ = w1 at *
                          have ct0 : w1.cell? ⟨w.heap.size, 0, none⟩ = some (.slice A ps.length c) := bT1.cell 0 rfl
                          have ct1 : w1.cell? ⟨w.heap.size, 1, none⟩ = some (.int .i64 cl) := bT1.cell 1 rfl
                          have ct2 : w1.cell? ⟨w.heap.size, 2, none⟩ = some (.int .i64 lo) := bT1.cell 2 rfl
                          have ct3 : w1.cell? ⟨w.heap.size, 3, none⟩ = some (.int .i64 hi) := bT1.cell 3 rfl
                          have lT1 := bT1.lt
                          have cx0 : w1.cell? ⟨w.heap.size + 1, 0, none⟩ = some (.slice Ae es.length ce) := bX1.cell 0 rfl
                          have cx1 : w1.cell? ⟨w.heap.size + 1, 1, none⟩ = some (.int .i64 rd) := bX1.cell 1 rfl
                          have lX1 := bX1.lt
                          try go_wp2_with fail
                          refine (HFR.out _ hB1).mono ?_
                          rintro e w2 ⟨rfl, hb2⟩
                          have bT2 := bT1.below hb2
                          have bX2 := bX1.below hb2
                          have hB2 := hB1.trans (hb2.mono hB1.size)
                          clear ct0 ct1 ct2 ct3 lT1 cx0 cx1 lX1 bT1 bX1 hB1 hb2
                          have ct0 : w2.cell? ⟨w.heap.size, 0, none⟩ = some (.slice A ps.length c) := bT2.cell 0 rfl
                          have ct1 : w2.cell? ⟨w.heap.size, 1, none⟩ = some (.int .i64 cl) := bT2.cell 1 rfl
                          have ct2 : w2.cell? ⟨w.heap.size, 2, none⟩ = some (.int .i64 lo) := bT2.cell 2 rfl
                          have ct3 : w2.cell? ⟨w.heap.size, 3, none⟩ = some (.int .i64 hi) := bT2.cell 3 rfl
                          have lT2 := bT2.lt
                          have cx0 : w2.cell? ⟨w.heap.size + 1, 0, none⟩ = some (.slice Ae es.length ce) := bX2.cell 0 rfl
                          have cx1 : w2.cell? ⟨w.heap.size + 1, 1, none⟩ = some (.int .i64 rd) := bX2.cell 1 rfl
                          have lX2 := bX2.lt
                          go_wp2_with fail
                          refine (HCK.out _ hB2).mono ?_
                          rintro e w3 ⟨rfl, hb3⟩
                          have bT3 := bT2.below hb3
                          have bX3 := bX2.below hb3
                          have hB3 := hB2.trans (hb3.mono hB2.size)
                          clear ct0 ct1 ct2 ct3 lT2 cx0 cx1 lX2 bT2 bX2 hB2 hb3
                          have ct0 : w3.cell? ⟨w.heap.size, 0, none⟩ = some (.slice A ps.length c) := bT3.cell 0 rfl
                          have ct1 : w3.cell? ⟨w.heap.size, 1, none⟩ = some (.int .i64 cl) := bT3.cell 1 rfl
                          have ct2 : w3.cell? ⟨w.heap.size, 2, none⟩ = some (.int .i64 lo) := bT3.cell 2 rfl
                          have ct3 : w3.cell? ⟨w.heap.size, 3, none⟩ = some (.int .i64 hi) := bT3.cell 3 rfl
                          have lT3 := bT3.lt
                          have cx0 : w3.cell? ⟨w.heap.size + 1, 0, none⟩ = some (.slice Ae es.length ce) := bX3.cell 0 rfl
                          have cx1 : w3.cell? ⟨w.heap.size + 1, 1, none⟩ = some (.int .i64 rd) := bX3.cell 1 rfl
                          have lX3 := bX3.lt
                          go_wp2_with fail
                          refine (HRF.out _ hB3).mono ?_
                          rintro e w4 ⟨rfl, hb4⟩
                          have bT4 := bT3.below hb4
                          have bX4 := bX3.below hb4
                          have hB4 := hB3.trans (hb4.mono hB3.size)
                          clear ct0 ct1 ct2 ct3 lT3 cx0 cx1 lX3 bT3 bX3 hB3 hb4
                          have ct0 : w4.cell? ⟨w.heap.size, 0, none⟩ = some (.slice A ps.length c) := bT4.cell 0 rfl
                          have ct1 : w4.cell? ⟨w.heap.size, 1, none⟩ = some (.int .i64 cl) := bT4.cell 1 rfl
                          have ct2 : w4.cell? ⟨w.heap.size, 2, none⟩ = some (.int .i64 lo) := bT4.cell 2 rfl
                          have ct3 : w4.cell? ⟨w.heap.size, 3, none⟩ = some (.int .i64 hi) := bT4.cell 3 rfl
                          have lT4 := bT4.lt
                          have cx0 : w4.cell? ⟨w.heap.size + 1, 0, none⟩ = some (.slice Ae es.length ce) := bX4.cell 0 rfl
                          have cx1 : w4.cell? ⟨w.heap.size + 1, 1, none⟩ = some (.int .i64 rd) := bX4.cell 1 rfl
                          have lX4 := bX4.lt
                          go_wp2_with fail
                          refine (HAE.out _ hB4).mono ?_
                          rintro e w5 ⟨rfl, hb5⟩
                          have bT5 := bT4.below hb5
                          have bX5 := bX4.below hb5
                          have hB5 := hB4.trans (hb5.mono hB4.size)
                          clear ct0 ct1 ct2 ct3 lT4 cx0 cx1 lX4 bT4 bX4 hB4 hb5
                          have ct0 : w5.cell? ⟨w.heap.size, 0, none⟩ = some (.slice A ps.length c) := bT5.cell 0 rfl
                          have ct1 : w5.cell? ⟨w.heap.size, 1, none⟩ = some (.int .i64 cl) := bT5.cell 1 rfl
                          have ct2 : w5.cell? ⟨w.heap.size, 2, none⟩ = some (.int .i64 lo) := bT5.cell 2 rfl
                          have ct3 : w5.cell? ⟨w.heap.size, 3, none⟩ = some (.int .i64 hi) := bT5.cell 3 rfl
                          have lT5 := bT5.lt
                          have cx0 : w5.cell? ⟨w.heap.size + 1, 0, none⟩ = some (.slice Ae es.length ce) := bX5.cell 0 rfl
                          have cx1 : w5.cell? ⟨w.heap.size + 1, 1, none⟩ = some (.int .i64 rd) := bX5.cell 1 rfl
                          have lX5 := bX5.lt
                          go_wp2_with fail
                          refine (HTU.out _ hB5).mono ?_
                          rintro e w6 ⟨rfl, hb6⟩
                          have bT6 := bT5.below hb6
                          have bX6 := bX5.below hb6
                          have hB6 := hB5.trans (hb6.mono hB5.size)
                          clear ct0 ct1 ct2 ct3 lT5 cx0 cx1 lX5 bT5 bX5 hB5 hb6
                          have ct0 : w6.cell? ⟨w.heap.size, 0, none⟩ = some (.slice A ps.length c) := bT6.cell 0 rfl
                          have ct1 : w6.cell? ⟨w.heap.size, 1, none⟩ = some (.int .i64 cl) := bT6.cell 1 rfl
                          have ct2 : w6.cell? ⟨w.heap.size, 2, none⟩ = some (.int .i64 lo) := bT6.cell 2 rfl
                          have ct3 : w6.cell? ⟨w.heap.size, 3, none⟩ = some (.int .i64 hi) := bT6.cell 3 rfl
                          have lT6 := bT6.lt
                          have cx0 : w6.cell? ⟨w.heap.size + 1, 0, none⟩ = some (.slice Ae es.length ce) := bX6.cell 0 rfl
                          have cx1 : w6.cell? ⟨w.heap.size + 1, 1, none⟩ = some (.int .i64 rd) := bX6.cell 1 rfl
                          have lX6 := bX6.lt
                          go_wp2_with fail
                          refine (HSW.out _ hB6).mono ?_
                          rintro e w7 ⟨rfl, hb7⟩
                          have bT7 := bT6.below hb7
                          have bX7 := bX6.below hb7
                          have hB7 := hB6.trans (hb7.mono hB6.size)
                          clear ct0 ct1 ct2 ct3 lT6 cx0 cx1 lX6 bT6 bX6 hB6 hb7
                          have ct0 : w7.cell? ⟨w.heap.size, 0, none⟩ = some (.slice A ps.length c) := bT7.cell 0 rfl
                          have ct1 : w7.cell? ⟨w.heap.size, 1, none⟩ = some (.int .i64 cl) := bT7.cell 1 rfl
                          have ct2 : w7.cell? ⟨w.heap.size, 2, none⟩ = some (.int .i64 lo) := bT7.cell 2 rfl
                          have ct3 : w7.cell? ⟨w.heap.size, 3, none⟩ = some (.int .i64 hi) := bT7.cell 3 rfl
                          have lT7 := bT7.lt
                          have cx0 : w7.cell? ⟨w.heap.size + 1, 0, none⟩ = some (.slice Ae es.length ce) := bX7.cell 0 rfl
                          have cx1 : w7.cell? ⟨w.heap.size + 1, 1, none⟩ = some (.int .i64 rd) := bX7.cell 1 rfl
                          have lX7 := bX7.lt
                          go_wp2_with fail
                          refine (HTW.out _ hB7).mono ?_
                          rintro e w8 ⟨rfl, hb8⟩
                          have bT8 := bT7.below hb8
                          have bX8 := bX7.below hb8
                          have hB8 := hB7.trans (hb8.mono hB7.size)
                          clear ct0 ct1 ct2 ct3 lT7 cx0 cx1 lX7 bT7 bX7 hB7 hb8
                          have ct0 : w8.cell? ⟨w.heap.size, 0, none⟩ = some (.slice A ps.length c) := bT8.cell 0 rfl
                          have ct1 : w8.cell? ⟨w.heap.size, 1, none⟩ = some (.int .i64 cl) := bT8.cell 1 rfl
                          have ct2 : w8.cell? ⟨w.heap.size, 2, none⟩ = some (.int .i64 lo) := bT8.cell 2 rfl
                          have ct3 : w8.cell? ⟨w.heap.size, 3, none⟩ = some (.int .i64 hi) := bT8.cell 3 rfl
                          have lT8 := bT8.lt
                          have cx0 : w8.cell? ⟨w.heap.size + 1, 0, none⟩ = some (.slice Ae es.length ce) := bX8.cell 0 rfl
                          have cx1 : w8.cell? ⟨w.heap.size + 1, 1, none⟩ = some (.int .i64 rd) := bX8.cell 1 rfl
                          have lX8 := bX8.lt
                          go_wp2_with fail
                          refine (HAP.out _ hB8).mono ?_
                          rintro e w9 ⟨rfl, hb9⟩
                          have bT9 := bT8.below hb9
                          have bX9 := bX8.below hb9
                          have hB9 := hB8.trans (hb9.mono hB8.size)
                          clear ct0 ct1 ct2 ct3 lT8 cx0 cx1 lX8 bT8 bX8 hB8 hb9
                          have ct0 : w9.cell? ⟨w.heap.size, 0, none⟩ = some (.slice A ps.length c) := bT9.cell 0 rfl
                          have ct1 : w9.cell? ⟨w.heap.size, 1, none⟩ = some (.int .i64 cl) := bT9.cell 1 rfl
                          have ct2 : w9.cell? ⟨w.heap.size, 2, none⟩ = some (.int .i64 lo) := bT9.cell 2 rfl
                          have ct3 : w9.cell? ⟨w.heap.size, 3, none⟩ = some (.int .i64 hi) := bT9.cell 3 rfl
                          have lT9 := bT9.lt
                          have cx0 : w9.cell? ⟨w.heap.size + 1, 0, none⟩ = some (.slice Ae es.length ce) := bX9.cell 0 rfl
                          have cx1 : w9.cell? ⟨w.heap.size + 1, 1, none⟩ = some (.int .i64 rd) := bX9.cell 1 rfl
                          have lX9 := bX9.lt
                          go_wp2_with fail
                          try rw [← hgl]
                          try rw [← hgh]
                          try rw [← hen]
                          have hWk : Wks ((w9.alloc (.cells #[.int .i64 10000, .int .i64 0, .int .i64 0, .int .i64 0, .int .i64 DP, .int .i64 gl, .int .i64 gh, .int .i64 0] 42)).alloc (.cells #[.int .i64 1, .int .i64 1, .int .i64 1, .int .i64 rd, .int .i64 en] 45)) ((w9.alloc (.cells #[.int .i64 10000, .int .i64 0, .int .i64 0, .int .i64 0, .int .i64 DP, .int .i64 gl, .int .i64 gh, .int .i64 0] 42)).alloc (.cells #[.int .i64 1, .int .i64 1, .int .i64 1, .int .i64 rd, .int .i64 en] 45)).heap.size (some ⟨w9.heap.size + 1, 0, none⟩) [(1, 1, 1, rd, en)] := by
                            have := wks_one (w9.alloc (.cells #[.int .i64 10000, .int .i64 0, .int .i64 0, .int .i64 0, .int .i64 DP, .int .i64 gl, .int .i64 gh, .int .i64 0] 42)) (1, 1, 1, rd, en) 45
                            simp only [World.size_alloc] at this ⊢
                            exact this
                          have hB10 : Below w.heap.size w ((w9.alloc (.cells #[.int .i64 10000, .int .i64 0, .int .i64 0, .int .i64 0, .int .i64 DP, .int .i64 gl, .int .i64 gh, .int .i64 0] 42)).alloc (.cells #[.int .i64 1, .int .i64 1, .int .i64 1, .int .i64 rd, .int .i64 en] 45)) := by have := hB9; (repeat' (first | (with_reducible exact Below.refl _ _) | (with_reducible assumption) | (with_reducible refine Below.alloc ?_ ?_ _) | (with_reducible refine Below.drew ?_) | (with_reducible refine Below.setCell ?_ ?_ _) | go_size | (exact (by simp)) | omega))
                          clear ct0 ct1 ct2 ct3 lT9 cx0 cx1 lX9 bT9 bX9 hB9
                          generalize World.alloc (World.alloc w9 _) _ = w10 at *
                          refine (HAR.out _ _ _ hWk).mono ?_
                          rintro e w11 ⟨v, rfl, hI, hb11⟩
                          have hB11 := hB10.trans (hb11.mono hB10.size)
                          rcases hI.out with ⟨_, e⟩ | ⟨br, orr, cR, rfl, hbr, hcr⟩
                          · cases e
                          have z0 := hcr 0 DW rfl
                          rw [Nat.add_zero] at z0
                          clear hcr hI hWk hB10 hb11 hen hgl hgh
                          go_wp2_with fail
                          refine (HWK.out _).mono ?_
                          rintro e wz ⟨rfl, hbz⟩
                          have hBz := hB11.trans (hbz.mono hB11.size)
                          go_wp2_with fail
                          go_returns
                          exact ⟨rfl, hBz⟩
                · have ht1b : (TU != 1) = true := by simpa using ht1
                  clear ht1
                  go_enter Tryz.func4, Tryz.ntmps4
                  go_wp2_with fail
                  have bT1 := (BoxS.new w 26 #[.slice A ps.length c, .int .i64 cl, .int .i64 lo, .int .i64 hi]).alloc (.cells #[.slice Ae es.length ce, .int .i64 rd] 40)
                  have bX1 := BoxS.new (w.alloc (.cells #[.slice A ps.length c, .int .i64 cl, .int .i64 lo, .int .i64 hi] 26)) 40 #[.slice Ae es.length ce, .int .i64 rd]
                  rw [World.size_alloc] at bX1
                  have hB1 : Below w.heap.size w ((w.alloc (.cells #[.slice A ps.length c, .int .i64 cl, .int .i64 lo, .int .i64 hi] 26)).alloc (.cells #[.slice Ae es.length ce, .int .i64 rd] 40)) := by (repeat' (first | (with_reducible exact Below.refl _ _) | (with_reducible assumption) | (with_reducible refine Below.alloc ?_ ?_ _) | (with_reducible refine Below.drew ?_) | (with_reducible refine Below.setCell ?_ ?_ _) | go_size | (exact (by simp)) | omega))
                  generalize World.alloc (World.alloc w _) _ = w1 at *
                  have ct0 : w1.cell? ⟨w.heap.size, 0, none⟩ = some (.slice A ps.length c) := bT1.cell 0 rfl
                  have ct1 : w1.cell? ⟨w.heap.size, 1, none⟩ = some (.int .i64 cl) := bT1.cell 1 rfl
                  have ct2 : w1.cell? ⟨w.heap.size, 2, none⟩ = some (.int .i64 lo) := bT1.cell 2 rfl
                  have ct3 : w1.cell? ⟨w.heap.size, 3, none⟩ = some (.int .i64 hi) := bT1.cell 3 rfl
                  have lT1 := bT1.lt
                  have cx0 : w1.cell? ⟨w.heap.size + 1, 0, none⟩ = some (.slice Ae es.length ce) := bX1.cell 0 rfl
                  have cx1 : w1.cell? ⟨w.heap.size + 1, 1, none⟩ = some (.int .i64 rd) := bX1.cell 1 rfl
                  have lX1 := bX1.lt
                  try go_wp2_with fail
                  refine (HFR.out _ hB1).mono ?_
                  rintro e w2 ⟨rfl, hb2⟩
                  have bT2 := bT1.below hb2
                  have bX2 := bX1.below hb2
                  have hB2 := hB1.trans (hb2.mono hB1.size)
                  clear ct0 ct1 ct2 ct3 lT1 cx0 cx1 lX1 bT1 bX1 hB1 hb2
                  have ct0 : w2.cell? ⟨w.heap.size, 0, none⟩ = some (.slice A ps.length c) := bT2.cell 0 rfl
                  have ct1 : w2.cell? ⟨w.heap.size, 1, none⟩ = some (.int .i64 cl) := bT2.cell 1 rfl
                  have ct2 : w2.cell? ⟨w.heap.size, 2, none⟩ = some (.int .i64 lo) := bT2.cell 2 rfl
                  have ct3 : w2.cell? ⟨w.heap.size, 3, none⟩ = some (.int .i64 hi) := bT2.cell 3 rfl
                  have lT2 := bT2.lt
                  have cx0 : w2.cell? ⟨w.heap.size + 1, 0, none⟩ = some (.slice Ae es.length ce) := bX2.cell 0 rfl
                  have cx1 : w2.cell? ⟨w.heap.size + 1, 1, none⟩ = some (.int .i64 rd) := bX2.cell 1 rfl
                  have lX2 := bX2.lt
                  go_wp2_with fail
                  refine (HCK.out _ hB2).mono ?_
                  rintro e w3 ⟨rfl, hb3⟩
                  have bT3 := bT2.below hb3
                  have bX3 := bX2.below hb3
                  have hB3 := hB2.trans (hb3.mono hB2.size)
                  clear ct0 ct1 ct2 ct3 lT2 cx0 cx1 lX2 bT2 bX2 hB2 hb3
                  have ct0 : w3.cell? ⟨w.heap.size, 0, none⟩ = some (.slice A ps.length c) := bT3.cell 0 rfl
                  have ct1 : w3.cell? ⟨w.heap.size, 1, none⟩ = some (.int .i64 cl) := bT3.cell 1 rfl
                  have ct2 : w3.cell? ⟨w.heap.size, 2, none⟩ = some (.int .i64 lo) := bT3.cell 2 rfl
                  have ct3 : w3.cell? ⟨w.heap.size, 3, none⟩ = some (.int .i64 hi) := bT3.cell 3 rfl
                  have lT3 := bT3.lt
                  have cx0 : w3.cell? ⟨w.heap.size + 1, 0, none⟩ = some (.slice Ae es.length ce) := bX3.cell 0 rfl
                  have cx1 : w3.cell? ⟨w.heap.size + 1, 1, none⟩ = some (.int .i64 rd) := bX3.cell 1 rfl
                  have lX3 := bX3.lt
                  go_wp2_with fail
                  refine (HRF.out _ hB3).mono ?_
                  rintro e w4 ⟨rfl, hb4⟩
                  have bT4 := bT3.below hb4
                  have bX4 := bX3.below hb4
                  have hB4 := hB3.trans (hb4.mono hB3.size)
                  clear ct0 ct1 ct2 ct3 lT3 cx0 cx1 lX3 bT3 bX3 hB3 hb4
                  have ct0 : w4.cell? ⟨w.heap.size, 0, none⟩ = some (.slice A ps.length c) := bT4.cell 0 rfl
                  have ct1 : w4.cell? ⟨w.heap.size, 1, none⟩ = some (.int .i64 cl) := bT4.cell 1 rfl
                  have ct2 : w4.cell? ⟨w.heap.size, 2, none⟩ = some (.int .i64 lo) := bT4.cell 2 rfl
                  have ct3 : w4.cell? ⟨w.heap.size, 3, none⟩ = some (.int .i64 hi) := bT4.cell 3 rfl
                  have lT4 := bT4.lt
                  have cx0 : w4.cell? ⟨w.heap.size + 1, 0, none⟩ = some (.slice Ae es.length ce) := bX4.cell 0 rfl
                  have cx1 : w4.cell? ⟨w.heap.size + 1, 1, none⟩ = some (.int .i64 rd) := bX4.cell 1 rfl
                  have lX4 := bX4.lt
                  go_wp2_with fail
                  refine (HAE.out _ hB4).mono ?_
                  rintro e w5 ⟨rfl, hb5⟩
                  have bT5 := bT4.below hb5
                  have bX5 := bX4.below hb5
                  have hB5 := hB4.trans (hb5.mono hB4.size)
                  clear ct0 ct1 ct2 ct3 lT4 cx0 cx1 lX4 bT4 bX4 hB4 hb5
                  have ct0 : w5.cell? ⟨w.heap.size, 0, none⟩ = some (.slice A ps.length c) := bT5.cell 0 rfl
                  have ct1 : w5.cell? ⟨w.heap.size, 1, none⟩ = some (.int .i64 cl) := bT5.cell 1 rfl
                  have ct2 : w5.cell? ⟨w.heap.size, 2, none⟩ = some (.int .i64 lo) := bT5.cell 2 rfl
                  have ct3 : w5.cell? ⟨w.heap.size, 3, none⟩ = some (.int .i64 hi) := bT5.cell 3 rfl
                  have lT5 := bT5.lt
                  have cx0 : w5.cell? ⟨w.heap.size + 1, 0, none⟩ = some (.slice Ae es.length ce) := bX5.cell 0 rfl
                  have cx1 : w5.cell? ⟨w.heap.size + 1, 1, none⟩ = some (.int .i64 rd) := bX5.cell 1 rfl
                  have lX5 := bX5.lt
                  go_wp2_with fail
                  refine (HTU.out _ hB5).mono ?_
                  rintro e w6 ⟨rfl, hb6⟩
                  have bT6 := bT5.below hb6
                  have bX6 := bX5.below hb6
                  have hB6 := hB5.trans (hb6.mono hB5.size)
                  clear ct0 ct1 ct2 ct3 lT5 cx0 cx1 lX5 bT5 bX5 hB5 hb6
                  have ct0 : w6.cell? ⟨w.heap.size, 0, none⟩ = some (.slice A ps.length c) := bT6.cell 0 rfl
                  have ct1 : w6.cell? ⟨w.heap.size, 1, none⟩ = some (.int .i64 cl) := bT6.cell 1 rfl
                  have ct2 : w6.cell? ⟨w.heap.size, 2, none⟩ = some (.int .i64 lo) := bT6.cell 2 rfl
                  have ct3 : w6.cell? ⟨w.heap.size, 3, none⟩ = some (.int .i64 hi) := bT6.cell 3 rfl
                  have lT6 := bT6.lt
                  have cx0 : w6.cell? ⟨w.heap.size + 1, 0, none⟩ = some (.slice Ae es.length ce) := bX6.cell 0 rfl
                  have cx1 : w6.cell? ⟨w.heap.size + 1, 1, none⟩ = some (.int .i64 rd) := bX6.cell 1 rfl
                  have lX6 := bX6.lt
                  go_wp2_with fail
                  refine (HSW.out _ hB6).mono ?_
                  rintro e w7 ⟨rfl, hb7⟩
                  have bT7 := bT6.below hb7
                  have bX7 := bX6.below hb7
                  have hB7 := hB6.trans (hb7.mono hB6.size)
                  clear ct0 ct1 ct2 ct3 lT6 cx0 cx1 lX6 bT6 bX6 hB6 hb7
                  have ct0 : w7.cell? ⟨w.heap.size, 0, none⟩ = some (.slice A ps.length c) := bT7.cell 0 rfl
                  have ct1 : w7.cell? ⟨w.heap.size, 1, none⟩ = some (.int .i64 cl) := bT7.cell 1 rfl
                  have ct2 : w7.cell? ⟨w.heap.size, 2, none⟩ = some (.int .i64 lo) := bT7.cell 2 rfl
                  have ct3 : w7.cell? ⟨w.heap.size, 3, none⟩ = some (.int .i64 hi) := bT7.cell 3 rfl
                  have lT7 := bT7.lt
                  have cx0 : w7.cell? ⟨w.heap.size + 1, 0, none⟩ = some (.slice Ae es.length ce) := bX7.cell 0 rfl
                  have cx1 : w7.cell? ⟨w.heap.size + 1, 1, none⟩ = some (.int .i64 rd) := bX7.cell 1 rfl
                  have lX7 := bX7.lt
                  go_wp2_with fail
                  refine (HTW.out _ hB7).mono ?_
                  rintro e w8 ⟨rfl, hb8⟩
                  have bT8 := bT7.below hb8
                  have bX8 := bX7.below hb8
                  have hB8 := hB7.trans (hb8.mono hB7.size)
                  clear ct0 ct1 ct2 ct3 lT7 cx0 cx1 lX7 bT7 bX7 hB7 hb8
                  have ct0 : w8.cell? ⟨w.heap.size, 0, none⟩ = some (.slice A ps.length c) := bT8.cell 0 rfl
                  have ct1 : w8.cell? ⟨w.heap.size, 1, none⟩ = some (.int .i64 cl) := bT8.cell 1 rfl
                  have ct2 : w8.cell? ⟨w.heap.size, 2, none⟩ = some (.int .i64 lo) := bT8.cell 2 rfl
                  have ct3 : w8.cell? ⟨w.heap.size, 3, none⟩ = some (.int .i64 hi) := bT8.cell 3 rfl
                  have lT8 := bT8.lt
                  have cx0 : w8.cell? ⟨w.heap.size + 1, 0, none⟩ = some (.slice Ae es.length ce) := bX8.cell 0 rfl
                  have cx1 : w8.cell? ⟨w.heap.size + 1, 1, none⟩ = some (.int .i64 rd) := bX8.cell 1 rfl
                  have lX8 := bX8.lt
                  go_wp2_with fail
                  refine (HAP.out _ hB8).mono ?_
                  rintro e w9 ⟨rfl, hb9⟩
                  have bT9 := bT8.below hb9
                  have bX9 := bX8.below hb9
                  have hB9 := hB8.trans (hb9.mono hB8.size)
                  clear ct0 ct1 ct2 ct3 lT8 cx0 cx1 lX8 bT8 bX8 hB8 hb9
                  have ct0 : w9.cell? ⟨w.heap.size, 0, none⟩ = some (.slice A ps.length c) := bT9.cell 0 rfl
                  have ct1 : w9.cell? ⟨w.heap.size, 1, none⟩ = some (.int .i64 cl) := bT9.cell 1 rfl
                  have ct2 : w9.cell? ⟨w.heap.size, 2, none⟩ = some (.int .i64 lo) := bT9.cell 2 rfl
                  have ct3 : w9.cell? ⟨w.heap.size, 3, none⟩ = some (.int .i64 hi) := bT9.cell 3 rfl
                  have lT9 := bT9.lt
                  have cx0 : w9.cell? ⟨w.heap.size + 1, 0, none⟩ = some (.slice Ae es.length ce) := bX9.cell 0 rfl
                  have cx1 : w9.cell? ⟨w.heap.size + 1, 1, none⟩ = some (.int .i64 rd) := bX9.cell 1 rfl
                  have lX9 := bX9.lt
                  go_wp2_with fail
                  refine (HWK.out _).mono ?_
                  rintro e wz ⟨rfl, hbz⟩
                  have hBz := hB9.trans (hbz.mono hB9.size)
                  go_wp2_with fail
                  go_returns
                  exact ⟨rfl, hBz⟩
      · have hvn : (Geo.errV ws != 0) = true := by simpa using hv
        generalize Geo.errV ws = EV at *
        clear hP hQ hE hf h0 hv l1 l2 f1 f2
        obtain ⟨ps, cl, lo, hi⟩ := t
        unfold trV at *
        dsimp only at *
        go_enter Tryz.func4, Tryz.ntmps4
        go_wp2_with fail
        have bT1 := (BoxS.new w 26 #[.slice A ps.length c, .int .i64 cl, .int .i64 lo, .int .i64 hi]).alloc (.cells #[.slice Ae es.length ce, .int .i64 rd] 40)
        have bX1 := BoxS.new (w.alloc (.cells #[.slice A ps.length c, .int .i64 cl, .int .i64 lo, .int .i64 hi] 26)) 40 #[.slice Ae es.length ce, .int .i64 rd]
        rw [World.size_alloc] at bX1
        have hB1 : Below w.heap.size w ((w.alloc (.cells #[.slice A ps.length c, .int .i64 cl, .int .i64 lo, .int .i64 hi] 26)).alloc (.cells #[.slice Ae es.length ce, .int .i64 rd] 40)) := by (repeat' (first | (with_reducible exact Below.refl _ _) | (with_reducible assumption) | (with_reducible refine Below.alloc ?_ ?_ _) | (with_reducible refine Below.drew ?_) | (with_reducible refine Below.setCell ?_ ?_ _) | go_size | (exact (by simp)) | omega))
        generalize World.alloc (World.alloc w _) _ = w1 at *
        have ct0 : w1.cell? ⟨w.heap.size, 0, none⟩ = some (.slice A ps.length c) := bT1.cell 0 rfl
        have ct1 : w1.cell? ⟨w.heap.size, 1, none⟩ = some (.int .i64 cl) := bT1.cell 1 rfl
        have ct2 : w1.cell? ⟨w.heap.size, 2, none⟩ = some (.int .i64 lo) := bT1.cell 2 rfl
        have ct3 : w1.cell? ⟨w.heap.size, 3, none⟩ = some (.int .i64 hi) := bT1.cell 3 rfl
        have lT1 := bT1.lt
        have cx0 : w1.cell? ⟨w.heap.size + 1, 0, none⟩ = some (.slice Ae es.length ce) := bX1.cell 0 rfl
        have cx1 : w1.cell? ⟨w.heap.size + 1, 1, none⟩ = some (.int .i64 rd) := bX1.cell 1 rfl
        have lX1 := bX1.lt
        try go_wp2_with fail
        refine (HFR.out _ hB1).mono ?_
        rintro e w2 ⟨rfl, hb2⟩
        have bT2 := bT1.below hb2
        have bX2 := bX1.below hb2
        have hB2 := hB1.trans (hb2.mono hB1.size)
        clear ct0 ct1 ct2 ct3 lT1 cx0 cx1 lX1 bT1 bX1 hB1 hb2
        have ct0 : w2.cell? ⟨w.heap.size, 0, none⟩ = some (.slice A ps.length c) := bT2.cell 0 rfl
        have ct1 : w2.cell? ⟨w.heap.size, 1, none⟩ = some (.int .i64 cl) := bT2.cell 1 rfl
        have ct2 : w2.cell? ⟨w.heap.size, 2, none⟩ = some (.int .i64 lo) := bT2.cell 2 rfl
        have ct3 : w2.cell? ⟨w.heap.size, 3, none⟩ = some (.int .i64 hi) := bT2.cell 3 rfl
        have lT2 := bT2.lt
        have cx0 : w2.cell? ⟨w.heap.size + 1, 0, none⟩ = some (.slice Ae es.length ce) := bX2.cell 0 rfl
        have cx1 : w2.cell? ⟨w.heap.size + 1, 1, none⟩ = some (.int .i64 rd) := bX2.cell 1 rfl
        have lX2 := bX2.lt
        go_wp2_with fail
        refine (HCK.out _ hB2).mono ?_
        rintro e w3 ⟨rfl, hb3⟩
        have bT3 := bT2.below hb3
        have bX3 := bX2.below hb3
        have hB3 := hB2.trans (hb3.mono hB2.size)
        clear ct0 ct1 ct2 ct3 lT2 cx0 cx1 lX2 bT2 bX2 hB2 hb3
        have ct0 : w3.cell? ⟨w.heap.size, 0, none⟩ = some (.slice A ps.length c) := bT3.cell 0 rfl
        have ct1 : w3.cell? ⟨w.heap.size, 1, none⟩ = some (.int .i64 cl) := bT3.cell 1 rfl
        have ct2 : w3.cell? ⟨w.heap.size, 2, none⟩ = some (.int .i64 lo) := bT3.cell 2 rfl
        have ct3 : w3.cell? ⟨w.heap.size, 3, none⟩ = some (.int .i64 hi) := bT3.cell 3 rfl
        have lT3 := bT3.lt
        have cx0 : w3.cell? ⟨w.heap.size + 1, 0, none⟩ = some (.slice Ae es.length ce) := bX3.cell 0 rfl
        have cx1 : w3.cell? ⟨w.heap.size + 1, 1, none⟩ = some (.int .i64 rd) := bX3.cell 1 rfl
        have lX3 := bX3.lt
        go_wp2_with fail
        refine (HRF.out _ hB3).mono ?_
        rintro e w4 ⟨rfl, hb4⟩
        have bT4 := bT3.below hb4
        have bX4 := bX3.below hb4
        have hB4 := hB3.trans (hb4.mono hB3.size)
        clear ct0 ct1 ct2 ct3 lT3 cx0 cx1 lX3 bT3 bX3 hB3 hb4
        have ct0 : w4.cell? ⟨w.heap.size, 0, none⟩ = some (.slice A ps.length c) := bT4.cell 0 rfl
        have ct1 : w4.cell? ⟨w.heap.size, 1, none⟩ = some (.int .i64 cl) := bT4.cell 1 rfl
        have ct2 : w4.cell? ⟨w.heap.size, 2, none⟩ = some (.int .i64 lo) := bT4.cell 2 rfl
        have ct3 : w4.cell? ⟨w.heap.size, 3, none⟩ = some (.int .i64 hi) := bT4.cell 3 rfl
        have lT4 := bT4.lt
        have cx0 : w4.cell? ⟨w.heap.size + 1, 0, none⟩ = some (.slice Ae es.length ce) := bX4.cell 0 rfl
        have cx1 : w4.cell? ⟨w.heap.size + 1, 1, none⟩ = some (.int .i64 rd) := bX4.cell 1 rfl
        have lX4 := bX4.lt
        go_wp2_with fail
        refine (HWK.out _).mono ?_
        rintro e wz ⟨rfl, hbz⟩
        have hBz := hB4.trans (hbz.mono hB4.size)
        go_wp2_with fail
        go_returns
        exact ⟨rfl, hBz⟩
    · have h0n : (Wl.chkV t ws != 0) = true := by simpa using h0
      generalize Wl.chkV t ws = CE at *
      clear hP hQ hE hf h0 l1 l2
      obtain ⟨ps, cl, lo, hi⟩ := t
      unfold trV at *
      dsimp only at *
      go_enter Tryz.func4, Tryz.ntmps4
      go_wp2_with fail
      have bT1 := (BoxS.new w 26 #[.slice A ps.length c, .int .i64 cl, .int .i64 lo, .int .i64 hi]).alloc (.cells #[.slice Ae es.length ce, .int .i64 rd] 40)
      have bX1 := BoxS.new (w.alloc (.cells #[.slice A ps.length c, .int .i64 cl, .int .i64 lo, .int .i64 hi] 26)) 40 #[.slice Ae es.length ce, .int .i64 rd]
      rw [World.size_alloc] at bX1
      have hB1 : Below w.heap.size w ((w.alloc (.cells #[.slice A ps.length c, .int .i64 cl, .int .i64 lo, .int .i64 hi] 26)).alloc (.cells #[.slice Ae es.length ce, .int .i64 rd] 40)) := by (repeat' (first | (with_reducible exact Below.refl _ _) | (with_reducible assumption) | (with_reducible refine Below.alloc ?_ ?_ _) | (with_reducible refine Below.drew ?_) | (with_reducible refine Below.setCell ?_ ?_ _) | go_size | (exact (by simp)) | omega))
      generalize World.alloc (World.alloc w _) _ = w1 at *
      have ct0 : w1.cell? ⟨w.heap.size, 0, none⟩ = some (.slice A ps.length c) := bT1.cell 0 rfl
      have ct1 : w1.cell? ⟨w.heap.size, 1, none⟩ = some (.int .i64 cl) := bT1.cell 1 rfl
      have ct2 : w1.cell? ⟨w.heap.size, 2, none⟩ = some (.int .i64 lo) := bT1.cell 2 rfl
      have ct3 : w1.cell? ⟨w.heap.size, 3, none⟩ = some (.int .i64 hi) := bT1.cell 3 rfl
      have lT1 := bT1.lt
      have cx0 : w1.cell? ⟨w.heap.size + 1, 0, none⟩ = some (.slice Ae es.length ce) := bX1.cell 0 rfl
      have cx1 : w1.cell? ⟨w.heap.size + 1, 1, none⟩ = some (.int .i64 rd) := bX1.cell 1 rfl
      have lX1 := bX1.lt
      try go_wp2_with fail
      refine (HFR.out _ hB1).mono ?_
      rintro e w2 ⟨rfl, hb2⟩
      have bT2 := bT1.below hb2
      have bX2 := bX1.below hb2
      have hB2 := hB1.trans (hb2.mono hB1.size)
      clear ct0 ct1 ct2 ct3 lT1 cx0 cx1 lX1 bT1 bX1 hB1 hb2
      have ct0 : w2.cell? ⟨w.heap.size, 0, none⟩ = some (.slice A ps.length c) := bT2.cell 0 rfl
      have ct1 : w2.cell? ⟨w.heap.size, 1, none⟩ = some (.int .i64 cl) := bT2.cell 1 rfl
      have ct2 : w2.cell? ⟨w.heap.size, 2, none⟩ = some (.int .i64 lo) := bT2.cell 2 rfl
      have ct3 : w2.cell? ⟨w.heap.size, 3, none⟩ = some (.int .i64 hi) := bT2.cell 3 rfl
      have lT2 := bT2.lt
      have cx0 : w2.cell? ⟨w.heap.size + 1, 0, none⟩ = some (.slice Ae es.length ce) := bX2.cell 0 rfl
      have cx1 : w2.cell? ⟨w.heap.size + 1, 1, none⟩ = some (.int .i64 rd) := bX2.cell 1 rfl
      have lX2 := bX2.lt
      go_wp2_with fail
      refine (HCK.out _ hB2).mono ?_
      rintro e w3 ⟨rfl, hb3⟩
      have bT3 := bT2.below hb3
      have bX3 := bX2.below hb3
      have hB3 := hB2.trans (hb3.mono hB2.size)
      clear ct0 ct1 ct2 ct3 lT2 cx0 cx1 lX2 bT2 bX2 hB2 hb3
      have ct0 : w3.cell? ⟨w.heap.size, 0, none⟩ = some (.slice A ps.length c) := bT3.cell 0 rfl
      have ct1 : w3.cell? ⟨w.heap.size, 1, none⟩ = some (.int .i64 cl) := bT3.cell 1 rfl
      have ct2 : w3.cell? ⟨w.heap.size, 2, none⟩ = some (.int .i64 lo) := bT3.cell 2 rfl
      have ct3 : w3.cell? ⟨w.heap.size, 3, none⟩ = some (.int .i64 hi) := bT3.cell 3 rfl
      have lT3 := bT3.lt
      have cx0 : w3.cell? ⟨w.heap.size + 1, 0, none⟩ = some (.slice Ae es.length ce) := bX3.cell 0 rfl
      have cx1 : w3.cell? ⟨w.heap.size + 1, 1, none⟩ = some (.int .i64 rd) := bX3.cell 1 rfl
      have lX3 := bX3.lt
      go_wp2_with fail
      refine (HWK.out _).mono ?_
      rintro e wz ⟨rfl, hbz⟩
      have hBz := hB3.trans (hbz.mono hB3.size)
      go_wp2_with fail
      go_returns
      exact ⟨rfl, hBz⟩
section
open Go.ChangeShapes Go.WideShapes Go.ChangeAt Go.RowKit Go.Joins Go.Deep
variable {H : Type} {enc : TypeId × Value → H} {w : World} {base : Nat} {spare : Nat → Bool} {held : Bool} {r : Reach} {b0 : Nat} {v : Value} {d : DataW H} {p : List MemPlace}
set_option maxRecDepth 100000 in
theorem open_Start5 (hv : Value.okWide Tryz.prog w r b0 40 v) (h : DataW.Trod enc Tryz.prog w base spare held 40 v d p) :
    ∃ (A : Option Addr) (c : Nat) (es : List Int) (rd : Int), v = .agg #[.slice A es.length c, .int .i64 rd] ∧ (0 < es.length → Ints w w.heap.size (.slice A es.length c) es) := by
  obtain ⟨cs, rfl, hsz⟩ := okWide_struct Tryz.underlying40 hv
  obtain ⟨l⟩ := cs
  match l, hsz.trans (by kernel_rfl : Tryz.prog.cellsOf 40 = 2) with
  | [c0, c1], _ =>
    obtain ⟨fuel, hf⟩ := h
    obtain ⟨xs, n, _, hx, _, hlen, hg⟩ := DataW.trod_struct Tryz.underlying40 hf
    match xs, hlen with
    | [y0, y1], _ =>
      have g0 := hg 0 _ rfl
      have g1 := hg 1 _ rfl
      simp [Value.cells, cells_ints5, cells_int5] at g0 g1
      obtain ⟨A, c, es, rfl, h1, h2⟩ := trod_ints5 g0
      obtain ⟨rd, e1, rfl, _⟩ := DataW.trod_int Tryz.underlying3 g1
      simp at e1
      subst e1
      exact ⟨A, c, es, rd, rfl, h1⟩
end
theorem lawIns_walk (t : Wl.Trk) (A : Option Addr) (c : Nat) (Aw : Option Addr) (cw : Nat) (ws : List (Int × Int)) (Ae : Option Addr) (ce : Nat) (es : List Int) (rd : Int) (w : World) (_h1 : t.ps.length ≤ maxLen) (hP : Prs w w.heap.size A t.ps) (_h2 : ws.length ≤ maxLen) (hQ : Prs w w.heap.size Aw ws) (hE : 0 < es.length → Ints w w.heap.size (.slice Ae es.length ce) es) :
    Calls Tryz.prog 4 #[.agg (trV t A c), .slice Aw ws.length cw, .agg #[.slice Ae es.length ce, .int .i64 rd]] w fun e w' => e = .returned (.bool true) ∧ Below w.heap.size w w' := TopInside_all t ws es rd A Aw Ae c cw ce w hP hQ hE

open Go.ChangeShapes Go.WideShapes Go.ChangeAt Go.RowKit Go.Joins

set_option maxRecDepth 100000 in
theorem topins_lifted (os : Os) (started : os.Started) (H : Type) (enc : TypeId × Value → H) :
    ReturnsInHanded {} Tryz.checked os 4 .any (Rows.topInsideSpec.pre6 enc Tryz.prog Tryz.f4 Rows.topInsideRow.domain false) (Rows.topInsideSpec.post enc Tryz.prog Tryz.f4 false true false false) := by
  refine returnsInHanded_of_change (C := Tryz.checked) own started (by kernel_rfl) Tryz.func4
    (ChangeSpec.witness6 (enc := enc) (C := Tryz.checked) false ⟨#[], #[.agg #[.slice none 0 0, .int .i64 0, .int .i64 0, .int .i64 0], .slice none 0 0, .agg #[.slice none 0 0, .int .i64 0]], []⟩ 8 (by kernel_rfl) (by kernel_rfl) (by kernel_rfl) (by kernel_rfl)) ?_
  intro W base args ds gs before hval0 hW hcnd _
  have hval : ∀ (j : Nat) t v, Tryz.f4.params[j]? = some t → args[j]? = some v → Value.okWide Tryz.prog W .any base t v := hval0
  have hW' := hW
  obtain ⟨p, q, hA0, hV, rfl, hfz, hnd⟩ := hW
  have hA : DataW.TrodAll enc Tryz.prog W 0 (fun _ => true) true Tryz.f4.params.toList args.toList ds p := hA0
  rw [Tryz.params4] at hA hval
  obtain ⟨v0, v1, v2, d0, d1, d2, p0, p1, p2, rfl, rfl, rfl, h0, h1, h2⟩ := trodAll_three hA
  obtain ⟨rfl, rfl⟩ := trodVars_none hV
  obtain ⟨t, A, c, rfl, hg_t, hl_t⟩ := open_Track (hval 0 26 v0 rfl rfl) h0
  obtain ⟨Aw, cw, ws, rfl, hg_ws, hl_ws⟩ := open_prs Tryz.underlying22 Tryz.underlying53 (by kernel_rfl) (by kernel_rfl) (by kernel_rfl) (by kernel_rfl) (by kernel_rfl) Tryz.underlying3 Tryz.underlying3 (hval 1 22 v1 rfl rfl) h1
  obtain ⟨Ae, ce, es, rd, rfl, hh2_0⟩ := open_Start5 (hval 2 40 v2 rfl rfl) h2
  refine (lawIns_walk t A c Aw cw ws Ae ce es rd W hl_t hg_t hl_ws hg_ws hh2_0).mono fun e W' ⟨he, hb⟩ => ?_
  subst he
  exact ⟨_, rfl, law_post hW' rfl rfl (by intro t ht; have : t = 26 ∨ t = 22 ∨ t = 40 := (by rw [Tryz.params4] at ht; simpa using ht); rcases this with rfl | rfl | rfl <;> exact ⟨by kernel_rfl, of_decide_eq_true (by kernel_rfl)⟩) rfl rfl rfl hb⟩

theorem topins_holds : Rows.TopInsideSaid :=
  OpenClaim.holds_of_wide 4 Tryz.f4 rfl rfl rfl rfl rfl rfl rfl ⟨rfl, rfl, rfl, rfl, rfl⟩ rfl rfl rfl rfl rfl (by kernel_rfl) Tryz.func4 (by kernel_rfl)
    (of_decide_eq_true (by kernel_rfl)) (by unfold Func.isWrapper; rw [if_neg (of_decide_eq_false (by kernel_rfl))]; exact ⟨rfl, rfl⟩)
    (fun os started H enc _ => topins_lifted os started H enc)
end Go.Proofs.YtmjcdggmofohcaaGreat
