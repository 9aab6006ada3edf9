/- The law TopSweep (P0.3): the tracer sweeps just the polygon. -/
import Derived.Test.YtmjcdggmofohcaaGreatMh20
namespace Go.Proofs.YtmjcdggmofohcaaGreat
open Go.RowKit
set_option maxRecDepth 100000 in
set_option maxHeartbeats 16000000 in
theorem TopSweep_all (t : Wl.Trk) (ws : List Wl.Pt) (es : List Int) (A Aw Ae : Option Addr) (c cw ce : Nat) (w : World) (hP : Prs w w.heap.size A t.ps) (hQ : Prs w w.heap.size Aw ws) (hE : 0 < es.length → Ints w w.heap.size (.slice Ae es.length ce) es) :
    Calls Tryz.prog 3 #[.agg (trV t A c), .slice Aw ws.length cw, .slice Ae es.length ce] w fun e w' => e = .returned (.bool true) ∧ Below w.heap.size w w' := by
  have HWK : Hid (∀ W, Calls Tryz.prog 8 #[] W fun e w' => e = .returned (.bool true) ∧ Below W.heap.size W w') := swept_any
  have HFR : Hid (∀ W, Below w.heap.size w W → Calls Tryz.prog 5 #[.agg (trV t A c), .slice Aw ws.length cw] W fun e w' => e = .returned (.bool (Wl.farB t ws)) ∧ Below W.heap.size W w') := fun W hW => Far5_any t ws A Aw c cw W (prs_keep hP hW) (prs_keep hQ hW)
  cases hf : Wl.farB t ws with
  | true =>
    rw [hf] at HFR
    clear hP hQ hE hf
    obtain ⟨ps, cl, lo, hi⟩ := t
    unfold trV at *
    dsimp only at *
    go_enter Tryz.func3, Tryz.ntmps3
    go_wp2_with fail
    have bT1 := BoxS.new w 26 #[.slice A ps.length c, .int .i64 cl, .int .i64 lo, .int .i64 hi]
    have hB1 : Below w.heap.size w (w.alloc (.cells #[.slice A ps.length c, .int .i64 cl, .int .i64 lo, .int .i64 hi] 26)) := by (repeat' (first | (with_reducible exact Below.refl _ _) | (with_reducible assumption) | (with_reducible refine Below.alloc ?_ ?_ _) | (with_reducible refine Below.drew ?_) | (with_reducible refine Below.setCell ?_ ?_ _) | go_size | (exact (by simp)) | omega))
    generalize World.alloc w _ = w1 at *
    have ct0 : w1.cell? ⟨w.heap.size, 0, none⟩ = some (.slice A ps.length c) := bT1.cell 0 rfl
    have ct1 : w1.cell? ⟨w.heap.size, 1, none⟩ = some (.int .i64 cl) := bT1.cell 1 rfl
    have ct2 : w1.cell? ⟨w.heap.size, 2, none⟩ = some (.int .i64 lo) := bT1.cell 2 rfl
    have ct3 : w1.cell? ⟨w.heap.size, 3, none⟩ = some (.int .i64 hi) := bT1.cell 3 rfl
    have lT1 := bT1.lt
    try go_wp2_with fail
    refine (HFR.out _ hB1).mono ?_
    rintro e w2 ⟨rfl, hb2⟩
    have bT2 := bT1.below hb2
    have hB2 := hB1.trans (hb2.mono hB1.size)
    clear ct0 ct1 ct2 ct3 lT1 bT1 hB1 hb2
    have ct0 : w2.cell? ⟨w.heap.size, 0, none⟩ = some (.slice A ps.length c) := bT2.cell 0 rfl
    have ct1 : w2.cell? ⟨w.heap.size, 1, none⟩ = some (.int .i64 cl) := bT2.cell 1 rfl
    have ct2 : w2.cell? ⟨w.heap.size, 2, none⟩ = some (.int .i64 lo) := bT2.cell 2 rfl
    have ct3 : w2.cell? ⟨w.heap.size, 3, none⟩ = some (.int .i64 hi) := bT2.cell 3 rfl
    have lT2 := bT2.lt
    go_wp2_with fail
    refine (HWK.out _).mono ?_
    rintro e wz ⟨rfl, hbz⟩
    have hBz := hB2.trans (hbz.mono hB2.size)
    go_wp2_with fail
    go_returns
    exact ⟨rfl, hBz⟩
  | false =>
    obtain ⟨l1, l2⟩ := Wl.farB_len hf
    rw [hf] at HFR
    have HCK : Hid (∀ W, Below w.heap.size w W → Calls Tryz.prog 6 #[.agg (trV t A c), .slice Aw ws.length cw] W (ErrPost (Wl.chkV t ws) W)) := fun W hW => Check5_any t ws A Aw c cw (by omega) (by omega) W (prs_keep hP hW) (prs_keep hQ hW)
    unfold ErrPost at HCK
    by_cases h0 : Wl.chkV t ws = 0
    · rw [h0] at HCK
      have HRF : Hid (∀ W, Below w.heap.size w W → Calls Tryz.prog 7 #[.slice Aw ws.length cw] W (ErrPost (Geo.errV ws) W)) := fun W hW => refC_any Aw cw ws l2 W (prs_keep hQ hW)
      unfold ErrPost at HRF
      by_cases hv : Geo.errV ws = 0
      · rw [hv] at HRF
        by_cases hc1 : t.cl = 1
        · have hcb : (t.cl == 1) = true := by simpa using hc1
          have hcb := hcb
          clear hP hQ hE hf h0 hv l1 l2 hc1
          obtain ⟨ps, cl, lo, hi⟩ := t
          unfold trV at *
          dsimp only at *
          go_enter Tryz.func3, Tryz.ntmps3
          go_wp2_with fail
          have bT1 := BoxS.new w 26 #[.slice A ps.length c, .int .i64 cl, .int .i64 lo, .int .i64 hi]
          have hB1 : Below w.heap.size w (w.alloc (.cells #[.slice A ps.length c, .int .i64 cl, .int .i64 lo, .int .i64 hi] 26)) := by (repeat' (first | (with_reducible exact Below.refl _ _) | (with_reducible assumption) | (with_reducible refine Below.alloc ?_ ?_ _) | (with_reducible refine Below.drew ?_) | (with_reducible refine Below.setCell ?_ ?_ _) | go_size | (exact (by simp)) | omega))
          generalize World.alloc w _ = w1 at *
          have ct0 : w1.cell? ⟨w.heap.size, 0, none⟩ = some (.slice A ps.length c) := bT1.cell 0 rfl
          have ct1 : w1.cell? ⟨w.heap.size, 1, none⟩ = some (.int .i64 cl) := bT1.cell 1 rfl
          have ct2 : w1.cell? ⟨w.heap.size, 2, none⟩ = some (.int .i64 lo) := bT1.cell 2 rfl
          have ct3 : w1.cell? ⟨w.heap.size, 3, none⟩ = some (.int .i64 hi) := bT1.cell 3 rfl
          have lT1 := bT1.lt
          try go_wp2_with fail
          refine (HFR.out _ hB1).mono ?_
          rintro e w2 ⟨rfl, hb2⟩
          have bT2 := bT1.below hb2
          have hB2 := hB1.trans (hb2.mono hB1.size)
          clear ct0 ct1 ct2 ct3 lT1 bT1 hB1 hb2
          have ct0 : w2.cell? ⟨w.heap.size, 0, none⟩ = some (.slice A ps.length c) := bT2.cell 0 rfl
          have ct1 : w2.cell? ⟨w.heap.size, 1, none⟩ = some (.int .i64 cl) := bT2.cell 1 rfl
          have ct2 : w2.cell? ⟨w.heap.size, 2, none⟩ = some (.int .i64 lo) := bT2.cell 2 rfl
          have ct3 : w2.cell? ⟨w.heap.size, 3, none⟩ = some (.int .i64 hi) := bT2.cell 3 rfl
          have lT2 := bT2.lt
          go_wp2_with fail
          refine (HCK.out _ hB2).mono ?_
          rintro e w3 ⟨rfl, hb3⟩
          have bT3 := bT2.below hb3
          have hB3 := hB2.trans (hb3.mono hB2.size)
          clear ct0 ct1 ct2 ct3 lT2 bT2 hB2 hb3
          have ct0 : w3.cell? ⟨w.heap.size, 0, none⟩ = some (.slice A ps.length c) := bT3.cell 0 rfl
          have ct1 : w3.cell? ⟨w.heap.size, 1, none⟩ = some (.int .i64 cl) := bT3.cell 1 rfl
          have ct2 : w3.cell? ⟨w.heap.size, 2, none⟩ = some (.int .i64 lo) := bT3.cell 2 rfl
          have ct3 : w3.cell? ⟨w.heap.size, 3, none⟩ = some (.int .i64 hi) := bT3.cell 3 rfl
          have lT3 := bT3.lt
          go_wp2_with fail
          refine (HRF.out _ hB3).mono ?_
          rintro e w4 ⟨rfl, hb4⟩
          have bT4 := bT3.below hb4
          have hB4 := hB3.trans (hb4.mono hB3.size)
          clear ct0 ct1 ct2 ct3 lT3 bT3 hB3 hb4
          have ct0 : w4.cell? ⟨w.heap.size, 0, none⟩ = some (.slice A ps.length c) := bT4.cell 0 rfl
          have ct1 : w4.cell? ⟨w.heap.size, 1, none⟩ = some (.int .i64 cl) := bT4.cell 1 rfl
          have ct2 : w4.cell? ⟨w.heap.size, 2, none⟩ = some (.int .i64 lo) := bT4.cell 2 rfl
          have ct3 : w4.cell? ⟨w.heap.size, 3, none⟩ = some (.int .i64 hi) := bT4.cell 3 rfl
          have lT4 := bT4.lt
          go_wp2_with fail
          refine (HWK.out _).mono ?_
          rintro e wz ⟨rfl, hbz⟩
          have hBz := hB4.trans (hbz.mono hB4.size)
          go_wp2_with fail
          go_returns
          exact ⟨rfl, hBz⟩
        · have hcb : (t.cl == 1) = false := by simpa using hc1
          by_cases h40 : 40 < es.length
          · have d1 : decide (40 < (es.length : Int)) = true := decide_eq_true (by omega)
            have d2 : decide (40 < es.length) = true := decide_eq_true h40
            clear hP hQ hE hf h0 hv l1 l2 hc1 h40
            obtain ⟨ps, cl, lo, hi⟩ := t
            unfold trV at *
            dsimp only at *
            go_enter Tryz.func3, Tryz.ntmps3
            go_wp2_with fail
            have bT1 := BoxS.new w 26 #[.slice A ps.length c, .int .i64 cl, .int .i64 lo, .int .i64 hi]
            have hB1 : Below w.heap.size w (w.alloc (.cells #[.slice A ps.length c, .int .i64 cl, .int .i64 lo, .int .i64 hi] 26)) := by (repeat' (first | (with_reducible exact Below.refl _ _) | (with_reducible assumption) | (with_reducible refine Below.alloc ?_ ?_ _) | (with_reducible refine Below.drew ?_) | (with_reducible refine Below.setCell ?_ ?_ _) | go_size | (exact (by simp)) | omega))
            generalize World.alloc w _ = w1 at *
            have ct0 : w1.cell? ⟨w.heap.size, 0, none⟩ = some (.slice A ps.length c) := bT1.cell 0 rfl
            have ct1 : w1.cell? ⟨w.heap.size, 1, none⟩ = some (.int .i64 cl) := bT1.cell 1 rfl
            have ct2 : w1.cell? ⟨w.heap.size, 2, none⟩ = some (.int .i64 lo) := bT1.cell 2 rfl
            have ct3 : w1.cell? ⟨w.heap.size, 3, none⟩ = some (.int .i64 hi) := bT1.cell 3 rfl
            have lT1 := bT1.lt
            try go_wp2_with fail
            refine (HFR.out _ hB1).mono ?_
            rintro e w2 ⟨rfl, hb2⟩
            have bT2 := bT1.below hb2
            have hB2 := hB1.trans (hb2.mono hB1.size)
            clear ct0 ct1 ct2 ct3 lT1 bT1 hB1 hb2
            have ct0 : w2.cell? ⟨w.heap.size, 0, none⟩ = some (.slice A ps.length c) := bT2.cell 0 rfl
            have ct1 : w2.cell? ⟨w.heap.size, 1, none⟩ = some (.int .i64 cl) := bT2.cell 1 rfl
            have ct2 : w2.cell? ⟨w.heap.size, 2, none⟩ = some (.int .i64 lo) := bT2.cell 2 rfl
            have ct3 : w2.cell? ⟨w.heap.size, 3, none⟩ = some (.int .i64 hi) := bT2.cell 3 rfl
            have lT2 := bT2.lt
            go_wp2_with fail
            refine (HCK.out _ hB2).mono ?_
            rintro e w3 ⟨rfl, hb3⟩
            have bT3 := bT2.below hb3
            have hB3 := hB2.trans (hb3.mono hB2.size)
            clear ct0 ct1 ct2 ct3 lT2 bT2 hB2 hb3
            have ct0 : w3.cell? ⟨w.heap.size, 0, none⟩ = some (.slice A ps.length c) := bT3.cell 0 rfl
            have ct1 : w3.cell? ⟨w.heap.size, 1, none⟩ = some (.int .i64 cl) := bT3.cell 1 rfl
            have ct2 : w3.cell? ⟨w.heap.size, 2, none⟩ = some (.int .i64 lo) := bT3.cell 2 rfl
            have ct3 : w3.cell? ⟨w.heap.size, 3, none⟩ = some (.int .i64 hi) := bT3.cell 3 rfl
            have lT3 := bT3.lt
            go_wp2_with fail
            refine (HRF.out _ hB3).mono ?_
            rintro e w4 ⟨rfl, hb4⟩
            have bT4 := bT3.below hb4
            have hB4 := hB3.trans (hb4.mono hB3.size)
            clear ct0 ct1 ct2 ct3 lT3 bT3 hB3 hb4
            have ct0 : w4.cell? ⟨w.heap.size, 0, none⟩ = some (.slice A ps.length c) := bT4.cell 0 rfl
            have ct1 : w4.cell? ⟨w.heap.size, 1, none⟩ = some (.int .i64 cl) := bT4.cell 1 rfl
            have ct2 : w4.cell? ⟨w.heap.size, 2, none⟩ = some (.int .i64 lo) := bT4.cell 2 rfl
            have ct3 : w4.cell? ⟨w.heap.size, 3, none⟩ = some (.int .i64 hi) := bT4.cell 3 rfl
            have lT4 := bT4.lt
            go_wp2_with fail
            refine (HWK.out _).mono ?_
            rintro e wz ⟨rfl, hbz⟩
            have hBz := hB4.trans (hbz.mono hB4.size)
            go_wp2_with fail
            go_returns
            exact ⟨rfl, hBz⟩
          · have d1 : decide (40 < (es.length : Int)) = false := decide_eq_false (by omega)
            have d2 : decide (40 < es.length) = false := decide_eq_false h40
            obtain ⟨ht, hw⟩ := Wl.chk_yes.1 h0
            have hw0 : 0 < ws.length := by
              have := hw
              unfold Wl.ptsB inB at this
              simp only [Bool.and_eq_true, decide_eq_true_eq] at this
              omega
            have hcl : t.cl = 0 := (Wl.trkB_cl ht).elim id (fun h => absurd h hc1)
            have HTW : Hid (∀ W, Below w.heap.size w W → Calls Tryz.prog 9 #[.slice Aw ws.length cw] W fun e w' => e = .returned (.tuple #[.int .i64 (Wl.dbl ws), .int .i64 0]) ∧ Below W.heap.size W w') := fun W hW => by
              have := Twice_any Aw cw ws (by omega) W (prs_keep hQ hW)
              have hvb : Geo.validB ws = true := by
                cases hb : Geo.validB ws with
                | true => rfl
                | false => unfold Geo.errV at hv; rw [hb] at hv; exact absurd hv (by decide)
              rw [Geo.whenV_yes hvb, tot_dblZ, hv] at this
              exact this
            have HAE : Hid (∀ W, Below w.heap.size w W → Calls Tryz.prog 11 #[.agg (trV t A c), .slice Aw ws.length cw, .slice Ae es.length ce] W fun e w' => e = .returned (.bool (Wl.elbV t ws es)) ∧ Below W.heap.size W w') := fun W hW => AreElbows5_all t ws es A Aw Ae c cw ce ht hw (by omega) (by omega) W (prs_keep hP hW) (prs_keep hQ hW) (fun h => ((hE h).keep hW).more hW.size)
            have HRO : Hid (∀ W, Below w.heap.size w W → Calls Tryz.prog 10 #[.agg (trV t A c), .slice Aw ws.length cw] W (IntsEPost (if Wl.setE t ws = 0 then [Wl.dbl ws] else []) (Wl.setE t ws) W)) := fun W hW => by
              have := RollsW_any t ws A Aw c cw (by omega) (by omega) W (prs_keep hP hW) (prs_keep hQ hW)
              by_cases hs : Wl.setE t ws = 0
              · rw [if_pos hs, Wl.rolls_open ht hcl hw0 (Wl.setE_yes hs).2] at this
                rw [if_pos hs]
                exact this
              · rw [if_neg hs] at this ⊢
                exact this
            have HSW : Hid (Wl.elbV t ws es = true → ∀ W, Below w.heap.size w W → Calls Tryz.prog 12 #[.agg (trV t A c), .slice Aw ws.length cw, .slice Ae es.length ce] W (TwoPost (Wl.dbl ws) 0 W)) := fun he W hW => by
              have hl := (Wl.elbV_iff.1 he).1
              have := SweepW_any t ws es A Aw Ae c cw ce (by omega) (by omega) (by omega) W (prs_keep hP hW) (prs_keep hQ hW) (((hE (by omega)).keep hW).more hW.size)
              obtain ⟨m1, m2, _⟩ := Wl.meterV ht hw0 he
              rw [Wl.movE_of h0 he, if_pos rfl, m1, m2 hc1, Int.zero_mul, Int.sub_zero] at this
              exact this
            have HSE : (Wl.setE t ws = 0 ∧ Wl.elbV t ws es = Wl.elbV t ws es) ∨ (Wl.setE t ws = 3 ∧ Wl.elbV t ws es = false) := by
              by_cases he : Wl.elbsL t ws = []
              · right
                refine ⟨by unfold Wl.setE; rw [if_pos h0, he]; rfl, ?_⟩
                cases hb : Wl.elbV t ws es with
                | false => rfl
                | true =>
                  have := (Wl.mem_elbsL hw0).2 hb
                  rw [he] at this
                  cases this
              · left
                refine ⟨?_, rfl⟩
                unfold Wl.setE
                rw [if_pos h0]
                cases hg : Wl.elbsL t ws with
                | nil => exact absurd hg he
                | cons x l => rfl
            clear hP hQ hE hf h0 hv l1 l2 hc1 h40 ht hw hw0 hcl
            unfold IntsEPost at HRO
            unfold TwoPost at HSW
            generalize Wl.setE t ws = SE at *
            generalize Wl.elbV t ws es = EE at *
            generalize Wl.dbl ws = DW at *
            obtain ⟨ps, cl, lo, hi⟩ := t
            unfold trV at *
            dsimp only at *
            rcases HSE with ⟨hs, _⟩ | ⟨hs, he⟩
            · subst hs
              rw [if_pos rfl] at HRO
              go_enter Tryz.func3, Tryz.ntmps3
              go_wp2_with fail
              have bT1 := BoxS.new w 26 #[.slice A ps.length c, .int .i64 cl, .int .i64 lo, .int .i64 hi]
              have hB1 : Below w.heap.size w (w.alloc (.cells #[.slice A ps.length c, .int .i64 cl, .int .i64 lo, .int .i64 hi] 26)) := by (repeat' (first | (with_reducible exact Below.refl _ _) | (with_reducible assumption) | (with_reducible refine Below.alloc ?_ ?_ _) | (with_reducible refine Below.drew ?_) | (with_reducible refine Below.setCell ?_ ?_ _) | go_size | (exact (by simp)) | omega))
              generalize World.alloc w _ = w1 at *
              have ct0 : w1.cell? ⟨w.heap.size, 0, none⟩ = some (.slice A ps.length c) := bT1.cell 0 rfl
              have ct1 : w1.cell? ⟨w.heap.size, 1, none⟩ = some (.int .i64 cl) := bT1.cell 1 rfl
              have ct2 : w1.cell? ⟨w.heap.size, 2, none⟩ = some (.int .i64 lo) := bT1.cell 2 rfl
              have ct3 : w1.cell? ⟨w.heap.size, 3, none⟩ = some (.int .i64 hi) := bT1.cell 3 rfl
              have lT1 := bT1.lt
              try go_wp2_with fail
              refine (HFR.out _ hB1).mono ?_
              rintro e w2 ⟨rfl, hb2⟩
              have bT2 := bT1.below hb2
              have hB2 := hB1.trans (hb2.mono hB1.size)
              clear ct0 ct1 ct2 ct3 lT1 bT1 hB1 hb2
              have ct0 : w2.cell? ⟨w.heap.size, 0, none⟩ = some (.slice A ps.length c) := bT2.cell 0 rfl
              have ct1 : w2.cell? ⟨w.heap.size, 1, none⟩ = some (.int .i64 cl) := bT2.cell 1 rfl
              have ct2 : w2.cell? ⟨w.heap.size, 2, none⟩ = some (.int .i64 lo) := bT2.cell 2 rfl
              have ct3 : w2.cell? ⟨w.heap.size, 3, none⟩ = some (.int .i64 hi) := bT2.cell 3 rfl
              have lT2 := bT2.lt
              go_wp2_with fail
              refine (HCK.out _ hB2).mono ?_
              rintro e w3 ⟨rfl, hb3⟩
              have bT3 := bT2.below hb3
              have hB3 := hB2.trans (hb3.mono hB2.size)
              clear ct0 ct1 ct2 ct3 lT2 bT2 hB2 hb3
              have ct0 : w3.cell? ⟨w.heap.size, 0, none⟩ = some (.slice A ps.length c) := bT3.cell 0 rfl
              have ct1 : w3.cell? ⟨w.heap.size, 1, none⟩ = some (.int .i64 cl) := bT3.cell 1 rfl
              have ct2 : w3.cell? ⟨w.heap.size, 2, none⟩ = some (.int .i64 lo) := bT3.cell 2 rfl
              have ct3 : w3.cell? ⟨w.heap.size, 3, none⟩ = some (.int .i64 hi) := bT3.cell 3 rfl
              have lT3 := bT3.lt
              go_wp2_with fail
              refine (HRF.out _ hB3).mono ?_
              rintro e w4 ⟨rfl, hb4⟩
              have bT4 := bT3.below hb4
              have hB4 := hB3.trans (hb4.mono hB3.size)
              clear ct0 ct1 ct2 ct3 lT3 bT3 hB3 hb4
              have ct0 : w4.cell? ⟨w.heap.size, 0, none⟩ = some (.slice A ps.length c) := bT4.cell 0 rfl
              have ct1 : w4.cell? ⟨w.heap.size, 1, none⟩ = some (.int .i64 cl) := bT4.cell 1 rfl
              have ct2 : w4.cell? ⟨w.heap.size, 2, none⟩ = some (.int .i64 lo) := bT4.cell 2 rfl
              have ct3 : w4.cell? ⟨w.heap.size, 3, none⟩ = some (.int .i64 hi) := bT4.cell 3 rfl
              have lT4 := bT4.lt
              go_wp2_with fail
              refine (HTW.out _ hB4).mono ?_
              rintro e w5 ⟨rfl, hb5⟩
              have bT5 := bT4.below hb5
              have hB5 := hB4.trans (hb5.mono hB4.size)
              clear ct0 ct1 ct2 ct3 lT4 bT4 hB4 hb5
              have ct0 : w5.cell? ⟨w.heap.size, 0, none⟩ = some (.slice A ps.length c) := bT5.cell 0 rfl
              have ct1 : w5.cell? ⟨w.heap.size, 1, none⟩ = some (.int .i64 cl) := bT5.cell 1 rfl
              have ct2 : w5.cell? ⟨w.heap.size, 2, none⟩ = some (.int .i64 lo) := bT5.cell 2 rfl
              have ct3 : w5.cell? ⟨w.heap.size, 3, none⟩ = some (.int .i64 hi) := bT5.cell 3 rfl
              have lT5 := bT5.lt
              go_wp2_with fail
              refine (HRO.out _ hB5).mono ?_
              rintro e w6 ⟨v6, rfl, hI6, hb6⟩
              have bT6 := bT5.below hb6
              have hB6 := hB5.trans (hb6.mono hB5.size)
              clear ct0 ct1 ct2 ct3 lT5 bT5 hB5 hb6
              have ct0 : w6.cell? ⟨w.heap.size, 0, none⟩ = some (.slice A ps.length c) := bT6.cell 0 rfl
              have ct1 : w6.cell? ⟨w.heap.size, 1, none⟩ = some (.int .i64 cl) := bT6.cell 1 rfl
              have ct2 : w6.cell? ⟨w.heap.size, 2, none⟩ = some (.int .i64 lo) := bT6.cell 2 rfl
              have ct3 : w6.cell? ⟨w.heap.size, 3, none⟩ = some (.int .i64 hi) := bT6.cell 3 rfl
              have lT6 := bT6.lt
              rcases hI6.out with ⟨_, e⟩ | ⟨br, orr, cR, rfl, hbr, hcr⟩
              · cases e
              have z0 := hcr 0 DW rfl
              clear hcr hI6
              rw [Nat.add_zero] at z0
              have hdw : (DW != DW) = false := by simp
              go_wp2_with fail
              clear z0 hbr
              refine (HAE.out _ hB6).mono ?_
              rintro e w7 ⟨rfl, hb7⟩
              have bT7 := bT6.below hb7
              have hB7 := hB6.trans (hb7.mono hB6.size)
              clear ct0 ct1 ct2 ct3 lT6 bT6 hB6 hb7
              have ct0 : w7.cell? ⟨w.heap.size, 0, none⟩ = some (.slice A ps.length c) := bT7.cell 0 rfl
              have ct1 : w7.cell? ⟨w.heap.size, 1, none⟩ = some (.int .i64 cl) := bT7.cell 1 rfl
              have ct2 : w7.cell? ⟨w.heap.size, 2, none⟩ = some (.int .i64 lo) := bT7.cell 2 rfl
              have ct3 : w7.cell? ⟨w.heap.size, 3, none⟩ = some (.int .i64 hi) := bT7.cell 3 rfl
              have lT7 := bT7.lt
              cases EE with
              | false =>
                go_wp2_with fail
                refine (HWK.out _).mono ?_
                rintro e wz ⟨rfl, hbz⟩
                have hBz := hB7.trans (hbz.mono hB7.size)
                go_wp2_with fail
                go_returns
                exact ⟨rfl, hBz⟩
              | true =>
                have HSW1 := Lib.hid (HSW.out rfl)
                have hde : (DW == DW) = true := by simp
                clear HSW
                go_wp2_with fail
                refine (HSW1.out _ hB7).mono ?_
                rintro e w8 ⟨rfl, hb8⟩
                have bT8 := bT7.below hb8
                have hB8 := hB7.trans (hb8.mono hB7.size)
                clear ct0 ct1 ct2 ct3 lT7 bT7 hB7 hb8
                have ct0 : w8.cell? ⟨w.heap.size, 0, none⟩ = some (.slice A ps.length c) := bT8.cell 0 rfl
                have ct1 : w8.cell? ⟨w.heap.size, 1, none⟩ = some (.int .i64 cl) := bT8.cell 1 rfl
                have ct2 : w8.cell? ⟨w.heap.size, 2, none⟩ = some (.int .i64 lo) := bT8.cell 2 rfl
                have ct3 : w8.cell? ⟨w.heap.size, 3, none⟩ = some (.int .i64 hi) := bT8.cell 3 rfl
                have lT8 := bT8.lt
                go_wp2_with fail
                refine (HWK.out _).mono ?_
                rintro e wz ⟨rfl, hbz⟩
                have hBz := hB8.trans (hbz.mono hB8.size)
                go_wp2_with fail
                go_returns
                exact ⟨rfl, hBz⟩
            · subst hs
              subst he
              rw [if_neg (by decide)] at HRO
              clear HSW
              go_enter Tryz.func3, Tryz.ntmps3
              go_wp2_with fail
              have bT1 := BoxS.new w 26 #[.slice A ps.length c, .int .i64 cl, .int .i64 lo, .int .i64 hi]
              have hB1 : Below w.heap.size w (w.alloc (.cells #[.slice A ps.length c, .int .i64 cl, .int .i64 lo, .int .i64 hi] 26)) := by (repeat' (first | (with_reducible exact Below.refl _ _) | (with_reducible assumption) | (with_reducible refine Below.alloc ?_ ?_ _) | (with_reducible refine Below.drew ?_) | (with_reducible refine Below.setCell ?_ ?_ _) | go_size | (exact (by simp)) | omega))
              generalize World.alloc w _ = w1 at *
              have ct0 : w1.cell? ⟨w.heap.size, 0, none⟩ = some (.slice A ps.length c) := bT1.cell 0 rfl
              have ct1 : w1.cell? ⟨w.heap.size, 1, none⟩ = some (.int .i64 cl) := bT1.cell 1 rfl
              have ct2 : w1.cell? ⟨w.heap.size, 2, none⟩ = some (.int .i64 lo) := bT1.cell 2 rfl
              have ct3 : w1.cell? ⟨w.heap.size, 3, none⟩ = some (.int .i64 hi) := bT1.cell 3 rfl
              have lT1 := bT1.lt
              try go_wp2_with fail
              refine (HFR.out _ hB1).mono ?_
              rintro e w2 ⟨rfl, hb2⟩
              have bT2 := bT1.below hb2
              have hB2 := hB1.trans (hb2.mono hB1.size)
              clear ct0 ct1 ct2 ct3 lT1 bT1 hB1 hb2
              have ct0 : w2.cell? ⟨w.heap.size, 0, none⟩ = some (.slice A ps.length c) := bT2.cell 0 rfl
              have ct1 : w2.cell? ⟨w.heap.size, 1, none⟩ = some (.int .i64 cl) := bT2.cell 1 rfl
              have ct2 : w2.cell? ⟨w.heap.size, 2, none⟩ = some (.int .i64 lo) := bT2.cell 2 rfl
              have ct3 : w2.cell? ⟨w.heap.size, 3, none⟩ = some (.int .i64 hi) := bT2.cell 3 rfl
              have lT2 := bT2.lt
              go_wp2_with fail
              refine (HCK.out _ hB2).mono ?_
              rintro e w3 ⟨rfl, hb3⟩
              have bT3 := bT2.below hb3
              have hB3 := hB2.trans (hb3.mono hB2.size)
              clear ct0 ct1 ct2 ct3 lT2 bT2 hB2 hb3
              have ct0 : w3.cell? ⟨w.heap.size, 0, none⟩ = some (.slice A ps.length c) := bT3.cell 0 rfl
              have ct1 : w3.cell? ⟨w.heap.size, 1, none⟩ = some (.int .i64 cl) := bT3.cell 1 rfl
              have ct2 : w3.cell? ⟨w.heap.size, 2, none⟩ = some (.int .i64 lo) := bT3.cell 2 rfl
              have ct3 : w3.cell? ⟨w.heap.size, 3, none⟩ = some (.int .i64 hi) := bT3.cell 3 rfl
              have lT3 := bT3.lt
              go_wp2_with fail
              refine (HRF.out _ hB3).mono ?_
              rintro e w4 ⟨rfl, hb4⟩
              have bT4 := bT3.below hb4
              have hB4 := hB3.trans (hb4.mono hB3.size)
              clear ct0 ct1 ct2 ct3 lT3 bT3 hB3 hb4
              have ct0 : w4.cell? ⟨w.heap.size, 0, none⟩ = some (.slice A ps.length c) := bT4.cell 0 rfl
              have ct1 : w4.cell? ⟨w.heap.size, 1, none⟩ = some (.int .i64 cl) := bT4.cell 1 rfl
              have ct2 : w4.cell? ⟨w.heap.size, 2, none⟩ = some (.int .i64 lo) := bT4.cell 2 rfl
              have ct3 : w4.cell? ⟨w.heap.size, 3, none⟩ = some (.int .i64 hi) := bT4.cell 3 rfl
              have lT4 := bT4.lt
              go_wp2_with fail
              refine (HTW.out _ hB4).mono ?_
              rintro e w5 ⟨rfl, hb5⟩
              have bT5 := bT4.below hb5
              have hB5 := hB4.trans (hb5.mono hB4.size)
              clear ct0 ct1 ct2 ct3 lT4 bT4 hB4 hb5
              have ct0 : w5.cell? ⟨w.heap.size, 0, none⟩ = some (.slice A ps.length c) := bT5.cell 0 rfl
              have ct1 : w5.cell? ⟨w.heap.size, 1, none⟩ = some (.int .i64 cl) := bT5.cell 1 rfl
              have ct2 : w5.cell? ⟨w.heap.size, 2, none⟩ = some (.int .i64 lo) := bT5.cell 2 rfl
              have ct3 : w5.cell? ⟨w.heap.size, 3, none⟩ = some (.int .i64 hi) := bT5.cell 3 rfl
              have lT5 := bT5.lt
              go_wp2_with fail
              refine (HRO.out _ hB5).mono ?_
              rintro e w6 ⟨v6, rfl, hI6, hb6⟩
              have bT6 := bT5.below hb6
              have hB6 := hB5.trans (hb6.mono hB5.size)
              clear ct0 ct1 ct2 ct3 lT5 bT5 hB5 hb6
              have ct0 : w6.cell? ⟨w.heap.size, 0, none⟩ = some (.slice A ps.length c) := bT6.cell 0 rfl
              have ct1 : w6.cell? ⟨w.heap.size, 1, none⟩ = some (.int .i64 cl) := bT6.cell 1 rfl
              have ct2 : w6.cell? ⟨w.heap.size, 2, none⟩ = some (.int .i64 lo) := bT6.cell 2 rfl
              have ct3 : w6.cell? ⟨w.heap.size, 3, none⟩ = some (.int .i64 hi) := bT6.cell 3 rfl
              have lT6 := bT6.lt
              obtain ⟨AR, cR, rfl⟩ := ints_form hI6.out
              clear hI6
              go_wp2_with fail
              refine (HAE.out _ hB6).mono ?_
              rintro e w7 ⟨rfl, hb7⟩
              have bT7 := bT6.below hb7
              have hB7 := hB6.trans (hb7.mono hB6.size)
              clear ct0 ct1 ct2 ct3 lT6 bT6 hB6 hb7
              have ct0 : w7.cell? ⟨w.heap.size, 0, none⟩ = some (.slice A ps.length c) := bT7.cell 0 rfl
              have ct1 : w7.cell? ⟨w.heap.size, 1, none⟩ = some (.int .i64 cl) := bT7.cell 1 rfl
              have ct2 : w7.cell? ⟨w.heap.size, 2, none⟩ = some (.int .i64 lo) := bT7.cell 2 rfl
              have ct3 : w7.cell? ⟨w.heap.size, 3, none⟩ = some (.int .i64 hi) := bT7.cell 3 rfl
              have lT7 := bT7.lt
              go_wp2_with fail
              refine (HWK.out _).mono ?_
              rintro e wz ⟨rfl, hbz⟩
              have hBz := hB7.trans (hbz.mono hB7.size)
              go_wp2_with fail
              go_returns
              exact ⟨rfl, hBz⟩
      · have hvn : (Geo.errV ws != 0) = true := by simpa using hv
        generalize Geo.errV ws = EV at *
        clear hP hQ hE hf h0 hv l1 l2
        obtain ⟨ps, cl, lo, hi⟩ := t
        unfold trV at *
        dsimp only at *
        go_enter Tryz.func3, Tryz.ntmps3
        go_wp2_with fail
        have bT1 := BoxS.new w 26 #[.slice A ps.length c, .int .i64 cl, .int .i64 lo, .int .i64 hi]
        have hB1 : Below w.heap.size w (w.alloc (.cells #[.slice A ps.length c, .int .i64 cl, .int .i64 lo, .int .i64 hi] 26)) := by (repeat' (first | (with_reducible exact Below.refl _ _) | (with_reducible assumption) | (with_reducible refine Below.alloc ?_ ?_ _) | (with_reducible refine Below.drew ?_) | (with_reducible refine Below.setCell ?_ ?_ _) | go_size | (exact (by simp)) | omega))
        generalize World.alloc w _ = w1 at *
        have ct0 : w1.cell? ⟨w.heap.size, 0, none⟩ = some (.slice A ps.length c) := bT1.cell 0 rfl
        have ct1 : w1.cell? ⟨w.heap.size, 1, none⟩ = some (.int .i64 cl) := bT1.cell 1 rfl
        have ct2 : w1.cell? ⟨w.heap.size, 2, none⟩ = some (.int .i64 lo) := bT1.cell 2 rfl
        have ct3 : w1.cell? ⟨w.heap.size, 3, none⟩ = some (.int .i64 hi) := bT1.cell 3 rfl
        have lT1 := bT1.lt
        try go_wp2_with fail
        refine (HFR.out _ hB1).mono ?_
        rintro e w2 ⟨rfl, hb2⟩
        have bT2 := bT1.below hb2
        have hB2 := hB1.trans (hb2.mono hB1.size)
        clear ct0 ct1 ct2 ct3 lT1 bT1 hB1 hb2
        have ct0 : w2.cell? ⟨w.heap.size, 0, none⟩ = some (.slice A ps.length c) := bT2.cell 0 rfl
        have ct1 : w2.cell? ⟨w.heap.size, 1, none⟩ = some (.int .i64 cl) := bT2.cell 1 rfl
        have ct2 : w2.cell? ⟨w.heap.size, 2, none⟩ = some (.int .i64 lo) := bT2.cell 2 rfl
        have ct3 : w2.cell? ⟨w.heap.size, 3, none⟩ = some (.int .i64 hi) := bT2.cell 3 rfl
        have lT2 := bT2.lt
        go_wp2_with fail
        refine (HCK.out _ hB2).mono ?_
        rintro e w3 ⟨rfl, hb3⟩
        have bT3 := bT2.below hb3
        have hB3 := hB2.trans (hb3.mono hB2.size)
        clear ct0 ct1 ct2 ct3 lT2 bT2 hB2 hb3
        have ct0 : w3.cell? ⟨w.heap.size, 0, none⟩ = some (.slice A ps.length c) := bT3.cell 0 rfl
        have ct1 : w3.cell? ⟨w.heap.size, 1, none⟩ = some (.int .i64 cl) := bT3.cell 1 rfl
        have ct2 : w3.cell? ⟨w.heap.size, 2, none⟩ = some (.int .i64 lo) := bT3.cell 2 rfl
        have ct3 : w3.cell? ⟨w.heap.size, 3, none⟩ = some (.int .i64 hi) := bT3.cell 3 rfl
        have lT3 := bT3.lt
        go_wp2_with fail
        refine (HRF.out _ hB3).mono ?_
        rintro e w4 ⟨rfl, hb4⟩
        have bT4 := bT3.below hb4
        have hB4 := hB3.trans (hb4.mono hB3.size)
        clear ct0 ct1 ct2 ct3 lT3 bT3 hB3 hb4
        have ct0 : w4.cell? ⟨w.heap.size, 0, none⟩ = some (.slice A ps.length c) := bT4.cell 0 rfl
        have ct1 : w4.cell? ⟨w.heap.size, 1, none⟩ = some (.int .i64 cl) := bT4.cell 1 rfl
        have ct2 : w4.cell? ⟨w.heap.size, 2, none⟩ = some (.int .i64 lo) := bT4.cell 2 rfl
        have ct3 : w4.cell? ⟨w.heap.size, 3, none⟩ = some (.int .i64 hi) := bT4.cell 3 rfl
        have lT4 := bT4.lt
        go_wp2_with fail
        refine (HWK.out _).mono ?_
        rintro e wz ⟨rfl, hbz⟩
        have hBz := hB4.trans (hbz.mono hB4.size)
        go_wp2_with fail
        go_returns
        exact ⟨rfl, hBz⟩
    · have h0n : (Wl.chkV t ws != 0) = true := by simpa using h0
      generalize Wl.chkV t ws = CE at *
      clear hP hQ hE hf h0 l1 l2
      obtain ⟨ps, cl, lo, hi⟩ := t
      unfold trV at *
      dsimp only at *
      go_enter Tryz.func3, Tryz.ntmps3
      go_wp2_with fail
      have bT1 := BoxS.new w 26 #[.slice A ps.length c, .int .i64 cl, .int .i64 lo, .int .i64 hi]
      have hB1 : Below w.heap.size w (w.alloc (.cells #[.slice A ps.length c, .int .i64 cl, .int .i64 lo, .int .i64 hi] 26)) := by (repeat' (first | (with_reducible exact Below.refl _ _) | (with_reducible assumption) | (with_reducible refine Below.alloc ?_ ?_ _) | (with_reducible refine Below.drew ?_) | (with_reducible refine Below.setCell ?_ ?_ _) | go_size | (exact (by simp)) | omega))
      generalize World.alloc w _ = w1 at *
      have ct0 : w1.cell? ⟨w.heap.size, 0, none⟩ = some (.slice A ps.length c) := bT1.cell 0 rfl
      have ct1 : w1.cell? ⟨w.heap.size, 1, none⟩ = some (.int .i64 cl) := bT1.cell 1 rfl
      have ct2 : w1.cell? ⟨w.heap.size, 2, none⟩ = some (.int .i64 lo) := bT1.cell 2 rfl
      have ct3 : w1.cell? ⟨w.heap.size, 3, none⟩ = some (.int .i64 hi) := bT1.cell 3 rfl
      have lT1 := bT1.lt
      try go_wp2_with fail
      refine (HFR.out _ hB1).mono ?_
      rintro e w2 ⟨rfl, hb2⟩
      have bT2 := bT1.below hb2
      have hB2 := hB1.trans (hb2.mono hB1.size)
      clear ct0 ct1 ct2 ct3 lT1 bT1 hB1 hb2
      have ct0 : w2.cell? ⟨w.heap.size, 0, none⟩ = some (.slice A ps.length c) := bT2.cell 0 rfl
      have ct1 : w2.cell? ⟨w.heap.size, 1, none⟩ = some (.int .i64 cl) := bT2.cell 1 rfl
      have ct2 : w2.cell? ⟨w.heap.size, 2, none⟩ = some (.int .i64 lo) := bT2.cell 2 rfl
      have ct3 : w2.cell? ⟨w.heap.size, 3, none⟩ = some (.int .i64 hi) := bT2.cell 3 rfl
      have lT2 := bT2.lt
      go_wp2_with fail
      refine (HCK.out _ hB2).mono ?_
      rintro e w3 ⟨rfl, hb3⟩
      have bT3 := bT2.below hb3
      have hB3 := hB2.trans (hb3.mono hB2.size)
      clear ct0 ct1 ct2 ct3 lT2 bT2 hB2 hb3
      have ct0 : w3.cell? ⟨w.heap.size, 0, none⟩ = some (.slice A ps.length c) := bT3.cell 0 rfl
      have ct1 : w3.cell? ⟨w.heap.size, 1, none⟩ = some (.int .i64 cl) := bT3.cell 1 rfl
      have ct2 : w3.cell? ⟨w.heap.size, 2, none⟩ = some (.int .i64 lo) := bT3.cell 2 rfl
      have ct3 : w3.cell? ⟨w.heap.size, 3, none⟩ = some (.int .i64 hi) := bT3.cell 3 rfl
      have lT3 := bT3.lt
      go_wp2_with fail
      refine (HWK.out _).mono ?_
      rintro e wz ⟨rfl, hbz⟩
      have hBz := hB3.trans (hbz.mono hB3.size)
      go_wp2_with fail
      go_returns
      exact ⟨rfl, hBz⟩
theorem lawSwp_walk (t : Wl.Trk) (A : Option Addr) (c : Nat) (Aw : Option Addr) (cw : Nat) (ws : List (Int × Int)) (es : List Int) (Ae : Option Addr) (ce : Nat) (w : World) (_h1 : t.ps.length ≤ maxLen) (hP : Prs w w.heap.size A t.ps) (_h2 : ws.length ≤ maxLen) (hQ : Prs w w.heap.size Aw ws) (_h3 : es.length ≤ maxLen) (hE : 0 < es.length → Ints w w.heap.size (.slice Ae es.length ce) es) :
    Calls Tryz.prog 3 #[.agg (trV t A c), .slice Aw ws.length cw, .slice Ae es.length ce] w fun e w' => e = .returned (.bool true) ∧ Below w.heap.size w w' := TopSweep_all t ws es A Aw Ae c cw ce w hP hQ hE

open Go.ChangeShapes Go.WideShapes Go.ChangeAt Go.RowKit Go.Joins

set_option maxRecDepth 100000 in
theorem topsw_lifted (os : Os) (started : os.Started) (H : Type) (enc : TypeId × Value → H) :
    ReturnsInHanded {} Tryz.checked os 3 .any (Rows.topSweepSpec.pre6 enc Tryz.prog Tryz.f3 Rows.topSweepRow.domain false) (Rows.topSweepSpec.post enc Tryz.prog Tryz.f3 false true false false) := by
  refine returnsInHanded_of_change (C := Tryz.checked) own started (by kernel_rfl) Tryz.func3
    (ChangeSpec.witness6 (enc := enc) (C := Tryz.checked) false ⟨#[], #[.agg #[.slice none 0 0, .int .i64 0, .int .i64 0, .int .i64 0], .slice none 0 0, .slice none 0 0], []⟩ 8 (by kernel_rfl) (by kernel_rfl) (by kernel_rfl) (by kernel_rfl)) ?_
  intro W base args ds gs before hval0 hW hcnd _
  have hval : ∀ (j : Nat) t v, Tryz.f3.params[j]? = some t → args[j]? = some v → Value.okWide Tryz.prog W .any base t v := hval0
  have hW' := hW
  obtain ⟨p, q, hA0, hV, rfl, hfz, hnd⟩ := hW
  have hA : DataW.TrodAll enc Tryz.prog W 0 (fun _ => true) true Tryz.f3.params.toList args.toList ds p := hA0
  rw [Tryz.params3] at hA hval
  obtain ⟨v0, v1, v2, d0, d1, d2, p0, p1, p2, rfl, rfl, rfl, h0, h1, h2⟩ := trodAll_three hA
  obtain ⟨rfl, rfl⟩ := trodVars_none hV
  obtain ⟨t, A, c, rfl, hg_t, hl_t⟩ := open_Track (hval 0 26 v0 rfl rfl) h0
  obtain ⟨Aw, cw, ws, rfl, hg_ws, hl_ws⟩ := open_prs Tryz.underlying22 Tryz.underlying53 (by kernel_rfl) (by kernel_rfl) (by kernel_rfl) (by kernel_rfl) (by kernel_rfl) Tryz.underlying3 Tryz.underlying3 (hval 1 22 v1 rfl rfl) h1
  obtain ⟨Ae, ce, es, rfl, hg_Ae, hl_Ae⟩ := open_Ints5 (hval 2 27 v2 rfl rfl) h2
  refine (lawSwp_walk t A c Aw cw ws es Ae ce W hl_t hg_t hl_ws hg_ws hl_Ae hg_Ae).mono fun e W' ⟨he, hb⟩ => ?_
  subst he
  exact ⟨_, rfl, law_post hW' rfl rfl (by intro t ht; have : t = 26 ∨ t = 22 ∨ t = 27 := (by rw [Tryz.params3] at ht; simpa using ht); rcases this with rfl | rfl | rfl <;> exact ⟨by kernel_rfl, of_decide_eq_true (by kernel_rfl)⟩) rfl rfl rfl hb⟩

theorem topsw_holds : Rows.TopSweepSaid :=
  OpenClaim.holds_of_wide 3 Tryz.f3 rfl rfl rfl rfl rfl rfl rfl ⟨rfl, rfl, rfl, rfl, rfl⟩ rfl rfl rfl rfl rfl (by kernel_rfl) Tryz.func3 (by kernel_rfl)
    (of_decide_eq_true (by kernel_rfl)) (by unfold Func.isWrapper; rw [if_neg (of_decide_eq_false (by kernel_rfl))]; exact ⟨rfl, rfl⟩)
    (fun os started H enc _ => topsw_lifted os started H enc)
end Go.Proofs.YtmjcdggmofohcaaGreat
