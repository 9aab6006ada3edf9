/- Walks: whether a law leaves tracks and walks alone. -/
import Derived.Test.YtmjcdggmofohcaaWlM
namespace Go.Proofs.Ytmjcdggmofohcaa
open Go.RowKit
namespace Wl
def farB (t : Trk) (ws : List Pt) : Bool := decide (40 < t.ps.length) || decide (40 < ws.length) || (decide (chkV t ws = 0) && (decide (5 < t.ps.length) || decide (5 < ws.length)))
def readyB (t : Trk) (ws : List Pt) : Bool := !farB t ws && decide (chkV t ws = 0)
end Wl
set_option maxRecDepth 100000 in
set_option maxHeartbeats 8000000 in
theorem Far5_any (t : Wl.Trk) (ws : List Wl.Pt) (A Aw : Option Addr) (c cw : Nat) (w : World) (hP : Prs w w.heap.size A t.ps) (hQ : Prs w w.heap.size Aw ws) :
    Calls Try.prog 28 #[.agg (trV t A c), .slice Aw ws.length cw] w fun e w' => e = .returned (.bool (Wl.farB t ws)) ∧ Below w.heap.size w w' := by
  by_cases h1 : 40 < t.ps.length
  · have HR : Wl.farB t ws = true := by unfold Wl.farB; simp [h1]
    rw [HR]
    clear HR hP hQ
    obtain ⟨ps, cl, lo, hi⟩ := t
    unfold trV
    dsimp only at *
    have d1 : decide (40 < (ps.length : Int)) = true := decide_eq_true (by omega)
    have d2 : decide (40 < ps.length) = true := decide_eq_true h1
    go_enter Try.func28, Try.ntmps28
    go_wp2_with fail
    go_returns
    exact ⟨rfl, by (repeat' (first | (with_reducible exact Below.refl _ _) | (with_reducible assumption) | (with_reducible refine Below.alloc ?_ ?_ _) | (with_reducible refine Below.drew ?_) | (with_reducible refine Below.setCell ?_ ?_ _) | go_size | (exact (by simp)) | omega))⟩
  · by_cases h2 : 40 < ws.length
    · have HR : Wl.farB t ws = true := by unfold Wl.farB; simp [h2]
      rw [HR]
      clear HR hP hQ
      obtain ⟨ps, cl, lo, hi⟩ := t
      unfold trV
      dsimp only at *
      have d1 : decide (40 < (ps.length : Int)) = false := decide_eq_false (by omega)
      have d2 : decide (40 < ps.length) = false := decide_eq_false h1
      have d3 : decide (40 < (ws.length : Int)) = true := decide_eq_true (by omega)
      have d4 : decide (40 < ws.length) = true := decide_eq_true h2
      go_enter Try.func28, Try.ntmps28
      go_wp2_with fail
      go_returns
      exact ⟨rfl, by (repeat' (first | (with_reducible exact Below.refl _ _) | (with_reducible assumption) | (with_reducible refine Below.alloc ?_ ?_ _) | (with_reducible refine Below.drew ?_) | (with_reducible refine Below.setCell ?_ ?_ _) | go_size | (exact (by simp)) | omega))⟩
    · have HC : Hid (∀ W, Below w.heap.size w W → Calls Try.prog 15 #[.agg (trV t A c), .slice Aw ws.length cw] W (ErrPost (Wl.chkV t ws) W)) := fun W hW => Check5_any t ws A Aw c cw (by omega) (by omega) W (prs_keep hP hW) (prs_keep hQ hW)
      have HR : Hid (Wl.farB t ws = (decide (Wl.chkV t ws = 0) && (decide (5 < t.ps.length) || decide (5 < ws.length)))) := by
        unfold Hid Wl.farB
        simp [h1, h2]
      clear hP hQ
      unfold ErrPost at HC
      generalize Wl.farB t ws = FB at *
      generalize Wl.chkV t ws = CE at *
      obtain ⟨ps, cl, lo, hi⟩ := t
      unfold trV at *
      dsimp only at *
      have d1 : decide (40 < (ps.length : Int)) = false := decide_eq_false (by omega)
      have d2 : decide (40 < ps.length) = false := decide_eq_false h1
      have d3 : decide (40 < (ws.length : Int)) = false := decide_eq_false (by omega)
      have d4 : decide (40 < ws.length) = false := decide_eq_false h2
      by_cases h0 : CE = 0
      · subst h0
        by_cases h5 : 5 < ps.length
        · have HF : Hid (FB = true) := by unfold Hid; rw [HR.out]; simp [h5]
          have e1 : decide (5 < (ps.length : Int)) = true := decide_eq_true (by omega)
          have e2 : decide (5 < ps.length) = true := decide_eq_true h5
          clear HR
          go_enter Try.func28, Try.ntmps28
          go_wp2_with fail
          have bT := BoxS.new w 26 #[.slice A ps.length c, .int .i64 cl, .int .i64 lo, .int .i64 hi]
          have hB1 : Below w.heap.size w (w.alloc (.cells #[.slice A ps.length c, .int .i64 cl, .int .i64 lo, .int .i64 hi] 26)) := by (repeat' (first | (with_reducible exact Below.refl _ _) | (with_reducible assumption) | (with_reducible refine Below.alloc ?_ ?_ _) | (with_reducible refine Below.drew ?_) | (with_reducible refine Below.setCell ?_ ?_ _) | go_size | (exact (by simp)) | omega))
          generalize World.alloc w _ = w1 at *
          have t0 := bT.cell 0 rfl
          have t1 := bT.cell 1 rfl
          have t2 := bT.cell 2 rfl
          have t3 := bT.cell 3 rfl
          have lT := bT.lt
          try go_wp2_with fail
          refine (HC.out _ hB1).mono ?_
          rintro e w2 ⟨rfl, hb2⟩
          have hB2 := hB1.trans (hb2.mono hB1.size)
          have bT2 := bT.below hb2
          clear t0 t1 t2 t3 lT
          have t0 := bT2.cell 0 rfl
          have lT := bT2.lt
          go_wp2_with fail
          go_returns
          exact ⟨by rw [HF.out]; rfl, hB2⟩
        · have e1 : decide (5 < (ps.length : Int)) = false := decide_eq_false (by omega)
          have e2 : decide (5 < ps.length) = false := decide_eq_false h5
          by_cases h6 : 5 < ws.length
          · have HF : Hid (FB = true) := by unfold Hid; rw [HR.out]; simp [h6]
            have e3 : decide (5 < (ws.length : Int)) = true := decide_eq_true (by omega)
            have e4 : decide (5 < ws.length) = true := decide_eq_true h6
            clear HR
            go_enter Try.func28, Try.ntmps28
            go_wp2_with fail
            have bT := BoxS.new w 26 #[.slice A ps.length c, .int .i64 cl, .int .i64 lo, .int .i64 hi]
            have hB1 : Below w.heap.size w (w.alloc (.cells #[.slice A ps.length c, .int .i64 cl, .int .i64 lo, .int .i64 hi] 26)) := by (repeat' (first | (with_reducible exact Below.refl _ _) | (with_reducible assumption) | (with_reducible refine Below.alloc ?_ ?_ _) | (with_reducible refine Below.drew ?_) | (with_reducible refine Below.setCell ?_ ?_ _) | go_size | (exact (by simp)) | omega))
            generalize World.alloc w _ = w1 at *
            have t0 := bT.cell 0 rfl
            have t1 := bT.cell 1 rfl
            have t2 := bT.cell 2 rfl
            have t3 := bT.cell 3 rfl
            have lT := bT.lt
            try go_wp2_with fail
            refine (HC.out _ hB1).mono ?_
            rintro e w2 ⟨rfl, hb2⟩
            have hB2 := hB1.trans (hb2.mono hB1.size)
            have bT2 := bT.below hb2
            clear t0 t1 t2 t3 lT
            have t0 := bT2.cell 0 rfl
            have lT := bT2.lt
            go_wp2_with fail
            go_returns
            exact ⟨by rw [HF.out]; rfl, hB2⟩
          · have HF : Hid (FB = false) := by unfold Hid; rw [HR.out]; simp [h5, h6]
            have e3 : decide (5 < (ws.length : Int)) = false := decide_eq_false (by omega)
            have e4 : decide (5 < ws.length) = false := decide_eq_false h6
            clear HR
            go_enter Try.func28, Try.ntmps28
            go_wp2_with fail
            have bT := BoxS.new w 26 #[.slice A ps.length c, .int .i64 cl, .int .i64 lo, .int .i64 hi]
            have hB1 : Below w.heap.size w (w.alloc (.cells #[.slice A ps.length c, .int .i64 cl, .int .i64 lo, .int .i64 hi] 26)) := by (repeat' (first | (with_reducible exact Below.refl _ _) | (with_reducible assumption) | (with_reducible refine Below.alloc ?_ ?_ _) | (with_reducible refine Below.drew ?_) | (with_reducible refine Below.setCell ?_ ?_ _) | go_size | (exact (by simp)) | omega))
            generalize World.alloc w _ = w1 at *
            have t0 := bT.cell 0 rfl
            have t1 := bT.cell 1 rfl
            have t2 := bT.cell 2 rfl
            have t3 := bT.cell 3 rfl
            have lT := bT.lt
            try go_wp2_with fail
            refine (HC.out _ hB1).mono ?_
            rintro e w2 ⟨rfl, hb2⟩
            have hB2 := hB1.trans (hb2.mono hB1.size)
            have bT2 := bT.below hb2
            clear t0 t1 t2 t3 lT
            have t0 := bT2.cell 0 rfl
            have lT := bT2.lt
            go_wp2_with fail
            go_returns
            exact ⟨by rw [HF.out]; rfl, hB2⟩
      · have HF : Hid (FB = false) := by unfold Hid; rw [HR.out]; simp [h0]
        have hce : (CE == 0) = false := by simpa using h0
        clear HR
        go_enter Try.func28, Try.ntmps28
        go_wp2_with fail
        have bT := BoxS.new w 26 #[.slice A ps.length c, .int .i64 cl, .int .i64 lo, .int .i64 hi]
        have hB1 : Below w.heap.size w (w.alloc (.cells #[.slice A ps.length c, .int .i64 cl, .int .i64 lo, .int .i64 hi] 26)) := by (repeat' (first | (with_reducible exact Below.refl _ _) | (with_reducible assumption) | (with_reducible refine Below.alloc ?_ ?_ _) | (with_reducible refine Below.drew ?_) | (with_reducible refine Below.setCell ?_ ?_ _) | go_size | (exact (by simp)) | omega))
        generalize World.alloc w _ = w1 at *
        have t0 := bT.cell 0 rfl
        have t1 := bT.cell 1 rfl
        have t2 := bT.cell 2 rfl
        have t3 := bT.cell 3 rfl
        have lT := bT.lt
        try go_wp2_with fail
        refine (HC.out _ hB1).mono ?_
        rintro e w2 ⟨rfl, hb2⟩
        have hB2 := hB1.trans (hb2.mono hB1.size)
        have bT2 := bT.below hb2
        clear t0 t1 t2 t3 lT
        have t0 := bT2.cell 0 rfl
        have lT := bT2.lt
        go_wp2_with fail
        go_returns
        exact ⟨by rw [HF.out]; rfl, hB2⟩
end Go.Proofs.Ytmjcdggmofohcaa
