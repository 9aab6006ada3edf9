/- Walks: the law WalksMeter (P5.10). -/
import Derived.Test.YtmjcdggmofohcaaOpW
import Derived.Test.YtmjcdggmofohcaaWk5
import Derived.Test.YtmjcdggmofohcaaFar5
import Derived.Test.YtmjcdggmofohcaaKnow5
namespace Go.Proofs.Ytmjcdggmofohcaa
open Go.RowKit
namespace Wl
theorem dblTo_bd {ps : List Pt} (h : ∀ k, k < ps.length → Geo.sm (ptAt ps k)) (h0 : 0 < ps.length) : ∀ k : Nat, k ≤ ps.length → -(2000000 * (k : Int)) ≤ dblTo ps k ∧ dblTo ps k ≤ 2000000 * (k : Int)
  | 0, _ => by simp [dblTo]
  | k + 1, hk => by
    have ih := dblTo_bd h h0 k (by omega)
    have hc := cr_bd (h k (by omega)) (h ((k + 1) % ps.length) (Nat.mod_lt _ h0))
    show -(2000000 * ((k + 1 : Nat) : Int)) ≤ dblTo ps k + cr _ _ ∧ dblTo ps k + cr _ _ ≤ 2000000 * ((k + 1 : Nat) : Int)
    omega
theorem dbl_bd {ps : List Pt} (h : ptsB ps = true) : -16000000 ≤ dbl ps ∧ dbl ps ≤ 16000000 := by
  have h8 := (pts_all h).2
  have h0 : 0 < ps.length := by
    unfold ptsB inB at h
    simp only [Bool.and_eq_true, decide_eq_true_eq] at h
    omega
  have := dblTo_bd (fun k hk => pts_sm h hk) h0 ps.length (Nat.le_refl _)
  unfold dbl
  omega
theorem movE_of {t : Trk} {ws : List Pt} {es : List Int} (h : chkV t ws = 0) (he : elbV t ws es = true) : movE t ws es = 0 := by unfold movE; rw [if_pos h, if_pos he]
end Wl
set_option maxRecDepth 100000 in
set_option maxHeartbeats 4000000 in
theorem AreElbows5_nil (t : Wl.Trk) (ws : List Wl.Pt) (A Aw Ae : Option Addr) (c cw ce : Nat) (hw0 : 0 < ws.length) (w : World) :
    Calls Try.prog 36 #[.agg (trV t A c), .slice Aw ws.length cw, .slice Ae 0 ce] w fun e w' => e = .returned (.bool false) ∧ Below w.heap.size w w' := by
  obtain ⟨ps, cl, lo, hi⟩ := t
  unfold trV at *
  dsimp only at *
  have hlb : ((0 : Int) != (ws.length : Int)) = true := by simp; omega
  go_enter Try.func36, Try.ntmps36
  go_wp2_with fail
  go_returns
  exact ⟨rfl, by (repeat' (first | (with_reducible exact Below.refl _ _) | (with_reducible assumption) | (with_reducible refine Below.alloc ?_ ?_ _) | (with_reducible refine Below.drew ?_) | (with_reducible refine Below.setCell ?_ ?_ _) | go_size | (exact (by simp)) | omega))⟩
theorem AreElbows5_all (t : Wl.Trk) (ws : List Wl.Pt) (es : List Int) (A Aw Ae : Option Addr) (c cw ce : Nat) (ht : Wl.trkB t = true) (hw : Wl.ptsB ws = true) (hle : es.length ≤ 1000000000) (hlw : ws.length ≤ 1000000000) (w : World) (hP : Prs w w.heap.size A t.ps) (hQ : Prs w w.heap.size Aw ws) (hE : 0 < es.length → Ints w w.heap.size (.slice Ae es.length ce) es) :
    Calls Try.prog 36 #[.agg (trV t A c), .slice Aw ws.length cw, .slice Ae es.length ce] w fun e w' => e = .returned (.bool (Wl.elbV t ws es)) ∧ Below w.heap.size w w' := by
  match es, hE, hle with
  | [], _, _ =>
    have h0 : 0 < ws.length := by
      unfold Wl.ptsB inB at hw
      simp only [Bool.and_eq_true, decide_eq_true_eq] at hw
      omega
    have e : Wl.elbV t ws [] = false := by
      unfold Wl.elbV
      have : decide (([] : List Int).length = ws.length) = false := decide_eq_false (by simp; omega)
      rw [this, Bool.false_and]
    rw [e]
    exact AreElbows5_nil t ws A Aw Ae c cw ce h0 w
  | x :: es, hE, hle => exact AreElbows5_any t ws (x :: es) A Aw Ae c cw ce ht hw hle hlw w hP hQ (hE (by simp))
set_option maxRecDepth 100000 in
set_option maxHeartbeats 8000000 in
theorem Meter_early (t : Wl.Trk) (ws : List Wl.Pt) (es fs : List Int) (A Aw Ae Af : Option Addr) (c cw ce cf : Nat) (w : World) (h : 40 < t.ps.length ∨ 40 < ws.length ∨ 40 < es.length ∨ 40 < fs.length) :
    Calls Try.prog 6 #[.agg (trV t A c), .slice Aw ws.length cw, .agg #[.slice Ae es.length ce, .slice Af fs.length cf]] w fun e w' => e = .returned (.bool true) ∧ Below w.heap.size w w' := by
  have HWK : Hid (∀ W, Calls Try.prog 12 #[] W fun e w' => e = .returned (.bool true) ∧ Below W.heap.size W w') := works5_any
  obtain ⟨ps, cl, lo, hi⟩ := t
  unfold trV at *
  dsimp only at *
  by_cases h1 : 40 < ps.length
  · skip
    have da1 : decide (40 < (ps.length : Int)) = true := decide_eq_true (by omega)
    have da2 : decide (40 < ps.length) = true := decide_eq_true (by omega)
    clear h
    go_enter Try.func6, Try.ntmps6
    go_wp2_with fail
    have bT1 := (BoxS.new w 26 #[.slice A ps.length c, .int .i64 cl, .int .i64 lo, .int .i64 hi]).alloc (.cells #[.slice Ae es.length ce, .slice Af fs.length cf] 48)
    have bX1 := BoxS.new (w.alloc (.cells #[.slice A ps.length c, .int .i64 cl, .int .i64 lo, .int .i64 hi] 26)) 48 #[.slice Ae es.length ce, .slice Af fs.length cf]
    rw [World.size_alloc] at bX1
    have hB1 : Below w.heap.size w ((w.alloc (.cells #[.slice A ps.length c, .int .i64 cl, .int .i64 lo, .int .i64 hi] 26)).alloc (.cells #[.slice Ae es.length ce, .slice Af fs.length cf] 48)) := by (repeat' (first | (with_reducible exact Below.refl _ _) | (with_reducible assumption) | (with_reducible refine Below.alloc ?_ ?_ _) | (with_reducible refine Below.drew ?_) | (with_reducible refine Below.setCell ?_ ?_ _) | go_size | (exact (by simp)) | omega))
    generalize World.alloc (World.alloc w _) _ = w1 at *
    have ct0 : w1.cell? ⟨w.heap.size, 0, none⟩ = some (.slice A ps.length c) := bT1.cell 0 rfl
    have ct1 : w1.cell? ⟨w.heap.size, 1, none⟩ = some (.int .i64 cl) := bT1.cell 1 rfl
    have ct2 : w1.cell? ⟨w.heap.size, 2, none⟩ = some (.int .i64 lo) := bT1.cell 2 rfl
    have ct3 : w1.cell? ⟨w.heap.size, 3, none⟩ = some (.int .i64 hi) := bT1.cell 3 rfl
    have lT1 := bT1.lt
    have cx0 : w1.cell? ⟨w.heap.size + 1, 0, none⟩ = some (.slice Ae es.length ce) := bX1.cell 0 rfl
    have cx1 : w1.cell? ⟨w.heap.size + 1, 1, none⟩ = some (.slice Af fs.length cf) := bX1.cell 1 rfl
    have lX1 := bX1.lt
    try go_wp2_with fail
    refine (HWK.out _).mono ?_
    rintro e wz ⟨rfl, hbz⟩
    have hBz := hB1.trans (hbz.mono hB1.size)
    go_wp2_with fail
    go_returns
    exact ⟨rfl, hBz⟩
  · skip
    have da1 : decide (40 < (ps.length : Int)) = false := decide_eq_false (by omega)
    have da2 : decide (40 < ps.length) = false := decide_eq_false (by omega)
    by_cases h2 : 40 < ws.length
    · skip
      have db1 : decide (40 < (ws.length : Int)) = true := decide_eq_true (by omega)
      have db2 : decide (40 < ws.length) = true := decide_eq_true (by omega)
      clear h
      go_enter Try.func6, Try.ntmps6
      go_wp2_with fail
      have bT1 := (BoxS.new w 26 #[.slice A ps.length c, .int .i64 cl, .int .i64 lo, .int .i64 hi]).alloc (.cells #[.slice Ae es.length ce, .slice Af fs.length cf] 48)
      have bX1 := BoxS.new (w.alloc (.cells #[.slice A ps.length c, .int .i64 cl, .int .i64 lo, .int .i64 hi] 26)) 48 #[.slice Ae es.length ce, .slice Af fs.length cf]
      rw [World.size_alloc] at bX1
      have hB1 : Below w.heap.size w ((w.alloc (.cells #[.slice A ps.length c, .int .i64 cl, .int .i64 lo, .int .i64 hi] 26)).alloc (.cells #[.slice Ae es.length ce, .slice Af fs.length cf] 48)) := by (repeat' (first | (with_reducible exact Below.refl _ _) | (with_reducible assumption) | (with_reducible refine Below.alloc ?_ ?_ _) | (with_reducible refine Below.drew ?_) | (with_reducible refine Below.setCell ?_ ?_ _) | go_size | (exact (by simp)) | omega))
      generalize World.alloc (World.alloc w _) _ = w1 at *
      have ct0 : w1.cell? ⟨w.heap.size, 0, none⟩ = some (.slice A ps.length c) := bT1.cell 0 rfl
      have ct1 : w1.cell? ⟨w.heap.size, 1, none⟩ = some (.int .i64 cl) := bT1.cell 1 rfl
      have ct2 : w1.cell? ⟨w.heap.size, 2, none⟩ = some (.int .i64 lo) := bT1.cell 2 rfl
      have ct3 : w1.cell? ⟨w.heap.size, 3, none⟩ = some (.int .i64 hi) := bT1.cell 3 rfl
      have lT1 := bT1.lt
      have cx0 : w1.cell? ⟨w.heap.size + 1, 0, none⟩ = some (.slice Ae es.length ce) := bX1.cell 0 rfl
      have cx1 : w1.cell? ⟨w.heap.size + 1, 1, none⟩ = some (.slice Af fs.length cf) := bX1.cell 1 rfl
      have lX1 := bX1.lt
      try go_wp2_with fail
      refine (HWK.out _).mono ?_
      rintro e wz ⟨rfl, hbz⟩
      have hBz := hB1.trans (hbz.mono hB1.size)
      go_wp2_with fail
      go_returns
      exact ⟨rfl, hBz⟩
    · skip
      have db1 : decide (40 < (ws.length : Int)) = false := decide_eq_false (by omega)
      have db2 : decide (40 < ws.length) = false := decide_eq_false (by omega)
      by_cases h3 : 40 < es.length
      · skip
        have de1 : decide (40 < (es.length : Int)) = true := decide_eq_true (by omega)
        have de2 : decide (40 < es.length) = true := decide_eq_true (by omega)
        clear h
        go_enter Try.func6, Try.ntmps6
        go_wp2_with fail
        have bT1 := (BoxS.new w 26 #[.slice A ps.length c, .int .i64 cl, .int .i64 lo, .int .i64 hi]).alloc (.cells #[.slice Ae es.length ce, .slice Af fs.length cf] 48)
        have bX1 := BoxS.new (w.alloc (.cells #[.slice A ps.length c, .int .i64 cl, .int .i64 lo, .int .i64 hi] 26)) 48 #[.slice Ae es.length ce, .slice Af fs.length cf]
        rw [World.size_alloc] at bX1
        have hB1 : Below w.heap.size w ((w.alloc (.cells #[.slice A ps.length c, .int .i64 cl, .int .i64 lo, .int .i64 hi] 26)).alloc (.cells #[.slice Ae es.length ce, .slice Af fs.length cf] 48)) := by (repeat' (first | (with_reducible exact Below.refl _ _) | (with_reducible assumption) | (with_reducible refine Below.alloc ?_ ?_ _) | (with_reducible refine Below.drew ?_) | (with_reducible refine Below.setCell ?_ ?_ _) | go_size | (exact (by simp)) | omega))
        generalize World.alloc (World.alloc w _) _ = w1 at *
        have ct0 : w1.cell? ⟨w.heap.size, 0, none⟩ = some (.slice A ps.length c) := bT1.cell 0 rfl
        have ct1 : w1.cell? ⟨w.heap.size, 1, none⟩ = some (.int .i64 cl) := bT1.cell 1 rfl
        have ct2 : w1.cell? ⟨w.heap.size, 2, none⟩ = some (.int .i64 lo) := bT1.cell 2 rfl
        have ct3 : w1.cell? ⟨w.heap.size, 3, none⟩ = some (.int .i64 hi) := bT1.cell 3 rfl
        have lT1 := bT1.lt
        have cx0 : w1.cell? ⟨w.heap.size + 1, 0, none⟩ = some (.slice Ae es.length ce) := bX1.cell 0 rfl
        have cx1 : w1.cell? ⟨w.heap.size + 1, 1, none⟩ = some (.slice Af fs.length cf) := bX1.cell 1 rfl
        have lX1 := bX1.lt
        try go_wp2_with fail
        refine (HWK.out _).mono ?_
        rintro e wz ⟨rfl, hbz⟩
        have hBz := hB1.trans (hbz.mono hB1.size)
        go_wp2_with fail
        go_returns
        exact ⟨rfl, hBz⟩
      · skip
        have de1 : decide (40 < (es.length : Int)) = false := decide_eq_false (by omega)
        have de2 : decide (40 < es.length) = false := decide_eq_false (by omega)
        have h4 : 40 < fs.length := by omega
        have df1 : decide (40 < (fs.length : Int)) = true := decide_eq_true (by omega)
        have df2 : decide (40 < fs.length) = true := decide_eq_true (by omega)
        clear h
        go_enter Try.func6, Try.ntmps6
        go_wp2_with fail
        have bT1 := (BoxS.new w 26 #[.slice A ps.length c, .int .i64 cl, .int .i64 lo, .int .i64 hi]).alloc (.cells #[.slice Ae es.length ce, .slice Af fs.length cf] 48)
        have bX1 := BoxS.new (w.alloc (.cells #[.slice A ps.length c, .int .i64 cl, .int .i64 lo, .int .i64 hi] 26)) 48 #[.slice Ae es.length ce, .slice Af fs.length cf]
        rw [World.size_alloc] at bX1
        have hB1 : Below w.heap.size w ((w.alloc (.cells #[.slice A ps.length c, .int .i64 cl, .int .i64 lo, .int .i64 hi] 26)).alloc (.cells #[.slice Ae es.length ce, .slice Af fs.length cf] 48)) := by (repeat' (first | (with_reducible exact Below.refl _ _) | (with_reducible assumption) | (with_reducible refine Below.alloc ?_ ?_ _) | (with_reducible refine Below.drew ?_) | (with_reducible refine Below.setCell ?_ ?_ _) | go_size | (exact (by simp)) | omega))
        generalize World.alloc (World.alloc w _) _ = w1 at *
        have ct0 : w1.cell? ⟨w.heap.size, 0, none⟩ = some (.slice A ps.length c) := bT1.cell 0 rfl
        have ct1 : w1.cell? ⟨w.heap.size, 1, none⟩ = some (.int .i64 cl) := bT1.cell 1 rfl
        have ct2 : w1.cell? ⟨w.heap.size, 2, none⟩ = some (.int .i64 lo) := bT1.cell 2 rfl
        have ct3 : w1.cell? ⟨w.heap.size, 3, none⟩ = some (.int .i64 hi) := bT1.cell 3 rfl
        have lT1 := bT1.lt
        have cx0 : w1.cell? ⟨w.heap.size + 1, 0, none⟩ = some (.slice Ae es.length ce) := bX1.cell 0 rfl
        have cx1 : w1.cell? ⟨w.heap.size + 1, 1, none⟩ = some (.slice Af fs.length cf) := bX1.cell 1 rfl
        have lX1 := bX1.lt
        try go_wp2_with fail
        refine (HWK.out _).mono ?_
        rintro e wz ⟨rfl, hbz⟩
        have hBz := hB1.trans (hbz.mono hB1.size)
        go_wp2_with fail
        go_returns
        exact ⟨rfl, hBz⟩
theorem ints_one (x : Int) (W : World) : Hid (Ints (W.alloc (.cells #[.int .i64 x] 3)) (W.alloc (.cells #[.int .i64 x] 3)).heap.size (.slice (some ⟨W.heap.size, 0, none⟩) 1 1) [x]) := by
  have hb := BoxS.new W 3 #[.int .i64 x]
  refine .inr ⟨W.heap.size, 0, 1, rfl, hb.lt, fun k y hk => ?_⟩
  rw [Nat.zero_add]
  match k, hk with
  | 0, hk => obtain rfl : x = y := by simpa using hk
             exact hb.cell 0 rfl
  | k + 1, hk => simp at hk
set_option maxRecDepth 100000 in
set_option maxHeartbeats 16000000 in
theorem Meter_short (t : Wl.Trk) (ws : List Wl.Pt) (es fs : List Int) (A Aw Ae Af : Option Addr) (c cw ce cf : Nat) (w : World) (hP : Prs w w.heap.size A t.ps) (hQ : Prs w w.heap.size Aw ws) (hE : 0 < es.length → Ints w w.heap.size (.slice Ae es.length ce) es) (hF : 0 < fs.length → Ints w w.heap.size (.slice Af fs.length cf) fs) (h1 : t.ps.length ≤ 40) (h2 : ws.length ≤ 40) (h3 : es.length ≤ 40) (h4 : fs.length ≤ 40) :
    Calls Try.prog 6 #[.agg (trV t A c), .slice Aw ws.length cw, .agg #[.slice Ae es.length ce, .slice Af fs.length cf]] w fun e w' => e = .returned (.bool true) ∧ Below w.heap.size w w' := by
  have HWK : Hid (∀ W, Calls Try.prog 12 #[] W fun e w' => e = .returned (.bool true) ∧ Below W.heap.size W w') := works5_any
  have HCK : Hid (∀ W, Below w.heap.size w W → Calls Try.prog 15 #[.agg (trV t A c), .slice Aw ws.length cw] W (ErrPost (Wl.chkV t ws) W)) := fun W hW => Check5_any t ws A Aw c cw (by omega) (by omega) W (prs_keep hP hW) (prs_keep hQ hW)
  unfold ErrPost at HCK
  by_cases h0 : Wl.chkV t ws = 0
  · obtain ⟨ht, hw⟩ := Wl.chk_yes.1 h0
    have hpt := (Wl.trk_parts ht).1
    have hw0 : 0 < ws.length := by
      have := hw
      unfold Wl.ptsB inB at this
      simp only [Bool.and_eq_true, decide_eq_true_eq] at this
      omega
    rw [h0] at HCK
    have HAW : Hid (∀ W, Below w.heap.size w W → Calls Try.prog 16 #[.slice Aw ws.length cw] W (TwoPost (Wl.dbl ws) 0 W)) := fun W hW => by
      have := AreaW_any Aw cw ws (by omega) W (prs_keep hQ hW)
      rw [hw] at this
      exact this
    have HAP : Hid (∀ W, Below w.heap.size w W → Calls Try.prog 16 #[.slice A t.ps.length c] W (TwoPost (Wl.dbl t.ps) 0 W)) := fun W hW => by
      have := AreaW_any A c t.ps (by omega) W (prs_keep hP hW)
      rw [hpt] at this
      exact this
    have HFR : Hid (∀ W, Below w.heap.size w W → Calls Try.prog 28 #[.agg (trV t A c), .slice Aw ws.length cw] W fun e w' => e = .returned (.bool (Wl.farB t ws)) ∧ Below W.heap.size W w') := fun W hW => Far5_any t ws A Aw c cw W (prs_keep hP hW) (prs_keep hQ hW)
    have HRO : Hid (t.cl = 0 → ∀ W, Below w.heap.size w W → Calls Try.prog 31 #[.agg (trV t A c), .slice Aw ws.length cw] W (IntsEPost (if Wl.setE t ws = 0 then [Wl.dbl ws] else []) (Wl.setE t ws) W)) := fun hcl W hW => by
      have := RollsW_any t ws A Aw c cw (by omega) (by omega) W (prs_keep hP hW) (prs_keep hQ hW)
      by_cases hs : Wl.setE t ws = 0
      · rw [if_pos hs, Wl.rolls_open ht hcl hw0 (Wl.setE_yes hs).2] at this
        rw [if_pos hs]
        exact this
      · rw [if_neg hs] at this ⊢
        exact this
    have HSE : Wl.setE t ws = 0 ∨ Wl.setE t ws = 3 := by
      unfold Wl.setE
      rw [if_pos h0]
      split
      · exact .inr rfl
      · exact .inl rfl
    have HKN : Hid (∀ (x : Int) W, Calls Try.prog 38 #[.int .i64 x] W fun e w' => e = .returned (.bool (decide (x = 0) || decide (x = 3))) ∧ w' = W) := isKnown5_any
    have HSI : Hid (∀ v v' W, Ints W W.heap.size v [Wl.dbl ws] → Ints W W.heap.size v' [Wl.dbl ws] → Calls Try.prog 22 #[v, v'] W fun e w' => e = .returned (.bool true) ∧ Below W.heap.size W w') := fun v v' W h h' => by
      have := SameInts_any v v' [Wl.dbl ws] [Wl.dbl ws] W h h' (by simp) (by simp)
      rw [decide_eq_true rfl] at this
      exact this
    have HAE : Hid (∀ W, Below w.heap.size w W → Calls Try.prog 36 #[.agg (trV t A c), .slice Aw ws.length cw, .slice Ae es.length ce] W fun e w' => e = .returned (.bool (Wl.elbV t ws es)) ∧ Below W.heap.size W w') := fun W hW => AreElbows5_all t ws es A Aw Ae c cw ce ht hw (by omega) (by omega) W (prs_keep hP hW) (prs_keep hQ hW) (fun h => ((hE h).keep hW).more hW.size)
    have HAF : Hid (∀ W, Below w.heap.size w W → Calls Try.prog 36 #[.agg (trV t A c), .slice Aw ws.length cw, .slice Af fs.length cf] W fun e w' => e = .returned (.bool (Wl.elbV t ws fs)) ∧ Below W.heap.size W w') := fun W hW => AreElbows5_all t ws fs A Aw Af c cw cf ht hw (by omega) (by omega) W (prs_keep hP hW) (prs_keep hQ hW) (fun h => ((hF h).keep hW).more hW.size)
    have HSWE : Hid (Wl.elbV t ws es = true → ∀ W, Below w.heap.size w W → Calls Try.prog 24 #[.agg (trV t A c), .slice Aw ws.length cw, .slice Ae es.length ce] W (TwoPost (Wl.sweepV t ws es) 0 W)) := fun he W hW => by
      have hl := (Wl.elbV_iff.1 he).1
      have := SweepW_any t ws es A Aw Ae c cw ce (by omega) (by omega) (by omega) W (prs_keep hP hW) (prs_keep hQ hW) (((hE (by omega)).keep hW).more hW.size)
      rw [Wl.movE_of h0 he] at this
      exact this
    have HTUE : Hid (Wl.elbV t ws es = true → ∀ W, Below w.heap.size w W → Calls Try.prog 26 #[.agg (trV t A c), .slice Aw ws.length cw, .slice Ae es.length ce] W (TwoPost (Wl.turnsV t es) 0 W)) := fun he W hW => by
      have hl := (Wl.elbV_iff.1 he).1
      have := TurnsW_any t ws es A Aw Ae c cw ce (by omega) (by omega) (by omega) W (prs_keep hP hW) (prs_keep hQ hW) (((hE (by omega)).keep hW).more hW.size)
      rw [Wl.movE_of h0 he] at this
      exact this
    have HSWF : Hid (Wl.elbV t ws fs = true → ∀ W, Below w.heap.size w W → Calls Try.prog 24 #[.agg (trV t A c), .slice Aw ws.length cw, .slice Af fs.length cf] W (TwoPost (Wl.sweepV t ws fs) 0 W)) := fun he W hW => by
      have hl := (Wl.elbV_iff.1 he).1
      have := SweepW_any t ws fs A Aw Af c cw cf (by omega) (by omega) (by omega) W (prs_keep hP hW) (prs_keep hQ hW) (((hF (by omega)).keep hW).more hW.size)
      rw [Wl.movE_of h0 he] at this
      exact this
    have HTUF : Hid (Wl.elbV t ws fs = true → ∀ W, Below w.heap.size w W → Calls Try.prog 26 #[.agg (trV t A c), .slice Aw ws.length cw, .slice Af fs.length cf] W (TwoPost (Wl.turnsV t fs) 0 W)) := fun he W hW => by
      have hl := (Wl.elbV_iff.1 he).1
      have := TurnsW_any t ws fs A Aw Af c cw cf (by omega) (by omega) (by omega) W (prs_keep hP hW) (prs_keep hQ hW) (((hF (by omega)).keep hW).more hW.size)
      rw [Wl.movE_of h0 he] at this
      exact this
    have HME : Hid (Wl.elbV t ws es = true → Wl.sweepV t ws es = Wl.dbl ws - Wl.turnsV t es * Wl.dbl t.ps ∧ (t.cl ≠ 1 → Wl.turnsV t es = 0) ∧ -(ws.length : Int) ≤ Wl.turnsV t es ∧ Wl.turnsV t es ≤ ws.length) := fun he => Wl.meterV ht hw0 he
    have HMF : Hid (Wl.elbV t ws fs = true → Wl.sweepV t ws fs = Wl.dbl ws - Wl.turnsV t fs * Wl.dbl t.ps) := fun he => (Wl.meterV ht hw0 he).1
    have hcl := Wl.trkB_cl ht
    have h8 := (Wl.pts_all hw).2
    have hd1 := Wl.dbl_bd hw
    have hd2 := Wl.dbl_bd hpt
    clear hP hQ hE hF ht hw hpt h0
    unfold TwoPost at HAW HAP HSWE HTUE HSWF HTUF
    unfold IntsEPost at HRO
    generalize Wl.setE t ws = SE at *
    generalize Wl.farB t ws = FB at *
    generalize Wl.dbl ws = DW at *
    generalize Wl.dbl t.ps = DP at *
    generalize Wl.elbV t ws es = EE at *
    generalize Wl.elbV t ws fs = EF at *
    generalize Wl.sweepV t ws es = SWE at *
    generalize Wl.sweepV t ws fs = SWF at *
    generalize Wl.turnsV t es = TUE at *
    generalize Wl.turnsV t fs = TUF at *
    obtain ⟨ps, cl, lo, hi⟩ := t
    unfold trV at *
    dsimp only at *
    have da1 : decide (40 < (ps.length : Int)) = false := decide_eq_false (by omega)
    have da2 : decide (40 < ps.length) = false := decide_eq_false (by omega)
    have db1 : decide (40 < (ws.length : Int)) = false := decide_eq_false (by omega)
    have db2 : decide (40 < ws.length) = false := decide_eq_false (by omega)
    have de1 : decide (40 < (es.length : Int)) = false := decide_eq_false (by omega)
    have de2 : decide (40 < es.length) = false := decide_eq_false (by omega)
    have df1 : decide (40 < (fs.length : Int)) = false := decide_eq_false (by omega)
    have df2 : decide (40 < fs.length) = false := decide_eq_false (by omega)
    have HD := Lib.hid (And.intro hd1 (And.intro hd2 h8))
    clear hd1 hd2 h1 h2 h3 h4 h8 hw0
    rcases hcl with hc | hc
    · have hclb : (cl == 0) = true := by simpa using hc
      have HCL := Lib.hid hc
      clear hc
      cases FB with
      | true =>
        clear HRO HSI HKN HSE
        go_enter Try.func6, Try.ntmps6
        go_wp2_with fail
        have bT1 := (BoxS.new w 26 #[.slice A ps.length c, .int .i64 cl, .int .i64 lo, .int .i64 hi]).alloc (.cells #[.slice Ae es.length ce, .slice Af fs.length cf] 48)
        have bX1 := BoxS.new (w.alloc (.cells #[.slice A ps.length c, .int .i64 cl, .int .i64 lo, .int .i64 hi] 26)) 48 #[.slice Ae es.length ce, .slice Af fs.length cf]
        rw [World.size_alloc] at bX1
        have hB1 : Below w.heap.size w ((w.alloc (.cells #[.slice A ps.length c, .int .i64 cl, .int .i64 lo, .int .i64 hi] 26)).alloc (.cells #[.slice Ae es.length ce, .slice Af fs.length cf] 48)) := by (repeat' (first | (with_reducible exact Below.refl _ _) | (with_reducible assumption) | (with_reducible refine Below.alloc ?_ ?_ _) | (with_reducible refine Below.drew ?_) | (with_reducible refine Below.setCell ?_ ?_ _) | go_size | (exact (by simp)) | omega))
        generalize World.alloc (World.alloc w _) _ = w1 at *
        have ct0 : w1.cell? ⟨w.heap.size, 0, none⟩ = some (.slice A ps.length c) := bT1.cell 0 rfl
        have ct1 : w1.cell? ⟨w.heap.size, 1, none⟩ = some (.int .i64 cl) := bT1.cell 1 rfl
        have ct2 : w1.cell? ⟨w.heap.size, 2, none⟩ = some (.int .i64 lo) := bT1.cell 2 rfl
        have ct3 : w1.cell? ⟨w.heap.size, 3, none⟩ = some (.int .i64 hi) := bT1.cell 3 rfl
        have lT1 := bT1.lt
        have cx0 : w1.cell? ⟨w.heap.size + 1, 0, none⟩ = some (.slice Ae es.length ce) := bX1.cell 0 rfl
        have cx1 : w1.cell? ⟨w.heap.size + 1, 1, none⟩ = some (.slice Af fs.length cf) := bX1.cell 1 rfl
        have lX1 := bX1.lt
        try go_wp2_with fail
        refine (HCK.out _ hB1).mono ?_
        rintro e w2 ⟨rfl, hb2⟩
        have bT2 := bT1.below hb2
        have bX2 := bX1.below hb2
        have hB2 := hB1.trans (hb2.mono hB1.size)
        clear ct0 ct1 ct2 ct3 lT1 cx0 cx1 lX1 bT1 bX1 hB1 hb2
        have ct0 : w2.cell? ⟨w.heap.size, 0, none⟩ = some (.slice A ps.length c) := bT2.cell 0 rfl
        have ct1 : w2.cell? ⟨w.heap.size, 1, none⟩ = some (.int .i64 cl) := bT2.cell 1 rfl
        have ct2 : w2.cell? ⟨w.heap.size, 2, none⟩ = some (.int .i64 lo) := bT2.cell 2 rfl
        have ct3 : w2.cell? ⟨w.heap.size, 3, none⟩ = some (.int .i64 hi) := bT2.cell 3 rfl
        have lT2 := bT2.lt
        have cx0 : w2.cell? ⟨w.heap.size + 1, 0, none⟩ = some (.slice Ae es.length ce) := bX2.cell 0 rfl
        have cx1 : w2.cell? ⟨w.heap.size + 1, 1, none⟩ = some (.slice Af fs.length cf) := bX2.cell 1 rfl
        have lX2 := bX2.lt
        go_wp2_with fail
        refine (HAW.out _ hB2).mono ?_
        rintro e w3 ⟨rfl, hb3⟩
        have bT3 := bT2.below hb3
        have bX3 := bX2.below hb3
        have hB3 := hB2.trans (hb3.mono hB2.size)
        clear ct0 ct1 ct2 ct3 lT2 cx0 cx1 lX2 bT2 bX2 hB2 hb3
        have ct0 : w3.cell? ⟨w.heap.size, 0, none⟩ = some (.slice A ps.length c) := bT3.cell 0 rfl
        have ct1 : w3.cell? ⟨w.heap.size, 1, none⟩ = some (.int .i64 cl) := bT3.cell 1 rfl
        have ct2 : w3.cell? ⟨w.heap.size, 2, none⟩ = some (.int .i64 lo) := bT3.cell 2 rfl
        have ct3 : w3.cell? ⟨w.heap.size, 3, none⟩ = some (.int .i64 hi) := bT3.cell 3 rfl
        have lT3 := bT3.lt
        have cx0 : w3.cell? ⟨w.heap.size + 1, 0, none⟩ = some (.slice Ae es.length ce) := bX3.cell 0 rfl
        have cx1 : w3.cell? ⟨w.heap.size + 1, 1, none⟩ = some (.slice Af fs.length cf) := bX3.cell 1 rfl
        have lX3 := bX3.lt
        go_wp2_with fail
        refine (HAP.out _ hB3).mono ?_
        rintro e w4 ⟨rfl, hb4⟩
        have bT4 := bT3.below hb4
        have bX4 := bX3.below hb4
        have hB4 := hB3.trans (hb4.mono hB3.size)
        clear ct0 ct1 ct2 ct3 lT3 cx0 cx1 lX3 bT3 bX3 hB3 hb4
        have ct0 : w4.cell? ⟨w.heap.size, 0, none⟩ = some (.slice A ps.length c) := bT4.cell 0 rfl
        have ct1 : w4.cell? ⟨w.heap.size, 1, none⟩ = some (.int .i64 cl) := bT4.cell 1 rfl
        have ct2 : w4.cell? ⟨w.heap.size, 2, none⟩ = some (.int .i64 lo) := bT4.cell 2 rfl
        have ct3 : w4.cell? ⟨w.heap.size, 3, none⟩ = some (.int .i64 hi) := bT4.cell 3 rfl
        have lT4 := bT4.lt
        have cx0 : w4.cell? ⟨w.heap.size + 1, 0, none⟩ = some (.slice Ae es.length ce) := bX4.cell 0 rfl
        have cx1 : w4.cell? ⟨w.heap.size + 1, 1, none⟩ = some (.slice Af fs.length cf) := bX4.cell 1 rfl
        have lX4 := bX4.lt
        go_wp2_with fail
        refine (HFR.out _ hB4).mono ?_
        rintro e w5 ⟨rfl, hb5⟩
        have bT5 := bT4.below hb5
        have bX5 := bX4.below hb5
        have hB5 := hB4.trans (hb5.mono hB4.size)
        clear ct0 ct1 ct2 ct3 lT4 cx0 cx1 lX4 bT4 bX4 hB4 hb5
        have ct0 : w5.cell? ⟨w.heap.size, 0, none⟩ = some (.slice A ps.length c) := bT5.cell 0 rfl
        have ct1 : w5.cell? ⟨w.heap.size, 1, none⟩ = some (.int .i64 cl) := bT5.cell 1 rfl
        have ct2 : w5.cell? ⟨w.heap.size, 2, none⟩ = some (.int .i64 lo) := bT5.cell 2 rfl
        have ct3 : w5.cell? ⟨w.heap.size, 3, none⟩ = some (.int .i64 hi) := bT5.cell 3 rfl
        have lT5 := bT5.lt
        have cx0 : w5.cell? ⟨w.heap.size + 1, 0, none⟩ = some (.slice Ae es.length ce) := bX5.cell 0 rfl
        have cx1 : w5.cell? ⟨w.heap.size + 1, 1, none⟩ = some (.slice Af fs.length cf) := bX5.cell 1 rfl
        have lX5 := bX5.lt
        go_wp2_with fail
        refine (HAE.out _ hB5).mono ?_
        rintro e w6 ⟨rfl, hb6⟩
        have bT6 := bT5.below hb6
        have bX6 := bX5.below hb6
        have hB6 := hB5.trans (hb6.mono hB5.size)
        clear ct0 ct1 ct2 ct3 lT5 cx0 cx1 lX5 bT5 bX5 hB5 hb6
        have ct0 : w6.cell? ⟨w.heap.size, 0, none⟩ = some (.slice A ps.length c) := bT6.cell 0 rfl
        have ct1 : w6.cell? ⟨w.heap.size, 1, none⟩ = some (.int .i64 cl) := bT6.cell 1 rfl
        have ct2 : w6.cell? ⟨w.heap.size, 2, none⟩ = some (.int .i64 lo) := bT6.cell 2 rfl
        have ct3 : w6.cell? ⟨w.heap.size, 3, none⟩ = some (.int .i64 hi) := bT6.cell 3 rfl
        have lT6 := bT6.lt
        have cx0 : w6.cell? ⟨w.heap.size + 1, 0, none⟩ = some (.slice Ae es.length ce) := bX6.cell 0 rfl
        have cx1 : w6.cell? ⟨w.heap.size + 1, 1, none⟩ = some (.slice Af fs.length cf) := bX6.cell 1 rfl
        have lX6 := bX6.lt
        cases EE with
        | false =>
          go_wp2_with fail
          refine (HWK.out _).mono ?_
          rintro e wz ⟨rfl, hbz⟩
          have hBz := hB6.trans (hbz.mono hB6.size)
          go_wp2_with fail
          go_returns
          exact ⟨rfl, hBz⟩
        | true =>
          have HSE1 := Lib.hid (HSWE.out rfl)
          have HTE1 := Lib.hid (HTUE.out rfl)
          obtain ⟨hwm, hws2, hwn, hc1, hc2⟩ : IntKind.i64.wrap (TUE * DP) = TUE * DP ∧ IntKind.i64.wrap (DW - TUE * DP) = DW - TUE * DP ∧ IntKind.i64.wrap (-(ws.length : Int)) = -(ws.length : Int) ∧ decide (TUE < -(ws.length : Int)) = false ∧ decide ((ws.length : Int) < TUE) = false := by
            obtain ⟨_, _, me3, me4⟩ := HME.out rfl
            obtain ⟨hd1, hd2, h8⟩ := HD.out
            have m1 : -(8 * 16000000) ≤ TUE * DP ∧ TUE * DP ≤ 8 * 16000000 := mul_bd (by omega) (by omega) hd2.1 hd2.2
            exact ⟨IntWalk.i64_in _ (by omega), IntWalk.i64_in _ (by omega), IntWalk.i64_in _ (by omega), decide_eq_false (by omega), decide_eq_false (by omega)⟩
          have me1 := (HME.out rfl).1
          have hne : (SWE != DW - TUE * DP) = false := by rw [me1]; simp
          have hz : (TUE != 0) = false := by have := (HME.out rfl).2.1 (by have := HCL.out; omega); simpa using this
          obtain ⟨TD, hTD⟩ : ∃ TD, TD = TUE * DP := ⟨_, rfl⟩
          have hwm2 : IntKind.i64.wrap (TUE * DP) = TD := by rw [hwm, hTD]
          clear hwm
          rw [← hTD] at hws2 hne me1
          have HTD := Lib.hid hTD
          have ME1 := Lib.hid me1
          clear HSWE HTUE HME hTD me1
          go_wp2_with fail
          refine (HSE1.out _ hB6).mono ?_
          rintro e w7 ⟨rfl, hb7⟩
          have bT7 := bT6.below hb7
          have bX7 := bX6.below hb7
          have hB7 := hB6.trans (hb7.mono hB6.size)
          clear ct0 ct1 ct2 ct3 lT6 cx0 cx1 lX6 bT6 bX6 hB6 hb7
          have ct0 : w7.cell? ⟨w.heap.size, 0, none⟩ = some (.slice A ps.length c) := bT7.cell 0 rfl
          have ct1 : w7.cell? ⟨w.heap.size, 1, none⟩ = some (.int .i64 cl) := bT7.cell 1 rfl
          have ct2 : w7.cell? ⟨w.heap.size, 2, none⟩ = some (.int .i64 lo) := bT7.cell 2 rfl
          have ct3 : w7.cell? ⟨w.heap.size, 3, none⟩ = some (.int .i64 hi) := bT7.cell 3 rfl
          have lT7 := bT7.lt
          have cx0 : w7.cell? ⟨w.heap.size + 1, 0, none⟩ = some (.slice Ae es.length ce) := bX7.cell 0 rfl
          have cx1 : w7.cell? ⟨w.heap.size + 1, 1, none⟩ = some (.slice Af fs.length cf) := bX7.cell 1 rfl
          have lX7 := bX7.lt
          go_wp2_with fail
          refine (HTE1.out _ hB7).mono ?_
          rintro e w8 ⟨rfl, hb8⟩
          have bT8 := bT7.below hb8
          have bX8 := bX7.below hb8
          have hB8 := hB7.trans (hb8.mono hB7.size)
          clear ct0 ct1 ct2 ct3 lT7 cx0 cx1 lX7 bT7 bX7 hB7 hb8
          have ct0 : w8.cell? ⟨w.heap.size, 0, none⟩ = some (.slice A ps.length c) := bT8.cell 0 rfl
          have ct1 : w8.cell? ⟨w.heap.size, 1, none⟩ = some (.int .i64 cl) := bT8.cell 1 rfl
          have ct2 : w8.cell? ⟨w.heap.size, 2, none⟩ = some (.int .i64 lo) := bT8.cell 2 rfl
          have ct3 : w8.cell? ⟨w.heap.size, 3, none⟩ = some (.int .i64 hi) := bT8.cell 3 rfl
          have lT8 := bT8.lt
          have cx0 : w8.cell? ⟨w.heap.size + 1, 0, none⟩ = some (.slice Ae es.length ce) := bX8.cell 0 rfl
          have cx1 : w8.cell? ⟨w.heap.size + 1, 1, none⟩ = some (.slice Af fs.length cf) := bX8.cell 1 rfl
          have lX8 := bX8.lt
          go_wp2_with fail
          refine (HAF.out _ hB8).mono ?_
          rintro e w9 ⟨rfl, hb9⟩
          have bT9 := bT8.below hb9
          have bX9 := bX8.below hb9
          have hB9 := hB8.trans (hb9.mono hB8.size)
          clear ct0 ct1 ct2 ct3 lT8 cx0 cx1 lX8 bT8 bX8 hB8 hb9
          have ct0 : w9.cell? ⟨w.heap.size, 0, none⟩ = some (.slice A ps.length c) := bT9.cell 0 rfl
          have ct1 : w9.cell? ⟨w.heap.size, 1, none⟩ = some (.int .i64 cl) := bT9.cell 1 rfl
          have ct2 : w9.cell? ⟨w.heap.size, 2, none⟩ = some (.int .i64 lo) := bT9.cell 2 rfl
          have ct3 : w9.cell? ⟨w.heap.size, 3, none⟩ = some (.int .i64 hi) := bT9.cell 3 rfl
          have lT9 := bT9.lt
          have cx0 : w9.cell? ⟨w.heap.size + 1, 0, none⟩ = some (.slice Ae es.length ce) := bX9.cell 0 rfl
          have cx1 : w9.cell? ⟨w.heap.size + 1, 1, none⟩ = some (.slice Af fs.length cf) := bX9.cell 1 rfl
          have lX9 := bX9.lt
          cases EF with
          | false =>
            go_wp2_with fail
            refine (HWK.out _).mono ?_
            rintro e wz ⟨rfl, hbz⟩
            have hBz := hB9.trans (hbz.mono hB9.size)
            go_wp2_with fail
            go_returns
            exact ⟨rfl, hBz⟩
          | true =>
            have HSF1 := Lib.hid (HSWF.out rfl)
            have HTF1 := Lib.hid (HTUF.out rfl)
            have hmf := HMF.out rfl
            clear HSWF HTUF HMF
            by_cases hab : TUE = TUF
            · have hab1 : (TUE != TUF) = false := by simpa using hab
              have hmn : (SWE == SWF) = true := by rw [hmf, ME1.out, HTD.out, ← hab]; simp
              have hab := Lib.hid hab
              clear hmf ME1
              go_wp2_with fail
              refine (HSF1.out _ hB9).mono ?_
              rintro e w10 ⟨rfl, hb10⟩
              have bT10 := bT9.below hb10
              have bX10 := bX9.below hb10
              have hB10 := hB9.trans (hb10.mono hB9.size)
              clear ct0 ct1 ct2 ct3 lT9 cx0 cx1 lX9 bT9 bX9 hB9 hb10
              have ct0 : w10.cell? ⟨w.heap.size, 0, none⟩ = some (.slice A ps.length c) := bT10.cell 0 rfl
              have ct1 : w10.cell? ⟨w.heap.size, 1, none⟩ = some (.int .i64 cl) := bT10.cell 1 rfl
              have ct2 : w10.cell? ⟨w.heap.size, 2, none⟩ = some (.int .i64 lo) := bT10.cell 2 rfl
              have ct3 : w10.cell? ⟨w.heap.size, 3, none⟩ = some (.int .i64 hi) := bT10.cell 3 rfl
              have lT10 := bT10.lt
              have cx0 : w10.cell? ⟨w.heap.size + 1, 0, none⟩ = some (.slice Ae es.length ce) := bX10.cell 0 rfl
              have cx1 : w10.cell? ⟨w.heap.size + 1, 1, none⟩ = some (.slice Af fs.length cf) := bX10.cell 1 rfl
              have lX10 := bX10.lt
              go_wp2_with fail
              refine (HTF1.out _ hB10).mono ?_
              rintro e w11 ⟨rfl, hb11⟩
              have bT11 := bT10.below hb11
              have bX11 := bX10.below hb11
              have hB11 := hB10.trans (hb11.mono hB10.size)
              clear ct0 ct1 ct2 ct3 lT10 cx0 cx1 lX10 bT10 bX10 hB10 hb11
              have ct0 : w11.cell? ⟨w.heap.size, 0, none⟩ = some (.slice A ps.length c) := bT11.cell 0 rfl
              have ct1 : w11.cell? ⟨w.heap.size, 1, none⟩ = some (.int .i64 cl) := bT11.cell 1 rfl
              have ct2 : w11.cell? ⟨w.heap.size, 2, none⟩ = some (.int .i64 lo) := bT11.cell 2 rfl
              have ct3 : w11.cell? ⟨w.heap.size, 3, none⟩ = some (.int .i64 hi) := bT11.cell 3 rfl
              have lT11 := bT11.lt
              have cx0 : w11.cell? ⟨w.heap.size + 1, 0, none⟩ = some (.slice Ae es.length ce) := bX11.cell 0 rfl
              have cx1 : w11.cell? ⟨w.heap.size + 1, 1, none⟩ = some (.slice Af fs.length cf) := bX11.cell 1 rfl
              have lX11 := bX11.lt
              go_wp2_with fail
              refine (HWK.out _).mono ?_
              rintro e wz ⟨rfl, hbz⟩
              have hBz := hB11.trans (hbz.mono hB11.size)
              go_wp2_with fail
              go_returns
              exact ⟨rfl, hBz⟩
            · have hab1 : (TUE != TUF) = true := by simpa using hab
              clear hmf ME1 hab
              go_wp2_with fail
              refine (HSF1.out _ hB9).mono ?_
              rintro e w10 ⟨rfl, hb10⟩
              have bT10 := bT9.below hb10
              have bX10 := bX9.below hb10
              have hB10 := hB9.trans (hb10.mono hB9.size)
              clear ct0 ct1 ct2 ct3 lT9 cx0 cx1 lX9 bT9 bX9 hB9 hb10
              have ct0 : w10.cell? ⟨w.heap.size, 0, none⟩ = some (.slice A ps.length c) := bT10.cell 0 rfl
              have ct1 : w10.cell? ⟨w.heap.size, 1, none⟩ = some (.int .i64 cl) := bT10.cell 1 rfl
              have ct2 : w10.cell? ⟨w.heap.size, 2, none⟩ = some (.int .i64 lo) := bT10.cell 2 rfl
              have ct3 : w10.cell? ⟨w.heap.size, 3, none⟩ = some (.int .i64 hi) := bT10.cell 3 rfl
              have lT10 := bT10.lt
              have cx0 : w10.cell? ⟨w.heap.size + 1, 0, none⟩ = some (.slice Ae es.length ce) := bX10.cell 0 rfl
              have cx1 : w10.cell? ⟨w.heap.size + 1, 1, none⟩ = some (.slice Af fs.length cf) := bX10.cell 1 rfl
              have lX10 := bX10.lt
              go_wp2_with fail
              refine (HTF1.out _ hB10).mono ?_
              rintro e w11 ⟨rfl, hb11⟩
              have bT11 := bT10.below hb11
              have bX11 := bX10.below hb11
              have hB11 := hB10.trans (hb11.mono hB10.size)
              clear ct0 ct1 ct2 ct3 lT10 cx0 cx1 lX10 bT10 bX10 hB10 hb11
              have ct0 : w11.cell? ⟨w.heap.size, 0, none⟩ = some (.slice A ps.length c) := bT11.cell 0 rfl
              have ct1 : w11.cell? ⟨w.heap.size, 1, none⟩ = some (.int .i64 cl) := bT11.cell 1 rfl
              have ct2 : w11.cell? ⟨w.heap.size, 2, none⟩ = some (.int .i64 lo) := bT11.cell 2 rfl
              have ct3 : w11.cell? ⟨w.heap.size, 3, none⟩ = some (.int .i64 hi) := bT11.cell 3 rfl
              have lT11 := bT11.lt
              have cx0 : w11.cell? ⟨w.heap.size + 1, 0, none⟩ = some (.slice Ae es.length ce) := bX11.cell 0 rfl
              have cx1 : w11.cell? ⟨w.heap.size + 1, 1, none⟩ = some (.slice Af fs.length cf) := bX11.cell 1 rfl
              have lX11 := bX11.lt
              go_wp2_with fail
              refine (HWK.out _).mono ?_
              rintro e wz ⟨rfl, hbz⟩
              have hBz := hB11.trans (hbz.mono hB11.size)
              go_wp2_with fail
              go_returns
              exact ⟨rfl, hBz⟩
      | false =>
        have HRO1 := Lib.hid (HRO.out HCL.out)
        clear HRO
        rcases HSE with hs | hs
        · subst hs
          rw [if_pos rfl] at HRO1
          have HRO := HRO1
          clear HRO1
          go_enter Try.func6, Try.ntmps6
          go_wp2_with fail
          have bT1 := (BoxS.new w 26 #[.slice A ps.length c, .int .i64 cl, .int .i64 lo, .int .i64 hi]).alloc (.cells #[.slice Ae es.length ce, .slice Af fs.length cf] 48)
          have bX1 := BoxS.new (w.alloc (.cells #[.slice A ps.length c, .int .i64 cl, .int .i64 lo, .int .i64 hi] 26)) 48 #[.slice Ae es.length ce, .slice Af fs.length cf]
          rw [World.size_alloc] at bX1
          have hB1 : Below w.heap.size w ((w.alloc (.cells #[.slice A ps.length c, .int .i64 cl, .int .i64 lo, .int .i64 hi] 26)).alloc (.cells #[.slice Ae es.length ce, .slice Af fs.length cf] 48)) := by (repeat' (first | (with_reducible exact Below.refl _ _) | (with_reducible assumption) | (with_reducible refine Below.alloc ?_ ?_ _) | (with_reducible refine Below.drew ?_) | (with_reducible refine Below.setCell ?_ ?_ _) | go_size | (exact (by simp)) | omega))
          generalize World.alloc (World.alloc w _) _ = w1 at *
          have ct0 : w1.cell? ⟨w.heap.size, 0, none⟩ = some (.slice A ps.length c) := bT1.cell 0 rfl
          have ct1 : w1.cell? ⟨w.heap.size, 1, none⟩ = some (.int .i64 cl) := bT1.cell 1 rfl
          have ct2 : w1.cell? ⟨w.heap.size, 2, none⟩ = some (.int .i64 lo) := bT1.cell 2 rfl
          have ct3 : w1.cell? ⟨w.heap.size, 3, none⟩ = some (.int .i64 hi) := bT1.cell 3 rfl
          have lT1 := bT1.lt
          have cx0 : w1.cell? ⟨w.heap.size + 1, 0, none⟩ = some (.slice Ae es.length ce) := bX1.cell 0 rfl
          have cx1 : w1.cell? ⟨w.heap.size + 1, 1, none⟩ = some (.slice Af fs.length cf) := bX1.cell 1 rfl
          have lX1 := bX1.lt
          try go_wp2_with fail
          refine (HCK.out _ hB1).mono ?_
          rintro e w2 ⟨rfl, hb2⟩
          have bT2 := bT1.below hb2
          have bX2 := bX1.below hb2
          have hB2 := hB1.trans (hb2.mono hB1.size)
          clear ct0 ct1 ct2 ct3 lT1 cx0 cx1 lX1 bT1 bX1 hB1 hb2
          have ct0 : w2.cell? ⟨w.heap.size, 0, none⟩ = some (.slice A ps.length c) := bT2.cell 0 rfl
          have ct1 : w2.cell? ⟨w.heap.size, 1, none⟩ = some (.int .i64 cl) := bT2.cell 1 rfl
          have ct2 : w2.cell? ⟨w.heap.size, 2, none⟩ = some (.int .i64 lo) := bT2.cell 2 rfl
          have ct3 : w2.cell? ⟨w.heap.size, 3, none⟩ = some (.int .i64 hi) := bT2.cell 3 rfl
          have lT2 := bT2.lt
          have cx0 : w2.cell? ⟨w.heap.size + 1, 0, none⟩ = some (.slice Ae es.length ce) := bX2.cell 0 rfl
          have cx1 : w2.cell? ⟨w.heap.size + 1, 1, none⟩ = some (.slice Af fs.length cf) := bX2.cell 1 rfl
          have lX2 := bX2.lt
          go_wp2_with fail
          refine (HAW.out _ hB2).mono ?_
          rintro e w3 ⟨rfl, hb3⟩
          have bT3 := bT2.below hb3
          have bX3 := bX2.below hb3
          have hB3 := hB2.trans (hb3.mono hB2.size)
          clear ct0 ct1 ct2 ct3 lT2 cx0 cx1 lX2 bT2 bX2 hB2 hb3
          have ct0 : w3.cell? ⟨w.heap.size, 0, none⟩ = some (.slice A ps.length c) := bT3.cell 0 rfl
          have ct1 : w3.cell? ⟨w.heap.size, 1, none⟩ = some (.int .i64 cl) := bT3.cell 1 rfl
          have ct2 : w3.cell? ⟨w.heap.size, 2, none⟩ = some (.int .i64 lo) := bT3.cell 2 rfl
          have ct3 : w3.cell? ⟨w.heap.size, 3, none⟩ = some (.int .i64 hi) := bT3.cell 3 rfl
          have lT3 := bT3.lt
          have cx0 : w3.cell? ⟨w.heap.size + 1, 0, none⟩ = some (.slice Ae es.length ce) := bX3.cell 0 rfl
          have cx1 : w3.cell? ⟨w.heap.size + 1, 1, none⟩ = some (.slice Af fs.length cf) := bX3.cell 1 rfl
          have lX3 := bX3.lt
          go_wp2_with fail
          refine (HAP.out _ hB3).mono ?_
          rintro e w4 ⟨rfl, hb4⟩
          have bT4 := bT3.below hb4
          have bX4 := bX3.below hb4
          have hB4 := hB3.trans (hb4.mono hB3.size)
          clear ct0 ct1 ct2 ct3 lT3 cx0 cx1 lX3 bT3 bX3 hB3 hb4
          have ct0 : w4.cell? ⟨w.heap.size, 0, none⟩ = some (.slice A ps.length c) := bT4.cell 0 rfl
          have ct1 : w4.cell? ⟨w.heap.size, 1, none⟩ = some (.int .i64 cl) := bT4.cell 1 rfl
          have ct2 : w4.cell? ⟨w.heap.size, 2, none⟩ = some (.int .i64 lo) := bT4.cell 2 rfl
          have ct3 : w4.cell? ⟨w.heap.size, 3, none⟩ = some (.int .i64 hi) := bT4.cell 3 rfl
          have lT4 := bT4.lt
          have cx0 : w4.cell? ⟨w.heap.size + 1, 0, none⟩ = some (.slice Ae es.length ce) := bX4.cell 0 rfl
          have cx1 : w4.cell? ⟨w.heap.size + 1, 1, none⟩ = some (.slice Af fs.length cf) := bX4.cell 1 rfl
          have lX4 := bX4.lt
          go_wp2_with fail
          refine (HFR.out _ hB4).mono ?_
          rintro e w5 ⟨rfl, hb5⟩
          have bT5 := bT4.below hb5
          have bX5 := bX4.below hb5
          have hB5 := hB4.trans (hb5.mono hB4.size)
          clear ct0 ct1 ct2 ct3 lT4 cx0 cx1 lX4 bT4 bX4 hB4 hb5
          have ct0 : w5.cell? ⟨w.heap.size, 0, none⟩ = some (.slice A ps.length c) := bT5.cell 0 rfl
          have ct1 : w5.cell? ⟨w.heap.size, 1, none⟩ = some (.int .i64 cl) := bT5.cell 1 rfl
          have ct2 : w5.cell? ⟨w.heap.size, 2, none⟩ = some (.int .i64 lo) := bT5.cell 2 rfl
          have ct3 : w5.cell? ⟨w.heap.size, 3, none⟩ = some (.int .i64 hi) := bT5.cell 3 rfl
          have lT5 := bT5.lt
          have cx0 : w5.cell? ⟨w.heap.size + 1, 0, none⟩ = some (.slice Ae es.length ce) := bX5.cell 0 rfl
          have cx1 : w5.cell? ⟨w.heap.size + 1, 1, none⟩ = some (.slice Af fs.length cf) := bX5.cell 1 rfl
          have lX5 := bX5.lt
          go_wp2_with fail
          refine (HRO.out _ hB5).mono ?_
          rintro e w6 ⟨v6, rfl, hI6, hb6⟩
          have bT6 := bT5.below hb6
          have bX6 := bX5.below hb6
          have hB6 := hB5.trans (hb6.mono hB5.size)
          clear ct0 ct1 ct2 ct3 lT5 cx0 cx1 lX5 bT5 bX5 hB5 hb6
          have ct0 : w6.cell? ⟨w.heap.size, 0, none⟩ = some (.slice A ps.length c) := bT6.cell 0 rfl
          have ct1 : w6.cell? ⟨w.heap.size, 1, none⟩ = some (.int .i64 cl) := bT6.cell 1 rfl
          have ct2 : w6.cell? ⟨w.heap.size, 2, none⟩ = some (.int .i64 lo) := bT6.cell 2 rfl
          have ct3 : w6.cell? ⟨w.heap.size, 3, none⟩ = some (.int .i64 hi) := bT6.cell 3 rfl
          have lT6 := bT6.lt
          have cx0 : w6.cell? ⟨w.heap.size + 1, 0, none⟩ = some (.slice Ae es.length ce) := bX6.cell 0 rfl
          have cx1 : w6.cell? ⟨w.heap.size + 1, 1, none⟩ = some (.slice Af fs.length cf) := bX6.cell 1 rfl
          have lX6 := bX6.lt
          obtain ⟨AR, cR, rfl⟩ := ints_form hI6.out
          go_wp2_with fail
          refine (HKN.out _ _).mono ?_
          rintro e wq ⟨rfl, hq⟩
          have hq := hq.symm
          subst hq
          go_wp2_with fail
          have hL6 := ints_one DW w6
          have hbx : Below w6.heap.size w6 (w6.alloc (.cells #[.int .i64 DW] 3)) := (Below.refl _ _).alloc (Nat.le_refl _) _
          have hI9 : Hid (Ints (w6.alloc (.cells #[.int .i64 DW] 3)) (w6.alloc (.cells #[.int .i64 DW] 3)).heap.size (.slice AR 1 cR) [DW]) := (hI6.out.keep hbx).more hbx.size
          have bT7 := bT6.below hbx
          have bX7 := bX6.below hbx
          have hB7 := hB6.trans (hbx.mono hB6.size)
          clear ct0 ct1 ct2 ct3 lT6 cx0 cx1 lX6 bT6 bX6 hB6 hbx hI6
          obtain ⟨BL, hBL⟩ : ∃ B, B = w6.heap.size := ⟨_, rfl⟩
          rw [← hBL] at hL6 ⊢
          generalize World.alloc w6 _ = w7 at *
          have ct0 : w7.cell? ⟨w.heap.size, 0, none⟩ = some (.slice A ps.length c) := bT7.cell 0 rfl
          have ct1 : w7.cell? ⟨w.heap.size, 1, none⟩ = some (.int .i64 cl) := bT7.cell 1 rfl
          have ct2 : w7.cell? ⟨w.heap.size, 2, none⟩ = some (.int .i64 lo) := bT7.cell 2 rfl
          have ct3 : w7.cell? ⟨w.heap.size, 3, none⟩ = some (.int .i64 hi) := bT7.cell 3 rfl
          have lT7 := bT7.lt
          have cx0 : w7.cell? ⟨w.heap.size + 1, 0, none⟩ = some (.slice Ae es.length ce) := bX7.cell 0 rfl
          have cx1 : w7.cell? ⟨w.heap.size + 1, 1, none⟩ = some (.slice Af fs.length cf) := bX7.cell 1 rfl
          have lX7 := bX7.lt
          refine (HSI.out _ _ _ hI9.out hL6.out).mono ?_
          rintro e w8 ⟨rfl, hb8⟩
          have bT8 := bT7.below hb8
          have bX8 := bX7.below hb8
          have hB8 := hB7.trans (hb8.mono hB7.size)
          clear ct0 ct1 ct2 ct3 lT7 cx0 cx1 lX7 bT7 bX7 hB7 hb8
          clear hI9 hL6 hBL
          have ct0 : w8.cell? ⟨w.heap.size, 0, none⟩ = some (.slice A ps.length c) := bT8.cell 0 rfl
          have ct1 : w8.cell? ⟨w.heap.size, 1, none⟩ = some (.int .i64 cl) := bT8.cell 1 rfl
          have ct2 : w8.cell? ⟨w.heap.size, 2, none⟩ = some (.int .i64 lo) := bT8.cell 2 rfl
          have ct3 : w8.cell? ⟨w.heap.size, 3, none⟩ = some (.int .i64 hi) := bT8.cell 3 rfl
          have lT8 := bT8.lt
          have cx0 : w8.cell? ⟨w.heap.size + 1, 0, none⟩ = some (.slice Ae es.length ce) := bX8.cell 0 rfl
          have cx1 : w8.cell? ⟨w.heap.size + 1, 1, none⟩ = some (.slice Af fs.length cf) := bX8.cell 1 rfl
          have lX8 := bX8.lt
          go_wp2_with fail
          refine (HAE.out _ hB8).mono ?_
          rintro e w9 ⟨rfl, hb9⟩
          have bT9 := bT8.below hb9
          have bX9 := bX8.below hb9
          have hB9 := hB8.trans (hb9.mono hB8.size)
          clear ct0 ct1 ct2 ct3 lT8 cx0 cx1 lX8 bT8 bX8 hB8 hb9
          have ct0 : w9.cell? ⟨w.heap.size, 0, none⟩ = some (.slice A ps.length c) := bT9.cell 0 rfl
          have ct1 : w9.cell? ⟨w.heap.size, 1, none⟩ = some (.int .i64 cl) := bT9.cell 1 rfl
          have ct2 : w9.cell? ⟨w.heap.size, 2, none⟩ = some (.int .i64 lo) := bT9.cell 2 rfl
          have ct3 : w9.cell? ⟨w.heap.size, 3, none⟩ = some (.int .i64 hi) := bT9.cell 3 rfl
          have lT9 := bT9.lt
          have cx0 : w9.cell? ⟨w.heap.size + 1, 0, none⟩ = some (.slice Ae es.length ce) := bX9.cell 0 rfl
          have cx1 : w9.cell? ⟨w.heap.size + 1, 1, none⟩ = some (.slice Af fs.length cf) := bX9.cell 1 rfl
          have lX9 := bX9.lt
          cases EE with
          | false =>
            go_wp2_with fail
            refine (HWK.out _).mono ?_
            rintro e wz ⟨rfl, hbz⟩
            have hBz := hB9.trans (hbz.mono hB9.size)
            go_wp2_with fail
            go_returns
            exact ⟨rfl, hBz⟩
          | true =>
            have HSE1 := Lib.hid (HSWE.out rfl)
            have HTE1 := Lib.hid (HTUE.out rfl)
            obtain ⟨hwm, hws2, hwn, hc1, hc2⟩ : IntKind.i64.wrap (TUE * DP) = TUE * DP ∧ IntKind.i64.wrap (DW - TUE * DP) = DW - TUE * DP ∧ IntKind.i64.wrap (-(ws.length : Int)) = -(ws.length : Int) ∧ decide (TUE < -(ws.length : Int)) = false ∧ decide ((ws.length : Int) < TUE) = false := by
              obtain ⟨_, _, me3, me4⟩ := HME.out rfl
              obtain ⟨hd1, hd2, h8⟩ := HD.out
              have m1 : -(8 * 16000000) ≤ TUE * DP ∧ TUE * DP ≤ 8 * 16000000 := mul_bd (by omega) (by omega) hd2.1 hd2.2
              exact ⟨IntWalk.i64_in _ (by omega), IntWalk.i64_in _ (by omega), IntWalk.i64_in _ (by omega), decide_eq_false (by omega), decide_eq_false (by omega)⟩
            have me1 := (HME.out rfl).1
            have hne : (SWE != DW - TUE * DP) = false := by rw [me1]; simp
            have hz : (TUE != 0) = false := by have := (HME.out rfl).2.1 (by have := HCL.out; omega); simpa using this
            obtain ⟨TD, hTD⟩ : ∃ TD, TD = TUE * DP := ⟨_, rfl⟩
            have hwm2 : IntKind.i64.wrap (TUE * DP) = TD := by rw [hwm, hTD]
            clear hwm
            rw [← hTD] at hws2 hne me1
            have HTD := Lib.hid hTD
            have ME1 := Lib.hid me1
            clear HSWE HTUE HME hTD me1
            go_wp2_with fail
            refine (HSE1.out _ hB9).mono ?_
            rintro e w10 ⟨rfl, hb10⟩
            have bT10 := bT9.below hb10
            have bX10 := bX9.below hb10
            have hB10 := hB9.trans (hb10.mono hB9.size)
            clear ct0 ct1 ct2 ct3 lT9 cx0 cx1 lX9 bT9 bX9 hB9 hb10
            have ct0 : w10.cell? ⟨w.heap.size, 0, none⟩ = some (.slice A ps.length c) := bT10.cell 0 rfl
            have ct1 : w10.cell? ⟨w.heap.size, 1, none⟩ = some (.int .i64 cl) := bT10.cell 1 rfl
            have ct2 : w10.cell? ⟨w.heap.size, 2, none⟩ = some (.int .i64 lo) := bT10.cell 2 rfl
            have ct3 : w10.cell? ⟨w.heap.size, 3, none⟩ = some (.int .i64 hi) := bT10.cell 3 rfl
            have lT10 := bT10.lt
            have cx0 : w10.cell? ⟨w.heap.size + 1, 0, none⟩ = some (.slice Ae es.length ce) := bX10.cell 0 rfl
            have cx1 : w10.cell? ⟨w.heap.size + 1, 1, none⟩ = some (.slice Af fs.length cf) := bX10.cell 1 rfl
            have lX10 := bX10.lt
            go_wp2_with fail
            refine (HTE1.out _ hB10).mono ?_
            rintro e w11 ⟨rfl, hb11⟩
            have bT11 := bT10.below hb11
            have bX11 := bX10.below hb11
            have hB11 := hB10.trans (hb11.mono hB10.size)
            clear ct0 ct1 ct2 ct3 lT10 cx0 cx1 lX10 bT10 bX10 hB10 hb11
            have ct0 : w11.cell? ⟨w.heap.size, 0, none⟩ = some (.slice A ps.length c) := bT11.cell 0 rfl
            have ct1 : w11.cell? ⟨w.heap.size, 1, none⟩ = some (.int .i64 cl) := bT11.cell 1 rfl
            have ct2 : w11.cell? ⟨w.heap.size, 2, none⟩ = some (.int .i64 lo) := bT11.cell 2 rfl
            have ct3 : w11.cell? ⟨w.heap.size, 3, none⟩ = some (.int .i64 hi) := bT11.cell 3 rfl
            have lT11 := bT11.lt
            have cx0 : w11.cell? ⟨w.heap.size + 1, 0, none⟩ = some (.slice Ae es.length ce) := bX11.cell 0 rfl
            have cx1 : w11.cell? ⟨w.heap.size + 1, 1, none⟩ = some (.slice Af fs.length cf) := bX11.cell 1 rfl
            have lX11 := bX11.lt
            go_wp2_with fail
            refine (HAF.out _ hB11).mono ?_
            rintro e w12 ⟨rfl, hb12⟩
            have bT12 := bT11.below hb12
            have bX12 := bX11.below hb12
            have hB12 := hB11.trans (hb12.mono hB11.size)
            clear ct0 ct1 ct2 ct3 lT11 cx0 cx1 lX11 bT11 bX11 hB11 hb12
            have ct0 : w12.cell? ⟨w.heap.size, 0, none⟩ = some (.slice A ps.length c) := bT12.cell 0 rfl
            have ct1 : w12.cell? ⟨w.heap.size, 1, none⟩ = some (.int .i64 cl) := bT12.cell 1 rfl
            have ct2 : w12.cell? ⟨w.heap.size, 2, none⟩ = some (.int .i64 lo) := bT12.cell 2 rfl
            have ct3 : w12.cell? ⟨w.heap.size, 3, none⟩ = some (.int .i64 hi) := bT12.cell 3 rfl
            have lT12 := bT12.lt
            have cx0 : w12.cell? ⟨w.heap.size + 1, 0, none⟩ = some (.slice Ae es.length ce) := bX12.cell 0 rfl
            have cx1 : w12.cell? ⟨w.heap.size + 1, 1, none⟩ = some (.slice Af fs.length cf) := bX12.cell 1 rfl
            have lX12 := bX12.lt
            cases EF with
            | false =>
              go_wp2_with fail
              refine (HWK.out _).mono ?_
              rintro e wz ⟨rfl, hbz⟩
              have hBz := hB12.trans (hbz.mono hB12.size)
              go_wp2_with fail
              go_returns
              exact ⟨rfl, hBz⟩
            | true =>
              have HSF1 := Lib.hid (HSWF.out rfl)
              have HTF1 := Lib.hid (HTUF.out rfl)
              have hmf := HMF.out rfl
              clear HSWF HTUF HMF
              by_cases hab : TUE = TUF
              · have hab1 : (TUE != TUF) = false := by simpa using hab
                have hmn : (SWE == SWF) = true := by rw [hmf, ME1.out, HTD.out, ← hab]; simp
                have hab := Lib.hid hab
                clear hmf ME1
                go_wp2_with fail
                refine (HSF1.out _ hB12).mono ?_
                rintro e w13 ⟨rfl, hb13⟩
                have bT13 := bT12.below hb13
                have bX13 := bX12.below hb13
                have hB13 := hB12.trans (hb13.mono hB12.size)
                clear ct0 ct1 ct2 ct3 lT12 cx0 cx1 lX12 bT12 bX12 hB12 hb13
                have ct0 : w13.cell? ⟨w.heap.size, 0, none⟩ = some (.slice A ps.length c) := bT13.cell 0 rfl
                have ct1 : w13.cell? ⟨w.heap.size, 1, none⟩ = some (.int .i64 cl) := bT13.cell 1 rfl
                have ct2 : w13.cell? ⟨w.heap.size, 2, none⟩ = some (.int .i64 lo) := bT13.cell 2 rfl
                have ct3 : w13.cell? ⟨w.heap.size, 3, none⟩ = some (.int .i64 hi) := bT13.cell 3 rfl
                have lT13 := bT13.lt
                have cx0 : w13.cell? ⟨w.heap.size + 1, 0, none⟩ = some (.slice Ae es.length ce) := bX13.cell 0 rfl
                have cx1 : w13.cell? ⟨w.heap.size + 1, 1, none⟩ = some (.slice Af fs.length cf) := bX13.cell 1 rfl
                have lX13 := bX13.lt
                go_wp2_with fail
                refine (HTF1.out _ hB13).mono ?_
                rintro e w14 ⟨rfl, hb14⟩
                have bT14 := bT13.below hb14
                have bX14 := bX13.below hb14
                have hB14 := hB13.trans (hb14.mono hB13.size)
                clear ct0 ct1 ct2 ct3 lT13 cx0 cx1 lX13 bT13 bX13 hB13 hb14
                have ct0 : w14.cell? ⟨w.heap.size, 0, none⟩ = some (.slice A ps.length c) := bT14.cell 0 rfl
                have ct1 : w14.cell? ⟨w.heap.size, 1, none⟩ = some (.int .i64 cl) := bT14.cell 1 rfl
                have ct2 : w14.cell? ⟨w.heap.size, 2, none⟩ = some (.int .i64 lo) := bT14.cell 2 rfl
                have ct3 : w14.cell? ⟨w.heap.size, 3, none⟩ = some (.int .i64 hi) := bT14.cell 3 rfl
                have lT14 := bT14.lt
                have cx0 : w14.cell? ⟨w.heap.size + 1, 0, none⟩ = some (.slice Ae es.length ce) := bX14.cell 0 rfl
                have cx1 : w14.cell? ⟨w.heap.size + 1, 1, none⟩ = some (.slice Af fs.length cf) := bX14.cell 1 rfl
                have lX14 := bX14.lt
                go_wp2_with fail
                refine (HWK.out _).mono ?_
                rintro e wz ⟨rfl, hbz⟩
                have hBz := hB14.trans (hbz.mono hB14.size)
                go_wp2_with fail
                go_returns
                exact ⟨rfl, hBz⟩
              · have hab1 : (TUE != TUF) = true := by simpa using hab
                clear hmf ME1 hab
                go_wp2_with fail
                refine (HSF1.out _ hB12).mono ?_
                rintro e w13 ⟨rfl, hb13⟩
                have bT13 := bT12.below hb13
                have bX13 := bX12.below hb13
                have hB13 := hB12.trans (hb13.mono hB12.size)
                clear ct0 ct1 ct2 ct3 lT12 cx0 cx1 lX12 bT12 bX12 hB12 hb13
                have ct0 : w13.cell? ⟨w.heap.size, 0, none⟩ = some (.slice A ps.length c) := bT13.cell 0 rfl
                have ct1 : w13.cell? ⟨w.heap.size, 1, none⟩ = some (.int .i64 cl) := bT13.cell 1 rfl
                have ct2 : w13.cell? ⟨w.heap.size, 2, none⟩ = some (.int .i64 lo) := bT13.cell 2 rfl
                have ct3 : w13.cell? ⟨w.heap.size, 3, none⟩ = some (.int .i64 hi) := bT13.cell 3 rfl
                have lT13 := bT13.lt
                have cx0 : w13.cell? ⟨w.heap.size + 1, 0, none⟩ = some (.slice Ae es.length ce) := bX13.cell 0 rfl
                have cx1 : w13.cell? ⟨w.heap.size + 1, 1, none⟩ = some (.slice Af fs.length cf) := bX13.cell 1 rfl
                have lX13 := bX13.lt
                go_wp2_with fail
                refine (HTF1.out _ hB13).mono ?_
                rintro e w14 ⟨rfl, hb14⟩
                have bT14 := bT13.below hb14
                have bX14 := bX13.below hb14
                have hB14 := hB13.trans (hb14.mono hB13.size)
                clear ct0 ct1 ct2 ct3 lT13 cx0 cx1 lX13 bT13 bX13 hB13 hb14
                have ct0 : w14.cell? ⟨w.heap.size, 0, none⟩ = some (.slice A ps.length c) := bT14.cell 0 rfl
                have ct1 : w14.cell? ⟨w.heap.size, 1, none⟩ = some (.int .i64 cl) := bT14.cell 1 rfl
                have ct2 : w14.cell? ⟨w.heap.size, 2, none⟩ = some (.int .i64 lo) := bT14.cell 2 rfl
                have ct3 : w14.cell? ⟨w.heap.size, 3, none⟩ = some (.int .i64 hi) := bT14.cell 3 rfl
                have lT14 := bT14.lt
                have cx0 : w14.cell? ⟨w.heap.size + 1, 0, none⟩ = some (.slice Ae es.length ce) := bX14.cell 0 rfl
                have cx1 : w14.cell? ⟨w.heap.size + 1, 1, none⟩ = some (.slice Af fs.length cf) := bX14.cell 1 rfl
                have lX14 := bX14.lt
                go_wp2_with fail
                refine (HWK.out _).mono ?_
                rintro e wz ⟨rfl, hbz⟩
                have hBz := hB14.trans (hbz.mono hB14.size)
                go_wp2_with fail
                go_returns
                exact ⟨rfl, hBz⟩
        · subst hs
          rw [if_neg (by decide)] at HRO1
          have HRO := HRO1
          clear HRO1
          go_enter Try.func6, Try.ntmps6
          go_wp2_with fail
          have bT1 := (BoxS.new w 26 #[.slice A ps.length c, .int .i64 cl, .int .i64 lo, .int .i64 hi]).alloc (.cells #[.slice Ae es.length ce, .slice Af fs.length cf] 48)
          have bX1 := BoxS.new (w.alloc (.cells #[.slice A ps.length c, .int .i64 cl, .int .i64 lo, .int .i64 hi] 26)) 48 #[.slice Ae es.length ce, .slice Af fs.length cf]
          rw [World.size_alloc] at bX1
          have hB1 : Below w.heap.size w ((w.alloc (.cells #[.slice A ps.length c, .int .i64 cl, .int .i64 lo, .int .i64 hi] 26)).alloc (.cells #[.slice Ae es.length ce, .slice Af fs.length cf] 48)) := by (repeat' (first | (with_reducible exact Below.refl _ _) | (with_reducible assumption) | (with_reducible refine Below.alloc ?_ ?_ _) | (with_reducible refine Below.drew ?_) | (with_reducible refine Below.setCell ?_ ?_ _) | go_size | (exact (by simp)) | omega))
          generalize World.alloc (World.alloc w _) _ = w1 at *
          have ct0 : w1.cell? ⟨w.heap.size, 0, none⟩ = some (.slice A ps.length c) := bT1.cell 0 rfl
          have ct1 : w1.cell? ⟨w.heap.size, 1, none⟩ = some (.int .i64 cl) := bT1.cell 1 rfl
          have ct2 : w1.cell? ⟨w.heap.size, 2, none⟩ = some (.int .i64 lo) := bT1.cell 2 rfl
          have ct3 : w1.cell? ⟨w.heap.size, 3, none⟩ = some (.int .i64 hi) := bT1.cell 3 rfl
          have lT1 := bT1.lt
          have cx0 : w1.cell? ⟨w.heap.size + 1, 0, none⟩ = some (.slice Ae es.length ce) := bX1.cell 0 rfl
          have cx1 : w1.cell? ⟨w.heap.size + 1, 1, none⟩ = some (.slice Af fs.length cf) := bX1.cell 1 rfl
          have lX1 := bX1.lt
          try go_wp2_with fail
          refine (HCK.out _ hB1).mono ?_
          rintro e w2 ⟨rfl, hb2⟩
          have bT2 := bT1.below hb2
          have bX2 := bX1.below hb2
          have hB2 := hB1.trans (hb2.mono hB1.size)
          clear ct0 ct1 ct2 ct3 lT1 cx0 cx1 lX1 bT1 bX1 hB1 hb2
          have ct0 : w2.cell? ⟨w.heap.size, 0, none⟩ = some (.slice A ps.length c) := bT2.cell 0 rfl
          have ct1 : w2.cell? ⟨w.heap.size, 1, none⟩ = some (.int .i64 cl) := bT2.cell 1 rfl
          have ct2 : w2.cell? ⟨w.heap.size, 2, none⟩ = some (.int .i64 lo) := bT2.cell 2 rfl
          have ct3 : w2.cell? ⟨w.heap.size, 3, none⟩ = some (.int .i64 hi) := bT2.cell 3 rfl
          have lT2 := bT2.lt
          have cx0 : w2.cell? ⟨w.heap.size + 1, 0, none⟩ = some (.slice Ae es.length ce) := bX2.cell 0 rfl
          have cx1 : w2.cell? ⟨w.heap.size + 1, 1, none⟩ = some (.slice Af fs.length cf) := bX2.cell 1 rfl
          have lX2 := bX2.lt
          go_wp2_with fail
          refine (HAW.out _ hB2).mono ?_
          rintro e w3 ⟨rfl, hb3⟩
          have bT3 := bT2.below hb3
          have bX3 := bX2.below hb3
          have hB3 := hB2.trans (hb3.mono hB2.size)
          clear ct0 ct1 ct2 ct3 lT2 cx0 cx1 lX2 bT2 bX2 hB2 hb3
          have ct0 : w3.cell? ⟨w.heap.size, 0, none⟩ = some (.slice A ps.length c) := bT3.cell 0 rfl
          have ct1 : w3.cell? ⟨w.heap.size, 1, none⟩ = some (.int .i64 cl) := bT3.cell 1 rfl
          have ct2 : w3.cell? ⟨w.heap.size, 2, none⟩ = some (.int .i64 lo) := bT3.cell 2 rfl
          have ct3 : w3.cell? ⟨w.heap.size, 3, none⟩ = some (.int .i64 hi) := bT3.cell 3 rfl
          have lT3 := bT3.lt
          have cx0 : w3.cell? ⟨w.heap.size + 1, 0, none⟩ = some (.slice Ae es.length ce) := bX3.cell 0 rfl
          have cx1 : w3.cell? ⟨w.heap.size + 1, 1, none⟩ = some (.slice Af fs.length cf) := bX3.cell 1 rfl
          have lX3 := bX3.lt
          go_wp2_with fail
          refine (HAP.out _ hB3).mono ?_
          rintro e w4 ⟨rfl, hb4⟩
          have bT4 := bT3.below hb4
          have bX4 := bX3.below hb4
          have hB4 := hB3.trans (hb4.mono hB3.size)
          clear ct0 ct1 ct2 ct3 lT3 cx0 cx1 lX3 bT3 bX3 hB3 hb4
          have ct0 : w4.cell? ⟨w.heap.size, 0, none⟩ = some (.slice A ps.length c) := bT4.cell 0 rfl
          have ct1 : w4.cell? ⟨w.heap.size, 1, none⟩ = some (.int .i64 cl) := bT4.cell 1 rfl
          have ct2 : w4.cell? ⟨w.heap.size, 2, none⟩ = some (.int .i64 lo) := bT4.cell 2 rfl
          have ct3 : w4.cell? ⟨w.heap.size, 3, none⟩ = some (.int .i64 hi) := bT4.cell 3 rfl
          have lT4 := bT4.lt
          have cx0 : w4.cell? ⟨w.heap.size + 1, 0, none⟩ = some (.slice Ae es.length ce) := bX4.cell 0 rfl
          have cx1 : w4.cell? ⟨w.heap.size + 1, 1, none⟩ = some (.slice Af fs.length cf) := bX4.cell 1 rfl
          have lX4 := bX4.lt
          go_wp2_with fail
          refine (HFR.out _ hB4).mono ?_
          rintro e w5 ⟨rfl, hb5⟩
          have bT5 := bT4.below hb5
          have bX5 := bX4.below hb5
          have hB5 := hB4.trans (hb5.mono hB4.size)
          clear ct0 ct1 ct2 ct3 lT4 cx0 cx1 lX4 bT4 bX4 hB4 hb5
          have ct0 : w5.cell? ⟨w.heap.size, 0, none⟩ = some (.slice A ps.length c) := bT5.cell 0 rfl
          have ct1 : w5.cell? ⟨w.heap.size, 1, none⟩ = some (.int .i64 cl) := bT5.cell 1 rfl
          have ct2 : w5.cell? ⟨w.heap.size, 2, none⟩ = some (.int .i64 lo) := bT5.cell 2 rfl
          have ct3 : w5.cell? ⟨w.heap.size, 3, none⟩ = some (.int .i64 hi) := bT5.cell 3 rfl
          have lT5 := bT5.lt
          have cx0 : w5.cell? ⟨w.heap.size + 1, 0, none⟩ = some (.slice Ae es.length ce) := bX5.cell 0 rfl
          have cx1 : w5.cell? ⟨w.heap.size + 1, 1, none⟩ = some (.slice Af fs.length cf) := bX5.cell 1 rfl
          have lX5 := bX5.lt
          go_wp2_with fail
          refine (HRO.out _ hB5).mono ?_
          rintro e w6 ⟨v6, rfl, hI6, hb6⟩
          have bT6 := bT5.below hb6
          have bX6 := bX5.below hb6
          have hB6 := hB5.trans (hb6.mono hB5.size)
          clear ct0 ct1 ct2 ct3 lT5 cx0 cx1 lX5 bT5 bX5 hB5 hb6
          have ct0 : w6.cell? ⟨w.heap.size, 0, none⟩ = some (.slice A ps.length c) := bT6.cell 0 rfl
          have ct1 : w6.cell? ⟨w.heap.size, 1, none⟩ = some (.int .i64 cl) := bT6.cell 1 rfl
          have ct2 : w6.cell? ⟨w.heap.size, 2, none⟩ = some (.int .i64 lo) := bT6.cell 2 rfl
          have ct3 : w6.cell? ⟨w.heap.size, 3, none⟩ = some (.int .i64 hi) := bT6.cell 3 rfl
          have lT6 := bT6.lt
          have cx0 : w6.cell? ⟨w.heap.size + 1, 0, none⟩ = some (.slice Ae es.length ce) := bX6.cell 0 rfl
          have cx1 : w6.cell? ⟨w.heap.size + 1, 1, none⟩ = some (.slice Af fs.length cf) := bX6.cell 1 rfl
          have lX6 := bX6.lt
          obtain ⟨AR, cR, rfl⟩ := ints_form hI6.out
          go_wp2_with fail
          refine (HKN.out _ _).mono ?_
          rintro e wq ⟨rfl, hq⟩
          have hq := hq.symm
          subst hq
          go_wp2_with fail
          refine (HAE.out _ hB6).mono ?_
          rintro e w7 ⟨rfl, hb7⟩
          have bT7 := bT6.below hb7
          have bX7 := bX6.below hb7
          have hB7 := hB6.trans (hb7.mono hB6.size)
          clear ct0 ct1 ct2 ct3 lT6 cx0 cx1 lX6 bT6 bX6 hB6 hb7
          have ct0 : w7.cell? ⟨w.heap.size, 0, none⟩ = some (.slice A ps.length c) := bT7.cell 0 rfl
          have ct1 : w7.cell? ⟨w.heap.size, 1, none⟩ = some (.int .i64 cl) := bT7.cell 1 rfl
          have ct2 : w7.cell? ⟨w.heap.size, 2, none⟩ = some (.int .i64 lo) := bT7.cell 2 rfl
          have ct3 : w7.cell? ⟨w.heap.size, 3, none⟩ = some (.int .i64 hi) := bT7.cell 3 rfl
          have lT7 := bT7.lt
          have cx0 : w7.cell? ⟨w.heap.size + 1, 0, none⟩ = some (.slice Ae es.length ce) := bX7.cell 0 rfl
          have cx1 : w7.cell? ⟨w.heap.size + 1, 1, none⟩ = some (.slice Af fs.length cf) := bX7.cell 1 rfl
          have lX7 := bX7.lt
          cases EE with
          | false =>
            go_wp2_with fail
            refine (HWK.out _).mono ?_
            rintro e wz ⟨rfl, hbz⟩
            have hBz := hB7.trans (hbz.mono hB7.size)
            go_wp2_with fail
            go_returns
            exact ⟨rfl, hBz⟩
          | true =>
            have HSE1 := Lib.hid (HSWE.out rfl)
            have HTE1 := Lib.hid (HTUE.out rfl)
            obtain ⟨hwm, hws2, hwn, hc1, hc2⟩ : IntKind.i64.wrap (TUE * DP) = TUE * DP ∧ IntKind.i64.wrap (DW - TUE * DP) = DW - TUE * DP ∧ IntKind.i64.wrap (-(ws.length : Int)) = -(ws.length : Int) ∧ decide (TUE < -(ws.length : Int)) = false ∧ decide ((ws.length : Int) < TUE) = false := by
              obtain ⟨_, _, me3, me4⟩ := HME.out rfl
              obtain ⟨hd1, hd2, h8⟩ := HD.out
              have m1 : -(8 * 16000000) ≤ TUE * DP ∧ TUE * DP ≤ 8 * 16000000 := mul_bd (by omega) (by omega) hd2.1 hd2.2
              exact ⟨IntWalk.i64_in _ (by omega), IntWalk.i64_in _ (by omega), IntWalk.i64_in _ (by omega), decide_eq_false (by omega), decide_eq_false (by omega)⟩
            have me1 := (HME.out rfl).1
            have hne : (SWE != DW - TUE * DP) = false := by rw [me1]; simp
            have hz : (TUE != 0) = false := by have := (HME.out rfl).2.1 (by have := HCL.out; omega); simpa using this
            obtain ⟨TD, hTD⟩ : ∃ TD, TD = TUE * DP := ⟨_, rfl⟩
            have hwm2 : IntKind.i64.wrap (TUE * DP) = TD := by rw [hwm, hTD]
            clear hwm
            rw [← hTD] at hws2 hne me1
            have HTD := Lib.hid hTD
            have ME1 := Lib.hid me1
            clear HSWE HTUE HME hTD me1
            go_wp2_with fail
            refine (HSE1.out _ hB7).mono ?_
            rintro e w8 ⟨rfl, hb8⟩
            have bT8 := bT7.below hb8
            have bX8 := bX7.below hb8
            have hB8 := hB7.trans (hb8.mono hB7.size)
            clear ct0 ct1 ct2 ct3 lT7 cx0 cx1 lX7 bT7 bX7 hB7 hb8
            have ct0 : w8.cell? ⟨w.heap.size, 0, none⟩ = some (.slice A ps.length c) := bT8.cell 0 rfl
            have ct1 : w8.cell? ⟨w.heap.size, 1, none⟩ = some (.int .i64 cl) := bT8.cell 1 rfl
            have ct2 : w8.cell? ⟨w.heap.size, 2, none⟩ = some (.int .i64 lo) := bT8.cell 2 rfl
            have ct3 : w8.cell? ⟨w.heap.size, 3, none⟩ = some (.int .i64 hi) := bT8.cell 3 rfl
            have lT8 := bT8.lt
            have cx0 : w8.cell? ⟨w.heap.size + 1, 0, none⟩ = some (.slice Ae es.length ce) := bX8.cell 0 rfl
            have cx1 : w8.cell? ⟨w.heap.size + 1, 1, none⟩ = some (.slice Af fs.length cf) := bX8.cell 1 rfl
            have lX8 := bX8.lt
            go_wp2_with fail
            refine (HTE1.out _ hB8).mono ?_
            rintro e w9 ⟨rfl, hb9⟩
            have bT9 := bT8.below hb9
            have bX9 := bX8.below hb9
            have hB9 := hB8.trans (hb9.mono hB8.size)
            clear ct0 ct1 ct2 ct3 lT8 cx0 cx1 lX8 bT8 bX8 hB8 hb9
            have ct0 : w9.cell? ⟨w.heap.size, 0, none⟩ = some (.slice A ps.length c) := bT9.cell 0 rfl
            have ct1 : w9.cell? ⟨w.heap.size, 1, none⟩ = some (.int .i64 cl) := bT9.cell 1 rfl
            have ct2 : w9.cell? ⟨w.heap.size, 2, none⟩ = some (.int .i64 lo) := bT9.cell 2 rfl
            have ct3 : w9.cell? ⟨w.heap.size, 3, none⟩ = some (.int .i64 hi) := bT9.cell 3 rfl
            have lT9 := bT9.lt
            have cx0 : w9.cell? ⟨w.heap.size + 1, 0, none⟩ = some (.slice Ae es.length ce) := bX9.cell 0 rfl
            have cx1 : w9.cell? ⟨w.heap.size + 1, 1, none⟩ = some (.slice Af fs.length cf) := bX9.cell 1 rfl
            have lX9 := bX9.lt
            go_wp2_with fail
            refine (HAF.out _ hB9).mono ?_
            rintro e w10 ⟨rfl, hb10⟩
            have bT10 := bT9.below hb10
            have bX10 := bX9.below hb10
            have hB10 := hB9.trans (hb10.mono hB9.size)
            clear ct0 ct1 ct2 ct3 lT9 cx0 cx1 lX9 bT9 bX9 hB9 hb10
            have ct0 : w10.cell? ⟨w.heap.size, 0, none⟩ = some (.slice A ps.length c) := bT10.cell 0 rfl
            have ct1 : w10.cell? ⟨w.heap.size, 1, none⟩ = some (.int .i64 cl) := bT10.cell 1 rfl
            have ct2 : w10.cell? ⟨w.heap.size, 2, none⟩ = some (.int .i64 lo) := bT10.cell 2 rfl
            have ct3 : w10.cell? ⟨w.heap.size, 3, none⟩ = some (.int .i64 hi) := bT10.cell 3 rfl
            have lT10 := bT10.lt
            have cx0 : w10.cell? ⟨w.heap.size + 1, 0, none⟩ = some (.slice Ae es.length ce) := bX10.cell 0 rfl
            have cx1 : w10.cell? ⟨w.heap.size + 1, 1, none⟩ = some (.slice Af fs.length cf) := bX10.cell 1 rfl
            have lX10 := bX10.lt
            cases EF with
            | false =>
              go_wp2_with fail
              refine (HWK.out _).mono ?_
              rintro e wz ⟨rfl, hbz⟩
              have hBz := hB10.trans (hbz.mono hB10.size)
              go_wp2_with fail
              go_returns
              exact ⟨rfl, hBz⟩
            | true =>
              have HSF1 := Lib.hid (HSWF.out rfl)
              have HTF1 := Lib.hid (HTUF.out rfl)
              have hmf := HMF.out rfl
              clear HSWF HTUF HMF
              by_cases hab : TUE = TUF
              · have hab1 : (TUE != TUF) = false := by simpa using hab
                have hmn : (SWE == SWF) = true := by rw [hmf, ME1.out, HTD.out, ← hab]; simp
                have hab := Lib.hid hab
                clear hmf ME1
                go_wp2_with fail
                refine (HSF1.out _ hB10).mono ?_
                rintro e w11 ⟨rfl, hb11⟩
                have bT11 := bT10.below hb11
                have bX11 := bX10.below hb11
                have hB11 := hB10.trans (hb11.mono hB10.size)
                clear ct0 ct1 ct2 ct3 lT10 cx0 cx1 lX10 bT10 bX10 hB10 hb11
                have ct0 : w11.cell? ⟨w.heap.size, 0, none⟩ = some (.slice A ps.length c) := bT11.cell 0 rfl
                have ct1 : w11.cell? ⟨w.heap.size, 1, none⟩ = some (.int .i64 cl) := bT11.cell 1 rfl
                have ct2 : w11.cell? ⟨w.heap.size, 2, none⟩ = some (.int .i64 lo) := bT11.cell 2 rfl
                have ct3 : w11.cell? ⟨w.heap.size, 3, none⟩ = some (.int .i64 hi) := bT11.cell 3 rfl
                have lT11 := bT11.lt
                have cx0 : w11.cell? ⟨w.heap.size + 1, 0, none⟩ = some (.slice Ae es.length ce) := bX11.cell 0 rfl
                have cx1 : w11.cell? ⟨w.heap.size + 1, 1, none⟩ = some (.slice Af fs.length cf) := bX11.cell 1 rfl
                have lX11 := bX11.lt
                go_wp2_with fail
                refine (HTF1.out _ hB11).mono ?_
                rintro e w12 ⟨rfl, hb12⟩
                have bT12 := bT11.below hb12
                have bX12 := bX11.below hb12
                have hB12 := hB11.trans (hb12.mono hB11.size)
                clear ct0 ct1 ct2 ct3 lT11 cx0 cx1 lX11 bT11 bX11 hB11 hb12
                have ct0 : w12.cell? ⟨w.heap.size, 0, none⟩ = some (.slice A ps.length c) := bT12.cell 0 rfl
                have ct1 : w12.cell? ⟨w.heap.size, 1, none⟩ = some (.int .i64 cl) := bT12.cell 1 rfl
                have ct2 : w12.cell? ⟨w.heap.size, 2, none⟩ = some (.int .i64 lo) := bT12.cell 2 rfl
                have ct3 : w12.cell? ⟨w.heap.size, 3, none⟩ = some (.int .i64 hi) := bT12.cell 3 rfl
                have lT12 := bT12.lt
                have cx0 : w12.cell? ⟨w.heap.size + 1, 0, none⟩ = some (.slice Ae es.length ce) := bX12.cell 0 rfl
                have cx1 : w12.cell? ⟨w.heap.size + 1, 1, none⟩ = some (.slice Af fs.length cf) := bX12.cell 1 rfl
                have lX12 := bX12.lt
                go_wp2_with fail
                refine (HWK.out _).mono ?_
                rintro e wz ⟨rfl, hbz⟩
                have hBz := hB12.trans (hbz.mono hB12.size)
                go_wp2_with fail
                go_returns
                exact ⟨rfl, hBz⟩
              · have hab1 : (TUE != TUF) = true := by simpa using hab
                clear hmf ME1 hab
                go_wp2_with fail
                refine (HSF1.out _ hB10).mono ?_
                rintro e w11 ⟨rfl, hb11⟩
                have bT11 := bT10.below hb11
                have bX11 := bX10.below hb11
                have hB11 := hB10.trans (hb11.mono hB10.size)
                clear ct0 ct1 ct2 ct3 lT10 cx0 cx1 lX10 bT10 bX10 hB10 hb11
                have ct0 : w11.cell? ⟨w.heap.size, 0, none⟩ = some (.slice A ps.length c) := bT11.cell 0 rfl
                have ct1 : w11.cell? ⟨w.heap.size, 1, none⟩ = some (.int .i64 cl) := bT11.cell 1 rfl
                have ct2 : w11.cell? ⟨w.heap.size, 2, none⟩ = some (.int .i64 lo) := bT11.cell 2 rfl
                have ct3 : w11.cell? ⟨w.heap.size, 3, none⟩ = some (.int .i64 hi) := bT11.cell 3 rfl
                have lT11 := bT11.lt
                have cx0 : w11.cell? ⟨w.heap.size + 1, 0, none⟩ = some (.slice Ae es.length ce) := bX11.cell 0 rfl
                have cx1 : w11.cell? ⟨w.heap.size + 1, 1, none⟩ = some (.slice Af fs.length cf) := bX11.cell 1 rfl
                have lX11 := bX11.lt
                go_wp2_with fail
                refine (HTF1.out _ hB11).mono ?_
                rintro e w12 ⟨rfl, hb12⟩
                have bT12 := bT11.below hb12
                have bX12 := bX11.below hb12
                have hB12 := hB11.trans (hb12.mono hB11.size)
                clear ct0 ct1 ct2 ct3 lT11 cx0 cx1 lX11 bT11 bX11 hB11 hb12
                have ct0 : w12.cell? ⟨w.heap.size, 0, none⟩ = some (.slice A ps.length c) := bT12.cell 0 rfl
                have ct1 : w12.cell? ⟨w.heap.size, 1, none⟩ = some (.int .i64 cl) := bT12.cell 1 rfl
                have ct2 : w12.cell? ⟨w.heap.size, 2, none⟩ = some (.int .i64 lo) := bT12.cell 2 rfl
                have ct3 : w12.cell? ⟨w.heap.size, 3, none⟩ = some (.int .i64 hi) := bT12.cell 3 rfl
                have lT12 := bT12.lt
                have cx0 : w12.cell? ⟨w.heap.size + 1, 0, none⟩ = some (.slice Ae es.length ce) := bX12.cell 0 rfl
                have cx1 : w12.cell? ⟨w.heap.size + 1, 1, none⟩ = some (.slice Af fs.length cf) := bX12.cell 1 rfl
                have lX12 := bX12.lt
                go_wp2_with fail
                refine (HWK.out _).mono ?_
                rintro e wz ⟨rfl, hbz⟩
                have hBz := hB12.trans (hbz.mono hB12.size)
                go_wp2_with fail
                go_returns
                exact ⟨rfl, hBz⟩
    · have hclb : (cl == 0) = false := by rw [hc]; rfl
      clear HRO HSI HKN HSE hc
      cases FB with
      | true =>
        go_enter Try.func6, Try.ntmps6
        go_wp2_with fail
        have bT1 := (BoxS.new w 26 #[.slice A ps.length c, .int .i64 cl, .int .i64 lo, .int .i64 hi]).alloc (.cells #[.slice Ae es.length ce, .slice Af fs.length cf] 48)
        have bX1 := BoxS.new (w.alloc (.cells #[.slice A ps.length c, .int .i64 cl, .int .i64 lo, .int .i64 hi] 26)) 48 #[.slice Ae es.length ce, .slice Af fs.length cf]
        rw [World.size_alloc] at bX1
        have hB1 : Below w.heap.size w ((w.alloc (.cells #[.slice A ps.length c, .int .i64 cl, .int .i64 lo, .int .i64 hi] 26)).alloc (.cells #[.slice Ae es.length ce, .slice Af fs.length cf] 48)) := by (repeat' (first | (with_reducible exact Below.refl _ _) | (with_reducible assumption) | (with_reducible refine Below.alloc ?_ ?_ _) | (with_reducible refine Below.drew ?_) | (with_reducible refine Below.setCell ?_ ?_ _) | go_size | (exact (by simp)) | omega))
        generalize World.alloc (World.alloc w _) _ = w1 at *
        have ct0 : w1.cell? ⟨w.heap.size, 0, none⟩ = some (.slice A ps.length c) := bT1.cell 0 rfl
        have ct1 : w1.cell? ⟨w.heap.size, 1, none⟩ = some (.int .i64 cl) := bT1.cell 1 rfl
        have ct2 : w1.cell? ⟨w.heap.size, 2, none⟩ = some (.int .i64 lo) := bT1.cell 2 rfl
        have ct3 : w1.cell? ⟨w.heap.size, 3, none⟩ = some (.int .i64 hi) := bT1.cell 3 rfl
        have lT1 := bT1.lt
        have cx0 : w1.cell? ⟨w.heap.size + 1, 0, none⟩ = some (.slice Ae es.length ce) := bX1.cell 0 rfl
        have cx1 : w1.cell? ⟨w.heap.size + 1, 1, none⟩ = some (.slice Af fs.length cf) := bX1.cell 1 rfl
        have lX1 := bX1.lt
        try go_wp2_with fail
        refine (HCK.out _ hB1).mono ?_
        rintro e w2 ⟨rfl, hb2⟩
        have bT2 := bT1.below hb2
        have bX2 := bX1.below hb2
        have hB2 := hB1.trans (hb2.mono hB1.size)
        clear ct0 ct1 ct2 ct3 lT1 cx0 cx1 lX1 bT1 bX1 hB1 hb2
        have ct0 : w2.cell? ⟨w.heap.size, 0, none⟩ = some (.slice A ps.length c) := bT2.cell 0 rfl
        have ct1 : w2.cell? ⟨w.heap.size, 1, none⟩ = some (.int .i64 cl) := bT2.cell 1 rfl
        have ct2 : w2.cell? ⟨w.heap.size, 2, none⟩ = some (.int .i64 lo) := bT2.cell 2 rfl
        have ct3 : w2.cell? ⟨w.heap.size, 3, none⟩ = some (.int .i64 hi) := bT2.cell 3 rfl
        have lT2 := bT2.lt
        have cx0 : w2.cell? ⟨w.heap.size + 1, 0, none⟩ = some (.slice Ae es.length ce) := bX2.cell 0 rfl
        have cx1 : w2.cell? ⟨w.heap.size + 1, 1, none⟩ = some (.slice Af fs.length cf) := bX2.cell 1 rfl
        have lX2 := bX2.lt
        go_wp2_with fail
        refine (HAW.out _ hB2).mono ?_
        rintro e w3 ⟨rfl, hb3⟩
        have bT3 := bT2.below hb3
        have bX3 := bX2.below hb3
        have hB3 := hB2.trans (hb3.mono hB2.size)
        clear ct0 ct1 ct2 ct3 lT2 cx0 cx1 lX2 bT2 bX2 hB2 hb3
        have ct0 : w3.cell? ⟨w.heap.size, 0, none⟩ = some (.slice A ps.length c) := bT3.cell 0 rfl
        have ct1 : w3.cell? ⟨w.heap.size, 1, none⟩ = some (.int .i64 cl) := bT3.cell 1 rfl
        have ct2 : w3.cell? ⟨w.heap.size, 2, none⟩ = some (.int .i64 lo) := bT3.cell 2 rfl
        have ct3 : w3.cell? ⟨w.heap.size, 3, none⟩ = some (.int .i64 hi) := bT3.cell 3 rfl
        have lT3 := bT3.lt
        have cx0 : w3.cell? ⟨w.heap.size + 1, 0, none⟩ = some (.slice Ae es.length ce) := bX3.cell 0 rfl
        have cx1 : w3.cell? ⟨w.heap.size + 1, 1, none⟩ = some (.slice Af fs.length cf) := bX3.cell 1 rfl
        have lX3 := bX3.lt
        go_wp2_with fail
        refine (HAP.out _ hB3).mono ?_
        rintro e w4 ⟨rfl, hb4⟩
        have bT4 := bT3.below hb4
        have bX4 := bX3.below hb4
        have hB4 := hB3.trans (hb4.mono hB3.size)
        clear ct0 ct1 ct2 ct3 lT3 cx0 cx1 lX3 bT3 bX3 hB3 hb4
        have ct0 : w4.cell? ⟨w.heap.size, 0, none⟩ = some (.slice A ps.length c) := bT4.cell 0 rfl
        have ct1 : w4.cell? ⟨w.heap.size, 1, none⟩ = some (.int .i64 cl) := bT4.cell 1 rfl
        have ct2 : w4.cell? ⟨w.heap.size, 2, none⟩ = some (.int .i64 lo) := bT4.cell 2 rfl
        have ct3 : w4.cell? ⟨w.heap.size, 3, none⟩ = some (.int .i64 hi) := bT4.cell 3 rfl
        have lT4 := bT4.lt
        have cx0 : w4.cell? ⟨w.heap.size + 1, 0, none⟩ = some (.slice Ae es.length ce) := bX4.cell 0 rfl
        have cx1 : w4.cell? ⟨w.heap.size + 1, 1, none⟩ = some (.slice Af fs.length cf) := bX4.cell 1 rfl
        have lX4 := bX4.lt
        go_wp2_with fail
        refine (HFR.out _ hB4).mono ?_
        rintro e w5 ⟨rfl, hb5⟩
        have bT5 := bT4.below hb5
        have bX5 := bX4.below hb5
        have hB5 := hB4.trans (hb5.mono hB4.size)
        clear ct0 ct1 ct2 ct3 lT4 cx0 cx1 lX4 bT4 bX4 hB4 hb5
        have ct0 : w5.cell? ⟨w.heap.size, 0, none⟩ = some (.slice A ps.length c) := bT5.cell 0 rfl
        have ct1 : w5.cell? ⟨w.heap.size, 1, none⟩ = some (.int .i64 cl) := bT5.cell 1 rfl
        have ct2 : w5.cell? ⟨w.heap.size, 2, none⟩ = some (.int .i64 lo) := bT5.cell 2 rfl
        have ct3 : w5.cell? ⟨w.heap.size, 3, none⟩ = some (.int .i64 hi) := bT5.cell 3 rfl
        have lT5 := bT5.lt
        have cx0 : w5.cell? ⟨w.heap.size + 1, 0, none⟩ = some (.slice Ae es.length ce) := bX5.cell 0 rfl
        have cx1 : w5.cell? ⟨w.heap.size + 1, 1, none⟩ = some (.slice Af fs.length cf) := bX5.cell 1 rfl
        have lX5 := bX5.lt
        go_wp2_with fail
        refine (HAE.out _ hB5).mono ?_
        rintro e w6 ⟨rfl, hb6⟩
        have bT6 := bT5.below hb6
        have bX6 := bX5.below hb6
        have hB6 := hB5.trans (hb6.mono hB5.size)
        clear ct0 ct1 ct2 ct3 lT5 cx0 cx1 lX5 bT5 bX5 hB5 hb6
        have ct0 : w6.cell? ⟨w.heap.size, 0, none⟩ = some (.slice A ps.length c) := bT6.cell 0 rfl
        have ct1 : w6.cell? ⟨w.heap.size, 1, none⟩ = some (.int .i64 cl) := bT6.cell 1 rfl
        have ct2 : w6.cell? ⟨w.heap.size, 2, none⟩ = some (.int .i64 lo) := bT6.cell 2 rfl
        have ct3 : w6.cell? ⟨w.heap.size, 3, none⟩ = some (.int .i64 hi) := bT6.cell 3 rfl
        have lT6 := bT6.lt
        have cx0 : w6.cell? ⟨w.heap.size + 1, 0, none⟩ = some (.slice Ae es.length ce) := bX6.cell 0 rfl
        have cx1 : w6.cell? ⟨w.heap.size + 1, 1, none⟩ = some (.slice Af fs.length cf) := bX6.cell 1 rfl
        have lX6 := bX6.lt
        cases EE with
        | false =>
          go_wp2_with fail
          refine (HWK.out _).mono ?_
          rintro e wz ⟨rfl, hbz⟩
          have hBz := hB6.trans (hbz.mono hB6.size)
          go_wp2_with fail
          go_returns
          exact ⟨rfl, hBz⟩
        | true =>
          have HSE1 := Lib.hid (HSWE.out rfl)
          have HTE1 := Lib.hid (HTUE.out rfl)
          obtain ⟨hwm, hws2, hwn, hc1, hc2⟩ : IntKind.i64.wrap (TUE * DP) = TUE * DP ∧ IntKind.i64.wrap (DW - TUE * DP) = DW - TUE * DP ∧ IntKind.i64.wrap (-(ws.length : Int)) = -(ws.length : Int) ∧ decide (TUE < -(ws.length : Int)) = false ∧ decide ((ws.length : Int) < TUE) = false := by
            obtain ⟨_, _, me3, me4⟩ := HME.out rfl
            obtain ⟨hd1, hd2, h8⟩ := HD.out
            have m1 : -(8 * 16000000) ≤ TUE * DP ∧ TUE * DP ≤ 8 * 16000000 := mul_bd (by omega) (by omega) hd2.1 hd2.2
            exact ⟨IntWalk.i64_in _ (by omega), IntWalk.i64_in _ (by omega), IntWalk.i64_in _ (by omega), decide_eq_false (by omega), decide_eq_false (by omega)⟩
          have me1 := (HME.out rfl).1
          have hne : (SWE != DW - TUE * DP) = false := by rw [me1]; simp
          obtain ⟨TD, hTD⟩ : ∃ TD, TD = TUE * DP := ⟨_, rfl⟩
          have hwm2 : IntKind.i64.wrap (TUE * DP) = TD := by rw [hwm, hTD]
          clear hwm
          rw [← hTD] at hws2 hne me1
          have HTD := Lib.hid hTD
          have ME1 := Lib.hid me1
          clear HSWE HTUE HME hTD me1
          go_wp2_with fail
          refine (HSE1.out _ hB6).mono ?_
          rintro e w7 ⟨rfl, hb7⟩
          have bT7 := bT6.below hb7
          have bX7 := bX6.below hb7
          have hB7 := hB6.trans (hb7.mono hB6.size)
          clear ct0 ct1 ct2 ct3 lT6 cx0 cx1 lX6 bT6 bX6 hB6 hb7
          have ct0 : w7.cell? ⟨w.heap.size, 0, none⟩ = some (.slice A ps.length c) := bT7.cell 0 rfl
          have ct1 : w7.cell? ⟨w.heap.size, 1, none⟩ = some (.int .i64 cl) := bT7.cell 1 rfl
          have ct2 : w7.cell? ⟨w.heap.size, 2, none⟩ = some (.int .i64 lo) := bT7.cell 2 rfl
          have ct3 : w7.cell? ⟨w.heap.size, 3, none⟩ = some (.int .i64 hi) := bT7.cell 3 rfl
          have lT7 := bT7.lt
          have cx0 : w7.cell? ⟨w.heap.size + 1, 0, none⟩ = some (.slice Ae es.length ce) := bX7.cell 0 rfl
          have cx1 : w7.cell? ⟨w.heap.size + 1, 1, none⟩ = some (.slice Af fs.length cf) := bX7.cell 1 rfl
          have lX7 := bX7.lt
          go_wp2_with fail
          refine (HTE1.out _ hB7).mono ?_
          rintro e w8 ⟨rfl, hb8⟩
          have bT8 := bT7.below hb8
          have bX8 := bX7.below hb8
          have hB8 := hB7.trans (hb8.mono hB7.size)
          clear ct0 ct1 ct2 ct3 lT7 cx0 cx1 lX7 bT7 bX7 hB7 hb8
          have ct0 : w8.cell? ⟨w.heap.size, 0, none⟩ = some (.slice A ps.length c) := bT8.cell 0 rfl
          have ct1 : w8.cell? ⟨w.heap.size, 1, none⟩ = some (.int .i64 cl) := bT8.cell 1 rfl
          have ct2 : w8.cell? ⟨w.heap.size, 2, none⟩ = some (.int .i64 lo) := bT8.cell 2 rfl
          have ct3 : w8.cell? ⟨w.heap.size, 3, none⟩ = some (.int .i64 hi) := bT8.cell 3 rfl
          have lT8 := bT8.lt
          have cx0 : w8.cell? ⟨w.heap.size + 1, 0, none⟩ = some (.slice Ae es.length ce) := bX8.cell 0 rfl
          have cx1 : w8.cell? ⟨w.heap.size + 1, 1, none⟩ = some (.slice Af fs.length cf) := bX8.cell 1 rfl
          have lX8 := bX8.lt
          go_wp2_with fail
          refine (HAF.out _ hB8).mono ?_
          rintro e w9 ⟨rfl, hb9⟩
          have bT9 := bT8.below hb9
          have bX9 := bX8.below hb9
          have hB9 := hB8.trans (hb9.mono hB8.size)
          clear ct0 ct1 ct2 ct3 lT8 cx0 cx1 lX8 bT8 bX8 hB8 hb9
          have ct0 : w9.cell? ⟨w.heap.size, 0, none⟩ = some (.slice A ps.length c) := bT9.cell 0 rfl
          have ct1 : w9.cell? ⟨w.heap.size, 1, none⟩ = some (.int .i64 cl) := bT9.cell 1 rfl
          have ct2 : w9.cell? ⟨w.heap.size, 2, none⟩ = some (.int .i64 lo) := bT9.cell 2 rfl
          have ct3 : w9.cell? ⟨w.heap.size, 3, none⟩ = some (.int .i64 hi) := bT9.cell 3 rfl
          have lT9 := bT9.lt
          have cx0 : w9.cell? ⟨w.heap.size + 1, 0, none⟩ = some (.slice Ae es.length ce) := bX9.cell 0 rfl
          have cx1 : w9.cell? ⟨w.heap.size + 1, 1, none⟩ = some (.slice Af fs.length cf) := bX9.cell 1 rfl
          have lX9 := bX9.lt
          cases EF with
          | false =>
            go_wp2_with fail
            refine (HWK.out _).mono ?_
            rintro e wz ⟨rfl, hbz⟩
            have hBz := hB9.trans (hbz.mono hB9.size)
            go_wp2_with fail
            go_returns
            exact ⟨rfl, hBz⟩
          | true =>
            have HSF1 := Lib.hid (HSWF.out rfl)
            have HTF1 := Lib.hid (HTUF.out rfl)
            have hmf := HMF.out rfl
            clear HSWF HTUF HMF
            by_cases hab : TUE = TUF
            · have hab1 : (TUE != TUF) = false := by simpa using hab
              have hmn : (SWE == SWF) = true := by rw [hmf, ME1.out, HTD.out, ← hab]; simp
              have hab := Lib.hid hab
              clear hmf ME1
              go_wp2_with fail
              refine (HSF1.out _ hB9).mono ?_
              rintro e w10 ⟨rfl, hb10⟩
              have bT10 := bT9.below hb10
              have bX10 := bX9.below hb10
              have hB10 := hB9.trans (hb10.mono hB9.size)
              clear ct0 ct1 ct2 ct3 lT9 cx0 cx1 lX9 bT9 bX9 hB9 hb10
              have ct0 : w10.cell? ⟨w.heap.size, 0, none⟩ = some (.slice A ps.length c) := bT10.cell 0 rfl
              have ct1 : w10.cell? ⟨w.heap.size, 1, none⟩ = some (.int .i64 cl) := bT10.cell 1 rfl
              have ct2 : w10.cell? ⟨w.heap.size, 2, none⟩ = some (.int .i64 lo) := bT10.cell 2 rfl
              have ct3 : w10.cell? ⟨w.heap.size, 3, none⟩ = some (.int .i64 hi) := bT10.cell 3 rfl
              have lT10 := bT10.lt
              have cx0 : w10.cell? ⟨w.heap.size + 1, 0, none⟩ = some (.slice Ae es.length ce) := bX10.cell 0 rfl
              have cx1 : w10.cell? ⟨w.heap.size + 1, 1, none⟩ = some (.slice Af fs.length cf) := bX10.cell 1 rfl
              have lX10 := bX10.lt
              go_wp2_with fail
              refine (HTF1.out _ hB10).mono ?_
              rintro e w11 ⟨rfl, hb11⟩
              have bT11 := bT10.below hb11
              have bX11 := bX10.below hb11
              have hB11 := hB10.trans (hb11.mono hB10.size)
              clear ct0 ct1 ct2 ct3 lT10 cx0 cx1 lX10 bT10 bX10 hB10 hb11
              have ct0 : w11.cell? ⟨w.heap.size, 0, none⟩ = some (.slice A ps.length c) := bT11.cell 0 rfl
              have ct1 : w11.cell? ⟨w.heap.size, 1, none⟩ = some (.int .i64 cl) := bT11.cell 1 rfl
              have ct2 : w11.cell? ⟨w.heap.size, 2, none⟩ = some (.int .i64 lo) := bT11.cell 2 rfl
              have ct3 : w11.cell? ⟨w.heap.size, 3, none⟩ = some (.int .i64 hi) := bT11.cell 3 rfl
              have lT11 := bT11.lt
              have cx0 : w11.cell? ⟨w.heap.size + 1, 0, none⟩ = some (.slice Ae es.length ce) := bX11.cell 0 rfl
              have cx1 : w11.cell? ⟨w.heap.size + 1, 1, none⟩ = some (.slice Af fs.length cf) := bX11.cell 1 rfl
              have lX11 := bX11.lt
              go_wp2_with fail
              refine (HWK.out _).mono ?_
              rintro e wz ⟨rfl, hbz⟩
              have hBz := hB11.trans (hbz.mono hB11.size)
              go_wp2_with fail
              go_returns
              exact ⟨rfl, hBz⟩
            · have hab1 : (TUE != TUF) = true := by simpa using hab
              clear hmf ME1 hab
              go_wp2_with fail
              refine (HSF1.out _ hB9).mono ?_
              rintro e w10 ⟨rfl, hb10⟩
              have bT10 := bT9.below hb10
              have bX10 := bX9.below hb10
              have hB10 := hB9.trans (hb10.mono hB9.size)
              clear ct0 ct1 ct2 ct3 lT9 cx0 cx1 lX9 bT9 bX9 hB9 hb10
              have ct0 : w10.cell? ⟨w.heap.size, 0, none⟩ = some (.slice A ps.length c) := bT10.cell 0 rfl
              have ct1 : w10.cell? ⟨w.heap.size, 1, none⟩ = some (.int .i64 cl) := bT10.cell 1 rfl
              have ct2 : w10.cell? ⟨w.heap.size, 2, none⟩ = some (.int .i64 lo) := bT10.cell 2 rfl
              have ct3 : w10.cell? ⟨w.heap.size, 3, none⟩ = some (.int .i64 hi) := bT10.cell 3 rfl
              have lT10 := bT10.lt
              have cx0 : w10.cell? ⟨w.heap.size + 1, 0, none⟩ = some (.slice Ae es.length ce) := bX10.cell 0 rfl
              have cx1 : w10.cell? ⟨w.heap.size + 1, 1, none⟩ = some (.slice Af fs.length cf) := bX10.cell 1 rfl
              have lX10 := bX10.lt
              go_wp2_with fail
              refine (HTF1.out _ hB10).mono ?_
              rintro e w11 ⟨rfl, hb11⟩
              have bT11 := bT10.below hb11
              have bX11 := bX10.below hb11
              have hB11 := hB10.trans (hb11.mono hB10.size)
              clear ct0 ct1 ct2 ct3 lT10 cx0 cx1 lX10 bT10 bX10 hB10 hb11
              have ct0 : w11.cell? ⟨w.heap.size, 0, none⟩ = some (.slice A ps.length c) := bT11.cell 0 rfl
              have ct1 : w11.cell? ⟨w.heap.size, 1, none⟩ = some (.int .i64 cl) := bT11.cell 1 rfl
              have ct2 : w11.cell? ⟨w.heap.size, 2, none⟩ = some (.int .i64 lo) := bT11.cell 2 rfl
              have ct3 : w11.cell? ⟨w.heap.size, 3, none⟩ = some (.int .i64 hi) := bT11.cell 3 rfl
              have lT11 := bT11.lt
              have cx0 : w11.cell? ⟨w.heap.size + 1, 0, none⟩ = some (.slice Ae es.length ce) := bX11.cell 0 rfl
              have cx1 : w11.cell? ⟨w.heap.size + 1, 1, none⟩ = some (.slice Af fs.length cf) := bX11.cell 1 rfl
              have lX11 := bX11.lt
              go_wp2_with fail
              refine (HWK.out _).mono ?_
              rintro e wz ⟨rfl, hbz⟩
              have hBz := hB11.trans (hbz.mono hB11.size)
              go_wp2_with fail
              go_returns
              exact ⟨rfl, hBz⟩
      | false =>
        go_enter Try.func6, Try.ntmps6
        go_wp2_with fail
        have bT1 := (BoxS.new w 26 #[.slice A ps.length c, .int .i64 cl, .int .i64 lo, .int .i64 hi]).alloc (.cells #[.slice Ae es.length ce, .slice Af fs.length cf] 48)
        have bX1 := BoxS.new (w.alloc (.cells #[.slice A ps.length c, .int .i64 cl, .int .i64 lo, .int .i64 hi] 26)) 48 #[.slice Ae es.length ce, .slice Af fs.length cf]
        rw [World.size_alloc] at bX1
        have hB1 : Below w.heap.size w ((w.alloc (.cells #[.slice A ps.length c, .int .i64 cl, .int .i64 lo, .int .i64 hi] 26)).alloc (.cells #[.slice Ae es.length ce, .slice Af fs.length cf] 48)) := by (repeat' (first | (with_reducible exact Below.refl _ _) | (with_reducible assumption) | (with_reducible refine Below.alloc ?_ ?_ _) | (with_reducible refine Below.drew ?_) | (with_reducible refine Below.setCell ?_ ?_ _) | go_size | (exact (by simp)) | omega))
        generalize World.alloc (World.alloc w _) _ = w1 at *
        have ct0 : w1.cell? ⟨w.heap.size, 0, none⟩ = some (.slice A ps.length c) := bT1.cell 0 rfl
        have ct1 : w1.cell? ⟨w.heap.size, 1, none⟩ = some (.int .i64 cl) := bT1.cell 1 rfl
        have ct2 : w1.cell? ⟨w.heap.size, 2, none⟩ = some (.int .i64 lo) := bT1.cell 2 rfl
        have ct3 : w1.cell? ⟨w.heap.size, 3, none⟩ = some (.int .i64 hi) := bT1.cell 3 rfl
        have lT1 := bT1.lt
        have cx0 : w1.cell? ⟨w.heap.size + 1, 0, none⟩ = some (.slice Ae es.length ce) := bX1.cell 0 rfl
        have cx1 : w1.cell? ⟨w.heap.size + 1, 1, none⟩ = some (.slice Af fs.length cf) := bX1.cell 1 rfl
        have lX1 := bX1.lt
        try go_wp2_with fail
        refine (HCK.out _ hB1).mono ?_
        rintro e w2 ⟨rfl, hb2⟩
        have bT2 := bT1.below hb2
        have bX2 := bX1.below hb2
        have hB2 := hB1.trans (hb2.mono hB1.size)
        clear ct0 ct1 ct2 ct3 lT1 cx0 cx1 lX1 bT1 bX1 hB1 hb2
        have ct0 : w2.cell? ⟨w.heap.size, 0, none⟩ = some (.slice A ps.length c) := bT2.cell 0 rfl
        have ct1 : w2.cell? ⟨w.heap.size, 1, none⟩ = some (.int .i64 cl) := bT2.cell 1 rfl
        have ct2 : w2.cell? ⟨w.heap.size, 2, none⟩ = some (.int .i64 lo) := bT2.cell 2 rfl
        have ct3 : w2.cell? ⟨w.heap.size, 3, none⟩ = some (.int .i64 hi) := bT2.cell 3 rfl
        have lT2 := bT2.lt
        have cx0 : w2.cell? ⟨w.heap.size + 1, 0, none⟩ = some (.slice Ae es.length ce) := bX2.cell 0 rfl
        have cx1 : w2.cell? ⟨w.heap.size + 1, 1, none⟩ = some (.slice Af fs.length cf) := bX2.cell 1 rfl
        have lX2 := bX2.lt
        go_wp2_with fail
        refine (HAW.out _ hB2).mono ?_
        rintro e w3 ⟨rfl, hb3⟩
        have bT3 := bT2.below hb3
        have bX3 := bX2.below hb3
        have hB3 := hB2.trans (hb3.mono hB2.size)
        clear ct0 ct1 ct2 ct3 lT2 cx0 cx1 lX2 bT2 bX2 hB2 hb3
        have ct0 : w3.cell? ⟨w.heap.size, 0, none⟩ = some (.slice A ps.length c) := bT3.cell 0 rfl
        have ct1 : w3.cell? ⟨w.heap.size, 1, none⟩ = some (.int .i64 cl) := bT3.cell 1 rfl
        have ct2 : w3.cell? ⟨w.heap.size, 2, none⟩ = some (.int .i64 lo) := bT3.cell 2 rfl
        have ct3 : w3.cell? ⟨w.heap.size, 3, none⟩ = some (.int .i64 hi) := bT3.cell 3 rfl
        have lT3 := bT3.lt
        have cx0 : w3.cell? ⟨w.heap.size + 1, 0, none⟩ = some (.slice Ae es.length ce) := bX3.cell 0 rfl
        have cx1 : w3.cell? ⟨w.heap.size + 1, 1, none⟩ = some (.slice Af fs.length cf) := bX3.cell 1 rfl
        have lX3 := bX3.lt
        go_wp2_with fail
        refine (HAP.out _ hB3).mono ?_
        rintro e w4 ⟨rfl, hb4⟩
        have bT4 := bT3.below hb4
        have bX4 := bX3.below hb4
        have hB4 := hB3.trans (hb4.mono hB3.size)
        clear ct0 ct1 ct2 ct3 lT3 cx0 cx1 lX3 bT3 bX3 hB3 hb4
        have ct0 : w4.cell? ⟨w.heap.size, 0, none⟩ = some (.slice A ps.length c) := bT4.cell 0 rfl
        have ct1 : w4.cell? ⟨w.heap.size, 1, none⟩ = some (.int .i64 cl) := bT4.cell 1 rfl
        have ct2 : w4.cell? ⟨w.heap.size, 2, none⟩ = some (.int .i64 lo) := bT4.cell 2 rfl
        have ct3 : w4.cell? ⟨w.heap.size, 3, none⟩ = some (.int .i64 hi) := bT4.cell 3 rfl
        have lT4 := bT4.lt
        have cx0 : w4.cell? ⟨w.heap.size + 1, 0, none⟩ = some (.slice Ae es.length ce) := bX4.cell 0 rfl
        have cx1 : w4.cell? ⟨w.heap.size + 1, 1, none⟩ = some (.slice Af fs.length cf) := bX4.cell 1 rfl
        have lX4 := bX4.lt
        go_wp2_with fail
        refine (HFR.out _ hB4).mono ?_
        rintro e w5 ⟨rfl, hb5⟩
        have bT5 := bT4.below hb5
        have bX5 := bX4.below hb5
        have hB5 := hB4.trans (hb5.mono hB4.size)
        clear ct0 ct1 ct2 ct3 lT4 cx0 cx1 lX4 bT4 bX4 hB4 hb5
        have ct0 : w5.cell? ⟨w.heap.size, 0, none⟩ = some (.slice A ps.length c) := bT5.cell 0 rfl
        have ct1 : w5.cell? ⟨w.heap.size, 1, none⟩ = some (.int .i64 cl) := bT5.cell 1 rfl
        have ct2 : w5.cell? ⟨w.heap.size, 2, none⟩ = some (.int .i64 lo) := bT5.cell 2 rfl
        have ct3 : w5.cell? ⟨w.heap.size, 3, none⟩ = some (.int .i64 hi) := bT5.cell 3 rfl
        have lT5 := bT5.lt
        have cx0 : w5.cell? ⟨w.heap.size + 1, 0, none⟩ = some (.slice Ae es.length ce) := bX5.cell 0 rfl
        have cx1 : w5.cell? ⟨w.heap.size + 1, 1, none⟩ = some (.slice Af fs.length cf) := bX5.cell 1 rfl
        have lX5 := bX5.lt
        go_wp2_with fail
        refine (HAE.out _ hB5).mono ?_
        rintro e w6 ⟨rfl, hb6⟩
        have bT6 := bT5.below hb6
        have bX6 := bX5.below hb6
        have hB6 := hB5.trans (hb6.mono hB5.size)
        clear ct0 ct1 ct2 ct3 lT5 cx0 cx1 lX5 bT5 bX5 hB5 hb6
        have ct0 : w6.cell? ⟨w.heap.size, 0, none⟩ = some (.slice A ps.length c) := bT6.cell 0 rfl
        have ct1 : w6.cell? ⟨w.heap.size, 1, none⟩ = some (.int .i64 cl) := bT6.cell 1 rfl
        have ct2 : w6.cell? ⟨w.heap.size, 2, none⟩ = some (.int .i64 lo) := bT6.cell 2 rfl
        have ct3 : w6.cell? ⟨w.heap.size, 3, none⟩ = some (.int .i64 hi) := bT6.cell 3 rfl
        have lT6 := bT6.lt
        have cx0 : w6.cell? ⟨w.heap.size + 1, 0, none⟩ = some (.slice Ae es.length ce) := bX6.cell 0 rfl
        have cx1 : w6.cell? ⟨w.heap.size + 1, 1, none⟩ = some (.slice Af fs.length cf) := bX6.cell 1 rfl
        have lX6 := bX6.lt
        cases EE with
        | false =>
          go_wp2_with fail
          refine (HWK.out _).mono ?_
          rintro e wz ⟨rfl, hbz⟩
          have hBz := hB6.trans (hbz.mono hB6.size)
          go_wp2_with fail
          go_returns
          exact ⟨rfl, hBz⟩
        | true =>
          have HSE1 := Lib.hid (HSWE.out rfl)
          have HTE1 := Lib.hid (HTUE.out rfl)
          obtain ⟨hwm, hws2, hwn, hc1, hc2⟩ : IntKind.i64.wrap (TUE * DP) = TUE * DP ∧ IntKind.i64.wrap (DW - TUE * DP) = DW - TUE * DP ∧ IntKind.i64.wrap (-(ws.length : Int)) = -(ws.length : Int) ∧ decide (TUE < -(ws.length : Int)) = false ∧ decide ((ws.length : Int) < TUE) = false := by
            obtain ⟨_, _, me3, me4⟩ := HME.out rfl
            obtain ⟨hd1, hd2, h8⟩ := HD.out
            have m1 : -(8 * 16000000) ≤ TUE * DP ∧ TUE * DP ≤ 8 * 16000000 := mul_bd (by omega) (by omega) hd2.1 hd2.2
            exact ⟨IntWalk.i64_in _ (by omega), IntWalk.i64_in _ (by omega), IntWalk.i64_in _ (by omega), decide_eq_false (by omega), decide_eq_false (by omega)⟩
          have me1 := (HME.out rfl).1
          have hne : (SWE != DW - TUE * DP) = false := by rw [me1]; simp
          obtain ⟨TD, hTD⟩ : ∃ TD, TD = TUE * DP := ⟨_, rfl⟩
          have hwm2 : IntKind.i64.wrap (TUE * DP) = TD := by rw [hwm, hTD]
          clear hwm
          rw [← hTD] at hws2 hne me1
          have HTD := Lib.hid hTD
          have ME1 := Lib.hid me1
          clear HSWE HTUE HME hTD me1
          go_wp2_with fail
          refine (HSE1.out _ hB6).mono ?_
          rintro e w7 ⟨rfl, hb7⟩
          have bT7 := bT6.below hb7
          have bX7 := bX6.below hb7
          have hB7 := hB6.trans (hb7.mono hB6.size)
          clear ct0 ct1 ct2 ct3 lT6 cx0 cx1 lX6 bT6 bX6 hB6 hb7
          have ct0 : w7.cell? ⟨w.heap.size, 0, none⟩ = some (.slice A ps.length c) := bT7.cell 0 rfl
          have ct1 : w7.cell? ⟨w.heap.size, 1, none⟩ = some (.int .i64 cl) := bT7.cell 1 rfl
          have ct2 : w7.cell? ⟨w.heap.size, 2, none⟩ = some (.int .i64 lo) := bT7.cell 2 rfl
          have ct3 : w7.cell? ⟨w.heap.size, 3, none⟩ = some (.int .i64 hi) := bT7.cell 3 rfl
          have lT7 := bT7.lt
          have cx0 : w7.cell? ⟨w.heap.size + 1, 0, none⟩ = some (.slice Ae es.length ce) := bX7.cell 0 rfl
          have cx1 : w7.cell? ⟨w.heap.size + 1, 1, none⟩ = some (.slice Af fs.length cf) := bX7.cell 1 rfl
          have lX7 := bX7.lt
          go_wp2_with fail
          refine (HTE1.out _ hB7).mono ?_
          rintro e w8 ⟨rfl, hb8⟩
          have bT8 := bT7.below hb8
          have bX8 := bX7.below hb8
          have hB8 := hB7.trans (hb8.mono hB7.size)
          clear ct0 ct1 ct2 ct3 lT7 cx0 cx1 lX7 bT7 bX7 hB7 hb8
          have ct0 : w8.cell? ⟨w.heap.size, 0, none⟩ = some (.slice A ps.length c) := bT8.cell 0 rfl
          have ct1 : w8.cell? ⟨w.heap.size, 1, none⟩ = some (.int .i64 cl) := bT8.cell 1 rfl
          have ct2 : w8.cell? ⟨w.heap.size, 2, none⟩ = some (.int .i64 lo) := bT8.cell 2 rfl
          have ct3 : w8.cell? ⟨w.heap.size, 3, none⟩ = some (.int .i64 hi) := bT8.cell 3 rfl
          have lT8 := bT8.lt
          have cx0 : w8.cell? ⟨w.heap.size + 1, 0, none⟩ = some (.slice Ae es.length ce) := bX8.cell 0 rfl
          have cx1 : w8.cell? ⟨w.heap.size + 1, 1, none⟩ = some (.slice Af fs.length cf) := bX8.cell 1 rfl
          have lX8 := bX8.lt
          go_wp2_with fail
          refine (HAF.out _ hB8).mono ?_
          rintro e w9 ⟨rfl, hb9⟩
          have bT9 := bT8.below hb9
          have bX9 := bX8.below hb9
          have hB9 := hB8.trans (hb9.mono hB8.size)
          clear ct0 ct1 ct2 ct3 lT8 cx0 cx1 lX8 bT8 bX8 hB8 hb9
          have ct0 : w9.cell? ⟨w.heap.size, 0, none⟩ = some (.slice A ps.length c) := bT9.cell 0 rfl
          have ct1 : w9.cell? ⟨w.heap.size, 1, none⟩ = some (.int .i64 cl) := bT9.cell 1 rfl
          have ct2 : w9.cell? ⟨w.heap.size, 2, none⟩ = some (.int .i64 lo) := bT9.cell 2 rfl
          have ct3 : w9.cell? ⟨w.heap.size, 3, none⟩ = some (.int .i64 hi) := bT9.cell 3 rfl
          have lT9 := bT9.lt
          have cx0 : w9.cell? ⟨w.heap.size + 1, 0, none⟩ = some (.slice Ae es.length ce) := bX9.cell 0 rfl
          have cx1 : w9.cell? ⟨w.heap.size + 1, 1, none⟩ = some (.slice Af fs.length cf) := bX9.cell 1 rfl
          have lX9 := bX9.lt
          cases EF with
          | false =>
            go_wp2_with fail
            refine (HWK.out _).mono ?_
            rintro e wz ⟨rfl, hbz⟩
            have hBz := hB9.trans (hbz.mono hB9.size)
            go_wp2_with fail
            go_returns
            exact ⟨rfl, hBz⟩
          | true =>
            have HSF1 := Lib.hid (HSWF.out rfl)
            have HTF1 := Lib.hid (HTUF.out rfl)
            have hmf := HMF.out rfl
            clear HSWF HTUF HMF
            by_cases hab : TUE = TUF
            · have hab1 : (TUE != TUF) = false := by simpa using hab
              have hmn : (SWE == SWF) = true := by rw [hmf, ME1.out, HTD.out, ← hab]; simp
              have hab := Lib.hid hab
              clear hmf ME1
              go_wp2_with fail
              refine (HSF1.out _ hB9).mono ?_
              rintro e w10 ⟨rfl, hb10⟩
              have bT10 := bT9.below hb10
              have bX10 := bX9.below hb10
              have hB10 := hB9.trans (hb10.mono hB9.size)
              clear ct0 ct1 ct2 ct3 lT9 cx0 cx1 lX9 bT9 bX9 hB9 hb10
              have ct0 : w10.cell? ⟨w.heap.size, 0, none⟩ = some (.slice A ps.length c) := bT10.cell 0 rfl
              have ct1 : w10.cell? ⟨w.heap.size, 1, none⟩ = some (.int .i64 cl) := bT10.cell 1 rfl
              have ct2 : w10.cell? ⟨w.heap.size, 2, none⟩ = some (.int .i64 lo) := bT10.cell 2 rfl
              have ct3 : w10.cell? ⟨w.heap.size, 3, none⟩ = some (.int .i64 hi) := bT10.cell 3 rfl
              have lT10 := bT10.lt
              have cx0 : w10.cell? ⟨w.heap.size + 1, 0, none⟩ = some (.slice Ae es.length ce) := bX10.cell 0 rfl
              have cx1 : w10.cell? ⟨w.heap.size + 1, 1, none⟩ = some (.slice Af fs.length cf) := bX10.cell 1 rfl
              have lX10 := bX10.lt
              go_wp2_with fail
              refine (HTF1.out _ hB10).mono ?_
              rintro e w11 ⟨rfl, hb11⟩
              have bT11 := bT10.below hb11
              have bX11 := bX10.below hb11
              have hB11 := hB10.trans (hb11.mono hB10.size)
              clear ct0 ct1 ct2 ct3 lT10 cx0 cx1 lX10 bT10 bX10 hB10 hb11
              have ct0 : w11.cell? ⟨w.heap.size, 0, none⟩ = some (.slice A ps.length c) := bT11.cell 0 rfl
              have ct1 : w11.cell? ⟨w.heap.size, 1, none⟩ = some (.int .i64 cl) := bT11.cell 1 rfl
              have ct2 : w11.cell? ⟨w.heap.size, 2, none⟩ = some (.int .i64 lo) := bT11.cell 2 rfl
              have ct3 : w11.cell? ⟨w.heap.size, 3, none⟩ = some (.int .i64 hi) := bT11.cell 3 rfl
              have lT11 := bT11.lt
              have cx0 : w11.cell? ⟨w.heap.size + 1, 0, none⟩ = some (.slice Ae es.length ce) := bX11.cell 0 rfl
              have cx1 : w11.cell? ⟨w.heap.size + 1, 1, none⟩ = some (.slice Af fs.length cf) := bX11.cell 1 rfl
              have lX11 := bX11.lt
              go_wp2_with fail
              refine (HWK.out _).mono ?_
              rintro e wz ⟨rfl, hbz⟩
              have hBz := hB11.trans (hbz.mono hB11.size)
              go_wp2_with fail
              go_returns
              exact ⟨rfl, hBz⟩
            · have hab1 : (TUE != TUF) = true := by simpa using hab
              clear hmf ME1 hab
              go_wp2_with fail
              refine (HSF1.out _ hB9).mono ?_
              rintro e w10 ⟨rfl, hb10⟩
              have bT10 := bT9.below hb10
              have bX10 := bX9.below hb10
              have hB10 := hB9.trans (hb10.mono hB9.size)
              clear ct0 ct1 ct2 ct3 lT9 cx0 cx1 lX9 bT9 bX9 hB9 hb10
              have ct0 : w10.cell? ⟨w.heap.size, 0, none⟩ = some (.slice A ps.length c) := bT10.cell 0 rfl
              have ct1 : w10.cell? ⟨w.heap.size, 1, none⟩ = some (.int .i64 cl) := bT10.cell 1 rfl
              have ct2 : w10.cell? ⟨w.heap.size, 2, none⟩ = some (.int .i64 lo) := bT10.cell 2 rfl
              have ct3 : w10.cell? ⟨w.heap.size, 3, none⟩ = some (.int .i64 hi) := bT10.cell 3 rfl
              have lT10 := bT10.lt
              have cx0 : w10.cell? ⟨w.heap.size + 1, 0, none⟩ = some (.slice Ae es.length ce) := bX10.cell 0 rfl
              have cx1 : w10.cell? ⟨w.heap.size + 1, 1, none⟩ = some (.slice Af fs.length cf) := bX10.cell 1 rfl
              have lX10 := bX10.lt
              go_wp2_with fail
              refine (HTF1.out _ hB10).mono ?_
              rintro e w11 ⟨rfl, hb11⟩
              have bT11 := bT10.below hb11
              have bX11 := bX10.below hb11
              have hB11 := hB10.trans (hb11.mono hB10.size)
              clear ct0 ct1 ct2 ct3 lT10 cx0 cx1 lX10 bT10 bX10 hB10 hb11
              have ct0 : w11.cell? ⟨w.heap.size, 0, none⟩ = some (.slice A ps.length c) := bT11.cell 0 rfl
              have ct1 : w11.cell? ⟨w.heap.size, 1, none⟩ = some (.int .i64 cl) := bT11.cell 1 rfl
              have ct2 : w11.cell? ⟨w.heap.size, 2, none⟩ = some (.int .i64 lo) := bT11.cell 2 rfl
              have ct3 : w11.cell? ⟨w.heap.size, 3, none⟩ = some (.int .i64 hi) := bT11.cell 3 rfl
              have lT11 := bT11.lt
              have cx0 : w11.cell? ⟨w.heap.size + 1, 0, none⟩ = some (.slice Ae es.length ce) := bX11.cell 0 rfl
              have cx1 : w11.cell? ⟨w.heap.size + 1, 1, none⟩ = some (.slice Af fs.length cf) := bX11.cell 1 rfl
              have lX11 := bX11.lt
              go_wp2_with fail
              refine (HWK.out _).mono ?_
              rintro e wz ⟨rfl, hbz⟩
              have hBz := hB11.trans (hbz.mono hB11.size)
              go_wp2_with fail
              go_returns
              exact ⟨rfl, hBz⟩
  · have h0n : (Wl.chkV t ws != 0) = true := by simpa using h0
    clear hP hQ hE hF
    generalize Wl.chkV t ws = CE at *
    obtain ⟨ps, cl, lo, hi⟩ := t
    unfold trV at *
    dsimp only at *
    have da1 : decide (40 < (ps.length : Int)) = false := decide_eq_false (by omega)
    have da2 : decide (40 < ps.length) = false := decide_eq_false (by omega)
    have db1 : decide (40 < (ws.length : Int)) = false := decide_eq_false (by omega)
    have db2 : decide (40 < ws.length) = false := decide_eq_false (by omega)
    have de1 : decide (40 < (es.length : Int)) = false := decide_eq_false (by omega)
    have de2 : decide (40 < es.length) = false := decide_eq_false (by omega)
    have df1 : decide (40 < (fs.length : Int)) = false := decide_eq_false (by omega)
    have df2 : decide (40 < fs.length) = false := decide_eq_false (by omega)
    go_enter Try.func6, Try.ntmps6
    go_wp2_with fail
    have bT1 := (BoxS.new w 26 #[.slice A ps.length c, .int .i64 cl, .int .i64 lo, .int .i64 hi]).alloc (.cells #[.slice Ae es.length ce, .slice Af fs.length cf] 48)
    have bX1 := BoxS.new (w.alloc (.cells #[.slice A ps.length c, .int .i64 cl, .int .i64 lo, .int .i64 hi] 26)) 48 #[.slice Ae es.length ce, .slice Af fs.length cf]
    rw [World.size_alloc] at bX1
    have hB1 : Below w.heap.size w ((w.alloc (.cells #[.slice A ps.length c, .int .i64 cl, .int .i64 lo, .int .i64 hi] 26)).alloc (.cells #[.slice Ae es.length ce, .slice Af fs.length cf] 48)) := by (repeat' (first | (with_reducible exact Below.refl _ _) | (with_reducible assumption) | (with_reducible refine Below.alloc ?_ ?_ _) | (with_reducible refine Below.drew ?_) | (with_reducible refine Below.setCell ?_ ?_ _) | go_size | (exact (by simp)) | omega))
    generalize World.alloc (World.alloc w _) _ = w1 at *
    have ct0 : w1.cell? ⟨w.heap.size, 0, none⟩ = some (.slice A ps.length c) := bT1.cell 0 rfl
    have ct1 : w1.cell? ⟨w.heap.size, 1, none⟩ = some (.int .i64 cl) := bT1.cell 1 rfl
    have ct2 : w1.cell? ⟨w.heap.size, 2, none⟩ = some (.int .i64 lo) := bT1.cell 2 rfl
    have ct3 : w1.cell? ⟨w.heap.size, 3, none⟩ = some (.int .i64 hi) := bT1.cell 3 rfl
    have lT1 := bT1.lt
    have cx0 : w1.cell? ⟨w.heap.size + 1, 0, none⟩ = some (.slice Ae es.length ce) := bX1.cell 0 rfl
    have cx1 : w1.cell? ⟨w.heap.size + 1, 1, none⟩ = some (.slice Af fs.length cf) := bX1.cell 1 rfl
    have lX1 := bX1.lt
    try go_wp2_with fail
    refine (HCK.out _ hB1).mono ?_
    rintro e w2 ⟨rfl, hb2⟩
    have bT2 := bT1.below hb2
    have bX2 := bX1.below hb2
    have hB2 := hB1.trans (hb2.mono hB1.size)
    clear ct0 ct1 ct2 ct3 lT1 cx0 cx1 lX1 bT1 bX1 hB1 hb2
    have ct0 : w2.cell? ⟨w.heap.size, 0, none⟩ = some (.slice A ps.length c) := bT2.cell 0 rfl
    have ct1 : w2.cell? ⟨w.heap.size, 1, none⟩ = some (.int .i64 cl) := bT2.cell 1 rfl
    have ct2 : w2.cell? ⟨w.heap.size, 2, none⟩ = some (.int .i64 lo) := bT2.cell 2 rfl
    have ct3 : w2.cell? ⟨w.heap.size, 3, none⟩ = some (.int .i64 hi) := bT2.cell 3 rfl
    have lT2 := bT2.lt
    have cx0 : w2.cell? ⟨w.heap.size + 1, 0, none⟩ = some (.slice Ae es.length ce) := bX2.cell 0 rfl
    have cx1 : w2.cell? ⟨w.heap.size + 1, 1, none⟩ = some (.slice Af fs.length cf) := bX2.cell 1 rfl
    have lX2 := bX2.lt
    go_wp2_with fail
    refine (HWK.out _).mono ?_
    rintro e wz ⟨rfl, hbz⟩
    have hBz := hB2.trans (hbz.mono hB2.size)
    go_wp2_with fail
    go_returns
    exact ⟨rfl, hBz⟩
theorem lawMtr_walk (t : Wl.Trk) (A : Option Addr) (c : Nat) (Aw : Option Addr) (cw : Nat) (ws : List (Int × Int)) (Ae : Option Addr) (ce : Nat) (es : List Int) (Af : Option Addr) (cf : Nat) (fs : List Int) (w : World) (_h1 : t.ps.length ≤ maxLen) (hP : Prs w w.heap.size A t.ps) (_h2 : ws.length ≤ maxLen) (hQ : Prs w w.heap.size Aw ws) (hE : 0 < es.length → Ints w w.heap.size (.slice Ae es.length ce) es) (hF : 0 < fs.length → Ints w w.heap.size (.slice Af fs.length cf) fs) (_h3 : es.length ≤ maxLen) (_h4 : fs.length ≤ maxLen) :
    Calls Try.prog 6 #[.agg (trV t A c), .slice Aw ws.length cw, .agg #[.slice Ae es.length ce, .slice Af fs.length cf]] w fun e w' => e = .returned (.bool true) ∧ Below w.heap.size w w' := by
  by_cases h : 40 < t.ps.length ∨ 40 < ws.length ∨ 40 < es.length ∨ 40 < fs.length
  · exact Meter_early t ws es fs A Aw Ae Af c cw ce cf w h
  · exact Meter_short t ws es fs A Aw Ae Af c cw ce cf w hP hQ hE hF (by omega) (by omega) (by omega) (by omega)

open Go.ChangeShapes Go.WideShapes Go.ChangeAt Go.RowKit Go.Joins

set_option maxRecDepth 100000 in
theorem mtr5_lifted (os : Os) (started : os.Started) (H : Type) (enc : TypeId × Value → H) :
    ReturnsInHanded {} Try.checked os 6 .any (Rows.walksMeterSpec.pre6 enc Try.prog Try.f6 Rows.walksMeterRow.domain false) (Rows.walksMeterSpec.post enc Try.prog Try.f6 false true false false) := by
  refine returnsInHanded_of_change (C := Try.checked) own started (by kernel_rfl) Try.func6
    (ChangeSpec.witness6 (enc := enc) (C := Try.checked) false ⟨#[], #[.agg #[.slice none 0 0, .int .i64 0, .int .i64 0, .int .i64 0], .slice none 0 0, .agg #[.slice none 0 0, .slice none 0 0]], []⟩ 8 (by kernel_rfl) (by kernel_rfl) (by kernel_rfl) (by kernel_rfl)) ?_
  intro W base args ds gs before hval0 hW hcnd _
  have hval : ∀ (j : Nat) t v, Try.f6.params[j]? = some t → args[j]? = some v → Value.okWide Try.prog W .any base t v := hval0
  have hW' := hW
  obtain ⟨p, q, hA0, hV, rfl, hfz, hnd⟩ := hW
  have hA : DataW.TrodAll enc Try.prog W 0 (fun _ => true) true Try.f6.params.toList args.toList ds p := hA0
  rw [Try.params6] at hA hval
  obtain ⟨v0, v1, v2, d0, d1, d2, p0, p1, p2, rfl, rfl, rfl, h0, h1, h2⟩ := trodAll_three hA
  obtain ⟨rfl, rfl⟩ := trodVars_none hV
  obtain ⟨t, A, c, rfl, hg_t, hl_t⟩ := open_Track (hval 0 26 v0 rfl rfl) h0
  obtain ⟨Aw, cw, ws, rfl, hg_ws, hl_ws⟩ := open_prs Try.underlying22 Try.underlying28 (by kernel_rfl) (by kernel_rfl) (by kernel_rfl) (by kernel_rfl) (by kernel_rfl) Try.underlying3 Try.underlying3 (hval 1 22 v1 rfl rfl) h1
  obtain ⟨Ae, ce, es, Af, cf, fs, rfl, hh2_0, hh2_1, hh2_2, hh2_3⟩ := open_Two5 (hval 2 48 v2 rfl rfl) h2
  refine (lawMtr_walk t A c Aw cw ws Ae ce es Af cf fs W hl_t hg_t hl_ws hg_ws hh2_0 hh2_1 hh2_2 hh2_3).mono fun e W' ⟨he, hb⟩ => ?_
  subst he
  exact ⟨_, rfl, law_post hW' rfl rfl (by intro t ht; have : t = 26 ∨ t = 22 ∨ t = 48 := (by rw [Try.params6] at ht; simpa using ht); rcases this with rfl | rfl | rfl <;> exact ⟨by kernel_rfl, of_decide_eq_true (by kernel_rfl)⟩) rfl rfl rfl hb⟩

theorem mtr5_holds : Rows.WalksMeterSaid :=
  OpenClaim.holds_of_wide 6 Try.f6 rfl rfl rfl rfl rfl rfl rfl ⟨rfl, rfl, rfl, rfl, rfl⟩ rfl rfl rfl rfl rfl (by kernel_rfl) Try.func6 (by kernel_rfl)
    (of_decide_eq_true (by kernel_rfl)) (by unfold Func.isWrapper; rw [if_neg (of_decide_eq_false (by kernel_rfl))]; exact ⟨rfl, rfl⟩)
    (fun os started H enc _ => mtr5_lifted os started H enc)
end Go.Proofs.Ytmjcdggmofohcaa
