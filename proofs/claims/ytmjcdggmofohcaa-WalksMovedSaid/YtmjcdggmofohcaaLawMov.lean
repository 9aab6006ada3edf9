/- Walks: the law WalksMoved (P5.16). -/
import Derived.Test.YtmjcdggmofohcaaOp5
import Derived.Test.YtmjcdggmofohcaaOpW
import Derived.Test.YtmjcdggmofohcaaWk5
import Derived.Test.YtmjcdggmofohcaaMovC
import Derived.Test.YtmjcdggmofohcaaWlZ
import Derived.Test.YtmjcdggmofohcaaWlSr
namespace Go.Proofs.Ytmjcdggmofohcaa
open Go.RowKit
theorem trV_mv (t : Wl.Trk) (v : Wl.Pt) (A : Option Addr) (c : Nat) : trV (Wl.mvT t v) A c = #[.slice A t.ps.length c, .int .i64 t.cl, .int .i64 t.lo, .int .i64 t.hi] := by
  unfold trV Wl.mvT
  rw [Wl.mvP_len]
namespace Wl
theorem ptsTo_ok {ps : List Pt} : ∀ n, ptsTo ps n = true → ∀ k, k < n → Geo.ptB (ptAt ps k) = true
  | n + 1, h, k, hk => by
    have h' : (ptsTo ps n && Geo.ptB (ptAt ps n)) = true := h
    rw [Bool.and_eq_true] at h'
    by_cases e : k = n
    · subst e
      exact h'.2
    · exact ptsTo_ok n h'.1 k (by omega)
theorem pts_ok {ps : List Pt} (h : ptsB ps = true) {k : Nat} (hk : k < ps.length) : Geo.ptB (ptAt ps k) = true := by
  unfold ptsB at h
  rw [Bool.and_eq_true] at h
  exact ptsTo_ok _ h.1 k hk
theorem reach_ok {t : Trk} {ws : List Pt} (ht : trkB t = true) (hw : ptsB ws = true) {k : Nat} (hk : k < ws.length) : reachRL t (ptAt ws k) = reachL t (ptAt ws k) ∧ reachRE t (ptAt ws k) = 0 := by
  have hp := pts_ok hw hk
  unfold reachRL reachRE
  rw [ht, hp]
  exact ⟨rfl, rfl⟩
theorem pts_pos {ws : List Pt} (hw : ptsB ws = true) : 0 < ws.length := by
  have := hw
  unfold ptsB inB at this
  simp only [Bool.and_eq_true, decide_eq_true_eq] at this
  omega
theorem setE_mv {t : Trk} {ws : List Pt} {v : Pt} (h : chkV t ws = 0) (h2 : chkV (mvT t v) (mvP ws v) = 0) : setE (mvT t v) (mvP ws v) = setE t ws := by
  unfold setE
  rw [if_pos h, if_pos h2, elbsL_mv]
end Wl
set_option maxRecDepth 100000 in
set_option maxHeartbeats 8000000 in
theorem Mov_early (t : Wl.Trk) (ws : List Wl.Pt) (A Aw : Option Addr) (c cw : Nat) (vx vy : Int) (w : World) (hP : Prs w w.heap.size A t.ps) (hQ : Prs w w.heap.size Aw ws) (h : Wl.readyB t ws = false ∨ (Wl.readyB t ws = true ∧ Geo.ptB (vx, vy) = false)) :
    Calls Try.prog 11 #[.agg (trV t A c), .slice Aw ws.length cw, .agg #[.int .i64 vx, .int .i64 vy]] w fun e w' => e = .returned (.bool true) ∧ Below w.heap.size w w' := by
  have HWK : Hid (∀ W, Calls Try.prog 12 #[] W fun e w' => e = .returned (.bool true) ∧ Below W.heap.size W w') := works5_any
  have HRD : Hid (∀ W, Below w.heap.size w W → Calls Try.prog 42 #[.agg (trV t A c), .slice Aw ws.length cw] W fun e w' => e = .returned (.bool (Wl.readyB t ws)) ∧ Below W.heap.size W w') := fun W hW => ready5_any t ws A Aw c cw W (prs_keep hP hW) (prs_keep hQ hW)
  have HPB : Hid (∀ W, Calls Try.prog 47 #[.agg #[.int .i64 vx, .int .i64 vy]] W fun e w' => e = .returned (.bool (Geo.ptB (vx, vy))) ∧ Below W.heap.size W w') := fun W => IsPoint5_any vx vy W
  clear hP hQ
  generalize Wl.readyB t ws = RB at *
  generalize Geo.ptB (vx, vy) = PB at *
  obtain ⟨ps, cl, lo, hi⟩ := t
  unfold trV at *
  dsimp only at *
  rcases h with h | ⟨h, h4⟩
  · subst h
    clear HPB
    go_enter Try.func11, Try.ntmps11
    go_wp2_with fail
    have bT1 := (BoxS.new w 26 #[.slice A ps.length c, .int .i64 cl, .int .i64 lo, .int .i64 hi]).alloc (.cells #[.int .i64 vx, .int .i64 vy] 28)
    have bB1 := BoxS.new (w.alloc (.cells #[.slice A ps.length c, .int .i64 cl, .int .i64 lo, .int .i64 hi] 26)) 28 #[.int .i64 vx, .int .i64 vy]
    rw [World.size_alloc] at bB1
    have hB1 : Below w.heap.size w ((w.alloc (.cells #[.slice A ps.length c, .int .i64 cl, .int .i64 lo, .int .i64 hi] 26)).alloc (.cells #[.int .i64 vx, .int .i64 vy] 28)) := by (repeat' (first | (with_reducible exact Below.refl _ _) | (with_reducible assumption) | (with_reducible refine Below.alloc ?_ ?_ _) | (with_reducible refine Below.drew ?_) | (with_reducible refine Below.setCell ?_ ?_ _) | go_size | (exact (by simp)) | omega))
    generalize World.alloc (World.alloc w _) _ = w1 at *
    have ct0 : w1.cell? ⟨w.heap.size, 0, none⟩ = some (.slice A ps.length c) := bT1.cell 0 rfl
    have ct1 : w1.cell? ⟨w.heap.size, 1, none⟩ = some (.int .i64 cl) := bT1.cell 1 rfl
    have ct2 : w1.cell? ⟨w.heap.size, 2, none⟩ = some (.int .i64 lo) := bT1.cell 2 rfl
    have ct3 : w1.cell? ⟨w.heap.size, 3, none⟩ = some (.int .i64 hi) := bT1.cell 3 rfl
    have lT1 := bT1.lt
    have cb0 : w1.cell? ⟨w.heap.size + 1, 0, none⟩ = some (.int .i64 vx) := bB1.cell 0 rfl
    have cb1 : w1.cell? ⟨w.heap.size + 1, 1, none⟩ = some (.int .i64 vy) := bB1.cell 1 rfl
    have lB1 := bB1.lt
    try go_wp2_with fail
    refine (HRD.out _ hB1).mono ?_
    rintro e w2 ⟨rfl, hb2⟩
    have bT2 := bT1.below hb2
    have bB2 := bB1.below hb2
    have hB2 := hB1.trans (hb2.mono hB1.size)
    clear ct0 ct1 ct2 ct3 lT1 cb0 cb1 lB1 bT1 bB1 hB1 hb2
    have ct0 : w2.cell? ⟨w.heap.size, 0, none⟩ = some (.slice A ps.length c) := bT2.cell 0 rfl
    have ct1 : w2.cell? ⟨w.heap.size, 1, none⟩ = some (.int .i64 cl) := bT2.cell 1 rfl
    have ct2 : w2.cell? ⟨w.heap.size, 2, none⟩ = some (.int .i64 lo) := bT2.cell 2 rfl
    have ct3 : w2.cell? ⟨w.heap.size, 3, none⟩ = some (.int .i64 hi) := bT2.cell 3 rfl
    have lT2 := bT2.lt
    have cb0 : w2.cell? ⟨w.heap.size + 1, 0, none⟩ = some (.int .i64 vx) := bB2.cell 0 rfl
    have cb1 : w2.cell? ⟨w.heap.size + 1, 1, none⟩ = some (.int .i64 vy) := bB2.cell 1 rfl
    have lB2 := bB2.lt
    go_wp2_with fail
    refine (HWK.out _).mono ?_
    rintro e wz ⟨rfl, hbz⟩
    have hBz := hB2.trans (hbz.mono hB2.size)
    go_wp2_with fail
    go_returns
    exact ⟨rfl, hBz⟩
  · subst h h4
    go_enter Try.func11, Try.ntmps11
    go_wp2_with fail
    have bT1 := (BoxS.new w 26 #[.slice A ps.length c, .int .i64 cl, .int .i64 lo, .int .i64 hi]).alloc (.cells #[.int .i64 vx, .int .i64 vy] 28)
    have bB1 := BoxS.new (w.alloc (.cells #[.slice A ps.length c, .int .i64 cl, .int .i64 lo, .int .i64 hi] 26)) 28 #[.int .i64 vx, .int .i64 vy]
    rw [World.size_alloc] at bB1
    have hB1 : Below w.heap.size w ((w.alloc (.cells #[.slice A ps.length c, .int .i64 cl, .int .i64 lo, .int .i64 hi] 26)).alloc (.cells #[.int .i64 vx, .int .i64 vy] 28)) := by (repeat' (first | (with_reducible exact Below.refl _ _) | (with_reducible assumption) | (with_reducible refine Below.alloc ?_ ?_ _) | (with_reducible refine Below.drew ?_) | (with_reducible refine Below.setCell ?_ ?_ _) | go_size | (exact (by simp)) | omega))
    generalize World.alloc (World.alloc w _) _ = w1 at *
    have ct0 : w1.cell? ⟨w.heap.size, 0, none⟩ = some (.slice A ps.length c) := bT1.cell 0 rfl
    have ct1 : w1.cell? ⟨w.heap.size, 1, none⟩ = some (.int .i64 cl) := bT1.cell 1 rfl
    have ct2 : w1.cell? ⟨w.heap.size, 2, none⟩ = some (.int .i64 lo) := bT1.cell 2 rfl
    have ct3 : w1.cell? ⟨w.heap.size, 3, none⟩ = some (.int .i64 hi) := bT1.cell 3 rfl
    have lT1 := bT1.lt
    have cb0 : w1.cell? ⟨w.heap.size + 1, 0, none⟩ = some (.int .i64 vx) := bB1.cell 0 rfl
    have cb1 : w1.cell? ⟨w.heap.size + 1, 1, none⟩ = some (.int .i64 vy) := bB1.cell 1 rfl
    have lB1 := bB1.lt
    try go_wp2_with fail
    refine (HRD.out _ hB1).mono ?_
    rintro e w2 ⟨rfl, hb2⟩
    have bT2 := bT1.below hb2
    have bB2 := bB1.below hb2
    have hB2 := hB1.trans (hb2.mono hB1.size)
    clear ct0 ct1 ct2 ct3 lT1 cb0 cb1 lB1 bT1 bB1 hB1 hb2
    have ct0 : w2.cell? ⟨w.heap.size, 0, none⟩ = some (.slice A ps.length c) := bT2.cell 0 rfl
    have ct1 : w2.cell? ⟨w.heap.size, 1, none⟩ = some (.int .i64 cl) := bT2.cell 1 rfl
    have ct2 : w2.cell? ⟨w.heap.size, 2, none⟩ = some (.int .i64 lo) := bT2.cell 2 rfl
    have ct3 : w2.cell? ⟨w.heap.size, 3, none⟩ = some (.int .i64 hi) := bT2.cell 3 rfl
    have lT2 := bT2.lt
    have cb0 : w2.cell? ⟨w.heap.size + 1, 0, none⟩ = some (.int .i64 vx) := bB2.cell 0 rfl
    have cb1 : w2.cell? ⟨w.heap.size + 1, 1, none⟩ = some (.int .i64 vy) := bB2.cell 1 rfl
    have lB2 := bB2.lt
    go_wp2_with fail
    refine (HPB.out _).mono ?_
    rintro e w3 ⟨rfl, hb3⟩
    have bT3 := bT2.below hb3
    have bB3 := bB2.below hb3
    have hB3 := hB2.trans (hb3.mono hB2.size)
    clear ct0 ct1 ct2 ct3 lT2 cb0 cb1 lB2 bT2 bB2 hB2 hb3
    have ct0 : w3.cell? ⟨w.heap.size, 0, none⟩ = some (.slice A ps.length c) := bT3.cell 0 rfl
    have ct1 : w3.cell? ⟨w.heap.size, 1, none⟩ = some (.int .i64 cl) := bT3.cell 1 rfl
    have ct2 : w3.cell? ⟨w.heap.size, 2, none⟩ = some (.int .i64 lo) := bT3.cell 2 rfl
    have ct3 : w3.cell? ⟨w.heap.size, 3, none⟩ = some (.int .i64 hi) := bT3.cell 3 rfl
    have lT3 := bT3.lt
    have cb0 : w3.cell? ⟨w.heap.size + 1, 0, none⟩ = some (.int .i64 vx) := bB3.cell 0 rfl
    have cb1 : w3.cell? ⟨w.heap.size + 1, 1, none⟩ = some (.int .i64 vy) := bB3.cell 1 rfl
    have lB3 := bB3.lt
    go_wp2_with fail
    refine (HWK.out _).mono ?_
    rintro e wz ⟨rfl, hbz⟩
    have hBz := hB3.trans (hbz.mono hB3.size)
    go_wp2_with fail
    go_returns
    exact ⟨rfl, hBz⟩
set_option maxRecDepth 100000 in
set_option maxHeartbeats 16000000 in
theorem Mov_short (t : Wl.Trk) (ws : List Wl.Pt) (A Aw : Option Addr) (c cw : Nat) (vx vy : Int) (w : World) (hP : Prs w w.heap.size A t.ps) (hQ : Prs w w.heap.size Aw ws) (hr : Wl.readyB t ws = true) (hpb : Geo.ptB (vx, vy) = true) :
    Calls Try.prog 11 #[.agg (trV t A c), .slice Aw ws.length cw, .agg #[.int .i64 vx, .int .i64 vy]] w fun e w' => e = .returned (.bool true) ∧ Below w.heap.size w w' := by
  have hmo : Try.prog.follows .mixedOrders = true := by kernel_rfl
  have HWK : Hid (∀ W, Calls Try.prog 12 #[] W fun e w' => e = .returned (.bool true) ∧ Below W.heap.size W w') := works5_any
  obtain ⟨hl5, hw5, h0⟩ := Wl.ready_lens hr
  obtain ⟨ht, hw⟩ := Wl.chk_yes.1 h0
  have hw0 := Wl.pts_pos hw
  have hp0 : 0 < t.ps.length := (Wl.trk_parts ht).2.2.1
  have HRD : Hid (∀ W, Below w.heap.size w W → Calls Try.prog 42 #[.agg (trV t A c), .slice Aw ws.length cw] W fun e w' => e = .returned (.bool true) ∧ Below W.heap.size W w') := fun W hW => by
    have := ready5_any t ws A Aw c cw W (prs_keep hP hW) (prs_keep hQ hW)
    rw [hr] at this
    exact this
  have HPB : Hid (∀ W, Calls Try.prog 47 #[.agg #[.int .i64 vx, .int .i64 vy]] W fun e w' => e = .returned (.bool true) ∧ Below W.heap.size W w') := fun W => by
    have := IsPoint5_any vx vy W
    rw [hpb] at this
    exact this
  have HCP : Hid (∀ W, Below w.heap.size w W → Calls Try.prog 13 #[.agg (trV t A c)] W (Copy5Post t W)) := fun W hW => Copy5_own t A c (by omega) W (prs_keep hP hW)
  have HAR : Hid (∀ W, Below w.heap.size w W → Calls Try.prog 16 #[.slice Aw ws.length cw] W (TwoPost (Wl.dbl ws) 0 W)) := fun W hW => by
    have := AreaW_any Aw cw ws (by omega) W (prs_keep hQ hW)
    rw [hw] at this
    exact this
  have HMN : Hid (∀ W, Below w.heap.size w W → Calls Try.prog 29 #[.agg (trV t A c), .slice Aw ws.length cw] W (TwoPost (if Wl.setE t ws = 0 then ((Wl.elbsL t ws).length : Int) else 0) (Wl.setE t ws) W)) := fun W hW => ManyW_any t ws A Aw c cw (by omega) (by omega) W (prs_keep hP hW) (prs_keep hQ hW)
  have HRO : Hid (∀ W, Below w.heap.size w W → Calls Try.prog 31 #[.agg (trV t A c), .slice Aw ws.length cw] W (IntsEPost (if Wl.setE t ws = 0 then Wl.rollsL t ws else []) (Wl.setE t ws) W)) := fun W hW => RollsW_any t ws A Aw c cw (by omega) (by omega) W (prs_keep hP hW) (prs_keep hQ hW)
  have HLE : Hid (∀ W, Below w.heap.size w W → Calls Try.prog 33 #[.agg (trV t A c), .slice Aw ws.length cw] W (TwoPost (if Wl.setE t ws = 0 then Wl.movesV (Wl.calmV (Wl.elbsL t ws)) else 0) (Wl.setE t ws) W)) := fun W hW => LeastW_any t ws A Aw c cw (by omega) (by omega) W (prs_keep hP hW) (prs_keep hQ hW)
  have HRE : Hid (∀ W, Below w.heap.size w W → Calls Try.prog 18 #[.agg (trV t A c), .agg #[.int .i64 (Wl.ptAt ws 0).1, .int .i64 (Wl.ptAt ws 0).2]] W (IntsEPost (Wl.reachL t (Wl.ptAt ws 0)) 0 W)) := fun W hW => by
    have := ReachP_any t A c (Wl.ptAt ws 0) (by omega) W (prs_keep hP hW)
    rw [(Wl.reach_ok ht hw hw0).1, (Wl.reach_ok ht hw hw0).2] at this
    exact this
  obtain ⟨RB2, hRB2⟩ : ∃ RB2, RB2 = Wl.readyB (Wl.mvT t (vx, vy)) (Wl.mvP ws (vx, vy)) := ⟨_, rfl⟩
  have HYS : RB2 = true → Wl.chkV (Wl.mvT t (vx, vy)) (Wl.mvP ws (vx, vy)) = 0 := fun h => (Wl.ready_lens (hRB2 ▸ h)).2.2
  have hl2 : (Wl.mvT t (vx, vy)).ps.length ≤ 1000000000 := by show (Wl.mvP t.ps (vx, vy)).length ≤ _; rw [Wl.mvP_len]; omega
  have hlw2 : (Wl.mvP ws (vx, vy)).length ≤ 1000000000 := by rw [Wl.mvP_len]; omega
  have HRD2 : Hid (∀ (A' Aw' : Option Addr) (c' cw' : Nat) (W : World), Prs W W.heap.size A' (Wl.mvP t.ps (vx, vy)) → Prs W W.heap.size Aw' (Wl.mvP ws (vx, vy)) → Calls Try.prog 42 #[.agg #[.slice A' t.ps.length c', .int .i64 t.cl, .int .i64 t.lo, .int .i64 t.hi], .slice Aw' ws.length cw'] W (fun e w' => e = .returned (.bool RB2) ∧ Below W.heap.size W w')) := fun A' Aw' c' cw' W h1 h2 => by
    have := ready5_any (Wl.mvT t (vx, vy)) (Wl.mvP ws (vx, vy)) A' Aw' c' cw' W h1 h2
    rw [trV_mv, Wl.mvP_len, ← hRB2] at this
    exact this
  have HAR2 : Hid (RB2 = true → ∀ (Aw' : Option Addr) (cw' : Nat) (W : World), Prs W W.heap.size Aw' (Wl.mvP ws (vx, vy)) → Calls Try.prog 16 #[.slice Aw' ws.length cw'] W (TwoPost (Wl.dbl ws) 0 W)) := fun hb Aw' cw' W h2 => by
    have := AreaW_any Aw' cw' (Wl.mvP ws (vx, vy)) hlw2 W h2
    rw [(Wl.chk_yes.1 (HYS hb)).2, Wl.mvP_len, Wl.dbl_mv] at this
    exact this
  have HMN2 : Hid (RB2 = true → ∀ (A' Aw' : Option Addr) (c' cw' : Nat) (W : World), Prs W W.heap.size A' (Wl.mvP t.ps (vx, vy)) → Prs W W.heap.size Aw' (Wl.mvP ws (vx, vy)) → Calls Try.prog 29 #[.agg #[.slice A' t.ps.length c', .int .i64 t.cl, .int .i64 t.lo, .int .i64 t.hi], .slice Aw' ws.length cw'] W (TwoPost (if Wl.setE t ws = 0 then ((Wl.elbsL t ws).length : Int) else 0) (Wl.setE t ws) W)) := fun hb A' Aw' c' cw' W h1 h2 => by
    have := ManyW_any (Wl.mvT t (vx, vy)) (Wl.mvP ws (vx, vy)) A' Aw' c' cw' hl2 hlw2 W h1 h2
    rw [trV_mv, Wl.mvP_len, Wl.setE_mv h0 (HYS hb), Wl.elbsL_mv] at this
    exact this
  have HRO2 : Hid (RB2 = true → ∀ (A' Aw' : Option Addr) (c' cw' : Nat) (W : World), Prs W W.heap.size A' (Wl.mvP t.ps (vx, vy)) → Prs W W.heap.size Aw' (Wl.mvP ws (vx, vy)) → Calls Try.prog 31 #[.agg #[.slice A' t.ps.length c', .int .i64 t.cl, .int .i64 t.lo, .int .i64 t.hi], .slice Aw' ws.length cw'] W (IntsEPost (if Wl.setE t ws = 0 then Wl.rollsL t ws else []) (Wl.setE t ws) W)) := fun hb A' Aw' c' cw' W h1 h2 => by
    have := RollsW_any (Wl.mvT t (vx, vy)) (Wl.mvP ws (vx, vy)) A' Aw' c' cw' hl2 hlw2 W h1 h2
    rw [trV_mv, Wl.mvP_len, Wl.setE_mv h0 (HYS hb), Wl.rollsL_mv _ hw0] at this
    exact this
  have HLE2 : Hid (RB2 = true → ∀ (A' Aw' : Option Addr) (c' cw' : Nat) (W : World), Prs W W.heap.size A' (Wl.mvP t.ps (vx, vy)) → Prs W W.heap.size Aw' (Wl.mvP ws (vx, vy)) → Calls Try.prog 33 #[.agg #[.slice A' t.ps.length c', .int .i64 t.cl, .int .i64 t.lo, .int .i64 t.hi], .slice Aw' ws.length cw'] W (TwoPost (if Wl.setE t ws = 0 then Wl.movesV (Wl.calmV (Wl.elbsL t ws)) else 0) (Wl.setE t ws) W)) := fun hb A' Aw' c' cw' W h1 h2 => by
    have := LeastW_any (Wl.mvT t (vx, vy)) (Wl.mvP ws (vx, vy)) A' Aw' c' cw' hl2 hlw2 W h1 h2
    rw [trV_mv, Wl.mvP_len, Wl.setE_mv h0 (HYS hb), Wl.elbsL_mv] at this
    exact this
  have HRE2 : Hid (RB2 = true → ∀ (A' : Option Addr) (c' : Nat) (W : World), Prs W W.heap.size A' (Wl.mvP t.ps (vx, vy)) → Calls Try.prog 18 #[.agg #[.slice A' t.ps.length c', .int .i64 t.cl, .int .i64 t.lo, .int .i64 t.hi], .agg #[.int .i64 ((Wl.ptAt ws 0).1 + vx), .int .i64 ((Wl.ptAt ws 0).2 + vy)]] W (IntsEPost (Wl.reachL t (Wl.ptAt ws 0)) 0 W)) := fun hb A' c' W h1 => by
    have hm := Wl.chk_yes.1 (HYS hb)
    have hq : 0 < (Wl.mvP ws (vx, vy)).length := by rw [Wl.mvP_len]; exact hw0
    have hr9 := Wl.reach_ok hm.1 hm.2 hq
    have := ReachP_any (Wl.mvT t (vx, vy)) A' c' (Wl.ptAt (Wl.mvP ws (vx, vy)) 0) hl2 W h1
    rw [hr9.1, hr9.2, trV_mv, Wl.mvP_at ws _ hw0, Wl.reachL_mv] at this
    exact this
  have HSI : Hid (∀ (v v' : Value) (xs : List Int) (W : World), Ints W W.heap.size v xs → Ints W W.heap.size v' xs → xs.length ≤ 1000000000 → Calls Try.prog 22 #[v, v'] W fun e w' => e = .returned (.bool true) ∧ Below W.heap.size W w') := fun v v' xs W h h' hl => by
    have := SameInts_any v v' xs xs W h h' hl hl
    rw [decide_eq_true rfl] at this
    exact this
  have HPT : ∀ (L : List Wl.Pt) (B : Option Addr), Prs w w.heap.size B L → Hid (∀ k, k < L.length → ∀ W, Below w.heap.size w W → ∃ b off, B = some ⟨b, off, none⟩ ∧ b < w.heap.size ∧ W.cell? ⟨b, off + k * 2, none⟩ = some (.int .i64 (Wl.ptAt L k).1) ∧ W.cell? ⟨b, off + k * 2 + 1, none⟩ = some (.int .i64 (Wl.ptAt L k).2)) := fun L B hL k hk W hW => by
    obtain ⟨b, off, e, hb, hc⟩ := hL (by omega)
    have hg : L[k]? = some (Wl.ptAt L k) := by unfold Wl.ptAt; rw [List.getElem?_eq_getElem hk]; rfl
    exact ⟨b, off, e, hb, (hW.cell (p := ⟨b, _, none⟩) hb).trans (hc k _ hg).1, (hW.cell (p := ⟨b, _, none⟩) hb).trans (hc k _ hg).2⟩
  have HPP := HPT t.ps A hP
  have HPW := HPT ws Aw hQ
  have HQA : Hid (∀ W, Below w.heap.size w W → Prs W W.heap.size Aw ws) := fun W hW => prs_keep hQ hW
  have HSM : Hid (∀ k, k < t.ps.length → Geo.sm (Wl.ptAt t.ps k)) := fun k hk => Wl.pts_sm (Wl.trk_parts ht).1 hk
  have HSW : Hid (∀ k, k < ws.length → Geo.sm (Wl.ptAt ws k)) := fun k hk => Wl.pts_sm hw hk
  have hvs : Geo.sm (vx, vy) := Wl.ptB_sm hpb
  have hKL : Hid ((if Wl.setE t ws = 0 then Wl.rollsL t ws else []).length ≤ 10000) := by
    unfold Hid
    split
    · exact Wl.rollsL_len hl5 hw5
    · simp
  have hRL : Hid ((Wl.reachL t (Wl.ptAt ws 0)).length ≤ 5) := Nat.le_trans (Wl.reachL_len t _) hl5
  clear HPT hP hQ hr ht hw h0 hpb HYS hRB2 hl2 hlw2
  unfold TwoPost at HAR HMN HLE HAR2 HMN2 HLE2
  unfold IntsEPost at HRO HRE HRO2 HRE2
  unfold Copy5Post at HCP
  generalize (if Wl.setE t ws = 0 then Wl.rollsL t ws else []) = KL at *
  generalize (if Wl.setE t ws = 0 then ((Wl.elbsL t ws).length : Int) else 0) = MN at *
  generalize (if Wl.setE t ws = 0 then Wl.movesV (Wl.calmV (Wl.elbsL t ws)) else 0) = NV at *
  generalize Wl.setE t ws = SE at *
  generalize Wl.dbl ws = DW at *
  generalize Wl.reachL t (Wl.ptAt ws 0) = RL at *
  obtain ⟨ps, cl, lo, hi⟩ := t
  unfold trV at *
  dsimp only at *
  go_enter Try.func11, Try.ntmps11
  go_wp2_with fail
  have bT1 := (BoxS.new w 26 #[.slice A ps.length c, .int .i64 cl, .int .i64 lo, .int .i64 hi]).alloc (.cells #[.int .i64 vx, .int .i64 vy] 28)
  have bB1 := BoxS.new (w.alloc (.cells #[.slice A ps.length c, .int .i64 cl, .int .i64 lo, .int .i64 hi] 26)) 28 #[.int .i64 vx, .int .i64 vy]
  rw [World.size_alloc] at bB1
  have hB1 : Below w.heap.size w ((w.alloc (.cells #[.slice A ps.length c, .int .i64 cl, .int .i64 lo, .int .i64 hi] 26)).alloc (.cells #[.int .i64 vx, .int .i64 vy] 28)) := by (repeat' (first | (with_reducible exact Below.refl _ _) | (with_reducible assumption) | (with_reducible refine Below.alloc ?_ ?_ _) | (with_reducible refine Below.drew ?_) | (with_reducible refine Below.setCell ?_ ?_ _) | go_size | (exact (by simp)) | omega))
  generalize World.alloc (World.alloc w _) _ = w1 at *
  have ct0 : w1.cell? ⟨w.heap.size, 0, none⟩ = some (.slice A ps.length c) := bT1.cell 0 rfl
  have ct1 : w1.cell? ⟨w.heap.size, 1, none⟩ = some (.int .i64 cl) := bT1.cell 1 rfl
  have ct2 : w1.cell? ⟨w.heap.size, 2, none⟩ = some (.int .i64 lo) := bT1.cell 2 rfl
  have ct3 : w1.cell? ⟨w.heap.size, 3, none⟩ = some (.int .i64 hi) := bT1.cell 3 rfl
  have lT1 := bT1.lt
  have cb0 : w1.cell? ⟨w.heap.size + 1, 0, none⟩ = some (.int .i64 vx) := bB1.cell 0 rfl
  have cb1 : w1.cell? ⟨w.heap.size + 1, 1, none⟩ = some (.int .i64 vy) := bB1.cell 1 rfl
  have lB1 := bB1.lt
  try go_wp2_with fail
  refine (HRD.out _ hB1).mono ?_
  rintro e w2 ⟨rfl, hb2⟩
  have bT2 := bT1.below hb2
  have bB2 := bB1.below hb2
  have hB2 := hB1.trans (hb2.mono hB1.size)
  clear ct0 ct1 ct2 ct3 lT1 cb0 cb1 lB1 bT1 bB1 hB1 hb2
  have ct0 : w2.cell? ⟨w.heap.size, 0, none⟩ = some (.slice A ps.length c) := bT2.cell 0 rfl
  have ct1 : w2.cell? ⟨w.heap.size, 1, none⟩ = some (.int .i64 cl) := bT2.cell 1 rfl
  have ct2 : w2.cell? ⟨w.heap.size, 2, none⟩ = some (.int .i64 lo) := bT2.cell 2 rfl
  have ct3 : w2.cell? ⟨w.heap.size, 3, none⟩ = some (.int .i64 hi) := bT2.cell 3 rfl
  have lT2 := bT2.lt
  have cb0 : w2.cell? ⟨w.heap.size + 1, 0, none⟩ = some (.int .i64 vx) := bB2.cell 0 rfl
  have cb1 : w2.cell? ⟨w.heap.size + 1, 1, none⟩ = some (.int .i64 vy) := bB2.cell 1 rfl
  have lB2 := bB2.lt
  go_wp2_with fail
  refine (HPB.out _).mono ?_
  rintro e w3 ⟨rfl, hb3⟩
  have bT3 := bT2.below hb3
  have bB3 := bB2.below hb3
  have hB3 := hB2.trans (hb3.mono hB2.size)
  clear ct0 ct1 ct2 ct3 lT2 cb0 cb1 lB2 bT2 bB2 hB2 hb3
  have ct0 : w3.cell? ⟨w.heap.size, 0, none⟩ = some (.slice A ps.length c) := bT3.cell 0 rfl
  have ct1 : w3.cell? ⟨w.heap.size, 1, none⟩ = some (.int .i64 cl) := bT3.cell 1 rfl
  have ct2 : w3.cell? ⟨w.heap.size, 2, none⟩ = some (.int .i64 lo) := bT3.cell 2 rfl
  have ct3 : w3.cell? ⟨w.heap.size, 3, none⟩ = some (.int .i64 hi) := bT3.cell 3 rfl
  have lT3 := bT3.lt
  have cb0 : w3.cell? ⟨w.heap.size + 1, 0, none⟩ = some (.int .i64 vx) := bB3.cell 0 rfl
  have cb1 : w3.cell? ⟨w.heap.size + 1, 1, none⟩ = some (.int .i64 vy) := bB3.cell 1 rfl
  have lB3 := bB3.lt
  go_wp2_with fail
  refine (HCP.out _ hB3).mono ?_
  rintro e w4 ⟨A1, cR, rfl, hO4, hb4⟩
  obtain ⟨gR, cur0, rfl, hgR, bR4, hrow0⟩ := own_boxP hp0 hO4.out
  have hgb : w.heap.size + 1 < gR := by have := bB3.lt; omega
  have bT4 := bT3.below hb4
  have bB4 := bB3.below hb4
  have hB4 := hB3.trans (hb4.mono hB3.size)
  clear ct0 ct1 ct2 ct3 lT3 cb0 cb1 lB3 bT3 bB3 hB3 hb4 hO4 hgR
  have ct0 : w4.cell? ⟨w.heap.size, 0, none⟩ = some (.slice A ps.length c) := bT4.cell 0 rfl
  have ct1 : w4.cell? ⟨w.heap.size, 1, none⟩ = some (.int .i64 cl) := bT4.cell 1 rfl
  have ct2 : w4.cell? ⟨w.heap.size, 2, none⟩ = some (.int .i64 lo) := bT4.cell 2 rfl
  have ct3 : w4.cell? ⟨w.heap.size, 3, none⟩ = some (.int .i64 hi) := bT4.cell 3 rfl
  have lT4 := bT4.lt
  have cb0 : w4.cell? ⟨w.heap.size + 1, 0, none⟩ = some (.int .i64 vx) := bB4.cell 0 rfl
  have cb1 : w4.cell? ⟨w.heap.size + 1, 1, none⟩ = some (.int .i64 vy) := bB4.cell 1 rfl
  have lB4 := bB4.lt
  have lR4 := bR4.lt
  go_upto_region 4 with fail
  have bO5n := BoxS.new w4 26 #[.slice (some ⟨gR, 0, none⟩) ps.length cR, .int .i64 cl, .int .i64 lo, .int .i64 hi]
  have hbx : Below w4.heap.size w4 (w4.alloc (.cells #[.slice (some ⟨gR, 0, none⟩) ps.length cR, .int .i64 cl, .int .i64 lo, .int .i64 hi] 26)) := (Below.refl _ _).alloc (Nat.le_refl _) _
  have bT5 := bT4.below hbx
  have bB5 := bB4.below hbx
  have bR5 := bR4.below hbx
  have hB5 := hB4.trans (hbx.mono hB4.size)
  obtain ⟨BO, hBe⟩ : ∃ B, B = w4.heap.size := ⟨_, rfl⟩
  have kO : gR < BO := by have := bR4.lt; omega
  rw [← hBe] at bO5n ⊢
  have bO5 := bO5n
  clear ct0 ct1 ct2 ct3 lT4 cb0 cb1 lB4 lR4 bT4 bB4 bR4 hB4 hbx hBe bO5n
  generalize World.alloc w4 _ = w5 at *
  have ct0 : w5.cell? ⟨w.heap.size, 0, none⟩ = some (.slice A ps.length c) := bT5.cell 0 rfl
  have ct1 : w5.cell? ⟨w.heap.size, 1, none⟩ = some (.int .i64 cl) := bT5.cell 1 rfl
  have ct2 : w5.cell? ⟨w.heap.size, 2, none⟩ = some (.int .i64 lo) := bT5.cell 2 rfl
  have ct3 : w5.cell? ⟨w.heap.size, 3, none⟩ = some (.int .i64 hi) := bT5.cell 3 rfl
  have lT5 := bT5.lt
  have cb0 : w5.cell? ⟨w.heap.size + 1, 0, none⟩ = some (.int .i64 vx) := bB5.cell 0 rfl
  have cb1 : w5.cell? ⟨w.heap.size + 1, 1, none⟩ = some (.int .i64 vy) := bB5.cell 1 rfl
  have lB5 := bB5.lt
  have lR5 := bR5.lt
  have co0 : w5.cell? ⟨BO, 0, none⟩ = some (.slice (some ⟨gR, 0, none⟩) ps.length cR) := bO5.cell 0 rfl
  have co1 : w5.cell? ⟨BO, 1, none⟩ = some (.int .i64 cl) := bO5.cell 1 rfl
  have co2 : w5.cell? ⟨BO, 2, none⟩ = some (.int .i64 lo) := bO5.cell 2 rfl
  have co3 : w5.cell? ⟨BO, 3, none⟩ = some (.int .i64 hi) := bO5.cell 3 rfl
  have lO5 := bO5.lt
  have HQI := Lib.hid (HQA.out _ hB5)
  go_wp2_with (at_builtin; go_must (refine wpList_copy rfl (.tmp 39) (.tmp 40) rfl Aw cw ws w5.heap.size rfl rfl rfl HQI.out (by omega) ?_; intro A2 cS w6 hown hb6))
  obtain ⟨gS, curS0, rfl, hgS, bS6, hrowS⟩ := own_boxP hw0 hown
  have hOS : BO < gS := by have := lO5; omega
  have bT6 := bT5.below hb6
  have bB6 := bB5.below hb6
  have bR6 := bR5.below hb6
  have bO6 := bO5.below hb6
  have hB6 := hB5.trans (hb6.mono hB5.size)
  clear ct0 ct1 ct2 ct3 lT5 cb0 cb1 lB5 lR5 co0 co1 co2 co3 lO5 bT5 bB5 bR5 bO5 hB5 hb6 hown hgS HQI
  replace hrow0 := Lib.hid hrow0
  replace hrowS := Lib.hid hrowS
  clear HCP HRD HPB HQA
  have ct0 : w6.cell? ⟨w.heap.size, 0, none⟩ = some (.slice A ps.length c) := bT6.cell 0 rfl
  have ct1 : w6.cell? ⟨w.heap.size, 1, none⟩ = some (.int .i64 cl) := bT6.cell 1 rfl
  have ct2 : w6.cell? ⟨w.heap.size, 2, none⟩ = some (.int .i64 lo) := bT6.cell 2 rfl
  have ct3 : w6.cell? ⟨w.heap.size, 3, none⟩ = some (.int .i64 hi) := bT6.cell 3 rfl
  have lT6 := bT6.lt
  have cb0 : w6.cell? ⟨w.heap.size + 1, 0, none⟩ = some (.int .i64 vx) := bB6.cell 0 rfl
  have cb1 : w6.cell? ⟨w.heap.size + 1, 1, none⟩ = some (.int .i64 vy) := bB6.cell 1 rfl
  have lB6 := bB6.lt
  have lR6 := bR6.lt
  have co0 : w6.cell? ⟨BO, 0, none⟩ = some (.slice (some ⟨gR, 0, none⟩) ps.length cR) := bO6.cell 0 rfl
  have co1 : w6.cell? ⟨BO, 1, none⟩ = some (.int .i64 cl) := bO6.cell 1 rfl
  have co2 : w6.cell? ⟨BO, 2, none⟩ = some (.int .i64 lo) := bO6.cell 2 rfl
  have co3 : w6.cell? ⟨BO, 3, none⟩ = some (.int .i64 hi) := bO6.cell 3 rfl
  have lO6 := bO6.lt
  clear ct0 ct1 ct2 ct3 lT6 cb0 cb1 lB6 lR6 co0 co1 co2 co3 lO6
  go_loopw [9] (fun x wr => ∃ (k : Nat) (cur : Array Value), (k : Int) ≤ ps.length ∧ x = .int .i64 (k : Int) ∧ Hid (RowP cur (Wl.mixTo ps (vx, vy) k)) ∧ Below w.heap.size w wr ∧ BoxS wr w.heap.size 26 #[.slice A ps.length c, .int .i64 cl, .int .i64 lo, .int .i64 hi] ∧ BoxS wr (w.heap.size + 1) 28 #[.int .i64 vx, .int .i64 vy] ∧ BoxS wr BO 26 #[.slice (some ⟨gR, 0, none⟩) ps.length cR, .int .i64 cl, .int .i64 lo, .int .i64 hi] ∧ BoxS wr gR 28 cur ∧ BoxS wr gS 28 curS0) (fun x _ => (ps.length - intOf x).toNat)
  case atStart => exact ⟨0, _, by omega, rfl, hrow0, hB6, bT6, bB6, bO6, bR6, bS6⟩
  case round =>
    obtain ⟨k, cur, hk, rfl, hrow, hB, bT, bB, bO, bR, bS⟩ := hrel
    have hk0 := Int.natCast_nonneg k
    have q0 := bT.cell 0 rfl
    have q1 := bT.cell 1 rfl
    have q2 := bT.cell 2 rfl
    have q3 := bT.cell 3 rfl
    have lT := bT.lt
    have u0 := bB.cell 0 rfl
    have u1 := bB.cell 1 rfl
    have lB := bB.lt
    have o0 := bO.cell 0 rfl
    have o1 := bO.cell 1 rfl
    have o2 := bO.cell 2 rfl
    have o3 := bO.cell 3 rfl
    have lO := bO.lt
    by_cases hlt : (k : Int) < ps.length
    · have hkl : k < ps.length := by omega
      obtain ⟨b, off, hAe, hbb, z0, z1⟩ := HPP.out k hkl _ hB
      have hsm := HSM.out k hkl
      have hmk : k < (Wl.mixTo ps (vx, vy) k).length := by rw [Wl.mixTo_len]; exact hkl
      have hrow2 : Hid (RowP ((cur.setIfInBounds (k * 2) (.int .i64 ((Wl.ptAt ps k).1 + vx))).setIfInBounds (k * 2 + 1) (.int .i64 ((Wl.ptAt ps k).2 + vy))) (Wl.mixTo ps (vx, vy) (k + 1))) := rowP_set hrow.out hmk _ _
      have hz := hrow.out k _ (List.getElem?_eq_getElem hmk)
      have y0 := bR.cell _ hz.1
      have y1 := bR.cell _ hz.2
      have f0 := bR.frozen (k * 2)
      have f1 := bR.frozen (k * 2 + 1)
      clear hz hrow
      generalize (Wl.mixTo ps (vx, vy) k)[k] = zz at *
      generalize (Wl.ptAt ps k) = pk at *
      obtain ⟨px, py⟩ := pk
      dsimp only at *
      subst hAe
      unfold Geo.sm at hsm hvs
      have hw1 : IntKind.i64.wrap (px + vx) = px + vx := IntWalk.i64_in _ (by omega)
      have hw2 : IntKind.i64.wrap (py + vy) = py + vy := IntWalk.i64_in _ (by omega)
      have hw3 : IntKind.i64.wrap ((k : Int) + 1) = (k : Int) + 1 := IntWalk.i64_in _ (by omega)
      have d1 : decide ((k : Int) < 0) = false := decide_eq_false (by omega)
      have d2 : decide ((ps.length : Int) ≤ (k : Int)) = false := decide_eq_false (by omega)
      have d4 : decide (ps.length ≤ k) = false := decide_eq_false (by omega)
      go_wp2_with fail
      refine (wpIn_wide (n := 4)).1 ?_
      refine wpIn_region_held (fun W' => W' = wr.drew) 23 hmo ?_
      refine wpHeldIn_take (i := 0) (v := ?_) (plain_of (by kernel_rfl)) rfl (by kernel_rfl) (fun _ _ _ h => h) (yieldsSoIn_of (by kernel_rfl) ?_ (fun _ => rfl)) rfl ?_; rotate_left; focus (intro w hw; cases hw; go_simp; try (with_reducible rfl))
      refine wpHeldIn_take (i := 1) (v := ?_) (plain_of (by kernel_rfl)) rfl (by kernel_rfl) (fun _ _ _ h => h) (yieldsSoIn_of (by kernel_rfl) ?_ (fun _ => rfl)) rfl ?_; rotate_left; focus (intro w hw; cases hw; go_simp; try (with_reducible rfl))
      refine wpHeldIn_take (i := 2) (v := ?_) (plain_of (by kernel_rfl)) rfl (by kernel_rfl) (fun _ _ _ h => h) (yieldsSoIn_of (by kernel_rfl) ?_ (fun _ => rfl)) rfl ?_; rotate_left; focus (intro w hw; cases hw; go_simp; try (with_reducible rfl))
      refine wpHeldIn_take (i := 3) (v := ?_) (plain_of (by kernel_rfl)) rfl (by kernel_rfl) (fun _ _ _ h => h) (yieldsSoIn_of (by kernel_rfl) ?_ (fun _ => rfl)) rfl ?_; rotate_left; focus (intro w hw; cases hw; go_simp; try (with_reducible rfl))
      refine wpHeldIn_take (i := 4) (v := ?_) (plain_of (by kernel_rfl)) rfl (by kernel_rfl) (fun _ _ _ h => h) (yieldsSoIn_of (by kernel_rfl) ?_ (fun _ => rfl)) rfl ?_; rotate_left; focus (intro w hw; cases hw; go_simp; try (with_reducible rfl))
      refine wpHeldIn_take (i := 5) (v := ?_) (plain_of (by kernel_rfl)) rfl (by kernel_rfl) (fun _ _ _ h => h) (yieldsSoIn_of (by kernel_rfl) ?_ (fun _ => rfl)) rfl ?_; rotate_left; focus (intro w hw; cases hw; go_simp; try (with_reducible rfl))
      refine wpHeldIn_take (i := 6) (v := ?_) (plain_of (by kernel_rfl)) rfl (by kernel_rfl) (fun _ _ _ h => h) (yieldsSoIn_of (by kernel_rfl) ?_ (fun _ => rfl)) rfl ?_; rotate_left; focus (intro w hw; cases hw; go_simp; try (with_reducible rfl))
      refine wpHeldIn_take (i := 7) (v := ?_) (plain_of (by kernel_rfl)) rfl (by kernel_rfl) (fun _ _ _ h => h) (yieldsSoIn_of (by kernel_rfl) ?_ (fun _ => rfl)) rfl ?_; rotate_left; focus (intro w hw; cases hw; go_simp; try (with_reducible rfl))
      refine wpHeldIn_take (i := 8) (v := ?_) (plain_of (by kernel_rfl)) rfl (by kernel_rfl) (fun _ _ _ h => h) (yieldsSoIn_of (by kernel_rfl) ?_ (fun _ => rfl)) rfl ?_; rotate_left; focus (intro w hw; cases hw; go_simp; try (with_reducible rfl))
      refine wpHeldIn_take (i := 9) (v := ?_) (plain_of (by kernel_rfl)) rfl (by kernel_rfl) (fun _ _ _ h => h) (yieldsSoIn_of (by kernel_rfl) ?_ (fun _ => rfl)) rfl ?_; rotate_left; focus (intro w hw; cases hw; go_simp; try (with_reducible rfl))
      refine wpHeldIn_take (i := 10) (v := ?_) (plain_of (by kernel_rfl)) rfl (by kernel_rfl) (fun _ _ _ h => h) (yieldsSoIn_of (by kernel_rfl) ?_ (fun _ => rfl)) rfl ?_; rotate_left; focus (intro w hw; cases hw; go_simp; try (with_reducible rfl))
      refine wpHeldIn_take (i := 11) (v := ?_) (plain_of (by kernel_rfl)) rfl (by kernel_rfl) (fun _ _ _ h => h) (yieldsSoIn_of (by kernel_rfl) ?_ (fun _ => rfl)) rfl ?_; rotate_left; focus (intro w hw; cases hw; go_simp; try (with_reducible rfl))
      refine wpHeldIn_take (i := 12) (v := ?_) (plain_of (by kernel_rfl)) rfl (by kernel_rfl) (fun _ _ _ h => h) (yieldsSoIn_of (by kernel_rfl) ?_ (fun _ => rfl)) rfl ?_; rotate_left; focus (intro w hw; cases hw; go_simp; try (with_reducible rfl))
      refine wpHeldIn_take (i := 13) (v := ?_) (plain_of (by kernel_rfl)) rfl (by kernel_rfl) (fun _ _ _ h => h) (yieldsSoIn_of (by kernel_rfl) ?_ (fun _ => rfl)) rfl ?_; rotate_left; focus (intro w hw; cases hw; go_simp; try (with_reducible rfl))
      refine wpHeldIn_take (i := 14) (v := ?_) (plain_of (by kernel_rfl)) rfl (by kernel_rfl) (fun _ _ _ h => h) (yieldsSoIn_of (by kernel_rfl) ?_ (fun _ => rfl)) rfl ?_; rotate_left; focus (intro w hw; cases hw; go_simp; try (with_reducible rfl))
      refine wpHeldIn_take (i := 15) (v := ?_) (plain_of (by kernel_rfl)) rfl (by kernel_rfl) (fun _ _ _ h => h) (yieldsSoIn_of (by kernel_rfl) ?_ (fun _ => rfl)) rfl ?_; rotate_left; focus (intro w hw; cases hw; go_simp; try (with_reducible rfl))
      refine wpHeldIn_take (i := 16) (v := ?_) (plain_of (by kernel_rfl)) rfl (by kernel_rfl) (fun _ _ _ h => h) (yieldsSoIn_of (by kernel_rfl) ?_ (fun _ => rfl)) rfl ?_; rotate_left; focus (intro w hw; cases hw; go_simp; try (with_reducible rfl))
      refine wpHeldIn_take (i := 17) (v := ?_) (plain_of (by kernel_rfl)) rfl (by kernel_rfl) (fun _ _ _ h => h) (yieldsSoIn_of (by kernel_rfl) ?_ (fun _ => rfl)) rfl ?_; rotate_left; focus (intro w hw; cases hw; go_simp; try (with_reducible rfl))
      refine wpHeldIn_take (i := 18) (v := ?_) (plain_of (by kernel_rfl)) rfl (by kernel_rfl) (fun _ _ _ h => h) (yieldsSoIn_of (by kernel_rfl) ?_ (fun _ => rfl)) rfl ?_; rotate_left; focus (intro w hw; cases hw; go_simp; try (with_reducible rfl))
      refine wpHeldIn_take (i := 19) (v := ?_) (plain_of (by kernel_rfl)) rfl (by kernel_rfl) (fun _ _ _ h => h) (yieldsSoIn_of (by kernel_rfl) ?_ (fun _ => rfl)) rfl ?_; rotate_left; focus (intro w hw; cases hw; go_simp; try (with_reducible rfl))
      refine wpHeldIn_take (i := 20) (v := ?_) (plain_of (by kernel_rfl)) rfl (by kernel_rfl) (fun _ _ _ h => h) (yieldsSoIn_of (by kernel_rfl) ?_ (fun _ => rfl)) rfl ?_; rotate_left; focus (intro w hw; cases hw; go_simp; try (with_reducible rfl))
      refine wpHeldIn_take (i := 21) (v := ?_) (plain_of (by kernel_rfl)) rfl (by kernel_rfl) (fun _ _ _ h => h) (yieldsSoIn_of (by kernel_rfl) ?_ (fun _ => rfl)) rfl ?_; rotate_left; focus (intro w hw; cases hw; go_simp; try (with_reducible rfl))
      refine wpHeldIn_take (i := 22) (v := ?_) (plain_of (by kernel_rfl)) rfl (by kernel_rfl) (fun _ _ _ h => h) (yieldsSoIn_of (by kernel_rfl) ?_ (fun _ => rfl)) rfl ?_; rotate_left; focus (intro w hw; cases hw; go_simp; try (with_reducible rfl))
      refine wpHeldIn_last (by kernel_rfl) rfl (by rfl) (fun K' hK' => ?_)
      go_simp
      have HBn : Below w.heap.size w (((wr.setCell ⟨gR, k * 2, none⟩ (.int .i64 (px + vx))).setCell ⟨gR, k * 2 + 1, none⟩ (.int .i64 (py + vy))).drew) := by (repeat' (first | (with_reducible exact Below.refl _ _) | (with_reducible assumption) | (with_reducible refine Below.alloc ?_ ?_ _) | (with_reducible refine Below.drew ?_) | (with_reducible refine Below.setCell ?_ ?_ _) | go_size | (exact (by simp)) | omega))
      have bT2 := ((bT.away (B' := gR) (by omega) (k * 2) (.int .i64 (px + vx))).away (B' := gR) (by omega) (k * 2 + 1) (.int .i64 (py + vy))).drew
      have bB2 := ((bB.away (B' := gR) (by omega) (k * 2) (.int .i64 (px + vx))).away (B' := gR) (by omega) (k * 2 + 1) (.int .i64 (py + vy))).drew
      have bO2 := ((bO.away (B' := gR) (by omega) (k * 2) (.int .i64 (px + vx))).away (B' := gR) (by omega) (k * 2 + 1) (.int .i64 (py + vy))).drew
      have bS2 := ((bS.away (B' := gR) (by omega) (k * 2) (.int .i64 (px + vx))).away (B' := gR) (by omega) (k * 2 + 1) (.int .i64 (py + vy))).drew
      have bR2 := ((bR.put9 (k * 2) (.int .i64 (px + vx))).put9 (k * 2 + 1) (.int .i64 (py + vy))).drew
      refine hK' _ _ ?_
      clear q0 q1 q2 q3 lT u0 u1 lB o0 o1 o2 o3 lO y0 y1 f0 f1 z0 z1 bT bB bO bR bS hB
      generalize World.drew (World.setCell (World.setCell wr _ _) _ _) = wn at *
      refine wpHeldIn_done (by kernel_rfl) ?_ _
      go_simp
      go_wp2_with fail
      go_roundw
      case rel => exact ⟨k + 1, _, by omega, by go_num, hrow2, HBn, bT2, bB2, bO2, bR2, bS2⟩
      case measure => simp [intOf]; omega
    · obtain rfl : k = ps.length := by omega
      have hrowR : Hid (RowP cur (Wl.mvP ps (vx, vy))) := hrow
      obtain ⟨curR, rfl⟩ : ∃ c, c = cur := ⟨_, rfl⟩
      clear hrow hlt hk hk0 HPP HSM
      go_wp2_with fail
      clear q0 q1 q2 q3 lT u0 u1 lB o0 o1 o2 o3 lO
      go_loopw [10] (fun x wr => ∃ (k : Nat) (cur : Array Value), (k : Int) ≤ ws.length ∧ x = .int .i64 (k : Int) ∧ Hid (RowP cur (Wl.mixTo ws (vx, vy) k)) ∧ Below w.heap.size w wr ∧ BoxS wr w.heap.size 26 #[.slice A ps.length c, .int .i64 cl, .int .i64 lo, .int .i64 hi] ∧ BoxS wr (w.heap.size + 1) 28 #[.int .i64 vx, .int .i64 vy] ∧ BoxS wr BO 26 #[.slice (some ⟨gR, 0, none⟩) ps.length cR, .int .i64 cl, .int .i64 lo, .int .i64 hi] ∧ BoxS wr gR 28 curR ∧ BoxS wr gS 28 cur) (fun x _ => (ws.length - intOf x).toNat)
      case atStart => exact ⟨0, _, by omega, rfl, hrowS, hB, bT, bB, bO, bR, bS⟩
      case round =>
        obtain ⟨k, cur, hk, rfl, hrow, hB, bT, bB, bO, bR, bS⟩ := hrel
        have hk0 := Int.natCast_nonneg k
        have q0 := bT.cell 0 rfl
        have q1 := bT.cell 1 rfl
        have q2 := bT.cell 2 rfl
        have q3 := bT.cell 3 rfl
        have lT := bT.lt
        have u0 := bB.cell 0 rfl
        have u1 := bB.cell 1 rfl
        have lB := bB.lt
        have o0 := bO.cell 0 rfl
        have o1 := bO.cell 1 rfl
        have o2 := bO.cell 2 rfl
        have o3 := bO.cell 3 rfl
        have lO := bO.lt
        by_cases hlt : (k : Int) < ws.length
        · have hkl : k < ws.length := by omega
          obtain ⟨b, off, hAe, hbb, z0, z1⟩ := HPW.out k hkl _ hB
          have hsm := HSW.out k hkl
          have hmk : k < (Wl.mixTo ws (vx, vy) k).length := by rw [Wl.mixTo_len]; exact hkl
          have hrow2 : Hid (RowP ((cur.setIfInBounds (k * 2) (.int .i64 ((Wl.ptAt ws k).1 + vx))).setIfInBounds (k * 2 + 1) (.int .i64 ((Wl.ptAt ws k).2 + vy))) (Wl.mixTo ws (vx, vy) (k + 1))) := rowP_set hrow.out hmk _ _
          have hz := hrow.out k _ (List.getElem?_eq_getElem hmk)
          have y0 := bS.cell _ hz.1
          have y1 := bS.cell _ hz.2
          have f0 := bS.frozen (k * 2)
          have f1 := bS.frozen (k * 2 + 1)
          clear hz hrow
          generalize (Wl.mixTo ws (vx, vy) k)[k] = zz at *
          generalize (Wl.ptAt ws k) = pk at *
          obtain ⟨px, py⟩ := pk
          dsimp only at *
          subst hAe
          unfold Geo.sm at hsm hvs
          have hw1 : IntKind.i64.wrap (px + vx) = px + vx := IntWalk.i64_in _ (by omega)
          have hw2 : IntKind.i64.wrap (py + vy) = py + vy := IntWalk.i64_in _ (by omega)
          have hw3 : IntKind.i64.wrap ((k : Int) + 1) = (k : Int) + 1 := IntWalk.i64_in _ (by omega)
          have d1 : decide ((k : Int) < 0) = false := decide_eq_false (by omega)
          have d2 : decide ((ws.length : Int) ≤ (k : Int)) = false := decide_eq_false (by omega)
          have d4 : decide (ws.length ≤ k) = false := decide_eq_false (by omega)
          go_wp2_with fail
          refine (wpIn_wide (n := 4)).1 ?_
          refine wpIn_region_held (fun W' => W' = wr.drew) 20 hmo ?_
          refine wpHeldIn_take (i := 0) (v := ?_) (plain_of (by kernel_rfl)) rfl (by kernel_rfl) (fun _ _ _ h => h) (yieldsSoIn_of (by kernel_rfl) ?_ (fun _ => rfl)) rfl ?_; rotate_left; focus (intro w hw; cases hw; go_simp; try (with_reducible rfl))
          refine wpHeldIn_take (i := 1) (v := ?_) (plain_of (by kernel_rfl)) rfl (by kernel_rfl) (fun _ _ _ h => h) (yieldsSoIn_of (by kernel_rfl) ?_ (fun _ => rfl)) rfl ?_; rotate_left; focus (intro w hw; cases hw; go_simp; try (with_reducible rfl))
          refine wpHeldIn_take (i := 2) (v := ?_) (plain_of (by kernel_rfl)) rfl (by kernel_rfl) (fun _ _ _ h => h) (yieldsSoIn_of (by kernel_rfl) ?_ (fun _ => rfl)) rfl ?_; rotate_left; focus (intro w hw; cases hw; go_simp; try (with_reducible rfl))
          refine wpHeldIn_take (i := 3) (v := ?_) (plain_of (by kernel_rfl)) rfl (by kernel_rfl) (fun _ _ _ h => h) (yieldsSoIn_of (by kernel_rfl) ?_ (fun _ => rfl)) rfl ?_; rotate_left; focus (intro w hw; cases hw; go_simp; try (with_reducible rfl))
          refine wpHeldIn_take (i := 4) (v := ?_) (plain_of (by kernel_rfl)) rfl (by kernel_rfl) (fun _ _ _ h => h) (yieldsSoIn_of (by kernel_rfl) ?_ (fun _ => rfl)) rfl ?_; rotate_left; focus (intro w hw; cases hw; go_simp; try (with_reducible rfl))
          refine wpHeldIn_take (i := 5) (v := ?_) (plain_of (by kernel_rfl)) rfl (by kernel_rfl) (fun _ _ _ h => h) (yieldsSoIn_of (by kernel_rfl) ?_ (fun _ => rfl)) rfl ?_; rotate_left; focus (intro w hw; cases hw; go_simp; try (with_reducible rfl))
          refine wpHeldIn_take (i := 6) (v := ?_) (plain_of (by kernel_rfl)) rfl (by kernel_rfl) (fun _ _ _ h => h) (yieldsSoIn_of (by kernel_rfl) ?_ (fun _ => rfl)) rfl ?_; rotate_left; focus (intro w hw; cases hw; go_simp; try (with_reducible rfl))
          refine wpHeldIn_take (i := 7) (v := ?_) (plain_of (by kernel_rfl)) rfl (by kernel_rfl) (fun _ _ _ h => h) (yieldsSoIn_of (by kernel_rfl) ?_ (fun _ => rfl)) rfl ?_; rotate_left; focus (intro w hw; cases hw; go_simp; try (with_reducible rfl))
          refine wpHeldIn_take (i := 8) (v := ?_) (plain_of (by kernel_rfl)) rfl (by kernel_rfl) (fun _ _ _ h => h) (yieldsSoIn_of (by kernel_rfl) ?_ (fun _ => rfl)) rfl ?_; rotate_left; focus (intro w hw; cases hw; go_simp; try (with_reducible rfl))
          refine wpHeldIn_take (i := 9) (v := ?_) (plain_of (by kernel_rfl)) rfl (by kernel_rfl) (fun _ _ _ h => h) (yieldsSoIn_of (by kernel_rfl) ?_ (fun _ => rfl)) rfl ?_; rotate_left; focus (intro w hw; cases hw; go_simp; try (with_reducible rfl))
          refine wpHeldIn_take (i := 10) (v := ?_) (plain_of (by kernel_rfl)) rfl (by kernel_rfl) (fun _ _ _ h => h) (yieldsSoIn_of (by kernel_rfl) ?_ (fun _ => rfl)) rfl ?_; rotate_left; focus (intro w hw; cases hw; go_simp; try (with_reducible rfl))
          refine wpHeldIn_take (i := 11) (v := ?_) (plain_of (by kernel_rfl)) rfl (by kernel_rfl) (fun _ _ _ h => h) (yieldsSoIn_of (by kernel_rfl) ?_ (fun _ => rfl)) rfl ?_; rotate_left; focus (intro w hw; cases hw; go_simp; try (with_reducible rfl))
          refine wpHeldIn_take (i := 12) (v := ?_) (plain_of (by kernel_rfl)) rfl (by kernel_rfl) (fun _ _ _ h => h) (yieldsSoIn_of (by kernel_rfl) ?_ (fun _ => rfl)) rfl ?_; rotate_left; focus (intro w hw; cases hw; go_simp; try (with_reducible rfl))
          refine wpHeldIn_take (i := 13) (v := ?_) (plain_of (by kernel_rfl)) rfl (by kernel_rfl) (fun _ _ _ h => h) (yieldsSoIn_of (by kernel_rfl) ?_ (fun _ => rfl)) rfl ?_; rotate_left; focus (intro w hw; cases hw; go_simp; try (with_reducible rfl))
          refine wpHeldIn_take (i := 14) (v := ?_) (plain_of (by kernel_rfl)) rfl (by kernel_rfl) (fun _ _ _ h => h) (yieldsSoIn_of (by kernel_rfl) ?_ (fun _ => rfl)) rfl ?_; rotate_left; focus (intro w hw; cases hw; go_simp; try (with_reducible rfl))
          refine wpHeldIn_take (i := 15) (v := ?_) (plain_of (by kernel_rfl)) rfl (by kernel_rfl) (fun _ _ _ h => h) (yieldsSoIn_of (by kernel_rfl) ?_ (fun _ => rfl)) rfl ?_; rotate_left; focus (intro w hw; cases hw; go_simp; try (with_reducible rfl))
          refine wpHeldIn_take (i := 16) (v := ?_) (plain_of (by kernel_rfl)) rfl (by kernel_rfl) (fun _ _ _ h => h) (yieldsSoIn_of (by kernel_rfl) ?_ (fun _ => rfl)) rfl ?_; rotate_left; focus (intro w hw; cases hw; go_simp; try (with_reducible rfl))
          refine wpHeldIn_take (i := 17) (v := ?_) (plain_of (by kernel_rfl)) rfl (by kernel_rfl) (fun _ _ _ h => h) (yieldsSoIn_of (by kernel_rfl) ?_ (fun _ => rfl)) rfl ?_; rotate_left; focus (intro w hw; cases hw; go_simp; try (with_reducible rfl))
          refine wpHeldIn_take (i := 18) (v := ?_) (plain_of (by kernel_rfl)) rfl (by kernel_rfl) (fun _ _ _ h => h) (yieldsSoIn_of (by kernel_rfl) ?_ (fun _ => rfl)) rfl ?_; rotate_left; focus (intro w hw; cases hw; go_simp; try (with_reducible rfl))
          refine wpHeldIn_take (i := 19) (v := ?_) (plain_of (by kernel_rfl)) rfl (by kernel_rfl) (fun _ _ _ h => h) (yieldsSoIn_of (by kernel_rfl) ?_ (fun _ => rfl)) rfl ?_; rotate_left; focus (intro w hw; cases hw; go_simp; try (with_reducible rfl))
          refine wpHeldIn_last (by kernel_rfl) rfl (by rfl) (fun K' hK' => ?_)
          go_simp
          have HBn : Below w.heap.size w (((wr.setCell ⟨gS, k * 2, none⟩ (.int .i64 (px + vx))).setCell ⟨gS, k * 2 + 1, none⟩ (.int .i64 (py + vy))).drew) := by (repeat' (first | (with_reducible exact Below.refl _ _) | (with_reducible assumption) | (with_reducible refine Below.alloc ?_ ?_ _) | (with_reducible refine Below.drew ?_) | (with_reducible refine Below.setCell ?_ ?_ _) | go_size | (exact (by simp)) | omega))
          have bT2 := ((bT.away (B' := gS) (by omega) (k * 2) (.int .i64 (px + vx))).away (B' := gS) (by omega) (k * 2 + 1) (.int .i64 (py + vy))).drew
          have bB2 := ((bB.away (B' := gS) (by omega) (k * 2) (.int .i64 (px + vx))).away (B' := gS) (by omega) (k * 2 + 1) (.int .i64 (py + vy))).drew
          have bO2 := ((bO.away (B' := gS) (by omega) (k * 2) (.int .i64 (px + vx))).away (B' := gS) (by omega) (k * 2 + 1) (.int .i64 (py + vy))).drew
          have bR2 := ((bR.away (B' := gS) (by omega) (k * 2) (.int .i64 (px + vx))).away (B' := gS) (by omega) (k * 2 + 1) (.int .i64 (py + vy))).drew
          have bS2 := ((bS.put9 (k * 2) (.int .i64 (px + vx))).put9 (k * 2 + 1) (.int .i64 (py + vy))).drew
          refine hK' _ _ ?_
          clear q0 q1 q2 q3 lT u0 u1 lB o0 o1 o2 o3 lO y0 y1 f0 f1 z0 z1 bT bB bO bR bS hB
          generalize World.drew (World.setCell (World.setCell wr _ _) _ _) = wn at *
          refine wpHeldIn_done (by kernel_rfl) ?_ _
          go_simp
          go_wp2_with fail
          go_roundw
          case rel => exact ⟨k + 1, _, by omega, by go_num, hrow2, HBn, bT2, bB2, bO2, bR2, bS2⟩
          case measure => simp [intOf]; omega
        · obtain rfl : k = ws.length := by omega
          have pp90 : Hid (Prs wr wr.heap.size (some ⟨gR, 0, none⟩) (Wl.mvP ps (vx, vy))) := prs_of_rowP bR hrowR.out
          have ww90 : Hid (Prs wr wr.heap.size (some ⟨gS, 0, none⟩) (Wl.mvP ws (vx, vy))) := prs_of_rowP bS hrow.out
          obtain ⟨w90, hw90⟩ : ∃ w90, w90 = wr := ⟨_, rfl⟩
          subst hw90
          have bT90 := bT
          have bO90 := bO
          have hB90 := hB
          clear q0 q1 q2 q3 lT u0 u1 lB o0 o1 o2 o3 lO bT bB bO bR bS hB hrow hrowR hrow0 hrowS hlt hk hk0 HSW
          have hdw : (DW != DW) = false := by simp
          have hmn : (MN != MN) = false := by simp
          have hse : (SE != SE) = false := by simp
          have hse2 : (SE == SE) = true := by simp
          have hnv : (NV == NV) = true := by simp
          have e1 : decide ((ws.length : Int) ≤ 0) = false := decide_eq_false (by omega)
          have e2 : decide (ws.length ≤ 0) = false := decide_eq_false (by omega)
          have e3 : ¬ (ws.length : Int) = 0 := by omega
          have e4 : ¬ ws.length = 0 := by omega
          have e5 : ¬ ws = [] := by intro e; subst e; simp at hw0
          have e6 : (0 : Int) < ws.length := by omega
          have ct0 : w90.cell? ⟨w.heap.size, 0, none⟩ = some (.slice A ps.length c) := bT90.cell 0 rfl
          have ct1 : w90.cell? ⟨w.heap.size, 1, none⟩ = some (.int .i64 cl) := bT90.cell 1 rfl
          have ct2 : w90.cell? ⟨w.heap.size, 2, none⟩ = some (.int .i64 lo) := bT90.cell 2 rfl
          have ct3 : w90.cell? ⟨w.heap.size, 3, none⟩ = some (.int .i64 hi) := bT90.cell 3 rfl
          have lT90 := bT90.lt
          have co0 : w90.cell? ⟨BO, 0, none⟩ = some (.slice (some ⟨gR, 0, none⟩) ps.length cR) := bO90.cell 0 rfl
          have co1 : w90.cell? ⟨BO, 1, none⟩ = some (.int .i64 cl) := bO90.cell 1 rfl
          have co2 : w90.cell? ⟨BO, 2, none⟩ = some (.int .i64 lo) := bO90.cell 2 rfl
          have co3 : w90.cell? ⟨BO, 3, none⟩ = some (.int .i64 hi) := bO90.cell 3 rfl
          have lO90 := bO90.lt
          go_wp2_with fail
          refine (HRD2.out _ _ _ _ _ pp90.out ww90.out).mono ?_
          rintro e w91 ⟨rfl, hb91⟩
          have bT91 := bT90.below hb91
          have bO91 := bO90.below hb91
          have hB91 := hB90.trans (hb91.mono hB90.size)
          have pp91 : Hid (Prs w91 w91.heap.size (some ⟨gR, 0, none⟩) (Wl.mvP ps (vx, vy))) := (pp90.out.keep hb91).wider hb91.size
          have ww91 : Hid (Prs w91 w91.heap.size (some ⟨gS, 0, none⟩) (Wl.mvP ws (vx, vy))) := (ww90.out.keep hb91).wider hb91.size
          clear ct0 ct1 ct2 ct3 lT90 co0 co1 co2 co3 lO90 bT90 bO90 pp90 ww90 hB90 hb91
          have ct0 : w91.cell? ⟨w.heap.size, 0, none⟩ = some (.slice A ps.length c) := bT91.cell 0 rfl
          have ct1 : w91.cell? ⟨w.heap.size, 1, none⟩ = some (.int .i64 cl) := bT91.cell 1 rfl
          have ct2 : w91.cell? ⟨w.heap.size, 2, none⟩ = some (.int .i64 lo) := bT91.cell 2 rfl
          have ct3 : w91.cell? ⟨w.heap.size, 3, none⟩ = some (.int .i64 hi) := bT91.cell 3 rfl
          have lT91 := bT91.lt
          have co0 : w91.cell? ⟨BO, 0, none⟩ = some (.slice (some ⟨gR, 0, none⟩) ps.length cR) := bO91.cell 0 rfl
          have co1 : w91.cell? ⟨BO, 1, none⟩ = some (.int .i64 cl) := bO91.cell 1 rfl
          have co2 : w91.cell? ⟨BO, 2, none⟩ = some (.int .i64 lo) := bO91.cell 2 rfl
          have co3 : w91.cell? ⟨BO, 3, none⟩ = some (.int .i64 hi) := bO91.cell 3 rfl
          have lO91 := bO91.lt
          cases RB2 with
          | false =>
            clear HAR2 HMN2 HRO2 HLE2 HRE2
            go_wp2_with fail
            refine (HWK.out _).mono ?_
            rintro e wz ⟨rfl, hbz⟩
            have hBz := hB91.trans (hbz.mono hB91.size)
            go_wp2_with fail
            go_returns
            exact ⟨rfl, hBz⟩
          | true =>
            have HAR21 := Lib.hid (HAR2.out rfl)
            clear HAR2
            have HMN21 := Lib.hid (HMN2.out rfl)
            clear HMN2
            have HRO21 := Lib.hid (HRO2.out rfl)
            clear HRO2
            have HLE21 := Lib.hid (HLE2.out rfl)
            clear HLE2
            have HRE21 := Lib.hid (HRE2.out rfl)
            clear HRE2
            go_wp2_with fail
            refine (HAR.out _ hB91).mono ?_
            rintro e w92 ⟨rfl, hb92⟩
            have bT92 := bT91.below hb92
            have bO92 := bO91.below hb92
            have hB92 := hB91.trans (hb92.mono hB91.size)
            have pp92 : Hid (Prs w92 w92.heap.size (some ⟨gR, 0, none⟩) (Wl.mvP ps (vx, vy))) := (pp91.out.keep hb92).wider hb92.size
            have ww92 : Hid (Prs w92 w92.heap.size (some ⟨gS, 0, none⟩) (Wl.mvP ws (vx, vy))) := (ww91.out.keep hb92).wider hb92.size
            clear ct0 ct1 ct2 ct3 lT91 co0 co1 co2 co3 lO91 bT91 bO91 pp91 ww91 hB91 hb92
            have ct0 : w92.cell? ⟨w.heap.size, 0, none⟩ = some (.slice A ps.length c) := bT92.cell 0 rfl
            have ct1 : w92.cell? ⟨w.heap.size, 1, none⟩ = some (.int .i64 cl) := bT92.cell 1 rfl
            have ct2 : w92.cell? ⟨w.heap.size, 2, none⟩ = some (.int .i64 lo) := bT92.cell 2 rfl
            have ct3 : w92.cell? ⟨w.heap.size, 3, none⟩ = some (.int .i64 hi) := bT92.cell 3 rfl
            have lT92 := bT92.lt
            have co0 : w92.cell? ⟨BO, 0, none⟩ = some (.slice (some ⟨gR, 0, none⟩) ps.length cR) := bO92.cell 0 rfl
            have co1 : w92.cell? ⟨BO, 1, none⟩ = some (.int .i64 cl) := bO92.cell 1 rfl
            have co2 : w92.cell? ⟨BO, 2, none⟩ = some (.int .i64 lo) := bO92.cell 2 rfl
            have co3 : w92.cell? ⟨BO, 3, none⟩ = some (.int .i64 hi) := bO92.cell 3 rfl
            have lO92 := bO92.lt
            go_wp2_with fail
            refine (HAR21.out _ _ _ ww92.out).mono ?_
            rintro e w93 ⟨rfl, hb93⟩
            have bT93 := bT92.below hb93
            have bO93 := bO92.below hb93
            have hB93 := hB92.trans (hb93.mono hB92.size)
            have pp93 : Hid (Prs w93 w93.heap.size (some ⟨gR, 0, none⟩) (Wl.mvP ps (vx, vy))) := (pp92.out.keep hb93).wider hb93.size
            have ww93 : Hid (Prs w93 w93.heap.size (some ⟨gS, 0, none⟩) (Wl.mvP ws (vx, vy))) := (ww92.out.keep hb93).wider hb93.size
            clear ct0 ct1 ct2 ct3 lT92 co0 co1 co2 co3 lO92 bT92 bO92 pp92 ww92 hB92 hb93
            have ct0 : w93.cell? ⟨w.heap.size, 0, none⟩ = some (.slice A ps.length c) := bT93.cell 0 rfl
            have ct1 : w93.cell? ⟨w.heap.size, 1, none⟩ = some (.int .i64 cl) := bT93.cell 1 rfl
            have ct2 : w93.cell? ⟨w.heap.size, 2, none⟩ = some (.int .i64 lo) := bT93.cell 2 rfl
            have ct3 : w93.cell? ⟨w.heap.size, 3, none⟩ = some (.int .i64 hi) := bT93.cell 3 rfl
            have lT93 := bT93.lt
            have co0 : w93.cell? ⟨BO, 0, none⟩ = some (.slice (some ⟨gR, 0, none⟩) ps.length cR) := bO93.cell 0 rfl
            have co1 : w93.cell? ⟨BO, 1, none⟩ = some (.int .i64 cl) := bO93.cell 1 rfl
            have co2 : w93.cell? ⟨BO, 2, none⟩ = some (.int .i64 lo) := bO93.cell 2 rfl
            have co3 : w93.cell? ⟨BO, 3, none⟩ = some (.int .i64 hi) := bO93.cell 3 rfl
            have lO93 := bO93.lt
            go_wp2_with fail
            refine (HMN.out _ hB93).mono ?_
            rintro e w94 ⟨rfl, hb94⟩
            have bT94 := bT93.below hb94
            have bO94 := bO93.below hb94
            have hB94 := hB93.trans (hb94.mono hB93.size)
            have pp94 : Hid (Prs w94 w94.heap.size (some ⟨gR, 0, none⟩) (Wl.mvP ps (vx, vy))) := (pp93.out.keep hb94).wider hb94.size
            have ww94 : Hid (Prs w94 w94.heap.size (some ⟨gS, 0, none⟩) (Wl.mvP ws (vx, vy))) := (ww93.out.keep hb94).wider hb94.size
            clear ct0 ct1 ct2 ct3 lT93 co0 co1 co2 co3 lO93 bT93 bO93 pp93 ww93 hB93 hb94
            have ct0 : w94.cell? ⟨w.heap.size, 0, none⟩ = some (.slice A ps.length c) := bT94.cell 0 rfl
            have ct1 : w94.cell? ⟨w.heap.size, 1, none⟩ = some (.int .i64 cl) := bT94.cell 1 rfl
            have ct2 : w94.cell? ⟨w.heap.size, 2, none⟩ = some (.int .i64 lo) := bT94.cell 2 rfl
            have ct3 : w94.cell? ⟨w.heap.size, 3, none⟩ = some (.int .i64 hi) := bT94.cell 3 rfl
            have lT94 := bT94.lt
            have co0 : w94.cell? ⟨BO, 0, none⟩ = some (.slice (some ⟨gR, 0, none⟩) ps.length cR) := bO94.cell 0 rfl
            have co1 : w94.cell? ⟨BO, 1, none⟩ = some (.int .i64 cl) := bO94.cell 1 rfl
            have co2 : w94.cell? ⟨BO, 2, none⟩ = some (.int .i64 lo) := bO94.cell 2 rfl
            have co3 : w94.cell? ⟨BO, 3, none⟩ = some (.int .i64 hi) := bO94.cell 3 rfl
            have lO94 := bO94.lt
            go_wp2_with fail
            refine (HMN21.out _ _ _ _ _ pp94.out ww94.out).mono ?_
            rintro e w95 ⟨rfl, hb95⟩
            have bT95 := bT94.below hb95
            have bO95 := bO94.below hb95
            have hB95 := hB94.trans (hb95.mono hB94.size)
            have pp95 : Hid (Prs w95 w95.heap.size (some ⟨gR, 0, none⟩) (Wl.mvP ps (vx, vy))) := (pp94.out.keep hb95).wider hb95.size
            have ww95 : Hid (Prs w95 w95.heap.size (some ⟨gS, 0, none⟩) (Wl.mvP ws (vx, vy))) := (ww94.out.keep hb95).wider hb95.size
            clear ct0 ct1 ct2 ct3 lT94 co0 co1 co2 co3 lO94 bT94 bO94 pp94 ww94 hB94 hb95
            have ct0 : w95.cell? ⟨w.heap.size, 0, none⟩ = some (.slice A ps.length c) := bT95.cell 0 rfl
            have ct1 : w95.cell? ⟨w.heap.size, 1, none⟩ = some (.int .i64 cl) := bT95.cell 1 rfl
            have ct2 : w95.cell? ⟨w.heap.size, 2, none⟩ = some (.int .i64 lo) := bT95.cell 2 rfl
            have ct3 : w95.cell? ⟨w.heap.size, 3, none⟩ = some (.int .i64 hi) := bT95.cell 3 rfl
            have lT95 := bT95.lt
            have co0 : w95.cell? ⟨BO, 0, none⟩ = some (.slice (some ⟨gR, 0, none⟩) ps.length cR) := bO95.cell 0 rfl
            have co1 : w95.cell? ⟨BO, 1, none⟩ = some (.int .i64 cl) := bO95.cell 1 rfl
            have co2 : w95.cell? ⟨BO, 2, none⟩ = some (.int .i64 lo) := bO95.cell 2 rfl
            have co3 : w95.cell? ⟨BO, 3, none⟩ = some (.int .i64 hi) := bO95.cell 3 rfl
            have lO95 := bO95.lt
            go_wp2_with fail
            refine (HRO.out _ hB95).mono ?_
            rintro e w96 ⟨v96, rfl, hv96, hb96⟩
            obtain ⟨Aka, cka, rfl⟩ := ints_form hv96.out
            have bT96 := bT95.below hb96
            have bO96 := bO95.below hb96
            have hB96 := hB95.trans (hb96.mono hB95.size)
            have pp96 : Hid (Prs w96 w96.heap.size (some ⟨gR, 0, none⟩) (Wl.mvP ps (vx, vy))) := (pp95.out.keep hb96).wider hb96.size
            have ww96 : Hid (Prs w96 w96.heap.size (some ⟨gS, 0, none⟩) (Wl.mvP ws (vx, vy))) := (ww95.out.keep hb96).wider hb96.size
            clear ct0 ct1 ct2 ct3 lT95 co0 co1 co2 co3 lO95 bT95 bO95 pp95 ww95 hB95 hb96
            have ka96 : Hid (Ints w96 w96.heap.size (.slice Aka KL.length cka) KL) := hv96
            clear hv96
            have ct0 : w96.cell? ⟨w.heap.size, 0, none⟩ = some (.slice A ps.length c) := bT96.cell 0 rfl
            have ct1 : w96.cell? ⟨w.heap.size, 1, none⟩ = some (.int .i64 cl) := bT96.cell 1 rfl
            have ct2 : w96.cell? ⟨w.heap.size, 2, none⟩ = some (.int .i64 lo) := bT96.cell 2 rfl
            have ct3 : w96.cell? ⟨w.heap.size, 3, none⟩ = some (.int .i64 hi) := bT96.cell 3 rfl
            have lT96 := bT96.lt
            have co0 : w96.cell? ⟨BO, 0, none⟩ = some (.slice (some ⟨gR, 0, none⟩) ps.length cR) := bO96.cell 0 rfl
            have co1 : w96.cell? ⟨BO, 1, none⟩ = some (.int .i64 cl) := bO96.cell 1 rfl
            have co2 : w96.cell? ⟨BO, 2, none⟩ = some (.int .i64 lo) := bO96.cell 2 rfl
            have co3 : w96.cell? ⟨BO, 3, none⟩ = some (.int .i64 hi) := bO96.cell 3 rfl
            have lO96 := bO96.lt
            go_wp2_with fail
            refine (HRO21.out _ _ _ _ _ pp96.out ww96.out).mono ?_
            rintro e w97 ⟨v97, rfl, hv97, hb97⟩
            obtain ⟨Akb, ckb, rfl⟩ := ints_form hv97.out
            have bT97 := bT96.below hb97
            have bO97 := bO96.below hb97
            have hB97 := hB96.trans (hb97.mono hB96.size)
            have pp97 : Hid (Prs w97 w97.heap.size (some ⟨gR, 0, none⟩) (Wl.mvP ps (vx, vy))) := (pp96.out.keep hb97).wider hb97.size
            have ww97 : Hid (Prs w97 w97.heap.size (some ⟨gS, 0, none⟩) (Wl.mvP ws (vx, vy))) := (ww96.out.keep hb97).wider hb97.size
            have ka97 : Hid (Ints w97 w97.heap.size (.slice Aka KL.length cka) KL) := (ka96.out.keep hb97).more hb97.size
            clear ct0 ct1 ct2 ct3 lT96 co0 co1 co2 co3 lO96 bT96 bO96 pp96 ww96 ka96 hB96 hb97
            have kb97 : Hid (Ints w97 w97.heap.size (.slice Akb KL.length ckb) KL) := hv97
            clear hv97
            have ct0 : w97.cell? ⟨w.heap.size, 0, none⟩ = some (.slice A ps.length c) := bT97.cell 0 rfl
            have ct1 : w97.cell? ⟨w.heap.size, 1, none⟩ = some (.int .i64 cl) := bT97.cell 1 rfl
            have ct2 : w97.cell? ⟨w.heap.size, 2, none⟩ = some (.int .i64 lo) := bT97.cell 2 rfl
            have ct3 : w97.cell? ⟨w.heap.size, 3, none⟩ = some (.int .i64 hi) := bT97.cell 3 rfl
            have lT97 := bT97.lt
            have co0 : w97.cell? ⟨BO, 0, none⟩ = some (.slice (some ⟨gR, 0, none⟩) ps.length cR) := bO97.cell 0 rfl
            have co1 : w97.cell? ⟨BO, 1, none⟩ = some (.int .i64 cl) := bO97.cell 1 rfl
            have co2 : w97.cell? ⟨BO, 2, none⟩ = some (.int .i64 lo) := bO97.cell 2 rfl
            have co3 : w97.cell? ⟨BO, 3, none⟩ = some (.int .i64 hi) := bO97.cell 3 rfl
            have lO97 := bO97.lt
            go_wp2_with fail
            refine (HSI.out _ _ _ _ ka97.out kb97.out (by have := hKL.out; omega)).mono ?_
            rintro e w98 ⟨rfl, hb98⟩
            have bT98 := bT97.below hb98
            have bO98 := bO97.below hb98
            have hB98 := hB97.trans (hb98.mono hB97.size)
            have pp98 : Hid (Prs w98 w98.heap.size (some ⟨gR, 0, none⟩) (Wl.mvP ps (vx, vy))) := (pp97.out.keep hb98).wider hb98.size
            have ww98 : Hid (Prs w98 w98.heap.size (some ⟨gS, 0, none⟩) (Wl.mvP ws (vx, vy))) := (ww97.out.keep hb98).wider hb98.size
            have ka98 : Hid (Ints w98 w98.heap.size (.slice Aka KL.length cka) KL) := (ka97.out.keep hb98).more hb98.size
            have kb98 : Hid (Ints w98 w98.heap.size (.slice Akb KL.length ckb) KL) := (kb97.out.keep hb98).more hb98.size
            clear ct0 ct1 ct2 ct3 lT97 co0 co1 co2 co3 lO97 bT97 bO97 pp97 ww97 ka97 kb97 hB97 hb98
            have ct0 : w98.cell? ⟨w.heap.size, 0, none⟩ = some (.slice A ps.length c) := bT98.cell 0 rfl
            have ct1 : w98.cell? ⟨w.heap.size, 1, none⟩ = some (.int .i64 cl) := bT98.cell 1 rfl
            have ct2 : w98.cell? ⟨w.heap.size, 2, none⟩ = some (.int .i64 lo) := bT98.cell 2 rfl
            have ct3 : w98.cell? ⟨w.heap.size, 3, none⟩ = some (.int .i64 hi) := bT98.cell 3 rfl
            have lT98 := bT98.lt
            have co0 : w98.cell? ⟨BO, 0, none⟩ = some (.slice (some ⟨gR, 0, none⟩) ps.length cR) := bO98.cell 0 rfl
            have co1 : w98.cell? ⟨BO, 1, none⟩ = some (.int .i64 cl) := bO98.cell 1 rfl
            have co2 : w98.cell? ⟨BO, 2, none⟩ = some (.int .i64 lo) := bO98.cell 2 rfl
            have co3 : w98.cell? ⟨BO, 3, none⟩ = some (.int .i64 hi) := bO98.cell 3 rfl
            have lO98 := bO98.lt
            go_wp2_with fail
            refine (HLE.out _ hB98).mono ?_
            rintro e w99 ⟨rfl, hb99⟩
            have bT99 := bT98.below hb99
            have bO99 := bO98.below hb99
            have hB99 := hB98.trans (hb99.mono hB98.size)
            have pp99 : Hid (Prs w99 w99.heap.size (some ⟨gR, 0, none⟩) (Wl.mvP ps (vx, vy))) := (pp98.out.keep hb99).wider hb99.size
            have ww99 : Hid (Prs w99 w99.heap.size (some ⟨gS, 0, none⟩) (Wl.mvP ws (vx, vy))) := (ww98.out.keep hb99).wider hb99.size
            have ka99 : Hid (Ints w99 w99.heap.size (.slice Aka KL.length cka) KL) := (ka98.out.keep hb99).more hb99.size
            have kb99 : Hid (Ints w99 w99.heap.size (.slice Akb KL.length ckb) KL) := (kb98.out.keep hb99).more hb99.size
            clear ct0 ct1 ct2 ct3 lT98 co0 co1 co2 co3 lO98 bT98 bO98 pp98 ww98 ka98 kb98 hB98 hb99
            have ct0 : w99.cell? ⟨w.heap.size, 0, none⟩ = some (.slice A ps.length c) := bT99.cell 0 rfl
            have ct1 : w99.cell? ⟨w.heap.size, 1, none⟩ = some (.int .i64 cl) := bT99.cell 1 rfl
            have ct2 : w99.cell? ⟨w.heap.size, 2, none⟩ = some (.int .i64 lo) := bT99.cell 2 rfl
            have ct3 : w99.cell? ⟨w.heap.size, 3, none⟩ = some (.int .i64 hi) := bT99.cell 3 rfl
            have lT99 := bT99.lt
            have co0 : w99.cell? ⟨BO, 0, none⟩ = some (.slice (some ⟨gR, 0, none⟩) ps.length cR) := bO99.cell 0 rfl
            have co1 : w99.cell? ⟨BO, 1, none⟩ = some (.int .i64 cl) := bO99.cell 1 rfl
            have co2 : w99.cell? ⟨BO, 2, none⟩ = some (.int .i64 lo) := bO99.cell 2 rfl
            have co3 : w99.cell? ⟨BO, 3, none⟩ = some (.int .i64 hi) := bO99.cell 3 rfl
            have lO99 := bO99.lt
            go_wp2_with fail
            refine (HLE21.out _ _ _ _ _ pp99.out ww99.out).mono ?_
            rintro e w100 ⟨rfl, hb100⟩
            have bT100 := bT99.below hb100
            have bO100 := bO99.below hb100
            have hB100 := hB99.trans (hb100.mono hB99.size)
            have pp100 : Hid (Prs w100 w100.heap.size (some ⟨gR, 0, none⟩) (Wl.mvP ps (vx, vy))) := (pp99.out.keep hb100).wider hb100.size
            have ww100 : Hid (Prs w100 w100.heap.size (some ⟨gS, 0, none⟩) (Wl.mvP ws (vx, vy))) := (ww99.out.keep hb100).wider hb100.size
            have ka100 : Hid (Ints w100 w100.heap.size (.slice Aka KL.length cka) KL) := (ka99.out.keep hb100).more hb100.size
            have kb100 : Hid (Ints w100 w100.heap.size (.slice Akb KL.length ckb) KL) := (kb99.out.keep hb100).more hb100.size
            clear ct0 ct1 ct2 ct3 lT99 co0 co1 co2 co3 lO99 bT99 bO99 pp99 ww99 ka99 kb99 hB99 hb100
            have ct0 : w100.cell? ⟨w.heap.size, 0, none⟩ = some (.slice A ps.length c) := bT100.cell 0 rfl
            have ct1 : w100.cell? ⟨w.heap.size, 1, none⟩ = some (.int .i64 cl) := bT100.cell 1 rfl
            have ct2 : w100.cell? ⟨w.heap.size, 2, none⟩ = some (.int .i64 lo) := bT100.cell 2 rfl
            have ct3 : w100.cell? ⟨w.heap.size, 3, none⟩ = some (.int .i64 hi) := bT100.cell 3 rfl
            have lT100 := bT100.lt
            have co0 : w100.cell? ⟨BO, 0, none⟩ = some (.slice (some ⟨gR, 0, none⟩) ps.length cR) := bO100.cell 0 rfl
            have co1 : w100.cell? ⟨BO, 1, none⟩ = some (.int .i64 cl) := bO100.cell 1 rfl
            have co2 : w100.cell? ⟨BO, 2, none⟩ = some (.int .i64 lo) := bO100.cell 2 rfl
            have co3 : w100.cell? ⟨BO, 3, none⟩ = some (.int .i64 hi) := bO100.cell 3 rfl
            have lO100 := bO100.lt
            go_wp2_with fail
            have hqq : Below w100.heap.size w100 w100.drew := (Below.refl _ _).drew
            obtain ⟨b, off, hAe, hbb, _, _⟩ := HPW.out 0 hw0 _ hB100
            have HZ : Hid (∀ W', Below w100.heap.size w100 W' → W'.cell? ⟨b, off, none⟩ = some (.int .i64 (Wl.ptAt ws 0).1) ∧ W'.cell? ⟨b, off + 1, none⟩ = some (.int .i64 (Wl.ptAt ws 0).2)) := fun W' h => by
              obtain ⟨b2, off2, e9, _, c1, c2⟩ := HPW.out 0 hw0 _ (hB100.trans (h.mono hB100.size))
              rw [hAe] at e9
              obtain ⟨rfl, rfl⟩ : b = b2 ∧ off = off2 := by injection e9 with e9; injection e9 with e3 e4; exact ⟨e3, e4⟩
              exact ⟨by simpa using c1, by simpa using c2⟩
            subst hAe
            clear HPW
            have KC : Hid (∀ W', Below w100.heap.size w100 W' → (W'.cell? ⟨w.heap.size, 0, none⟩ = some (.slice A ps.length c) ∧ W'.cell? ⟨w.heap.size, 1, none⟩ = some (.int .i64 cl) ∧ W'.cell? ⟨w.heap.size, 2, none⟩ = some (.int .i64 lo) ∧ W'.cell? ⟨w.heap.size, 3, none⟩ = some (.int .i64 hi)) ∧ W'.cell? ⟨b, off, none⟩ = some (.int .i64 (Wl.ptAt ws 0).1) ∧ W'.cell? ⟨b, off + 1, none⟩ = some (.int .i64 (Wl.ptAt ws 0).2)) := fun W' h => ⟨boxS4 (bT100.below h), HZ.out W' h⟩
            clear HZ
            refine (wpIn_wide (n := 4)).1 ?_
            refine wpIn_region_held (fun W' => Below w100.heap.size w100 W') 30 hmo ?_
            refine wpHeldIn_take (i := 0) (v := ?_) (plain_of (by kernel_rfl)) rfl (by kernel_rfl) (fun _ _ _ h => h) (yieldsSoIn_of (by kernel_rfl) ?_ (fun _ => rfl)) hqq ?_; rotate_left; focus (intro wq hw; have kq := KC.out wq hw; clear hw; go_simp; try (with_reducible rfl))
            refine wpHeldIn_take (i := 1) (v := ?_) (plain_of (by kernel_rfl)) rfl (by kernel_rfl) (fun _ _ _ h => h) (yieldsSoIn_of (by kernel_rfl) ?_ (fun _ => rfl)) hqq ?_; rotate_left; focus (intro wq hw; clear hw; go_simp; try (with_reducible rfl))
            refine wpHeldIn_take (i := 2) (v := ?_) (plain_of (by kernel_rfl)) rfl (by kernel_rfl) (fun _ _ _ h => h) (yieldsSoIn_of (by kernel_rfl) ?_ (fun _ => rfl)) hqq ?_; rotate_left; focus (intro wq hw; clear hw; go_simp; try (with_reducible rfl))
            refine wpHeldIn_take (i := 3) (v := ?_) (plain_of (by kernel_rfl)) rfl (by kernel_rfl) (fun _ _ _ h => h) (yieldsSoIn_of (by kernel_rfl) ?_ (fun _ => rfl)) hqq ?_; rotate_left; focus (intro wq hw; have kq := KC.out wq hw; clear hw; go_simp; try (with_reducible rfl))
            refine wpHeldIn_one (i := 4) (by kernel_rfl) (by kernel_rfl) rfl (by kernel_rfl) (fun K2 hK2 => ?_)
            go_simp
            refine ⟨trivial, (callsIn_wide.2 (HRE.out _ (hB100.trans (hqq.mono hB100.size)))).mono ?_⟩
            rintro e w101 ⟨v101, rfl, hv101, hbq⟩
            obtain ⟨Ara, cra, rfl⟩ := ints_form hv101.out
            have hb101 := hqq.trans (hbq.mono hqq.size)
            refine hK2 _ _ hb101 ?_
            refine wpHeldIn_take (i := 5) (v := ?_) (plain_of (by kernel_rfl)) rfl (by kernel_rfl) (fun _ _ _ h => h) (yieldsSoIn_of (by kernel_rfl) ?_ (fun _ => rfl)) hb101 ?_; rotate_left; focus (intro wq hw; clear hw; go_simp; try (with_reducible rfl))
            refine wpHeldIn_take (i := 6) (v := ?_) (plain_of (by kernel_rfl)) rfl (by kernel_rfl) (fun _ _ _ h => h) (yieldsSoIn_of (by kernel_rfl) ?_ (fun _ => rfl)) hb101 ?_; rotate_left; focus (intro wq hw; clear hw; go_simp; try (with_reducible rfl))
            refine wpHeldIn_take (i := 7) (v := ?_) (plain_of (by kernel_rfl)) rfl (by kernel_rfl) (fun _ _ _ h => h) (yieldsSoIn_of (by kernel_rfl) ?_ (fun _ => rfl)) hb101 ?_; rotate_left; focus (intro wq hw; clear hw; go_simp; try (with_reducible rfl))
            refine wpHeldIn_take (i := 8) (v := ?_) (plain_of (by kernel_rfl)) rfl (by kernel_rfl) (fun _ _ _ h => h) (yieldsSoIn_of (by kernel_rfl) ?_ (fun _ => rfl)) hb101 ?_; rotate_left; focus (intro wq hw; clear hw; go_simp; try (with_reducible rfl))
            refine wpHeldIn_take (i := 9) (v := ?_) (plain_of (by kernel_rfl)) rfl (by kernel_rfl) (fun _ _ _ h => h) (yieldsSoIn_of (by kernel_rfl) ?_ (fun _ => rfl)) hb101 ?_; rotate_left; focus (intro wq hw; clear hw; go_simp; try (with_reducible rfl))
            refine wpHeldIn_done (by kernel_rfl) ?_ _
            go_simp
            have bT101 := bT100.below hb101
            have bO101 := bO100.below hb101
            have hB101 := hB100.trans (hb101.mono hB100.size)
            have pp101 : Hid (Prs w101 w101.heap.size (some ⟨gR, 0, none⟩) (Wl.mvP ps (vx, vy))) := (pp100.out.keep hb101).wider hb101.size
            have ww101 : Hid (Prs w101 w101.heap.size (some ⟨gS, 0, none⟩) (Wl.mvP ws (vx, vy))) := (ww100.out.keep hb101).wider hb101.size
            have ka101 : Hid (Ints w101 w101.heap.size (.slice Aka KL.length cka) KL) := (ka100.out.keep hb101).more hb101.size
            have kb101 : Hid (Ints w101 w101.heap.size (.slice Akb KL.length ckb) KL) := (kb100.out.keep hb101).more hb101.size
            clear ct0 ct1 ct2 ct3 lT100 co0 co1 co2 co3 lO100 bT100 bO100 pp100 ww100 ka100 kb100 hB100 hb101 hqq hbq KC
            have ra101 : Hid (Ints w101 w101.heap.size (.slice Ara RL.length cra) RL) := hv101
            clear hv101
            have ct0 : w101.cell? ⟨w.heap.size, 0, none⟩ = some (.slice A ps.length c) := bT101.cell 0 rfl
            have ct1 : w101.cell? ⟨w.heap.size, 1, none⟩ = some (.int .i64 cl) := bT101.cell 1 rfl
            have ct2 : w101.cell? ⟨w.heap.size, 2, none⟩ = some (.int .i64 lo) := bT101.cell 2 rfl
            have ct3 : w101.cell? ⟨w.heap.size, 3, none⟩ = some (.int .i64 hi) := bT101.cell 3 rfl
            have lT101 := bT101.lt
            have co0 : w101.cell? ⟨BO, 0, none⟩ = some (.slice (some ⟨gR, 0, none⟩) ps.length cR) := bO101.cell 0 rfl
            have co1 : w101.cell? ⟨BO, 1, none⟩ = some (.int .i64 cl) := bO101.cell 1 rfl
            have co2 : w101.cell? ⟨BO, 2, none⟩ = some (.int .i64 lo) := bO101.cell 2 rfl
            have co3 : w101.cell? ⟨BO, 3, none⟩ = some (.int .i64 hi) := bO101.cell 3 rfl
            have lO101 := bO101.lt
            go_wp2_with fail
            have hqq : Below w101.heap.size w101 w101.drew := (Below.refl _ _).drew
            have HZ : Hid (∀ W', Below w101.heap.size w101 W' → W'.cell? ⟨gS, 0, none⟩ = some (.int .i64 ((Wl.ptAt ws 0).1 + vx)) ∧ W'.cell? ⟨gS, 1, none⟩ = some (.int .i64 ((Wl.ptAt ws 0).2 + vy))) := fun W' h => by
              have hq : 0 < (Wl.mvP ws (vx, vy)).length := by rw [Wl.mvP_len]; exact hw0
              obtain ⟨b2, off2, e9, _, hc⟩ := (ww101.out.keep h) hq
              obtain ⟨rfl, rfl⟩ : gS = b2 ∧ 0 = off2 := by injection e9 with e9; injection e9 with e3 e4; exact ⟨e3, e4⟩
              have hg : (Wl.mvP ws (vx, vy))[0]? = some ((Wl.ptAt ws 0).1 + vx, (Wl.ptAt ws 0).2 + vy) := by
                have hat := Wl.mvP_at ws (vx, vy) hw0
                have hat2 : Wl.ptAt (Wl.mvP ws (vx, vy)) 0 = (Wl.mvP ws (vx, vy))[0] := by unfold Wl.ptAt; rw [List.getElem?_eq_getElem hq]; rfl
                rw [List.getElem?_eq_getElem hq, ← hat2, hat]
              have := hc 0 _ hg
              exact ⟨by simpa using this.1, by simpa using this.2⟩
            have KC : Hid (∀ W', Below w101.heap.size w101 W' → (W'.cell? ⟨BO, 0, none⟩ = some (.slice (some ⟨gR, 0, none⟩) ps.length cR) ∧ W'.cell? ⟨BO, 1, none⟩ = some (.int .i64 cl) ∧ W'.cell? ⟨BO, 2, none⟩ = some (.int .i64 lo) ∧ W'.cell? ⟨BO, 3, none⟩ = some (.int .i64 hi)) ∧ W'.cell? ⟨gS, 0, none⟩ = some (.int .i64 ((Wl.ptAt ws 0).1 + vx)) ∧ W'.cell? ⟨gS, 1, none⟩ = some (.int .i64 ((Wl.ptAt ws 0).2 + vy))) := fun W' h => ⟨boxS4 (bO101.below h), HZ.out W' h⟩
            clear HZ
            refine (wpIn_wide (n := 4)).1 ?_
            refine wpIn_region_held (fun W' => Below w101.heap.size w101 W') 30 hmo ?_
            refine wpHeldIn_take (i := 0) (v := ?_) (plain_of (by kernel_rfl)) rfl (by kernel_rfl) (fun _ _ _ h => h) (yieldsSoIn_of (by kernel_rfl) ?_ (fun _ => rfl)) hqq ?_; rotate_left; focus (intro wq hw; have kq := KC.out wq hw; clear hw; go_simp; try (with_reducible rfl))
            refine wpHeldIn_take (i := 1) (v := ?_) (plain_of (by kernel_rfl)) rfl (by kernel_rfl) (fun _ _ _ h => h) (yieldsSoIn_of (by kernel_rfl) ?_ (fun _ => rfl)) hqq ?_; rotate_left; focus (intro wq hw; clear hw; go_simp; try (with_reducible rfl))
            refine wpHeldIn_take (i := 2) (v := ?_) (plain_of (by kernel_rfl)) rfl (by kernel_rfl) (fun _ _ _ h => h) (yieldsSoIn_of (by kernel_rfl) ?_ (fun _ => rfl)) hqq ?_; rotate_left; focus (intro wq hw; clear hw; go_simp; try (with_reducible rfl))
            refine wpHeldIn_take (i := 3) (v := ?_) (plain_of (by kernel_rfl)) rfl (by kernel_rfl) (fun _ _ _ h => h) (yieldsSoIn_of (by kernel_rfl) ?_ (fun _ => rfl)) hqq ?_; rotate_left; focus (intro wq hw; have kq := KC.out wq hw; clear hw; go_simp; try (with_reducible rfl))
            refine wpHeldIn_one (i := 4) (by kernel_rfl) (by kernel_rfl) rfl (by kernel_rfl) (fun K2 hK2 => ?_)
            go_simp
            refine ⟨trivial, (callsIn_wide.2 (HRE21.out _ _ _ (prs_keep pp101.out hqq))).mono ?_⟩
            rintro e w102 ⟨v102, rfl, hv102, hbq⟩
            obtain ⟨Arb, crb, rfl⟩ := ints_form hv102.out
            have hb102 := hqq.trans (hbq.mono hqq.size)
            refine hK2 _ _ hb102 ?_
            refine wpHeldIn_take (i := 5) (v := ?_) (plain_of (by kernel_rfl)) rfl (by kernel_rfl) (fun _ _ _ h => h) (yieldsSoIn_of (by kernel_rfl) ?_ (fun _ => rfl)) hb102 ?_; rotate_left; focus (intro wq hw; clear hw; go_simp; try (with_reducible rfl))
            refine wpHeldIn_take (i := 6) (v := ?_) (plain_of (by kernel_rfl)) rfl (by kernel_rfl) (fun _ _ _ h => h) (yieldsSoIn_of (by kernel_rfl) ?_ (fun _ => rfl)) hb102 ?_; rotate_left; focus (intro wq hw; clear hw; go_simp; try (with_reducible rfl))
            refine wpHeldIn_take (i := 7) (v := ?_) (plain_of (by kernel_rfl)) rfl (by kernel_rfl) (fun _ _ _ h => h) (yieldsSoIn_of (by kernel_rfl) ?_ (fun _ => rfl)) hb102 ?_; rotate_left; focus (intro wq hw; clear hw; go_simp; try (with_reducible rfl))
            refine wpHeldIn_take (i := 8) (v := ?_) (plain_of (by kernel_rfl)) rfl (by kernel_rfl) (fun _ _ _ h => h) (yieldsSoIn_of (by kernel_rfl) ?_ (fun _ => rfl)) hb102 ?_; rotate_left; focus (intro wq hw; clear hw; go_simp; try (with_reducible rfl))
            refine wpHeldIn_take (i := 9) (v := ?_) (plain_of (by kernel_rfl)) rfl (by kernel_rfl) (fun _ _ _ h => h) (yieldsSoIn_of (by kernel_rfl) ?_ (fun _ => rfl)) hb102 ?_; rotate_left; focus (intro wq hw; clear hw; go_simp; try (with_reducible rfl))
            refine wpHeldIn_done (by kernel_rfl) ?_ _
            go_simp
            have bT102 := bT101.below hb102
            have bO102 := bO101.below hb102
            have hB102 := hB101.trans (hb102.mono hB101.size)
            have pp102 : Hid (Prs w102 w102.heap.size (some ⟨gR, 0, none⟩) (Wl.mvP ps (vx, vy))) := (pp101.out.keep hb102).wider hb102.size
            have ww102 : Hid (Prs w102 w102.heap.size (some ⟨gS, 0, none⟩) (Wl.mvP ws (vx, vy))) := (ww101.out.keep hb102).wider hb102.size
            have ka102 : Hid (Ints w102 w102.heap.size (.slice Aka KL.length cka) KL) := (ka101.out.keep hb102).more hb102.size
            have kb102 : Hid (Ints w102 w102.heap.size (.slice Akb KL.length ckb) KL) := (kb101.out.keep hb102).more hb102.size
            have ra102 : Hid (Ints w102 w102.heap.size (.slice Ara RL.length cra) RL) := (ra101.out.keep hb102).more hb102.size
            clear ct0 ct1 ct2 ct3 lT101 co0 co1 co2 co3 lO101 bT101 bO101 pp101 ww101 ka101 kb101 ra101 hB101 hb102 hqq hbq KC
            have rb102 : Hid (Ints w102 w102.heap.size (.slice Arb RL.length crb) RL) := hv102
            clear hv102
            have ct0 : w102.cell? ⟨w.heap.size, 0, none⟩ = some (.slice A ps.length c) := bT102.cell 0 rfl
            have ct1 : w102.cell? ⟨w.heap.size, 1, none⟩ = some (.int .i64 cl) := bT102.cell 1 rfl
            have ct2 : w102.cell? ⟨w.heap.size, 2, none⟩ = some (.int .i64 lo) := bT102.cell 2 rfl
            have ct3 : w102.cell? ⟨w.heap.size, 3, none⟩ = some (.int .i64 hi) := bT102.cell 3 rfl
            have lT102 := bT102.lt
            have co0 : w102.cell? ⟨BO, 0, none⟩ = some (.slice (some ⟨gR, 0, none⟩) ps.length cR) := bO102.cell 0 rfl
            have co1 : w102.cell? ⟨BO, 1, none⟩ = some (.int .i64 cl) := bO102.cell 1 rfl
            have co2 : w102.cell? ⟨BO, 2, none⟩ = some (.int .i64 lo) := bO102.cell 2 rfl
            have co3 : w102.cell? ⟨BO, 3, none⟩ = some (.int .i64 hi) := bO102.cell 3 rfl
            have lO102 := bO102.lt
            go_wp2_with fail
            refine (HSI.out _ _ _ _ ra102.out rb102.out (by have := hRL.out; omega)).mono ?_
            rintro e w103 ⟨rfl, hb103⟩
            have bT103 := bT102.below hb103
            have bO103 := bO102.below hb103
            have hB103 := hB102.trans (hb103.mono hB102.size)
            have pp103 : Hid (Prs w103 w103.heap.size (some ⟨gR, 0, none⟩) (Wl.mvP ps (vx, vy))) := (pp102.out.keep hb103).wider hb103.size
            have ww103 : Hid (Prs w103 w103.heap.size (some ⟨gS, 0, none⟩) (Wl.mvP ws (vx, vy))) := (ww102.out.keep hb103).wider hb103.size
            have ka103 : Hid (Ints w103 w103.heap.size (.slice Aka KL.length cka) KL) := (ka102.out.keep hb103).more hb103.size
            have kb103 : Hid (Ints w103 w103.heap.size (.slice Akb KL.length ckb) KL) := (kb102.out.keep hb103).more hb103.size
            have ra103 : Hid (Ints w103 w103.heap.size (.slice Ara RL.length cra) RL) := (ra102.out.keep hb103).more hb103.size
            have rb103 : Hid (Ints w103 w103.heap.size (.slice Arb RL.length crb) RL) := (rb102.out.keep hb103).more hb103.size
            clear ct0 ct1 ct2 ct3 lT102 co0 co1 co2 co3 lO102 bT102 bO102 pp102 ww102 ka102 kb102 ra102 rb102 hB102 hb103
            have ct0 : w103.cell? ⟨w.heap.size, 0, none⟩ = some (.slice A ps.length c) := bT103.cell 0 rfl
            have ct1 : w103.cell? ⟨w.heap.size, 1, none⟩ = some (.int .i64 cl) := bT103.cell 1 rfl
            have ct2 : w103.cell? ⟨w.heap.size, 2, none⟩ = some (.int .i64 lo) := bT103.cell 2 rfl
            have ct3 : w103.cell? ⟨w.heap.size, 3, none⟩ = some (.int .i64 hi) := bT103.cell 3 rfl
            have lT103 := bT103.lt
            have co0 : w103.cell? ⟨BO, 0, none⟩ = some (.slice (some ⟨gR, 0, none⟩) ps.length cR) := bO103.cell 0 rfl
            have co1 : w103.cell? ⟨BO, 1, none⟩ = some (.int .i64 cl) := bO103.cell 1 rfl
            have co2 : w103.cell? ⟨BO, 2, none⟩ = some (.int .i64 lo) := bO103.cell 2 rfl
            have co3 : w103.cell? ⟨BO, 3, none⟩ = some (.int .i64 hi) := bO103.cell 3 rfl
            have lO103 := bO103.lt
            go_wp2_with fail
            refine (HWK.out _).mono ?_
            rintro e wz ⟨rfl, hbz⟩
            have hBz := hB103.trans (hbz.mono hB103.size)
            go_wp2_with fail
            go_returns
            exact ⟨rfl, hBz⟩
theorem lawMov_walk (t : Wl.Trk) (A : Option Addr) (c : Nat) (Aw : Option Addr) (cw : Nat) (ws : List (Int × Int)) (vx vy : Int) (w : World) (_h1 : t.ps.length ≤ maxLen) (hP : Prs w w.heap.size A t.ps) (_h2 : ws.length ≤ maxLen) (hQ : Prs w w.heap.size Aw ws) :
    Calls Try.prog 11 #[.agg (trV t A c), .slice Aw ws.length cw, .agg #[.int .i64 vx, .int .i64 vy]] w fun e w' => e = .returned (.bool true) ∧ Below w.heap.size w w' := by
  cases hr : Wl.readyB t ws with
  | false => exact Mov_early t ws A Aw c cw vx vy w hP hQ (.inl hr)
  | true =>
    cases hpb : Geo.ptB (vx, vy) with
    | false => exact Mov_early t ws A Aw c cw vx vy w hP hQ (.inr ⟨hr, hpb⟩)
    | true => exact Mov_short t ws A Aw c cw vx vy w hP hQ hr hpb

open Go.ChangeShapes Go.WideShapes Go.ChangeAt Go.RowKit Go.Joins
section
variable {H : Type} {enc : TypeId × Value → H} {w : World} {base : Nat} {spare : Nat → Bool} {held : Bool} {r : Reach} {b0 : Nat} {v : Value} {d : DataW H} {p : List MemPlace}
set_option maxRecDepth 100000 in
theorem open_Point (hv : Value.okWide Try.prog w r b0 28 v) (h : DataW.Trod enc Try.prog w base spare held 28 v d p) : ∃ a b : Int, v = .agg #[.int .i64 a, .int .i64 b] := by
  obtain ⟨c0, c1, y0, y1, m, rfl, rfl, rfl, hy0, hy1⟩ := open_agg2 Try.underlying28 (by kernel_rfl) (by kernel_rfl : Try.prog.cellsOf 28 = 2) hv h
  obtain ⟨a, e0, rfl, wa⟩ := DataW.trod_int Try.underlying3 hy0
  obtain ⟨b, e1, rfl, wb⟩ := DataW.trod_int Try.underlying3 hy1
  simp at e0 e1
  subst e0 e1
  exact ⟨a, b, rfl⟩
end

open Go.ChangeShapes Go.WideShapes Go.ChangeAt Go.RowKit Go.Joins

set_option maxRecDepth 100000 in
theorem mov5_lifted (os : Os) (started : os.Started) (H : Type) (enc : TypeId × Value → H) :
    ReturnsInHanded {} Try.checked os 11 .any (Rows.walksMovedSpec.pre6 enc Try.prog Try.f11 Rows.walksMovedRow.domain false) (Rows.walksMovedSpec.post enc Try.prog Try.f11 false true false false) := by
  refine returnsInHanded_of_change (C := Try.checked) own started (by kernel_rfl) Try.func11
    (ChangeSpec.witness6 (enc := enc) (C := Try.checked) false ⟨#[], #[.agg #[.slice none 0 0, .int .i64 0, .int .i64 0, .int .i64 0], .slice none 0 0, .agg #[.int .i64 0, .int .i64 0]], []⟩ 8 (by kernel_rfl) (by kernel_rfl) (by kernel_rfl) (by kernel_rfl)) ?_
  intro W base args ds gs before hval0 hW hcnd _
  have hval : ∀ (j : Nat) t v, Try.f11.params[j]? = some t → args[j]? = some v → Value.okWide Try.prog W .any base t v := hval0
  have hW' := hW
  obtain ⟨p, q, hA0, hV, rfl, hfz, hnd⟩ := hW
  have hA : DataW.TrodAll enc Try.prog W 0 (fun _ => true) true Try.f11.params.toList args.toList ds p := hA0
  rw [Try.params11] at hA hval
  obtain ⟨v0, v1, v2, d0, d1, d2, p0, p1, p2, rfl, rfl, rfl, h0, h1, h2⟩ := trodAll_three hA
  obtain ⟨rfl, rfl⟩ := trodVars_none hV
  obtain ⟨t, A, c, rfl, hg_t, hl_t⟩ := open_Track (hval 0 26 v0 rfl rfl) h0
  obtain ⟨Aw, cw, ws, rfl, hg_ws, hl_ws⟩ := open_prs Try.underlying22 Try.underlying28 (by kernel_rfl) (by kernel_rfl) (by kernel_rfl) (by kernel_rfl) (by kernel_rfl) Try.underlying3 Try.underlying3 (hval 1 22 v1 rfl rfl) h1
  obtain ⟨vx, vy, rfl⟩ := open_Point (hval 2 28 v2 rfl rfl) h2
  refine (lawMov_walk t A c Aw cw ws vx vy W hl_t hg_t hl_ws hg_ws).mono fun e W' ⟨he, hb⟩ => ?_
  subst he
  exact ⟨_, rfl, law_post hW' rfl rfl (by intro t ht; have : t = 26 ∨ t = 22 ∨ t = 28 := (by rw [Try.params11] at ht; simpa using ht); rcases this with rfl | rfl | rfl <;> exact ⟨by kernel_rfl, of_decide_eq_true (by kernel_rfl)⟩) rfl rfl rfl hb⟩

theorem mov5_holds : Rows.WalksMovedSaid :=
  OpenClaim.holds_of_wide 11 Try.f11 rfl rfl rfl rfl rfl rfl rfl ⟨rfl, rfl, rfl, rfl, rfl⟩ rfl rfl rfl rfl rfl (by kernel_rfl) Try.func11 (by kernel_rfl)
    (of_decide_eq_true (by kernel_rfl)) (by unfold Func.isWrapper; rw [if_neg (of_decide_eq_false (by kernel_rfl))]; exact ⟨rfl, rfl⟩)
    (fun os started H enc _ => mov5_lifted os started H enc)
end Go.Proofs.Ytmjcdggmofohcaa
