/- Walks: the law WalksFew (P5.15). -/
import Derived.Test.YtmjcdggmofohcaaOpW
import Derived.Test.YtmjcdggmofohcaaWk5
import Derived.Test.YtmjcdggmofohcaaFewI
import Derived.Test.YtmjcdggmofohcaaKnow5
import Derived.Test.YtmjcdggmofohcaaWlZ
import Derived.Test.YtmjcdggmofohcaaWlSr
namespace Go.Proofs.Ytmjcdggmofohcaa
open Go.RowKit
namespace Wl
theorem ptsTo_ok {ps : List Pt} : ∀ n, ptsTo ps n = true → ∀ k, k < n → Geo.ptB (ptAt ps k) = true
  | n + 1, h, k, hk => by
    have h' : (ptsTo ps n && Geo.ptB (ptAt ps n)) = true := h
    rw [Bool.and_eq_true] at h'
    by_cases e : k = n
    · subst e
      exact h'.2
    · exact ptsTo_ok n h'.1 k (by omega)
theorem pts_ok {ps : List Pt} (h : ptsB ps = true) {k : Nat} (hk : k < ps.length) : Geo.ptB (ptAt ps k) = true := by
  unfold ptsB at h
  rw [Bool.and_eq_true] at h
  exact ptsTo_ok _ h.1 k hk
theorem reach_ok {t : Trk} {ws : List Pt} (ht : trkB t = true) (hw : ptsB ws = true) {k : Nat} (hk : k < ws.length) : reachRL t (ptAt ws k) = reachL t (ptAt ws k) ∧ reachRE t (ptAt ws k) = 0 := by
  have hp := pts_ok hw hk
  unfold reachRL reachRE
  rw [ht, hp]
  exact ⟨rfl, rfl⟩
end Wl
namespace Wl
theorem movE_of' {t : Trk} {ws : List Pt} {es : List Int} (h : chkV t ws = 0) (he : elbV t ws es = true) : movE t ws es = 0 := by unfold movE; rw [if_pos h, if_pos he]
end Wl
set_option maxRecDepth 100000 in
set_option maxHeartbeats 4000000 in
theorem AreElbows5_nil' (t : Wl.Trk) (ws : List Wl.Pt) (A Aw Ae : Option Addr) (c cw ce : Nat) (hw0 : 0 < ws.length) (w : World) :
    Calls Try.prog 36 #[.agg (trV t A c), .slice Aw ws.length cw, .slice Ae 0 ce] w fun e w' => e = .returned (.bool false) ∧ Below w.heap.size w w' := by
  obtain ⟨ps, cl, lo, hi⟩ := t
  unfold trV at *
  dsimp only at *
  have hlb : ((0 : Int) != (ws.length : Int)) = true := by simp; omega
  go_enter Try.func36, Try.ntmps36
  go_wp2_with fail
  go_returns
  exact ⟨rfl, by (repeat' (first | (with_reducible exact Below.refl _ _) | (with_reducible assumption) | (with_reducible refine Below.alloc ?_ ?_ _) | (with_reducible refine Below.drew ?_) | (with_reducible refine Below.setCell ?_ ?_ _) | go_size | (exact (by simp)) | omega))⟩
theorem AreElbows5_all' (t : Wl.Trk) (ws : List Wl.Pt) (es : List Int) (A Aw Ae : Option Addr) (c cw ce : Nat) (ht : Wl.trkB t = true) (hw : Wl.ptsB ws = true) (hle : es.length ≤ 1000000000) (hlw : ws.length ≤ 1000000000) (w : World) (hP : Prs w w.heap.size A t.ps) (hQ : Prs w w.heap.size Aw ws) (hE : 0 < es.length → Ints w w.heap.size (.slice Ae es.length ce) es) :
    Calls Try.prog 36 #[.agg (trV t A c), .slice Aw ws.length cw, .slice Ae es.length ce] w fun e w' => e = .returned (.bool (Wl.elbV t ws es)) ∧ Below w.heap.size w w' := by
  match es, hE, hle with
  | [], _, _ =>
    have h0 : 0 < ws.length := by
      unfold Wl.ptsB inB at hw
      simp only [Bool.and_eq_true, decide_eq_true_eq] at hw
      omega
    have e : Wl.elbV t ws [] = false := by
      unfold Wl.elbV
      have : decide (([] : List Int).length = ws.length) = false := decide_eq_false (by simp; omega)
      rw [this, Bool.false_and]
    rw [e]
    exact AreElbows5_nil' t ws A Aw Ae c cw ce h0 w
  | x :: es, hE, hle => exact AreElbows5_any t ws (x :: es) A Aw Ae c cw ce ht hw hle hlw w hP hQ (hE (by simp))
set_option maxRecDepth 100000 in
set_option maxHeartbeats 8000000 in
theorem Few_early (t : Wl.Trk) (ws : List Wl.Pt) (os : List Int) (A Aw Ao : Option Addr) (c cw co : Nat) (w : World) (hP : Prs w w.heap.size A t.ps) (hQ : Prs w w.heap.size Aw ws) (h : Wl.readyB t ws = false ∨ (Wl.readyB t ws = true ∧ 40 < os.length)) :
    Calls Try.prog 10 #[.agg (trV t A c), .slice Aw ws.length cw, .slice Ao os.length co] w fun e w' => e = .returned (.bool true) ∧ Below w.heap.size w w' := by
  have HWK : Hid (∀ W, Calls Try.prog 12 #[] W fun e w' => e = .returned (.bool true) ∧ Below W.heap.size W w') := works5_any
  have HRD : Hid (∀ W, Below w.heap.size w W → Calls Try.prog 42 #[.agg (trV t A c), .slice Aw ws.length cw] W fun e w' => e = .returned (.bool (Wl.readyB t ws)) ∧ Below W.heap.size W w') := fun W hW => ready5_any t ws A Aw c cw W (prs_keep hP hW) (prs_keep hQ hW)
  clear hP hQ
  generalize Wl.readyB t ws = RB at *
  obtain ⟨ps, cl, lo, hi⟩ := t
  unfold trV at *
  dsimp only at *
  rcases h with h | ⟨h, h4⟩
  · subst h
    go_enter Try.func10, Try.ntmps10
    go_wp2_with fail
    have bT1 := BoxS.new w 26 #[.slice A ps.length c, .int .i64 cl, .int .i64 lo, .int .i64 hi]
    have hB1 : Below w.heap.size w (w.alloc (.cells #[.slice A ps.length c, .int .i64 cl, .int .i64 lo, .int .i64 hi] 26)) := by (repeat' (first | (with_reducible exact Below.refl _ _) | (with_reducible assumption) | (with_reducible refine Below.alloc ?_ ?_ _) | (with_reducible refine Below.drew ?_) | (with_reducible refine Below.setCell ?_ ?_ _) | go_size | (exact (by simp)) | omega))
    generalize World.alloc w _ = w1 at *
    have ct0 : w1.cell? ⟨w.heap.size, 0, none⟩ = some (.slice A ps.length c) := bT1.cell 0 rfl
    have ct1 : w1.cell? ⟨w.heap.size, 1, none⟩ = some (.int .i64 cl) := bT1.cell 1 rfl
    have ct2 : w1.cell? ⟨w.heap.size, 2, none⟩ = some (.int .i64 lo) := bT1.cell 2 rfl
    have ct3 : w1.cell? ⟨w.heap.size, 3, none⟩ = some (.int .i64 hi) := bT1.cell 3 rfl
    have lT1 := bT1.lt
    try go_wp2_with fail
    refine (HRD.out _ hB1).mono ?_
    rintro e w2 ⟨rfl, hb2⟩
    have bT2 := bT1.below hb2
    have hB2 := hB1.trans (hb2.mono hB1.size)
    clear ct0 ct1 ct2 ct3 lT1 bT1 hB1 hb2
    have ct0 : w2.cell? ⟨w.heap.size, 0, none⟩ = some (.slice A ps.length c) := bT2.cell 0 rfl
    have ct1 : w2.cell? ⟨w.heap.size, 1, none⟩ = some (.int .i64 cl) := bT2.cell 1 rfl
    have ct2 : w2.cell? ⟨w.heap.size, 2, none⟩ = some (.int .i64 lo) := bT2.cell 2 rfl
    have ct3 : w2.cell? ⟨w.heap.size, 3, none⟩ = some (.int .i64 hi) := bT2.cell 3 rfl
    have lT2 := bT2.lt
    go_wp2_with fail
    refine (HWK.out _).mono ?_
    rintro e wz ⟨rfl, hbz⟩
    have hBz := hB2.trans (hbz.mono hB2.size)
    go_wp2_with fail
    go_returns
    exact ⟨rfl, hBz⟩
  · subst h
    have do1 : decide (40 < (os.length : Int)) = true := decide_eq_true (by omega)
    have do2 : decide (40 < os.length) = true := decide_eq_true (by omega)
    clear h4
    go_enter Try.func10, Try.ntmps10
    go_wp2_with fail
    have bT1 := BoxS.new w 26 #[.slice A ps.length c, .int .i64 cl, .int .i64 lo, .int .i64 hi]
    have hB1 : Below w.heap.size w (w.alloc (.cells #[.slice A ps.length c, .int .i64 cl, .int .i64 lo, .int .i64 hi] 26)) := by (repeat' (first | (with_reducible exact Below.refl _ _) | (with_reducible assumption) | (with_reducible refine Below.alloc ?_ ?_ _) | (with_reducible refine Below.drew ?_) | (with_reducible refine Below.setCell ?_ ?_ _) | go_size | (exact (by simp)) | omega))
    generalize World.alloc w _ = w1 at *
    have ct0 : w1.cell? ⟨w.heap.size, 0, none⟩ = some (.slice A ps.length c) := bT1.cell 0 rfl
    have ct1 : w1.cell? ⟨w.heap.size, 1, none⟩ = some (.int .i64 cl) := bT1.cell 1 rfl
    have ct2 : w1.cell? ⟨w.heap.size, 2, none⟩ = some (.int .i64 lo) := bT1.cell 2 rfl
    have ct3 : w1.cell? ⟨w.heap.size, 3, none⟩ = some (.int .i64 hi) := bT1.cell 3 rfl
    have lT1 := bT1.lt
    try go_wp2_with fail
    refine (HRD.out _ hB1).mono ?_
    rintro e w2 ⟨rfl, hb2⟩
    have bT2 := bT1.below hb2
    have hB2 := hB1.trans (hb2.mono hB1.size)
    clear ct0 ct1 ct2 ct3 lT1 bT1 hB1 hb2
    have ct0 : w2.cell? ⟨w.heap.size, 0, none⟩ = some (.slice A ps.length c) := bT2.cell 0 rfl
    have ct1 : w2.cell? ⟨w.heap.size, 1, none⟩ = some (.int .i64 cl) := bT2.cell 1 rfl
    have ct2 : w2.cell? ⟨w.heap.size, 2, none⟩ = some (.int .i64 lo) := bT2.cell 2 rfl
    have ct3 : w2.cell? ⟨w.heap.size, 3, none⟩ = some (.int .i64 hi) := bT2.cell 3 rfl
    have lT2 := bT2.lt
    go_wp2_with fail
    refine (HWK.out _).mono ?_
    rintro e wz ⟨rfl, hbz⟩
    have hBz := hB2.trans (hbz.mono hB2.size)
    go_wp2_with fail
    go_returns
    exact ⟨rfl, hBz⟩
set_option maxRecDepth 100000 in
set_option maxHeartbeats 16000000 in
theorem Few_short (t : Wl.Trk) (ws : List Wl.Pt) (os : List Int) (A Aw Ao : Option Addr) (c cw co : Nat) (w : World) (hP : Prs w w.heap.size A t.ps) (hQ : Prs w w.heap.size Aw ws) (hO : 0 < os.length → Ints w w.heap.size (.slice Ao os.length co) os) (hr : Wl.readyB t ws = true) (h4 : os.length ≤ 40) :
    Calls Try.prog 10 #[.agg (trV t A c), .slice Aw ws.length cw, .slice Ao os.length co] w fun e w' => e = .returned (.bool true) ∧ Below w.heap.size w w' := by
  have hmo : Try.prog.follows .mixedOrders = true := by kernel_rfl
  have HWK : Hid (∀ W, Calls Try.prog 12 #[] W fun e w' => e = .returned (.bool true) ∧ Below W.heap.size W w') := works5_any
  obtain ⟨hl5, hw5, h0⟩ := Wl.ready_lens hr
  obtain ⟨ht, hw⟩ := Wl.chk_yes.1 h0
  have hw0 : 0 < ws.length := by
    have := hw
    unfold Wl.ptsB inB at this
    simp only [Bool.and_eq_true, decide_eq_true_eq] at this
    omega
  have HRD : Hid (∀ W, Below w.heap.size w W → Calls Try.prog 42 #[.agg (trV t A c), .slice Aw ws.length cw] W fun e w' => e = .returned (.bool true) ∧ Below W.heap.size W w') := fun W hW => by
    have := ready5_any t ws A Aw c cw W (prs_keep hP hW) (prs_keep hQ hW)
    rw [hr] at this
    exact this
  have HLE : Hid (∀ W, Below w.heap.size w W → Calls Try.prog 33 #[.agg (trV t A c), .slice Aw ws.length cw] W (TwoPost (if Wl.setE t ws = 0 then Wl.movesV (Wl.calmV (Wl.elbsL t ws)) else 0) (Wl.setE t ws) W)) := fun W hW => LeastW_any t ws A Aw c cw (by omega) (by omega) W (prs_keep hP hW) (prs_keep hQ hW)
  have HEL : Hid (∀ W, Below w.heap.size w W → Calls Try.prog 35 #[.agg (trV t A c), .slice Aw ws.length cw] W (IntsEPost (if Wl.setE t ws = 0 then Wl.calmV (Wl.elbsL t ws) else []) (Wl.setE t ws) W)) := fun W hW => ElbowsW_any t ws A Aw c cw (by omega) (by omega) W (prs_keep hP hW) (prs_keep hQ hW)
  have HRO : Hid (∀ W, Below w.heap.size w W → Calls Try.prog 31 #[.agg (trV t A c), .slice Aw ws.length cw] W (IntsEPost (if Wl.setE t ws = 0 then Wl.rollsL t ws else []) (Wl.setE t ws) W)) := fun W hW => RollsW_any t ws A Aw c cw (by omega) (by omega) W (prs_keep hP hW) (prs_keep hQ hW)
  have HSE : Wl.setE t ws = 0 ∨ Wl.setE t ws = 3 := by
    unfold Wl.setE
    rw [if_pos h0]
    split
    · exact .inr rfl
    · exact .inl rfl
  have HKN : Hid (∀ W, Calls Try.prog 38 #[.int .i64 (Wl.setE t ws)] W fun e w' => e = .returned (.bool true) ∧ w' = W) := fun W => by
    have := isKnown5_any (Wl.setE t ws) W
    rcases HSE with h | h <;> rw [h] at this ⊢ <;> exact this
  have HRE : Hid (∀ k, k < ws.length → ∀ W, Below w.heap.size w W → Calls Try.prog 18 #[.agg (trV t A c), .agg #[.int .i64 (Wl.ptAt ws k).1, .int .i64 (Wl.ptAt ws k).2]] W (IntsEPost (Wl.reachL t (Wl.ptAt ws k)) 0 W)) := fun k hk W hW => by
    have := ReachP_any t A c (Wl.ptAt ws k) (by omega) W (prs_keep hP hW)
    rw [(Wl.reach_ok ht hw hk).1, (Wl.reach_ok ht hw hk).2] at this
    exact this
  have HRL : Hid (∀ k, (Wl.reachL t (Wl.ptAt ws k)).length ≤ t.ps.length) := fun k => Wl.reachL_len t _
  have HIN : Hid (∀ (v : Value) (xs : List Int) (n : Int) (W : World), Ints W W.heap.size v xs → xs.length ≤ 1000000000 → Calls Try.prog 45 #[v, .int .i64 n] W fun e w' => e = .returned (.bool (decide (n ∈ xs))) ∧ w' = W) := In_any
  have HAL0 : Hid (∀ p : Nat, Wl.allTo t ws (p : Int) 0 = true) := fun _ => rfl
  have HALS : Hid (∀ p k : Nat, Wl.allTo t ws (p : Int) (k + 1) = (Wl.allTo t ws (p : Int) k && decide ((p : Int) ∈ Wl.reachL t (Wl.ptAt ws k)))) := fun _ _ => rfl
  have HST0 : Hid (Wl.stillTo t ws 0 = false) := rfl
  have HSTS : Hid (∀ p : Nat, Wl.stillTo t ws (p + 1) = (Wl.stillTo t ws p || Wl.allTo t ws (p : Int) ws.length)) := fun _ => rfl
  have HAO : Hid (∀ W, Below w.heap.size w W → Calls Try.prog 36 #[.agg (trV t A c), .slice Aw ws.length cw, .slice Ao os.length co] W fun e w' => e = .returned (.bool (Wl.elbV t ws os)) ∧ Below W.heap.size W w') := fun W hW => AreElbows5_all' t ws os A Aw Ao c cw co ht hw (by omega) (by omega) W (prs_keep hP hW) (prs_keep hQ hW) (fun h => ((hO h).keep hW).more hW.size)
  have HMO : Hid (Wl.elbV t ws os = true → ∀ W, Below w.heap.size w W → Calls Try.prog 37 #[.slice Ao os.length co] W fun e w' => e = .returned (.int .i64 (Wl.movesV os)) ∧ Below W.heap.size W w') := fun he W hW => by
    have hl := (Wl.elbV_iff.1 he).1
    exact Moves5_any Ao co os (by omega) W (((hO (by omega)).keep hW).more hW.size)
  have HPT : Hid (∀ k, k < ws.length → ∀ W, Below w.heap.size w W → ∃ b off, Aw = some ⟨b, off, none⟩ ∧ b < w.heap.size ∧ W.cell? ⟨b, off + k * 2, none⟩ = some (.int .i64 (Wl.ptAt ws k).1) ∧ W.cell? ⟨b, off + k * 2 + 1, none⟩ = some (.int .i64 (Wl.ptAt ws k).2)) := fun k hk W hW => by
    obtain ⟨b, off, e, hb, hc⟩ := hQ (by omega)
    have hg : ws[k]? = some (Wl.ptAt ws k) := by unfold Wl.ptAt; rw [List.getElem?_eq_getElem hk]; rfl
    exact ⟨b, off, e, hb, (hW.cell (p := ⟨b, _, none⟩) hb).trans (hc k _ hg).1, (hW.cell (p := ⟨b, _, none⟩) hb).trans (hc k _ hg).2⟩
  -- what belongs to the answer, once there are elbows
  have HYES : Hid (Wl.setE t ws = 0 → (∀ (Al : Option Addr) (cal : Nat) (W : World), Below w.heap.size w W → Ints W W.heap.size (.slice Al (Wl.calmV (Wl.elbsL t ws)).length cal) (Wl.calmV (Wl.elbsL t ws)) →
      Calls Try.prog 36 #[.agg (trV t A c), .slice Aw ws.length cw, .slice Al (Wl.calmV (Wl.elbsL t ws)).length cal] W (fun e w' => e = .returned (.bool true) ∧ Below W.heap.size W w') ∧
      Calls Try.prog 37 #[.slice Al (Wl.calmV (Wl.elbsL t ws)).length cal] W (fun e w' => e = .returned (.int .i64 (Wl.movesV (Wl.calmV (Wl.elbsL t ws)))) ∧ Below W.heap.size W w') ∧
      Calls Try.prog 24 #[.agg (trV t A c), .slice Aw ws.length cw, .slice Al (Wl.calmV (Wl.elbsL t ws)).length cal] W (TwoPost (Wl.sweepV t ws (Wl.calmV (Wl.elbsL t ws))) 0 W)) ∧
      decide (Wl.movesV (Wl.calmV (Wl.elbsL t ws)) = 0) = Wl.stillTo t ws t.ps.length ∧
      (Wl.elbV t ws os = true → Wl.movesV (Wl.calmV (Wl.elbsL t ws)) ≤ Wl.movesV os) ∧
      Wl.sweepV t ws (Wl.calmV (Wl.elbsL t ws)) ∈ Wl.rollsL t ws) := fun hs => by
    have hne := (Wl.setE_yes hs).2
    obtain ⟨he, hle⟩ := Wl.calm_elb hw0 hne
    have hlc := (Wl.elbV_iff.1 he).1
    refine ⟨fun Al cal W hW hI => ⟨?_, Moves5_any Al cal _ (by omega) W hI, ?_⟩, Wl.calm_still hw0 hne, fun ho => hle os ho, (Wl.mem_rollsL hw0).2 ⟨_, he, rfl⟩⟩
    · have := AreElbows5_all' t ws (Wl.calmV (Wl.elbsL t ws)) A Aw Al c cw cal ht hw (by omega) (by omega) W (prs_keep hP hW) (prs_keep hQ hW) (fun _ => hI)
      rw [he] at this
      exact this
    · have := SweepW_any t ws (Wl.calmV (Wl.elbsL t ws)) A Aw Al c cw cal (by omega) (by omega) (by omega) W (prs_keep hP hW) (prs_keep hQ hW) hI
      rw [Wl.movE_of' h0 he] at this
      exact this
  have HNO : Hid (Wl.setE t ws ≠ 0 → Wl.stillTo t ws t.ps.length = false ∧ Wl.elbV t ws os = false) := fun hs => by
    have hne : Wl.elbsL t ws = [] := by
      unfold Wl.setE at hs
      rw [if_pos h0] at hs
      by_cases he : (Wl.elbsL t ws).isEmpty = true
      · exact List.isEmpty_iff.1 he
      · rw [if_neg he] at hs
        exact absurd rfl hs
    obtain ⟨h1, h2⟩ := Wl.none_still hw0 hne
    exact ⟨h1, h2 os⟩
  have hCL : (if Wl.setE t ws = 0 then Wl.calmV (Wl.elbsL t ws) else []).length ≤ 5 := by
    split
    · rename_i hs
      have hne := (Wl.setE_yes hs).2
      have hlc := (Wl.elbV_iff.1 (Wl.calm_elb hw0 hne).1).1
      omega
    · simp
  have hKL : (if Wl.setE t ws = 0 then Wl.rollsL t ws else []).length ≤ 10000 := by
    split
    · exact Wl.rollsL_len hl5 hw5
    · simp
  clear hP hQ hO hr ht hw h0
  unfold TwoPost at HLE HYES
  unfold IntsEPost at HEL HRO HRE
  generalize Wl.setE t ws = SE at *
  generalize Wl.calmV (Wl.elbsL t ws) = CV at *
  generalize Wl.rollsL t ws = RV at *
  generalize Wl.sweepV t ws CV = SW at *
  generalize Wl.movesV CV = MC at *
  generalize Wl.movesV os = MO at *
  generalize Wl.elbV t ws os = OE at *
  obtain ⟨CL, hCe⟩ : ∃ CL, CL = if SE = 0 then CV else [] := ⟨_, rfl⟩
  obtain ⟨KL, hKe⟩ : ∃ KL, KL = if SE = 0 then RV else [] := ⟨_, rfl⟩
  obtain ⟨NV, hNe⟩ : ∃ NV, NV = if SE = 0 then MC else 0 := ⟨_, rfl⟩
  rw [← hCe] at HEL hCL
  rw [← hKe] at HRO hKL
  rw [← hNe] at HLE
  replace hCe := Lib.hid hCe
  replace hKe := Lib.hid hKe
  replace hNe := Lib.hid hNe
  generalize Wl.stillTo t ws = ST at *
  generalize Wl.allTo t ws = AL at *
  obtain ⟨RL, hRL⟩ : ∃ RL : Nat → List Int, ∀ k, Wl.reachL t (Wl.ptAt ws k) = RL k := ⟨fun k => Wl.reachL t (Wl.ptAt ws k), fun _ => rfl⟩
  simp only [hRL] at HRE HRL HALS
  clear hRL
  obtain ⟨ps, cl, lo, hi⟩ := t
  unfold trV at *
  dsimp only at *
  have do1 : decide (40 < (os.length : Int)) = false := decide_eq_false (by omega)
  have do2 : decide (40 < os.length) = false := decide_eq_false (by omega)
  have dc1 : decide (40 < (CL.length : Int)) = false := decide_eq_false (by omega)
  have dc2 : decide (40 < CL.length) = false := decide_eq_false (by omega)
  have dk1 : decide (10000 < (KL.length : Int)) = false := decide_eq_false (by omega)
  have dk2 : decide (10000 < KL.length) = false := decide_eq_false (by omega)
  have hse : (SE != SE) = false := by simp
  have HCL := Lib.hid hCL
  have HKL := Lib.hid hKL
  have HSZ := Lib.hid (And.intro hl5 hw5)
  replace HSE := Lib.hid HSE
  clear hCL hKL
  go_enter Try.func10, Try.ntmps10
  go_wp2_with fail
  have bT1 := BoxS.new w 26 #[.slice A ps.length c, .int .i64 cl, .int .i64 lo, .int .i64 hi]
  have hB1 : Below w.heap.size w (w.alloc (.cells #[.slice A ps.length c, .int .i64 cl, .int .i64 lo, .int .i64 hi] 26)) := by (repeat' (first | (with_reducible exact Below.refl _ _) | (with_reducible assumption) | (with_reducible refine Below.alloc ?_ ?_ _) | (with_reducible refine Below.drew ?_) | (with_reducible refine Below.setCell ?_ ?_ _) | go_size | (exact (by simp)) | omega))
  generalize World.alloc w _ = w1 at *
  have ct0 : w1.cell? ⟨w.heap.size, 0, none⟩ = some (.slice A ps.length c) := bT1.cell 0 rfl
  have ct1 : w1.cell? ⟨w.heap.size, 1, none⟩ = some (.int .i64 cl) := bT1.cell 1 rfl
  have ct2 : w1.cell? ⟨w.heap.size, 2, none⟩ = some (.int .i64 lo) := bT1.cell 2 rfl
  have ct3 : w1.cell? ⟨w.heap.size, 3, none⟩ = some (.int .i64 hi) := bT1.cell 3 rfl
  have lT1 := bT1.lt
  try go_wp2_with fail
  refine (HRD.out _ hB1).mono ?_
  rintro e w2 ⟨rfl, hb2⟩
  have bT2 := bT1.below hb2
  have hB2 := hB1.trans (hb2.mono hB1.size)
  clear ct0 ct1 ct2 ct3 lT1 bT1 hB1 hb2
  have ct0 : w2.cell? ⟨w.heap.size, 0, none⟩ = some (.slice A ps.length c) := bT2.cell 0 rfl
  have ct1 : w2.cell? ⟨w.heap.size, 1, none⟩ = some (.int .i64 cl) := bT2.cell 1 rfl
  have ct2 : w2.cell? ⟨w.heap.size, 2, none⟩ = some (.int .i64 lo) := bT2.cell 2 rfl
  have ct3 : w2.cell? ⟨w.heap.size, 3, none⟩ = some (.int .i64 hi) := bT2.cell 3 rfl
  have lT2 := bT2.lt
  go_wp2_with fail
  refine (HLE.out _ hB2).mono ?_
  rintro e w3 ⟨rfl, hb3⟩
  have bT3 := bT2.below hb3
  have hB3 := hB2.trans (hb3.mono hB2.size)
  clear ct0 ct1 ct2 ct3 lT2 bT2 hB2 hb3
  have ct0 : w3.cell? ⟨w.heap.size, 0, none⟩ = some (.slice A ps.length c) := bT3.cell 0 rfl
  have ct1 : w3.cell? ⟨w.heap.size, 1, none⟩ = some (.int .i64 cl) := bT3.cell 1 rfl
  have ct2 : w3.cell? ⟨w.heap.size, 2, none⟩ = some (.int .i64 lo) := bT3.cell 2 rfl
  have ct3 : w3.cell? ⟨w.heap.size, 3, none⟩ = some (.int .i64 hi) := bT3.cell 3 rfl
  have lT3 := bT3.lt
  go_wp2_with fail
  refine (HEL.out _ hB3).mono ?_
  rintro e w4 ⟨v4, rfl, hv4, hb4⟩
  obtain ⟨All, cll, rfl⟩ := ints_form hv4.out
  have bT4 := bT3.below hb4
  have hB4 := hB3.trans (hb4.mono hB3.size)
  clear ct0 ct1 ct2 ct3 lT3 bT3 hB3 hb4
  have ll4 : Hid (Ints w4 w4.heap.size (.slice All CL.length cll) CL) := hv4
  clear hv4
  have ct0 : w4.cell? ⟨w.heap.size, 0, none⟩ = some (.slice A ps.length c) := bT4.cell 0 rfl
  have ct1 : w4.cell? ⟨w.heap.size, 1, none⟩ = some (.int .i64 cl) := bT4.cell 1 rfl
  have ct2 : w4.cell? ⟨w.heap.size, 2, none⟩ = some (.int .i64 lo) := bT4.cell 2 rfl
  have ct3 : w4.cell? ⟨w.heap.size, 3, none⟩ = some (.int .i64 hi) := bT4.cell 3 rfl
  have lT4 := bT4.lt
  go_wp2_with fail
  refine (HRO.out _ hB4).mono ?_
  rintro e w5 ⟨v5, rfl, hv5, hb5⟩
  obtain ⟨Akk, ckk, rfl⟩ := ints_form hv5.out
  have bT5 := bT4.below hb5
  have hB5 := hB4.trans (hb5.mono hB4.size)
  have ll5 : Hid (Ints w5 w5.heap.size (.slice All CL.length cll) CL) := (ll4.out.keep hb5).more hb5.size
  clear ct0 ct1 ct2 ct3 lT4 bT4 ll4 hB4 hb5
  have kk5 : Hid (Ints w5 w5.heap.size (.slice Akk KL.length ckk) KL) := hv5
  clear hv5
  have ct0 : w5.cell? ⟨w.heap.size, 0, none⟩ = some (.slice A ps.length c) := bT5.cell 0 rfl
  have ct1 : w5.cell? ⟨w.heap.size, 1, none⟩ = some (.int .i64 cl) := bT5.cell 1 rfl
  have ct2 : w5.cell? ⟨w.heap.size, 2, none⟩ = some (.int .i64 lo) := bT5.cell 2 rfl
  have ct3 : w5.cell? ⟨w.heap.size, 3, none⟩ = some (.int .i64 hi) := bT5.cell 3 rfl
  have lT5 := bT5.lt
  go_wp2_with fail
  refine (HKN.out _).mono ?_
  rintro e wq ⟨rfl, hq⟩
  have hq := hq.symm
  subst hq
  go_wp2_with fail
  clear HRD HLE HEL HRO HKN
  clear ct0 ct1 ct2 ct3 lT5
  go_loopw [13, 14] (fun x y wr => ∃ p : Nat, (p : Int) ≤ ps.length ∧ y = .int .i64 (p : Int) ∧ x = .bool (ST p) ∧ Below w5.heap.size w5 wr) (fun _ y _ => (ps.length - intOf y).toNat)
  case atStart => exact ⟨0, by omega, rfl, by rw [HST0.out], Below.refl _ _⟩
  case round =>
    obtain ⟨p, hp, rfl, rfl, hBr⟩ := hrel
    have hp0 := Int.natCast_nonneg p
    have bT := bT5.below hBr
    have hBw := hB5.trans (hBr.mono hB5.size)
    have q0 := bT.cell 0 rfl
    have q1 := bT.cell 1 rfl
    have q2 := bT.cell 2 rfl
    have q3 := bT.cell 3 rfl
    have lT := bT.lt
    by_cases hlt : (p : Int) < ps.length
    · have hpl : p < ps.length := by omega
      have HSP := Lib.hid (HSTS.out p)
      have HA0 := Lib.hid (HAL0.out p)
      have HAS : Hid (∀ k : Nat, _) := Lib.hid (HALS.out p)
      generalize AL (p : Int) = ALp at *
      generalize ST p = SP at *
      have hwp : IntKind.i64.wrap ((p : Int) + 1) = (p : Int) + 1 := IntWalk.i64_in _ (by have := HSZ.out; omega)
      go_wp2_with fail
      obtain ⟨wo, rfl⟩ : ∃ wo : World, wo = wr := ⟨_, rfl⟩
      clear q0 q1 q2 q3 lT bT
      go_loopw [15, 16] (fun x y wr => ∃ k : Nat, (k : Int) ≤ ws.length ∧ y = .int .i64 (k : Int) ∧ x = .bool (ALp k) ∧ Below wo.heap.size wo wr) (fun _ y _ => (ws.length - intOf y).toNat)
      case atStart => exact ⟨0, by omega, rfl, by rw [HA0.out], Below.refl _ _⟩
      case round =>
        obtain ⟨k, hk, rfl, rfl, hBi⟩ := hrel
        have hk0 := Int.natCast_nonneg k
        have hBj : Below w5.heap.size w5 wr := hBr.trans (hBi.mono hBr.size)
        have hBv := hB5.trans (hBj.mono hB5.size)
        have bT := bT5.below hBj
        by_cases hlk : (k : Int) < ws.length
        · have hkl : k < ws.length := by omega
          have hwk : IntKind.i64.wrap ((k : Int) + 1) = (k : Int) + 1 := IntWalk.i64_in _ (by have := HSZ.out; omega)
          have HAk : Hid (ALp (k + 1) = (ALp k && decide ((p : Int) ∈ RL k))) := HAS.out k
          have HRk := Lib.hid (HRE.out k hkl)
          have hrl := HRL.out k
          have hqq : Below wr.heap.size wr wr.drew := (Below.refl _ _).drew
          obtain ⟨b, off, hAw, hbb, _, _⟩ := HPT.out k hkl _ hBv
          have KC : Hid (∀ W', Below wr.heap.size wr W' → (W'.cell? ⟨w.heap.size, 0, none⟩ = some (.slice A ps.length c) ∧ W'.cell? ⟨w.heap.size, 1, none⟩ = some (.int .i64 cl) ∧ W'.cell? ⟨w.heap.size, 2, none⟩ = some (.int .i64 lo) ∧ W'.cell? ⟨w.heap.size, 3, none⟩ = some (.int .i64 hi)) ∧ W'.cell? ⟨b, off + k * 2, none⟩ = some (.int .i64 (Wl.ptAt ws k).1) ∧ W'.cell? ⟨b, off + k * 2 + 1, none⟩ = some (.int .i64 (Wl.ptAt ws k).2)) := fun W' h => by
            obtain ⟨b2, off2, e2, _, c1, c2⟩ := HPT.out k hkl _ (hBv.trans (h.mono hBv.size))
            rw [hAw] at e2
            obtain ⟨rfl, rfl⟩ : b = b2 ∧ off = off2 := by injection e2 with e2; injection e2 with e3 e4; exact ⟨e3, e4⟩
            exact ⟨boxS4 (bT.below h), c1, c2⟩
          clear HPT HRE HRL HAS
          subst hAw
          generalize (Wl.ptAt ws k).1 = px at *
          generalize (Wl.ptAt ws k).2 = py at *
          generalize RL k = RK at *
          generalize ALp k = AK at *
          have d1 : decide ((k : Int) < 0) = false := decide_eq_false (by omega)
          have d2 : decide ((ws.length : Int) ≤ (k : Int)) = false := decide_eq_false (by omega)
          have d4 : decide (ws.length ≤ k) = false := decide_eq_false (by omega)
          have e1 : decide ((ps.length : Int) < (RK.length : Int)) = false := decide_eq_false (by omega)
          have e2 : decide (ps.length < RK.length) = false := decide_eq_false (by omega)
          go_wp2_with fail
          refine (wpIn_wide (n := 4)).1 ?_
          refine wpIn_region_held (fun W' => Below wr.heap.size wr W') 30 hmo ?_
          refine wpHeldIn_take (i := 0) (v := ?_) (plain_of (by kernel_rfl)) rfl (by kernel_rfl) (fun _ _ _ h => h) (yieldsSoIn_of (by kernel_rfl) ?_ (fun _ => rfl)) hqq ?_; rotate_left; focus (intro wq hw; have kq := KC.out wq hw; clear hw; go_simp; try (with_reducible rfl))
          refine wpHeldIn_take (i := 1) (v := ?_) (plain_of (by kernel_rfl)) rfl (by kernel_rfl) (fun _ _ _ h => h) (yieldsSoIn_of (by kernel_rfl) ?_ (fun _ => rfl)) hqq ?_; rotate_left; focus (intro wq hw; clear hw; go_simp; try (with_reducible rfl))
          refine wpHeldIn_take (i := 2) (v := ?_) (plain_of (by kernel_rfl)) rfl (by kernel_rfl) (fun _ _ _ h => h) (yieldsSoIn_of (by kernel_rfl) ?_ (fun _ => rfl)) hqq ?_; rotate_left; focus (intro wq hw; clear hw; go_simp; try (with_reducible rfl))
          refine wpHeldIn_take (i := 3) (v := ?_) (plain_of (by kernel_rfl)) rfl (by kernel_rfl) (fun _ _ _ h => h) (yieldsSoIn_of (by kernel_rfl) ?_ (fun _ => rfl)) hqq ?_; rotate_left; focus (intro wq hw; clear hw; go_simp; try (with_reducible rfl))
          refine wpHeldIn_take (i := 4) (v := ?_) (plain_of (by kernel_rfl)) rfl (by kernel_rfl) (fun _ _ _ h => h) (yieldsSoIn_of (by kernel_rfl) ?_ (fun _ => rfl)) hqq ?_; rotate_left; focus (intro wq hw; have kq := KC.out wq hw; clear hw; go_simp; try (with_reducible rfl))
          refine wpHeldIn_one (i := 5) (by kernel_rfl) (by kernel_rfl) rfl (by kernel_rfl) (fun K2 hK2 => ?_)
          go_simp
          refine ⟨trivial, (callsIn_wide.2 (HRk.out _ (hBv.trans (hqq.mono hBv.size)))).mono ?_⟩
          rintro e w8 ⟨v8, rfl, hI8, hb8⟩
          obtain ⟨A8, c8, rfl⟩ := ints_form hI8.out
          have q8 := hqq.trans (hb8.mono hqq.size)
          refine hK2 _ _ q8 ?_
          refine wpHeldIn_take (i := 6) (v := ?_) (plain_of (by kernel_rfl)) rfl (by kernel_rfl) (fun _ _ _ h => h) (yieldsSoIn_of (by kernel_rfl) ?_ (fun _ => rfl)) q8 ?_; rotate_left; focus (intro wq hw; clear hw; go_simp; try (with_reducible rfl))
          refine wpHeldIn_take (i := 7) (v := ?_) (plain_of (by kernel_rfl)) rfl (by kernel_rfl) (fun _ _ _ h => h) (yieldsSoIn_of (by kernel_rfl) ?_ (fun _ => rfl)) q8 ?_; rotate_left; focus (intro wq hw; clear hw; go_simp; try (with_reducible rfl))
          refine wpHeldIn_take (i := 8) (v := ?_) (plain_of (by kernel_rfl)) rfl (by kernel_rfl) (fun _ _ _ h => h) (yieldsSoIn_of (by kernel_rfl) ?_ (fun _ => rfl)) q8 ?_; rotate_left; focus (intro wq hw; clear hw; go_simp; try (with_reducible rfl))
          refine wpHeldIn_take (i := 9) (v := ?_) (plain_of (by kernel_rfl)) rfl (by kernel_rfl) (fun _ _ _ h => h) (yieldsSoIn_of (by kernel_rfl) ?_ (fun _ => rfl)) q8 ?_; rotate_left; focus (intro wq hw; clear hw; go_simp; try (with_reducible rfl))
          refine wpHeldIn_take (i := 10) (v := ?_) (plain_of (by kernel_rfl)) rfl (by kernel_rfl) (fun _ _ _ h => h) (yieldsSoIn_of (by kernel_rfl) ?_ (fun _ => rfl)) q8 ?_; rotate_left; focus (intro wq hw; clear hw; go_simp; try (with_reducible rfl))
          refine wpHeldIn_done (by kernel_rfl) ?_ _
          go_simp
          have bT8 := bT.below q8
          have hB8 : Below wo.heap.size wo w8 := hBi.trans (q8.mono hBi.size)
          have t0 := bT8.cell 0 rfl
          have t1 := bT8.cell 1 rfl
          have t2 := bT8.cell 2 rfl
          have t3 := bT8.cell 3 rfl
          have lT := bT8.lt
          clear KC bT bT8 hBj hBv hqq q8 hb8 HRk
          cases AK with
          | false =>
            have HAf : Hid (ALp (k + 1) = false) := by unfold Hid; rw [HAk.out]; rfl
            clear HAk
            go_wp2_with fail
            go_roundw
            case rel => exact ⟨k + 1, by omega, by go_num, by rw [HAf.out], hB8⟩
            case measure => simp [intOf]; omega
          | true =>
            have HAf : Hid (ALp (k + 1) = decide ((p : Int) ∈ RK)) := by unfold Hid; rw [HAk.out, Bool.true_and]
            clear HAk
            go_wp2_with fail
            refine (HIN.out _ _ _ _ hI8.out (by have := HSZ.out; omega)).mono ?_
            rintro e wq ⟨rfl, hq⟩
            replace hq := hq.symm
            subst hq
            generalize decide ((p : Int) ∈ RK) = DI at *
            cases DI with
            | false =>
              go_wp2_with fail
              go_roundw
              case rel => exact ⟨k + 1, by omega, by go_num, by rw [HAf.out], hB8⟩
              case measure => simp [intOf]; omega
            | true =>
              go_wp2_with fail
              go_roundw
              case rel => exact ⟨k + 1, by omega, by go_num, by rw [HAf.out], hB8⟩
              case measure => simp [intOf]; omega
        · obtain rfl : k = ws.length := by omega
          have hBj2 := Lib.hid hBj
          clear hBj
          generalize ALp ws.length = AK at *
          cases SP with
          | false =>
            cases AK with
            | false =>
              have HSf : Hid (ST (p + 1) = false) := HSP.out
              go_wp2_with fail
              go_roundw
              case rel => exact ⟨p + 1, by omega, by go_num, by rw [HSf.out], hBj2.out⟩
              case measure => simp [intOf]; omega
            | true =>
              have HSf : Hid (ST (p + 1) = true) := HSP.out
              go_wp2_with fail
              go_roundw
              case rel => exact ⟨p + 1, by omega, by go_num, by rw [HSf.out], hBj2.out⟩
              case measure => simp [intOf]; omega
          | true =>
            have HSf : Hid (ST (p + 1) = true) := HSP.out
            go_wp2_with fail
            go_roundw
            case rel => exact ⟨p + 1, by omega, by go_num, by rw [HSf.out], hBj2.out⟩
            case measure => simp [intOf]; omega
    · obtain rfl : p = ps.length := by omega
      have bT90 := bT
      have hB90 := hBw
      have ll90 : Hid (Ints wr wr.heap.size (.slice All CL.length cll) CL) := (ll5.out.keep hBr).more hBr.size
      have kk90 : Hid (Ints wr wr.heap.size (.slice Akk KL.length ckk) KL) := (kk5.out.keep hBr).more hBr.size
      obtain ⟨w90, hw90⟩ : ∃ w90, w90 = wr := ⟨_, rfl⟩
      subst hw90
      clear q0 q1 q2 q3 lT bT hBw hBr bT5 hB5 ll5 kk5 HSTS HALS HAL0 HST0 HRE HRL HPT hlt hp
      generalize ST ps.length = SB at *
      rcases HSE.out with hs | hs
      · subst hs
        obtain ⟨HYC, hsb, hmo2, HSW⟩ := HYES.out rfl
        replace HYC := Lib.hid HYC
        replace HSW := Lib.hid HSW
        have e1 : NV = MC := hNe.out
        have e2 : CL = CV := hCe.out
        have e3 : KL = RV := hKe.out
        subst e1 e2 e3
        have hnb : (NV == 0) = SB := by rw [← hsb]; rfl
        have hbb : (SB != SB) = false := by simp
        have hnn : (NV != NV) = false := by simp
        clear hsb HYES HNO hCe hKe hNe
        cases OE with
        | false =>
          clear HMO hmo2
          cases SB with
          | false =>
            have ct0 : w90.cell? ⟨w.heap.size, 0, none⟩ = some (.slice A ps.length c) := bT90.cell 0 rfl
            have ct1 : w90.cell? ⟨w.heap.size, 1, none⟩ = some (.int .i64 cl) := bT90.cell 1 rfl
            have ct2 : w90.cell? ⟨w.heap.size, 2, none⟩ = some (.int .i64 lo) := bT90.cell 2 rfl
            have ct3 : w90.cell? ⟨w.heap.size, 3, none⟩ = some (.int .i64 hi) := bT90.cell 3 rfl
            have lT90 := bT90.lt
            go_wp2_with fail
            refine (HAO.out _ hB90).mono ?_
            rintro e w91 ⟨rfl, hb91⟩
            have bT91 := bT90.below hb91
            have hB91 := hB90.trans (hb91.mono hB90.size)
            have ll91 : Hid (Ints w91 w91.heap.size (.slice All CL.length cll) CL) := (ll90.out.keep hb91).more hb91.size
            have kk91 : Hid (Ints w91 w91.heap.size (.slice Akk KL.length ckk) KL) := (kk90.out.keep hb91).more hb91.size
            clear ct0 ct1 ct2 ct3 lT90 bT90 ll90 kk90 hB90 hb91
            have ct0 : w91.cell? ⟨w.heap.size, 0, none⟩ = some (.slice A ps.length c) := bT91.cell 0 rfl
            have ct1 : w91.cell? ⟨w.heap.size, 1, none⟩ = some (.int .i64 cl) := bT91.cell 1 rfl
            have ct2 : w91.cell? ⟨w.heap.size, 2, none⟩ = some (.int .i64 lo) := bT91.cell 2 rfl
            have ct3 : w91.cell? ⟨w.heap.size, 3, none⟩ = some (.int .i64 hi) := bT91.cell 3 rfl
            have lT91 := bT91.lt
            go_wp2_with fail
            refine ((HYC.out All cll _ hB91 ll91.out).1).mono ?_
            rintro e w92 ⟨rfl, hb92⟩
            have bT92 := bT91.below hb92
            have hB92 := hB91.trans (hb92.mono hB91.size)
            have ll92 : Hid (Ints w92 w92.heap.size (.slice All CL.length cll) CL) := (ll91.out.keep hb92).more hb92.size
            have kk92 : Hid (Ints w92 w92.heap.size (.slice Akk KL.length ckk) KL) := (kk91.out.keep hb92).more hb92.size
            clear ct0 ct1 ct2 ct3 lT91 bT91 ll91 kk91 hB91 hb92
            have ct0 : w92.cell? ⟨w.heap.size, 0, none⟩ = some (.slice A ps.length c) := bT92.cell 0 rfl
            have ct1 : w92.cell? ⟨w.heap.size, 1, none⟩ = some (.int .i64 cl) := bT92.cell 1 rfl
            have ct2 : w92.cell? ⟨w.heap.size, 2, none⟩ = some (.int .i64 lo) := bT92.cell 2 rfl
            have ct3 : w92.cell? ⟨w.heap.size, 3, none⟩ = some (.int .i64 hi) := bT92.cell 3 rfl
            have lT92 := bT92.lt
            go_wp2_with fail
            refine ((HYC.out All cll _ hB92 ll92.out).2.1).mono ?_
            rintro e w93 ⟨rfl, hb93⟩
            have bT93 := bT92.below hb93
            have hB93 := hB92.trans (hb93.mono hB92.size)
            have ll93 : Hid (Ints w93 w93.heap.size (.slice All CL.length cll) CL) := (ll92.out.keep hb93).more hb93.size
            have kk93 : Hid (Ints w93 w93.heap.size (.slice Akk KL.length ckk) KL) := (kk92.out.keep hb93).more hb93.size
            clear ct0 ct1 ct2 ct3 lT92 bT92 ll92 kk92 hB92 hb93
            have ct0 : w93.cell? ⟨w.heap.size, 0, none⟩ = some (.slice A ps.length c) := bT93.cell 0 rfl
            have ct1 : w93.cell? ⟨w.heap.size, 1, none⟩ = some (.int .i64 cl) := bT93.cell 1 rfl
            have ct2 : w93.cell? ⟨w.heap.size, 2, none⟩ = some (.int .i64 lo) := bT93.cell 2 rfl
            have ct3 : w93.cell? ⟨w.heap.size, 3, none⟩ = some (.int .i64 hi) := bT93.cell 3 rfl
            have lT93 := bT93.lt
            go_wp2_with fail
            refine ((HYC.out All cll _ hB93 ll93.out).2.2).mono ?_
            rintro e w94 ⟨rfl, hb94⟩
            have bT94 := bT93.below hb94
            have hB94 := hB93.trans (hb94.mono hB93.size)
            have ll94 : Hid (Ints w94 w94.heap.size (.slice All CL.length cll) CL) := (ll93.out.keep hb94).more hb94.size
            have kk94 : Hid (Ints w94 w94.heap.size (.slice Akk KL.length ckk) KL) := (kk93.out.keep hb94).more hb94.size
            clear ct0 ct1 ct2 ct3 lT93 bT93 ll93 kk93 hB93 hb94
            have ct0 : w94.cell? ⟨w.heap.size, 0, none⟩ = some (.slice A ps.length c) := bT94.cell 0 rfl
            have ct1 : w94.cell? ⟨w.heap.size, 1, none⟩ = some (.int .i64 cl) := bT94.cell 1 rfl
            have ct2 : w94.cell? ⟨w.heap.size, 2, none⟩ = some (.int .i64 lo) := bT94.cell 2 rfl
            have ct3 : w94.cell? ⟨w.heap.size, 3, none⟩ = some (.int .i64 hi) := bT94.cell 3 rfl
            have lT94 := bT94.lt
            go_wp2_with fail
            refine (HIN.out _ _ _ _ kk94.out (by have := HKL.out; omega)).mono ?_
            rintro e wq ⟨rfl, hq⟩
            have hq := hq.symm
            subst hq
            rw [decide_eq_true HSW.out]
            go_wp2_with fail
            refine (HWK.out _).mono ?_
            rintro e wz ⟨rfl, hbz⟩
            have hBz := hB94.trans (hbz.mono hB94.size)
            go_wp2_with fail
            go_returns
            exact ⟨rfl, hBz⟩
          | true =>
            have ct0 : w90.cell? ⟨w.heap.size, 0, none⟩ = some (.slice A ps.length c) := bT90.cell 0 rfl
            have ct1 : w90.cell? ⟨w.heap.size, 1, none⟩ = some (.int .i64 cl) := bT90.cell 1 rfl
            have ct2 : w90.cell? ⟨w.heap.size, 2, none⟩ = some (.int .i64 lo) := bT90.cell 2 rfl
            have ct3 : w90.cell? ⟨w.heap.size, 3, none⟩ = some (.int .i64 hi) := bT90.cell 3 rfl
            have lT90 := bT90.lt
            go_wp2_with fail
            refine (HAO.out _ hB90).mono ?_
            rintro e w91 ⟨rfl, hb91⟩
            have bT91 := bT90.below hb91
            have hB91 := hB90.trans (hb91.mono hB90.size)
            have ll91 : Hid (Ints w91 w91.heap.size (.slice All CL.length cll) CL) := (ll90.out.keep hb91).more hb91.size
            have kk91 : Hid (Ints w91 w91.heap.size (.slice Akk KL.length ckk) KL) := (kk90.out.keep hb91).more hb91.size
            clear ct0 ct1 ct2 ct3 lT90 bT90 ll90 kk90 hB90 hb91
            have ct0 : w91.cell? ⟨w.heap.size, 0, none⟩ = some (.slice A ps.length c) := bT91.cell 0 rfl
            have ct1 : w91.cell? ⟨w.heap.size, 1, none⟩ = some (.int .i64 cl) := bT91.cell 1 rfl
            have ct2 : w91.cell? ⟨w.heap.size, 2, none⟩ = some (.int .i64 lo) := bT91.cell 2 rfl
            have ct3 : w91.cell? ⟨w.heap.size, 3, none⟩ = some (.int .i64 hi) := bT91.cell 3 rfl
            have lT91 := bT91.lt
            go_wp2_with fail
            refine ((HYC.out All cll _ hB91 ll91.out).1).mono ?_
            rintro e w92 ⟨rfl, hb92⟩
            have bT92 := bT91.below hb92
            have hB92 := hB91.trans (hb92.mono hB91.size)
            have ll92 : Hid (Ints w92 w92.heap.size (.slice All CL.length cll) CL) := (ll91.out.keep hb92).more hb92.size
            have kk92 : Hid (Ints w92 w92.heap.size (.slice Akk KL.length ckk) KL) := (kk91.out.keep hb92).more hb92.size
            clear ct0 ct1 ct2 ct3 lT91 bT91 ll91 kk91 hB91 hb92
            have ct0 : w92.cell? ⟨w.heap.size, 0, none⟩ = some (.slice A ps.length c) := bT92.cell 0 rfl
            have ct1 : w92.cell? ⟨w.heap.size, 1, none⟩ = some (.int .i64 cl) := bT92.cell 1 rfl
            have ct2 : w92.cell? ⟨w.heap.size, 2, none⟩ = some (.int .i64 lo) := bT92.cell 2 rfl
            have ct3 : w92.cell? ⟨w.heap.size, 3, none⟩ = some (.int .i64 hi) := bT92.cell 3 rfl
            have lT92 := bT92.lt
            go_wp2_with fail
            refine ((HYC.out All cll _ hB92 ll92.out).2.1).mono ?_
            rintro e w93 ⟨rfl, hb93⟩
            have bT93 := bT92.below hb93
            have hB93 := hB92.trans (hb93.mono hB92.size)
            have ll93 : Hid (Ints w93 w93.heap.size (.slice All CL.length cll) CL) := (ll92.out.keep hb93).more hb93.size
            have kk93 : Hid (Ints w93 w93.heap.size (.slice Akk KL.length ckk) KL) := (kk92.out.keep hb93).more hb93.size
            clear ct0 ct1 ct2 ct3 lT92 bT92 ll92 kk92 hB92 hb93
            have ct0 : w93.cell? ⟨w.heap.size, 0, none⟩ = some (.slice A ps.length c) := bT93.cell 0 rfl
            have ct1 : w93.cell? ⟨w.heap.size, 1, none⟩ = some (.int .i64 cl) := bT93.cell 1 rfl
            have ct2 : w93.cell? ⟨w.heap.size, 2, none⟩ = some (.int .i64 lo) := bT93.cell 2 rfl
            have ct3 : w93.cell? ⟨w.heap.size, 3, none⟩ = some (.int .i64 hi) := bT93.cell 3 rfl
            have lT93 := bT93.lt
            go_wp2_with fail
            refine ((HYC.out All cll _ hB93 ll93.out).2.2).mono ?_
            rintro e w94 ⟨rfl, hb94⟩
            have bT94 := bT93.below hb94
            have hB94 := hB93.trans (hb94.mono hB93.size)
            have ll94 : Hid (Ints w94 w94.heap.size (.slice All CL.length cll) CL) := (ll93.out.keep hb94).more hb94.size
            have kk94 : Hid (Ints w94 w94.heap.size (.slice Akk KL.length ckk) KL) := (kk93.out.keep hb94).more hb94.size
            clear ct0 ct1 ct2 ct3 lT93 bT93 ll93 kk93 hB93 hb94
            have ct0 : w94.cell? ⟨w.heap.size, 0, none⟩ = some (.slice A ps.length c) := bT94.cell 0 rfl
            have ct1 : w94.cell? ⟨w.heap.size, 1, none⟩ = some (.int .i64 cl) := bT94.cell 1 rfl
            have ct2 : w94.cell? ⟨w.heap.size, 2, none⟩ = some (.int .i64 lo) := bT94.cell 2 rfl
            have ct3 : w94.cell? ⟨w.heap.size, 3, none⟩ = some (.int .i64 hi) := bT94.cell 3 rfl
            have lT94 := bT94.lt
            go_wp2_with fail
            refine (HIN.out _ _ _ _ kk94.out (by have := HKL.out; omega)).mono ?_
            rintro e wq ⟨rfl, hq⟩
            have hq := hq.symm
            subst hq
            rw [decide_eq_true HSW.out]
            go_wp2_with fail
            refine (HWK.out _).mono ?_
            rintro e wz ⟨rfl, hbz⟩
            have hBz := hB94.trans (hbz.mono hB94.size)
            go_wp2_with fail
            go_returns
            exact ⟨rfl, hBz⟩
        | true =>
          have hle : decide (NV ≤ MO) = true := decide_eq_true (hmo2 rfl)
          have HMO1 := Lib.hid (HMO.out rfl)
          clear HMO hmo2
          cases SB with
          | false =>
            have ct0 : w90.cell? ⟨w.heap.size, 0, none⟩ = some (.slice A ps.length c) := bT90.cell 0 rfl
            have ct1 : w90.cell? ⟨w.heap.size, 1, none⟩ = some (.int .i64 cl) := bT90.cell 1 rfl
            have ct2 : w90.cell? ⟨w.heap.size, 2, none⟩ = some (.int .i64 lo) := bT90.cell 2 rfl
            have ct3 : w90.cell? ⟨w.heap.size, 3, none⟩ = some (.int .i64 hi) := bT90.cell 3 rfl
            have lT90 := bT90.lt
            go_wp2_with fail
            refine (HAO.out _ hB90).mono ?_
            rintro e w91 ⟨rfl, hb91⟩
            have bT91 := bT90.below hb91
            have hB91 := hB90.trans (hb91.mono hB90.size)
            have ll91 : Hid (Ints w91 w91.heap.size (.slice All CL.length cll) CL) := (ll90.out.keep hb91).more hb91.size
            have kk91 : Hid (Ints w91 w91.heap.size (.slice Akk KL.length ckk) KL) := (kk90.out.keep hb91).more hb91.size
            clear ct0 ct1 ct2 ct3 lT90 bT90 ll90 kk90 hB90 hb91
            have ct0 : w91.cell? ⟨w.heap.size, 0, none⟩ = some (.slice A ps.length c) := bT91.cell 0 rfl
            have ct1 : w91.cell? ⟨w.heap.size, 1, none⟩ = some (.int .i64 cl) := bT91.cell 1 rfl
            have ct2 : w91.cell? ⟨w.heap.size, 2, none⟩ = some (.int .i64 lo) := bT91.cell 2 rfl
            have ct3 : w91.cell? ⟨w.heap.size, 3, none⟩ = some (.int .i64 hi) := bT91.cell 3 rfl
            have lT91 := bT91.lt
            go_wp2_with fail
            refine ((HYC.out All cll _ hB91 ll91.out).1).mono ?_
            rintro e w92 ⟨rfl, hb92⟩
            have bT92 := bT91.below hb92
            have hB92 := hB91.trans (hb92.mono hB91.size)
            have ll92 : Hid (Ints w92 w92.heap.size (.slice All CL.length cll) CL) := (ll91.out.keep hb92).more hb92.size
            have kk92 : Hid (Ints w92 w92.heap.size (.slice Akk KL.length ckk) KL) := (kk91.out.keep hb92).more hb92.size
            clear ct0 ct1 ct2 ct3 lT91 bT91 ll91 kk91 hB91 hb92
            have ct0 : w92.cell? ⟨w.heap.size, 0, none⟩ = some (.slice A ps.length c) := bT92.cell 0 rfl
            have ct1 : w92.cell? ⟨w.heap.size, 1, none⟩ = some (.int .i64 cl) := bT92.cell 1 rfl
            have ct2 : w92.cell? ⟨w.heap.size, 2, none⟩ = some (.int .i64 lo) := bT92.cell 2 rfl
            have ct3 : w92.cell? ⟨w.heap.size, 3, none⟩ = some (.int .i64 hi) := bT92.cell 3 rfl
            have lT92 := bT92.lt
            go_wp2_with fail
            refine ((HYC.out All cll _ hB92 ll92.out).2.1).mono ?_
            rintro e w93 ⟨rfl, hb93⟩
            have bT93 := bT92.below hb93
            have hB93 := hB92.trans (hb93.mono hB92.size)
            have ll93 : Hid (Ints w93 w93.heap.size (.slice All CL.length cll) CL) := (ll92.out.keep hb93).more hb93.size
            have kk93 : Hid (Ints w93 w93.heap.size (.slice Akk KL.length ckk) KL) := (kk92.out.keep hb93).more hb93.size
            clear ct0 ct1 ct2 ct3 lT92 bT92 ll92 kk92 hB92 hb93
            have ct0 : w93.cell? ⟨w.heap.size, 0, none⟩ = some (.slice A ps.length c) := bT93.cell 0 rfl
            have ct1 : w93.cell? ⟨w.heap.size, 1, none⟩ = some (.int .i64 cl) := bT93.cell 1 rfl
            have ct2 : w93.cell? ⟨w.heap.size, 2, none⟩ = some (.int .i64 lo) := bT93.cell 2 rfl
            have ct3 : w93.cell? ⟨w.heap.size, 3, none⟩ = some (.int .i64 hi) := bT93.cell 3 rfl
            have lT93 := bT93.lt
            go_wp2_with fail
            refine ((HYC.out All cll _ hB93 ll93.out).2.2).mono ?_
            rintro e w94 ⟨rfl, hb94⟩
            have bT94 := bT93.below hb94
            have hB94 := hB93.trans (hb94.mono hB93.size)
            have ll94 : Hid (Ints w94 w94.heap.size (.slice All CL.length cll) CL) := (ll93.out.keep hb94).more hb94.size
            have kk94 : Hid (Ints w94 w94.heap.size (.slice Akk KL.length ckk) KL) := (kk93.out.keep hb94).more hb94.size
            clear ct0 ct1 ct2 ct3 lT93 bT93 ll93 kk93 hB93 hb94
            have ct0 : w94.cell? ⟨w.heap.size, 0, none⟩ = some (.slice A ps.length c) := bT94.cell 0 rfl
            have ct1 : w94.cell? ⟨w.heap.size, 1, none⟩ = some (.int .i64 cl) := bT94.cell 1 rfl
            have ct2 : w94.cell? ⟨w.heap.size, 2, none⟩ = some (.int .i64 lo) := bT94.cell 2 rfl
            have ct3 : w94.cell? ⟨w.heap.size, 3, none⟩ = some (.int .i64 hi) := bT94.cell 3 rfl
            have lT94 := bT94.lt
            go_wp2_with fail
            refine (HIN.out _ _ _ _ kk94.out (by have := HKL.out; omega)).mono ?_
            rintro e wq ⟨rfl, hq⟩
            have hq := hq.symm
            subst hq
            rw [decide_eq_true HSW.out]
            go_wp2_with fail
            refine (HMO1.out _ hB94).mono ?_
            rintro e w95 ⟨rfl, hb95⟩
            have bT95 := bT94.below hb95
            have hB95 := hB94.trans (hb95.mono hB94.size)
            have ll95 : Hid (Ints w95 w95.heap.size (.slice All CL.length cll) CL) := (ll94.out.keep hb95).more hb95.size
            have kk95 : Hid (Ints w95 w95.heap.size (.slice Akk KL.length ckk) KL) := (kk94.out.keep hb95).more hb95.size
            clear ct0 ct1 ct2 ct3 lT94 bT94 ll94 kk94 hB94 hb95
            have ct0 : w95.cell? ⟨w.heap.size, 0, none⟩ = some (.slice A ps.length c) := bT95.cell 0 rfl
            have ct1 : w95.cell? ⟨w.heap.size, 1, none⟩ = some (.int .i64 cl) := bT95.cell 1 rfl
            have ct2 : w95.cell? ⟨w.heap.size, 2, none⟩ = some (.int .i64 lo) := bT95.cell 2 rfl
            have ct3 : w95.cell? ⟨w.heap.size, 3, none⟩ = some (.int .i64 hi) := bT95.cell 3 rfl
            have lT95 := bT95.lt
            go_wp2_with fail
            refine (HWK.out _).mono ?_
            rintro e wz ⟨rfl, hbz⟩
            have hBz := hB95.trans (hbz.mono hB95.size)
            go_wp2_with fail
            go_returns
            exact ⟨rfl, hBz⟩
          | true =>
            have ct0 : w90.cell? ⟨w.heap.size, 0, none⟩ = some (.slice A ps.length c) := bT90.cell 0 rfl
            have ct1 : w90.cell? ⟨w.heap.size, 1, none⟩ = some (.int .i64 cl) := bT90.cell 1 rfl
            have ct2 : w90.cell? ⟨w.heap.size, 2, none⟩ = some (.int .i64 lo) := bT90.cell 2 rfl
            have ct3 : w90.cell? ⟨w.heap.size, 3, none⟩ = some (.int .i64 hi) := bT90.cell 3 rfl
            have lT90 := bT90.lt
            go_wp2_with fail
            refine (HAO.out _ hB90).mono ?_
            rintro e w91 ⟨rfl, hb91⟩
            have bT91 := bT90.below hb91
            have hB91 := hB90.trans (hb91.mono hB90.size)
            have ll91 : Hid (Ints w91 w91.heap.size (.slice All CL.length cll) CL) := (ll90.out.keep hb91).more hb91.size
            have kk91 : Hid (Ints w91 w91.heap.size (.slice Akk KL.length ckk) KL) := (kk90.out.keep hb91).more hb91.size
            clear ct0 ct1 ct2 ct3 lT90 bT90 ll90 kk90 hB90 hb91
            have ct0 : w91.cell? ⟨w.heap.size, 0, none⟩ = some (.slice A ps.length c) := bT91.cell 0 rfl
            have ct1 : w91.cell? ⟨w.heap.size, 1, none⟩ = some (.int .i64 cl) := bT91.cell 1 rfl
            have ct2 : w91.cell? ⟨w.heap.size, 2, none⟩ = some (.int .i64 lo) := bT91.cell 2 rfl
            have ct3 : w91.cell? ⟨w.heap.size, 3, none⟩ = some (.int .i64 hi) := bT91.cell 3 rfl
            have lT91 := bT91.lt
            go_wp2_with fail
            refine ((HYC.out All cll _ hB91 ll91.out).1).mono ?_
            rintro e w92 ⟨rfl, hb92⟩
            have bT92 := bT91.below hb92
            have hB92 := hB91.trans (hb92.mono hB91.size)
            have ll92 : Hid (Ints w92 w92.heap.size (.slice All CL.length cll) CL) := (ll91.out.keep hb92).more hb92.size
            have kk92 : Hid (Ints w92 w92.heap.size (.slice Akk KL.length ckk) KL) := (kk91.out.keep hb92).more hb92.size
            clear ct0 ct1 ct2 ct3 lT91 bT91 ll91 kk91 hB91 hb92
            have ct0 : w92.cell? ⟨w.heap.size, 0, none⟩ = some (.slice A ps.length c) := bT92.cell 0 rfl
            have ct1 : w92.cell? ⟨w.heap.size, 1, none⟩ = some (.int .i64 cl) := bT92.cell 1 rfl
            have ct2 : w92.cell? ⟨w.heap.size, 2, none⟩ = some (.int .i64 lo) := bT92.cell 2 rfl
            have ct3 : w92.cell? ⟨w.heap.size, 3, none⟩ = some (.int .i64 hi) := bT92.cell 3 rfl
            have lT92 := bT92.lt
            go_wp2_with fail
            refine ((HYC.out All cll _ hB92 ll92.out).2.1).mono ?_
            rintro e w93 ⟨rfl, hb93⟩
            have bT93 := bT92.below hb93
            have hB93 := hB92.trans (hb93.mono hB92.size)
            have ll93 : Hid (Ints w93 w93.heap.size (.slice All CL.length cll) CL) := (ll92.out.keep hb93).more hb93.size
            have kk93 : Hid (Ints w93 w93.heap.size (.slice Akk KL.length ckk) KL) := (kk92.out.keep hb93).more hb93.size
            clear ct0 ct1 ct2 ct3 lT92 bT92 ll92 kk92 hB92 hb93
            have ct0 : w93.cell? ⟨w.heap.size, 0, none⟩ = some (.slice A ps.length c) := bT93.cell 0 rfl
            have ct1 : w93.cell? ⟨w.heap.size, 1, none⟩ = some (.int .i64 cl) := bT93.cell 1 rfl
            have ct2 : w93.cell? ⟨w.heap.size, 2, none⟩ = some (.int .i64 lo) := bT93.cell 2 rfl
            have ct3 : w93.cell? ⟨w.heap.size, 3, none⟩ = some (.int .i64 hi) := bT93.cell 3 rfl
            have lT93 := bT93.lt
            go_wp2_with fail
            refine ((HYC.out All cll _ hB93 ll93.out).2.2).mono ?_
            rintro e w94 ⟨rfl, hb94⟩
            have bT94 := bT93.below hb94
            have hB94 := hB93.trans (hb94.mono hB93.size)
            have ll94 : Hid (Ints w94 w94.heap.size (.slice All CL.length cll) CL) := (ll93.out.keep hb94).more hb94.size
            have kk94 : Hid (Ints w94 w94.heap.size (.slice Akk KL.length ckk) KL) := (kk93.out.keep hb94).more hb94.size
            clear ct0 ct1 ct2 ct3 lT93 bT93 ll93 kk93 hB93 hb94
            have ct0 : w94.cell? ⟨w.heap.size, 0, none⟩ = some (.slice A ps.length c) := bT94.cell 0 rfl
            have ct1 : w94.cell? ⟨w.heap.size, 1, none⟩ = some (.int .i64 cl) := bT94.cell 1 rfl
            have ct2 : w94.cell? ⟨w.heap.size, 2, none⟩ = some (.int .i64 lo) := bT94.cell 2 rfl
            have ct3 : w94.cell? ⟨w.heap.size, 3, none⟩ = some (.int .i64 hi) := bT94.cell 3 rfl
            have lT94 := bT94.lt
            go_wp2_with fail
            refine (HIN.out _ _ _ _ kk94.out (by have := HKL.out; omega)).mono ?_
            rintro e wq ⟨rfl, hq⟩
            have hq := hq.symm
            subst hq
            rw [decide_eq_true HSW.out]
            go_wp2_with fail
            refine (HMO1.out _ hB94).mono ?_
            rintro e w95 ⟨rfl, hb95⟩
            have bT95 := bT94.below hb95
            have hB95 := hB94.trans (hb95.mono hB94.size)
            have ll95 : Hid (Ints w95 w95.heap.size (.slice All CL.length cll) CL) := (ll94.out.keep hb95).more hb95.size
            have kk95 : Hid (Ints w95 w95.heap.size (.slice Akk KL.length ckk) KL) := (kk94.out.keep hb95).more hb95.size
            clear ct0 ct1 ct2 ct3 lT94 bT94 ll94 kk94 hB94 hb95
            have ct0 : w95.cell? ⟨w.heap.size, 0, none⟩ = some (.slice A ps.length c) := bT95.cell 0 rfl
            have ct1 : w95.cell? ⟨w.heap.size, 1, none⟩ = some (.int .i64 cl) := bT95.cell 1 rfl
            have ct2 : w95.cell? ⟨w.heap.size, 2, none⟩ = some (.int .i64 lo) := bT95.cell 2 rfl
            have ct3 : w95.cell? ⟨w.heap.size, 3, none⟩ = some (.int .i64 hi) := bT95.cell 3 rfl
            have lT95 := bT95.lt
            go_wp2_with fail
            refine (HWK.out _).mono ?_
            rintro e wz ⟨rfl, hbz⟩
            have hBz := hB95.trans (hbz.mono hB95.size)
            go_wp2_with fail
            go_returns
            exact ⟨rfl, hBz⟩
      · subst hs
        obtain ⟨h1, h2⟩ := HNO.out (by decide)
        subst h1 h2
        clear HYES HNO hCe hKe hNe HMO ll90 kk90
        have ct0 : w90.cell? ⟨w.heap.size, 0, none⟩ = some (.slice A ps.length c) := bT90.cell 0 rfl
        have ct1 : w90.cell? ⟨w.heap.size, 1, none⟩ = some (.int .i64 cl) := bT90.cell 1 rfl
        have ct2 : w90.cell? ⟨w.heap.size, 2, none⟩ = some (.int .i64 lo) := bT90.cell 2 rfl
        have ct3 : w90.cell? ⟨w.heap.size, 3, none⟩ = some (.int .i64 hi) := bT90.cell 3 rfl
        have lT90 := bT90.lt
        go_wp2_with fail
        refine (HAO.out _ hB90).mono ?_
        rintro e w91 ⟨rfl, hb91⟩
        have bT91 := bT90.below hb91
        have hB91 := hB90.trans (hb91.mono hB90.size)
        clear ct0 ct1 ct2 ct3 lT90 bT90 hB90 hb91
        have ct0 : w91.cell? ⟨w.heap.size, 0, none⟩ = some (.slice A ps.length c) := bT91.cell 0 rfl
        have ct1 : w91.cell? ⟨w.heap.size, 1, none⟩ = some (.int .i64 cl) := bT91.cell 1 rfl
        have ct2 : w91.cell? ⟨w.heap.size, 2, none⟩ = some (.int .i64 lo) := bT91.cell 2 rfl
        have ct3 : w91.cell? ⟨w.heap.size, 3, none⟩ = some (.int .i64 hi) := bT91.cell 3 rfl
        have lT91 := bT91.lt
        go_wp2_with fail
        refine (HWK.out _).mono ?_
        rintro e wz ⟨rfl, hbz⟩
        have hBz := hB91.trans (hbz.mono hB91.size)
        go_wp2_with fail
        go_returns
        exact ⟨rfl, hBz⟩
theorem lawFew_walk (t : Wl.Trk) (A : Option Addr) (c : Nat) (Aw : Option Addr) (cw : Nat) (ws : List (Int × Int)) (Ao : Option Addr) (co : Nat) (os : List Int) (w : World) (_h1 : t.ps.length ≤ maxLen) (hP : Prs w w.heap.size A t.ps) (_h2 : ws.length ≤ maxLen) (hQ : Prs w w.heap.size Aw ws) (_h3 : os.length ≤ maxLen) (hO : 0 < os.length → Ints w w.heap.size (.slice Ao os.length co) os) :
    Calls Try.prog 10 #[.agg (trV t A c), .slice Aw ws.length cw, .slice Ao os.length co] w fun e w' => e = .returned (.bool true) ∧ Below w.heap.size w w' := by
  cases hr : Wl.readyB t ws with
  | false => exact Few_early t ws os A Aw Ao c cw co w hP hQ (.inl hr)
  | true =>
    by_cases h4 : 40 < os.length
    · exact Few_early t ws os A Aw Ao c cw co w hP hQ (.inr ⟨hr, h4⟩)
    · exact Few_short t ws os A Aw Ao c cw co w hP hQ hO hr (by omega)

open Go.ChangeShapes Go.WideShapes Go.ChangeAt Go.RowKit Go.Joins

set_option maxRecDepth 100000 in
theorem few5_lifted (os : Os) (started : os.Started) (H : Type) (enc : TypeId × Value → H) :
    ReturnsInHanded {} Try.checked os 10 .any (Rows.walksFewSpec.pre6 enc Try.prog Try.f10 Rows.walksFewRow.domain false) (Rows.walksFewSpec.post enc Try.prog Try.f10 false true false false) := by
  refine returnsInHanded_of_change (C := Try.checked) own started (by kernel_rfl) Try.func10
    (ChangeSpec.witness6 (enc := enc) (C := Try.checked) false ⟨#[], #[.agg #[.slice none 0 0, .int .i64 0, .int .i64 0, .int .i64 0], .slice none 0 0, .slice none 0 0], []⟩ 8 (by kernel_rfl) (by kernel_rfl) (by kernel_rfl) (by kernel_rfl)) ?_
  intro W base args ds gs before hval0 hW hcnd _
  have hval : ∀ (j : Nat) t v, Try.f10.params[j]? = some t → args[j]? = some v → Value.okWide Try.prog W .any base t v := hval0
  have hW' := hW
  obtain ⟨p, q, hA0, hV, rfl, hfz, hnd⟩ := hW
  have hA : DataW.TrodAll enc Try.prog W 0 (fun _ => true) true Try.f10.params.toList args.toList ds p := hA0
  rw [Try.params10] at hA hval
  obtain ⟨v0, v1, v2, d0, d1, d2, p0, p1, p2, rfl, rfl, rfl, h0, h1, h2⟩ := trodAll_three hA
  obtain ⟨rfl, rfl⟩ := trodVars_none hV
  obtain ⟨t, A, c, rfl, hg_t, hl_t⟩ := open_Track (hval 0 26 v0 rfl rfl) h0
  obtain ⟨Aw, cw, ws, rfl, hg_ws, hl_ws⟩ := open_prs Try.underlying22 Try.underlying28 (by kernel_rfl) (by kernel_rfl) (by kernel_rfl) (by kernel_rfl) (by kernel_rfl) Try.underlying3 Try.underlying3 (hval 1 22 v1 rfl rfl) h1
  obtain ⟨Ao, co, es, rfl, hg_Ao, hl_Ao⟩ := open_Ints5 (hval 2 35 v2 rfl rfl) h2
  refine (lawFew_walk t A c Aw cw ws Ao co es W hl_t hg_t hl_ws hg_ws hl_Ao hg_Ao).mono fun e W' ⟨he, hb⟩ => ?_
  subst he
  exact ⟨_, rfl, law_post hW' rfl rfl (by intro t ht; have : t = 26 ∨ t = 22 ∨ t = 35 := (by rw [Try.params10] at ht; simpa using ht); rcases this with rfl | rfl | rfl <;> exact ⟨by kernel_rfl, of_decide_eq_true (by kernel_rfl)⟩) rfl rfl rfl hb⟩

theorem few5_holds : Rows.WalksFewSaid :=
  OpenClaim.holds_of_wide 10 Try.f10 rfl rfl rfl rfl rfl rfl rfl ⟨rfl, rfl, rfl, rfl, rfl⟩ rfl rfl rfl rfl rfl (by kernel_rfl) Try.func10 (by kernel_rfl)
    (of_decide_eq_true (by kernel_rfl)) (by unfold Func.isWrapper; rw [if_neg (of_decide_eq_false (by kernel_rfl))]; exact ⟨rfl, rfl⟩)
    (fun os started H enc _ => few5_lifted os started H enc)
end Go.Proofs.Ytmjcdggmofohcaa
