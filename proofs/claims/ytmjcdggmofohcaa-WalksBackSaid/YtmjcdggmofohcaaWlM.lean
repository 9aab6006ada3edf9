/- Walks: the machine that moves elbows, and Sweep and Turns, by the program. -/
import Derived.Test.YtmjcdggmofohcaaWlU
namespace Go.Proofs.Ytmjcdggmofohcaa
open Go.RowKit
set_option maxRecDepth 100000 in
set_option maxHeartbeats 8000000 in
theorem movedW_any (t : Wl.Trk) (ws : List Wl.Pt) (es : List Int) (A Aw Ae : Option Addr) (c cw ce : Nat) (hl : t.ps.length ≤ 1000000000) (hle : es.length ≤ 1000000000) (hlw : ws.length ≤ 1000000000) (w : World) (hP : Prs w w.heap.size A t.ps) (hQ : Prs w w.heap.size Aw ws) (hE : Ints w w.heap.size (.slice Ae es.length ce) es) :
    Calls Try.prog 57 #[.agg (trV t A c), .slice Aw ws.length cw, .slice Ae es.length ce] w (McPost t A c Aw ws.length cw (Wl.movE t ws es) w) := by
  have HC : Hid (∀ W, Below w.heap.size w W → Calls Try.prog 14 #[.agg (trV t A c), .slice Aw ws.length cw] W (ErrPost (Wl.chkV t ws) W)) := fun W hW => CheckW_any t ws A Aw c cw hl hlw W (prs_keep hP hW) (prs_keep hQ hW)
  have HCA : Hid (Wl.chkV t ws = 0 → ∀ W, Below w.heap.size w W → Calls Try.prog 84 #[.agg (mcV t A c Aw ws.length cw), .slice Ae es.length ce] W fun e w' => e = .returned (.bool (Wl.elbV t ws es)) ∧ Below W.heap.size W w') := fun h W hW => carryW_any t ws es A Aw Ae c cw ce (Wl.chk_yes.1 h).1 (Wl.chk_yes.1 h).2 hle hlw W (prs_keep hP hW) (prs_keep hQ hW) ((hE.keep hW).more hW.size)
  have HM : Hid (Wl.movE t ws es = if Wl.chkV t ws = 0 then (if Wl.elbV t ws es then 0 else 1) else Wl.chkV t ws) := rfl
  clear hP hQ hE hl hle hlw
  unfold ErrPost at HC
  unfold McPost
  generalize Wl.movE t ws es = ME at *
  generalize Wl.chkV t ws = CE at *
  generalize Wl.elbV t ws es = EB at *
  obtain ⟨ps, cl, lo, hi⟩ := t
  unfold mcE
  unfold trV mcV at *
  dsimp only at *
  by_cases h0 : CE = 0
  · subst h0
    have HC1 := Lib.hid (HCA.out rfl)
    rw [if_pos rfl] at HM
    clear HCA
    cases EB with
    | true =>
      have HM2 : Hid (ME = 0) := HM.out
      clear HM
      subst HM2
      rw [if_pos rfl]
      go_enter Try.func57, Try.ntmps57
      go_wp2_with fail
      have bT := (BoxS.new w 26 #[.slice A ps.length c, .int .i64 cl, .int .i64 lo, .int .i64 hi]).alloc (.cells #[.slice none 0 0, .int .i64 0, .int .i64 0, .int .i64 0, .slice none 0 0] 70)
      have bX := BoxS.new (w.alloc (.cells #[.slice A ps.length c, .int .i64 cl, .int .i64 lo, .int .i64 hi] 26)) 70 #[.slice none 0 0, .int .i64 0, .int .i64 0, .int .i64 0, .slice none 0 0]
      rw [World.size_alloc] at bX
      have hB1 : Below w.heap.size w ((w.alloc (.cells #[.slice A ps.length c, .int .i64 cl, .int .i64 lo, .int .i64 hi] 26)).alloc (.cells #[.slice none 0 0, .int .i64 0, .int .i64 0, .int .i64 0, .slice none 0 0] 70)) := by (repeat' (first | (with_reducible exact Below.refl _ _) | (with_reducible assumption) | (with_reducible refine Below.alloc ?_ ?_ _) | (with_reducible refine Below.drew ?_) | (with_reducible refine Below.setCell ?_ ?_ _) | go_size | (exact (by simp)) | omega))
      generalize World.alloc (World.alloc w _) _ = w1 at *
      refine (HC.out _ hB1).mono ?_
      rintro e w2 ⟨rfl, hb2⟩
      have hB2 := hB1.trans (hb2.mono hB1.size)
      have bT2 := bT.below hb2
      have bX2 := bX.below hb2
      have t0 := bT2.cell 0 rfl
      have t1 := bT2.cell 1 rfl
      have t2 := bT2.cell 2 rfl
      have t3 := bT2.cell 3 rfl
      have lt := bT2.lt
      go_wp2_with fail
      have bM := BoxS.new w2 70 #[.slice A ps.length c, .int .i64 cl, .int .i64 lo, .int .i64 hi, .slice Aw ws.length cw]
      have bX3 := bX2.alloc (.cells #[.slice A ps.length c, .int .i64 cl, .int .i64 lo, .int .i64 hi, .slice Aw ws.length cw] 70)
      have hB3 : Below w.heap.size w (w2.alloc (.cells #[.slice A ps.length c, .int .i64 cl, .int .i64 lo, .int .i64 hi, .slice Aw ws.length cw] 70)) := hB2.alloc hB2.size _
      have hne : w.heap.size + 1 < w2.heap.size := by have := hb2.size; have := bX.lt; omega
      clear t0 t1 t2 t3 lt bT bX hB1 hb2 bT2 bX2 hB2
      generalize World.alloc w2 _ = w3 at *
      refine (HC1.out _ hB3).mono ?_
      rintro e w4 ⟨rfl, hb4⟩
      have bM4 := bM.below hb4
      have bX4 := bX3.below hb4
      have hB4 := hB3.trans (hb4.mono hB3.size)
      clear HC HC1 bM bX3 hb4
      have m0 := bM4.cell 0 rfl
      have m1 := bM4.cell 1 rfl
      have m2 := bM4.cell 2 rfl
      have m3 := bM4.cell 3 rfl
      have m4 := bM4.cell 4 rfl
      have lm := bM4.lt
      have x0 := bX4.cell 0 rfl
      have x1 := bX4.cell 1 rfl
      have x2 := bX4.cell 2 rfl
      have x3 := bX4.cell 3 rfl
      have x4 := bX4.cell 4 rfl
      have gx0 := bX4.frozen 0
      have gx1 := bX4.frozen 1
      have gx2 := bX4.frozen 2
      have gx3 := bX4.frozen 3
      have gx4 := bX4.frozen 4
      have lx := bX4.lt
      go_wp2_with fail
      have bY : BoxS (((((w4.setCell ⟨w.heap.size + 1, 0, none⟩ (.slice A ps.length c)).setCell ⟨w.heap.size + 1, 1, none⟩ (.int .i64 cl)).setCell ⟨w.heap.size + 1, 2, none⟩ (.int .i64 lo)).setCell ⟨w.heap.size + 1, 3, none⟩ (.int .i64 hi)).setCell ⟨w.heap.size + 1, 4, none⟩ (.slice Aw ws.length cw)) (w.heap.size + 1) 70 #[.slice A ps.length c, .int .i64 cl, .int .i64 lo, .int .i64 hi, .slice Aw ws.length cw] := (((((bX4.put9 0 (.slice A ps.length c)).put9 1 (.int .i64 cl)).put9 2 (.int .i64 lo)).put9 3 (.int .i64 hi)).put9 4 (.slice Aw ws.length cw))
      have y0 := bY.cell 0 rfl
      have y1 := bY.cell 1 rfl
      have y2 := bY.cell 2 rfl
      have y3 := bY.cell 3 rfl
      have y4 := bY.cell 4 rfl
      have hBY : Below w.heap.size w (((((w4.setCell ⟨w.heap.size + 1, 0, none⟩ (.slice A ps.length c)).setCell ⟨w.heap.size + 1, 1, none⟩ (.int .i64 cl)).setCell ⟨w.heap.size + 1, 2, none⟩ (.int .i64 lo)).setCell ⟨w.heap.size + 1, 3, none⟩ (.int .i64 hi)).setCell ⟨w.heap.size + 1, 4, none⟩ (.slice Aw ws.length cw)) := by have := hB4; (repeat' (first | (with_reducible exact Below.refl _ _) | (with_reducible assumption) | (with_reducible refine Below.alloc ?_ ?_ _) | (with_reducible refine Below.drew ?_) | (with_reducible refine Below.setCell ?_ ?_ _) | go_size | (exact (by simp)) | omega))
      first
        | (refine bodyPost_ret (v := .tuple #[.agg #[.slice A ps.length c, .int .i64 cl, .int .i64 lo, .int .i64 hi, .slice Aw ws.length cw], .int .i64 0]) (by simp [results, Try.f57, go_sem, y0, y1, y2, y3, y4]) rfl ?_; exact ⟨rfl, hBY⟩)
        | (refine bodyPost_ret (v := .tuple #[.agg #[.slice A ps.length c, .int .i64 cl, .int .i64 lo, .int .i64 hi, .slice Aw ws.length cw], .int .i64 0]) (by simp [results, Try.f57, go_sem, x0, x1, x2, x3, x4]) rfl ?_; exact ⟨rfl, hB4⟩)
    | false =>
      have HM2 : Hid (ME = 1) := HM.out
      clear HM
      subst HM2
      rw [if_neg (by decide)]
      go_enter Try.func57, Try.ntmps57
      go_wp2_with fail
      have bT := (BoxS.new w 26 #[.slice A ps.length c, .int .i64 cl, .int .i64 lo, .int .i64 hi]).alloc (.cells #[.slice none 0 0, .int .i64 0, .int .i64 0, .int .i64 0, .slice none 0 0] 70)
      have bX := BoxS.new (w.alloc (.cells #[.slice A ps.length c, .int .i64 cl, .int .i64 lo, .int .i64 hi] 26)) 70 #[.slice none 0 0, .int .i64 0, .int .i64 0, .int .i64 0, .slice none 0 0]
      rw [World.size_alloc] at bX
      have hB1 : Below w.heap.size w ((w.alloc (.cells #[.slice A ps.length c, .int .i64 cl, .int .i64 lo, .int .i64 hi] 26)).alloc (.cells #[.slice none 0 0, .int .i64 0, .int .i64 0, .int .i64 0, .slice none 0 0] 70)) := by (repeat' (first | (with_reducible exact Below.refl _ _) | (with_reducible assumption) | (with_reducible refine Below.alloc ?_ ?_ _) | (with_reducible refine Below.drew ?_) | (with_reducible refine Below.setCell ?_ ?_ _) | go_size | (exact (by simp)) | omega))
      generalize World.alloc (World.alloc w _) _ = w1 at *
      refine (HC.out _ hB1).mono ?_
      rintro e w2 ⟨rfl, hb2⟩
      have hB2 := hB1.trans (hb2.mono hB1.size)
      have bT2 := bT.below hb2
      have bX2 := bX.below hb2
      have t0 := bT2.cell 0 rfl
      have t1 := bT2.cell 1 rfl
      have t2 := bT2.cell 2 rfl
      have t3 := bT2.cell 3 rfl
      have lt := bT2.lt
      go_wp2_with fail
      have bM := BoxS.new w2 70 #[.slice A ps.length c, .int .i64 cl, .int .i64 lo, .int .i64 hi, .slice Aw ws.length cw]
      have bX3 := bX2.alloc (.cells #[.slice A ps.length c, .int .i64 cl, .int .i64 lo, .int .i64 hi, .slice Aw ws.length cw] 70)
      have hB3 : Below w.heap.size w (w2.alloc (.cells #[.slice A ps.length c, .int .i64 cl, .int .i64 lo, .int .i64 hi, .slice Aw ws.length cw] 70)) := hB2.alloc hB2.size _
      have hne : w.heap.size + 1 < w2.heap.size := by have := hb2.size; have := bX.lt; omega
      clear t0 t1 t2 t3 lt bT bX hB1 hb2 bT2 bX2 hB2
      generalize World.alloc w2 _ = w3 at *
      refine (HC1.out _ hB3).mono ?_
      rintro e w4 ⟨rfl, hb4⟩
      have bM4 := bM.below hb4
      have bX4 := bX3.below hb4
      have hB4 := hB3.trans (hb4.mono hB3.size)
      clear HC HC1 bM bX3 hb4
      have x0 := bX4.cell 0 rfl
      have x1 := bX4.cell 1 rfl
      have x2 := bX4.cell 2 rfl
      have x3 := bX4.cell 3 rfl
      have x4 := bX4.cell 4 rfl
      have gx0 := bX4.frozen 0
      have gx1 := bX4.frozen 1
      have gx2 := bX4.frozen 2
      have gx3 := bX4.frozen 3
      have gx4 := bX4.frozen 4
      have lx := bX4.lt
      go_wp2_with fail
      have bY : BoxS (((((w4.setCell ⟨w.heap.size + 1, 0, none⟩ (.slice none 0 0)).setCell ⟨w.heap.size + 1, 1, none⟩ (.int .i64 0)).setCell ⟨w.heap.size + 1, 2, none⟩ (.int .i64 0)).setCell ⟨w.heap.size + 1, 3, none⟩ (.int .i64 0)).setCell ⟨w.heap.size + 1, 4, none⟩ (.slice none 0 0)) (w.heap.size + 1) 70 #[.slice none 0 0, .int .i64 0, .int .i64 0, .int .i64 0, .slice none 0 0] := (((((bX4.put9 0 (.slice none 0 0)).put9 1 (.int .i64 0)).put9 2 (.int .i64 0)).put9 3 (.int .i64 0)).put9 4 (.slice none 0 0))
      have y0 := bY.cell 0 rfl
      have y1 := bY.cell 1 rfl
      have y2 := bY.cell 2 rfl
      have y3 := bY.cell 3 rfl
      have y4 := bY.cell 4 rfl
      have hBY : Below w.heap.size w (((((w4.setCell ⟨w.heap.size + 1, 0, none⟩ (.slice none 0 0)).setCell ⟨w.heap.size + 1, 1, none⟩ (.int .i64 0)).setCell ⟨w.heap.size + 1, 2, none⟩ (.int .i64 0)).setCell ⟨w.heap.size + 1, 3, none⟩ (.int .i64 0)).setCell ⟨w.heap.size + 1, 4, none⟩ (.slice none 0 0)) := by have := hB4; (repeat' (first | (with_reducible exact Below.refl _ _) | (with_reducible assumption) | (with_reducible refine Below.alloc ?_ ?_ _) | (with_reducible refine Below.drew ?_) | (with_reducible refine Below.setCell ?_ ?_ _) | go_size | (exact (by simp)) | omega))
      first
        | (refine bodyPost_ret (v := .tuple #[.agg #[.slice none 0 0, .int .i64 0, .int .i64 0, .int .i64 0, .slice none 0 0], .int .i64 1]) (by simp [results, Try.f57, go_sem, y0, y1, y2, y3, y4]) rfl ?_; exact ⟨rfl, hBY⟩)
        | (refine bodyPost_ret (v := .tuple #[.agg #[.slice none 0 0, .int .i64 0, .int .i64 0, .int .i64 0, .slice none 0 0], .int .i64 1]) (by simp [results, Try.f57, go_sem, x0, x1, x2, x3, x4]) rfl ?_; exact ⟨rfl, hB4⟩)
  · rw [if_neg h0] at HM
    have HM2 : Hid (ME = CE) := HM.out
    clear HM HCA
    subst HM2
    rw [if_neg h0]
    have hce : (ME == 0) = false := by simpa using h0
    have hcn : (ME != 0) = true := by simpa using h0
    go_enter Try.func57, Try.ntmps57
    go_wp2_with fail
    have bT := (BoxS.new w 26 #[.slice A ps.length c, .int .i64 cl, .int .i64 lo, .int .i64 hi]).alloc (.cells #[.slice none 0 0, .int .i64 0, .int .i64 0, .int .i64 0, .slice none 0 0] 70)
    have bX := BoxS.new (w.alloc (.cells #[.slice A ps.length c, .int .i64 cl, .int .i64 lo, .int .i64 hi] 26)) 70 #[.slice none 0 0, .int .i64 0, .int .i64 0, .int .i64 0, .slice none 0 0]
    rw [World.size_alloc] at bX
    have hB1 : Below w.heap.size w ((w.alloc (.cells #[.slice A ps.length c, .int .i64 cl, .int .i64 lo, .int .i64 hi] 26)).alloc (.cells #[.slice none 0 0, .int .i64 0, .int .i64 0, .int .i64 0, .slice none 0 0] 70)) := by (repeat' (first | (with_reducible exact Below.refl _ _) | (with_reducible assumption) | (with_reducible refine Below.alloc ?_ ?_ _) | (with_reducible refine Below.drew ?_) | (with_reducible refine Below.setCell ?_ ?_ _) | go_size | (exact (by simp)) | omega))
    generalize World.alloc (World.alloc w _) _ = w1 at *
    refine (HC.out _ hB1).mono ?_
    rintro e w2 ⟨rfl, hb2⟩
    have hB2 := hB1.trans (hb2.mono hB1.size)
    have bT2 := bT.below hb2
    have bX2 := bX.below hb2
    have x0 := bX2.cell 0 rfl
    have x1 := bX2.cell 1 rfl
    have x2 := bX2.cell 2 rfl
    have x3 := bX2.cell 3 rfl
    have x4 := bX2.cell 4 rfl
    have gx0 := bX2.frozen 0
    have gx1 := bX2.frozen 1
    have gx2 := bX2.frozen 2
    have gx3 := bX2.frozen 3
    have gx4 := bX2.frozen 4
    have lx := bX2.lt
    go_wp2_with fail
    have bY : BoxS (((((w2.setCell ⟨w.heap.size + 1, 0, none⟩ (.slice none 0 0)).setCell ⟨w.heap.size + 1, 1, none⟩ (.int .i64 0)).setCell ⟨w.heap.size + 1, 2, none⟩ (.int .i64 0)).setCell ⟨w.heap.size + 1, 3, none⟩ (.int .i64 0)).setCell ⟨w.heap.size + 1, 4, none⟩ (.slice none 0 0)) (w.heap.size + 1) 70 #[.slice none 0 0, .int .i64 0, .int .i64 0, .int .i64 0, .slice none 0 0] := (((((bX2.put9 0 (.slice none 0 0)).put9 1 (.int .i64 0)).put9 2 (.int .i64 0)).put9 3 (.int .i64 0)).put9 4 (.slice none 0 0))
    have y0 := bY.cell 0 rfl
    have y1 := bY.cell 1 rfl
    have y2 := bY.cell 2 rfl
    have y3 := bY.cell 3 rfl
    have y4 := bY.cell 4 rfl
    have hBY : Below w.heap.size w (((((w2.setCell ⟨w.heap.size + 1, 0, none⟩ (.slice none 0 0)).setCell ⟨w.heap.size + 1, 1, none⟩ (.int .i64 0)).setCell ⟨w.heap.size + 1, 2, none⟩ (.int .i64 0)).setCell ⟨w.heap.size + 1, 3, none⟩ (.int .i64 0)).setCell ⟨w.heap.size + 1, 4, none⟩ (.slice none 0 0)) := by have := hB2; (repeat' (first | (with_reducible exact Below.refl _ _) | (with_reducible assumption) | (with_reducible refine Below.alloc ?_ ?_ _) | (with_reducible refine Below.drew ?_) | (with_reducible refine Below.setCell ?_ ?_ _) | go_size | (exact (by simp)) | omega))
    first
      | (refine bodyPost_ret (v := .tuple #[.agg #[.slice none 0 0, .int .i64 0, .int .i64 0, .int .i64 0, .slice none 0 0], .int .i64 ME]) (by simp [results, Try.f57, go_sem, y0, y1, y2, y3, y4]) rfl ?_; exact ⟨rfl, hBY⟩)
      | (refine bodyPost_ret (v := .tuple #[.agg #[.slice none 0 0, .int .i64 0, .int .i64 0, .int .i64 0, .slice none 0 0], .int .i64 ME]) (by simp [results, Try.f57, go_sem, x0, x1, x2, x3, x4]) rfl ?_; exact ⟨rfl, hB2⟩)
set_option maxRecDepth 100000 in
set_option maxHeartbeats 8000000 in
theorem SweepW_any (t : Wl.Trk) (ws : List Wl.Pt) (es : List Int) (A Aw Ae : Option Addr) (c cw ce : Nat) (hl : t.ps.length ≤ 1000000000) (hle : es.length ≤ 1000000000) (hlw : ws.length ≤ 1000000000) (w : World) (hP : Prs w w.heap.size A t.ps) (hQ : Prs w w.heap.size Aw ws) (hE : Ints w w.heap.size (.slice Ae es.length ce) es) :
    Calls Try.prog 24 #[.agg (trV t A c), .slice Aw ws.length cw, .slice Ae es.length ce] w (TwoPost (if Wl.movE t ws es = 0 then Wl.sweepV t ws es else 0) (Wl.movE t ws es) w) := by
  have HC : Hid (∀ W, Below w.heap.size w W → Calls Try.prog 57 #[.agg (trV t A c), .slice Aw ws.length cw, .slice Ae es.length ce] W (McPost t A c Aw ws.length cw (Wl.movE t ws es) W)) := fun W hW => movedW_any t ws es A Aw Ae c cw ce hl hle hlw W (prs_keep hP hW) (prs_keep hQ hW) ((hE.keep hW).more hW.size)
  have HS : Hid (Wl.movE t ws es = 0 → ∀ W, Below w.heap.size w W → Calls Try.prog 58 #[.agg (mcV t A c Aw ws.length cw), .slice Ae es.length ce] W fun e w' => e = .returned (.int .i64 (Wl.sweepV t ws es)) ∧ Below W.heap.size W w') := fun h W hW => by
    obtain ⟨⟨h1, h2⟩, h3⟩ := Wl.movE_yes h
    obtain ⟨e1, e2, _⟩ := Wl.elbV_iff.1 h3
    exact sweepW_any t ws es A Aw Ae c cw ce (Wl.trk_sm h1) (fun k hk => Wl.pts_sm h2 hk) (fun k hk => (Wl.mem_reachL.1 (Wl.fitB_mem.1 (e2 k hk))).1) hl e1 (Wl.pts_all h2).2 W (prs_keep hP hW) (prs_keep hQ hW) ((hE.keep hW).more hW.size)
  clear hP hQ hE hl hle hlw
  unfold McPost mcE at HC
  generalize Wl.movE t ws es = ME at *
  generalize Wl.sweepV t ws es = SV at *
  obtain ⟨ps, cl, lo, hi⟩ := t
  unfold trV mcV at *
  dsimp only at *
  by_cases h0 : ME = 0
  · subst h0
    have HS1 := Lib.hid (HS.out rfl)
    rw [if_pos rfl] at HC
    rw [if_pos rfl]
    clear HS
    go_enter Try.func24, Try.ntmps24
    go_wp2_with fail
    have hB1 : Below w.heap.size w (w.alloc (.cells #[.slice A ps.length c, .int .i64 cl, .int .i64 lo, .int .i64 hi] 26)) := by (repeat' (first | (with_reducible exact Below.refl _ _) | (with_reducible assumption) | (with_reducible refine Below.alloc ?_ ?_ _) | (with_reducible refine Below.drew ?_) | (with_reducible refine Below.setCell ?_ ?_ _) | go_size | (exact (by simp)) | omega))
    generalize World.alloc w _ = w1 at *
    refine (HC.out _ hB1).mono ?_
    rintro e w2 ⟨rfl, hb2⟩
    have hB2 := hB1.trans (hb2.mono hB1.size)
    go_wp2_with fail
    have hB3 : Below w.heap.size w (w2.alloc (.cells #[.slice A ps.length c, .int .i64 cl, .int .i64 lo, .int .i64 hi, .slice Aw ws.length cw] 70)) := hB2.alloc hB2.size _
    generalize World.alloc w2 _ = w3 at *
    refine (HS1.out _ hB3).mono ?_
    rintro e w4 ⟨rfl, hb4⟩
    have hB4 := hB3.trans (hb4.mono hB3.size)
    go_wp2_with fail
    go_returns
    exact ⟨rfl, hB4⟩
  · rw [if_neg h0] at HC
    rw [if_neg h0]
    have hce : (ME == 0) = false := by simpa using h0
    have hcn : (ME != 0) = true := by simpa using h0
    clear HS
    go_enter Try.func24, Try.ntmps24
    go_wp2_with fail
    have hB1 : Below w.heap.size w (w.alloc (.cells #[.slice A ps.length c, .int .i64 cl, .int .i64 lo, .int .i64 hi] 26)) := by (repeat' (first | (with_reducible exact Below.refl _ _) | (with_reducible assumption) | (with_reducible refine Below.alloc ?_ ?_ _) | (with_reducible refine Below.drew ?_) | (with_reducible refine Below.setCell ?_ ?_ _) | go_size | (exact (by simp)) | omega))
    generalize World.alloc w _ = w1 at *
    refine (HC.out _ hB1).mono ?_
    rintro e w2 ⟨rfl, hb2⟩
    have hB2 := hB1.trans (hb2.mono hB1.size)
    go_wp2_with fail
    have hB3 : Below w.heap.size w (w2.alloc (.cells #[.slice none 0 0, .int .i64 0, .int .i64 0, .int .i64 0, .slice none 0 0] 70)) := hB2.alloc hB2.size _
    generalize World.alloc w2 _ = w3 at *
    try go_wp2_with fail
    go_returns
    exact ⟨rfl, hB3⟩
set_option maxRecDepth 100000 in
set_option maxHeartbeats 8000000 in
theorem TurnsW_any (t : Wl.Trk) (ws : List Wl.Pt) (es : List Int) (A Aw Ae : Option Addr) (c cw ce : Nat) (hl : t.ps.length ≤ 1000000000) (hle : es.length ≤ 1000000000) (hlw : ws.length ≤ 1000000000) (w : World) (hP : Prs w w.heap.size A t.ps) (hQ : Prs w w.heap.size Aw ws) (hE : Ints w w.heap.size (.slice Ae es.length ce) es) :
    Calls Try.prog 26 #[.agg (trV t A c), .slice Aw ws.length cw, .slice Ae es.length ce] w (TwoPost (if Wl.movE t ws es = 0 then Wl.turnsV t es else 0) (Wl.movE t ws es) w) := by
  have HC : Hid (∀ W, Below w.heap.size w W → Calls Try.prog 57 #[.agg (trV t A c), .slice Aw ws.length cw, .slice Ae es.length ce] W (McPost t A c Aw ws.length cw (Wl.movE t ws es) W)) := fun W hW => movedW_any t ws es A Aw Ae c cw ce hl hle hlw W (prs_keep hP hW) (prs_keep hQ hW) ((hE.keep hW).more hW.size)
  have HS : Hid (Wl.movE t ws es = 0 → ∀ W, Below w.heap.size w W → Calls Try.prog 61 #[.agg (mcV t A c Aw ws.length cw), .slice Ae es.length ce] W fun e w' => e = .returned (.int .i64 (Wl.turnsV t es)) ∧ Below W.heap.size W w') := fun h W hW => by
    obtain ⟨⟨h1, h2⟩, h3⟩ := Wl.movE_yes h
    obtain ⟨e1, e2, _⟩ := Wl.elbV_iff.1 h3
    have hn := (Wl.trk_parts h1).2.2
    have h8 := (Wl.pts_all h2).2
    exact turnsW_any t A Aw Ae c ws.length cw ce es (fun e he => by
      obtain ⟨k, hk, rfl⟩ := List.getElem_of_mem he
      have := (Wl.mem_reachL.1 (Wl.fitB_mem.1 (e2 k hk))).1
      unfold Wl.esAt at this
      rw [List.getElem?_eq_getElem hk] at this
      simp only [Option.getD_some] at this
      unfold smI
      omega) (by omega) hl (by omega) W ((hE.keep hW).more hW.size)
  clear hP hQ hE hl hle hlw
  unfold McPost mcE at HC
  generalize Wl.movE t ws es = ME at *
  generalize Wl.turnsV t es = SV at *
  obtain ⟨ps, cl, lo, hi⟩ := t
  unfold trV mcV at *
  dsimp only at *
  by_cases h0 : ME = 0
  · subst h0
    have HS1 := Lib.hid (HS.out rfl)
    rw [if_pos rfl] at HC
    rw [if_pos rfl]
    clear HS
    go_enter Try.func26, Try.ntmps26
    go_wp2_with fail
    have hB1 : Below w.heap.size w (w.alloc (.cells #[.slice A ps.length c, .int .i64 cl, .int .i64 lo, .int .i64 hi] 26)) := by (repeat' (first | (with_reducible exact Below.refl _ _) | (with_reducible assumption) | (with_reducible refine Below.alloc ?_ ?_ _) | (with_reducible refine Below.drew ?_) | (with_reducible refine Below.setCell ?_ ?_ _) | go_size | (exact (by simp)) | omega))
    generalize World.alloc w _ = w1 at *
    refine (HC.out _ hB1).mono ?_
    rintro e w2 ⟨rfl, hb2⟩
    have hB2 := hB1.trans (hb2.mono hB1.size)
    go_wp2_with fail
    have hB3 : Below w.heap.size w (w2.alloc (.cells #[.slice A ps.length c, .int .i64 cl, .int .i64 lo, .int .i64 hi, .slice Aw ws.length cw] 70)) := hB2.alloc hB2.size _
    generalize World.alloc w2 _ = w3 at *
    refine (HS1.out _ hB3).mono ?_
    rintro e w4 ⟨rfl, hb4⟩
    have hB4 := hB3.trans (hb4.mono hB3.size)
    go_wp2_with fail
    go_returns
    exact ⟨rfl, hB4⟩
  · rw [if_neg h0] at HC
    rw [if_neg h0]
    have hce : (ME == 0) = false := by simpa using h0
    have hcn : (ME != 0) = true := by simpa using h0
    clear HS
    go_enter Try.func26, Try.ntmps26
    go_wp2_with fail
    have hB1 : Below w.heap.size w (w.alloc (.cells #[.slice A ps.length c, .int .i64 cl, .int .i64 lo, .int .i64 hi] 26)) := by (repeat' (first | (with_reducible exact Below.refl _ _) | (with_reducible assumption) | (with_reducible refine Below.alloc ?_ ?_ _) | (with_reducible refine Below.drew ?_) | (with_reducible refine Below.setCell ?_ ?_ _) | go_size | (exact (by simp)) | omega))
    generalize World.alloc w _ = w1 at *
    refine (HC.out _ hB1).mono ?_
    rintro e w2 ⟨rfl, hb2⟩
    have hB2 := hB1.trans (hb2.mono hB1.size)
    go_wp2_with fail
    have hB3 : Below w.heap.size w (w2.alloc (.cells #[.slice none 0 0, .int .i64 0, .int .i64 0, .int .i64 0, .slice none 0 0] 70)) := hB2.alloc hB2.size _
    generalize World.alloc w2 _ = w3 at *
    try go_wp2_with fail
    go_returns
    exact ⟨rfl, hB3⟩
end Go.Proofs.Ytmjcdggmofohcaa
