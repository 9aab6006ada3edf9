/- Walks: the machine that has elbows, by the program. -/
import Derived.Test.YtmjcdggmofohcaaWlO
namespace Go.Proofs.Ytmjcdggmofohcaa
open Go.RowKit Go.Shelf
attribute [local go_sem] Oper.semAt_some
namespace Wl
/-- The error of a walk, or of one that has no elbows. -/
def setE (t : Trk) (ws : List Pt) : Int := if chkV t ws = 0 then (if (elbsL t ws).isEmpty then 3 else 0) else chkV t ws
theorem setE_yes {t : Trk} {ws : List Pt} (h : setE t ws = 0) : (trkB t = true ∧ ptsB ws = true) ∧ elbsL t ws ≠ [] := by
  unfold setE at h
  split at h
  · rename_i hc
    refine ⟨chk_yes.1 hc, fun he => ?_⟩
    rw [he] at h
    exact absurd h (by decide)
  · rename_i hc; exact absurd h hc
end Wl
set_option maxRecDepth 100000 in
set_option maxHeartbeats 8000000 in
theorem setW_err (t : Wl.Trk) (ws : List Wl.Pt) (A Aw : Option Addr) (c cw : Nat) (hl : t.ps.length ≤ 1000000000) (hlw : ws.length ≤ 1000000000) (w : World) (hP : Prs w w.heap.size A t.ps) (hQ : Prs w w.heap.size Aw ws) (h0 : Wl.chkV t ws ≠ 0) :
    Calls Try.prog 63 #[.agg (trV t A c), .slice Aw ws.length cw] w (McPost t A c Aw ws.length cw (Wl.setE t ws) w) := by
  have HC : Hid (∀ W, Below w.heap.size w W → Calls Try.prog 14 #[.agg (trV t A c), .slice Aw ws.length cw] W (ErrPost (Wl.chkV t ws) W)) := fun W hW => CheckW_any t ws A Aw c cw hl hlw W (prs_keep hP hW) (prs_keep hQ hW)
  have HS : Wl.setE t ws = Wl.chkV t ws := by unfold Wl.setE; rw [if_neg h0]
  rw [HS]
  clear hP hQ hl hlw HS
  unfold ErrPost at HC
  unfold McPost mcE
  rw [if_neg h0]
  generalize Wl.chkV t ws = SE at *
  obtain ⟨ps, cl, lo, hi⟩ := t
  unfold trV at *
  dsimp only at *
  have hce : (SE == 0) = false := by simpa using h0
  have hcn : (SE != 0) = true := by simpa using h0
  go_enter Try.func63, Try.ntmps63
  go_wp2_with fail
  have bX := (BoxS.new (w.alloc (.cells #[.slice A ps.length c, .int .i64 cl, .int .i64 lo, .int .i64 hi] 26)) 70 #[.slice none 0 0, .int .i64 0, .int .i64 0, .int .i64 0, .slice none 0 0]).alloc (.cells #[.int .i64 0] 31)
  have bE := BoxS.new ((w.alloc (.cells #[.slice A ps.length c, .int .i64 cl, .int .i64 lo, .int .i64 hi] 26)).alloc (.cells #[.slice none 0 0, .int .i64 0, .int .i64 0, .int .i64 0, .slice none 0 0] 70)) 31 #[.int .i64 0]
  simp only [World.size_alloc] at bX bE
  have hB1 : Below w.heap.size w (((w.alloc (.cells #[.slice A ps.length c, .int .i64 cl, .int .i64 lo, .int .i64 hi] 26)).alloc (.cells #[.slice none 0 0, .int .i64 0, .int .i64 0, .int .i64 0, .slice none 0 0] 70)).alloc (.cells #[.int .i64 0] 31)) := by (repeat' (first | (with_reducible exact Below.refl _ _) | (with_reducible assumption) | (with_reducible refine Below.alloc ?_ ?_ _) | (with_reducible refine Below.drew ?_) | (with_reducible refine Below.setCell ?_ ?_ _) | go_size | (exact (by simp)) | omega))
  generalize World.alloc (World.alloc (World.alloc w _) _) _ = w1 at *
  refine (HC.out _ hB1).mono ?_
  rintro e w2 ⟨rfl, hb2⟩
  have hB2 := hB1.trans (hb2.mono hB1.size)
  have bX2 := bX.below hb2
  have bE2 := bE.below hb2
  have x0 := bX2.cell 0 rfl
  have x1 := bX2.cell 1 rfl
  have x2 := bX2.cell 2 rfl
  have x3 := bX2.cell 3 rfl
  have x4 := bX2.cell 4 rfl
  have gx0 := bX2.frozen 0
  have gx1 := bX2.frozen 1
  have gx2 := bX2.frozen 2
  have gx3 := bX2.frozen 3
  have gx4 := bX2.frozen 4
  have lx := bX2.lt
  have xe := bE2.cell 0 rfl
  have fe := bE2.frozen 0
  have le := bE2.lt
  go_wp2_with fail
  have bY : BoxS ((((((w2.setCell ⟨w.heap.size + 1, 0, none⟩ (.slice none 0 0)).setCell ⟨w.heap.size + 1, 1, none⟩ (.int .i64 0)).setCell ⟨w.heap.size + 1, 2, none⟩ (.int .i64 0)).setCell ⟨w.heap.size + 1, 3, none⟩ (.int .i64 0)).setCell ⟨w.heap.size + 1, 4, none⟩ (.slice none 0 0)).setCell ⟨w.heap.size + 1 + 1, 0, none⟩ (.int .i64 SE)) (w.heap.size + 1) 70 #[.slice none 0 0, .int .i64 0, .int .i64 0, .int .i64 0, .slice none 0 0] := BoxS.away (((((bX2.put9 0 (.slice none 0 0)).put9 1 (.int .i64 0)).put9 2 (.int .i64 0)).put9 3 (.int .i64 0)).put9 4 (.slice none 0 0)) (by omega) _ _
  have y0 := bY.cell 0 rfl
  have y1 := bY.cell 1 rfl
  have y2 := bY.cell 2 rfl
  have y3 := bY.cell 3 rfl
  have y4 := bY.cell 4 rfl
  have ye : ((((((w2.setCell ⟨w.heap.size + 1, 0, none⟩ (.slice none 0 0)).setCell ⟨w.heap.size + 1, 1, none⟩ (.int .i64 0)).setCell ⟨w.heap.size + 1, 2, none⟩ (.int .i64 0)).setCell ⟨w.heap.size + 1, 3, none⟩ (.int .i64 0)).setCell ⟨w.heap.size + 1, 4, none⟩ (.slice none 0 0)).setCell ⟨w.heap.size + 1 + 1, 0, none⟩ (.int .i64 SE)).cell? ⟨w.heap.size + 1 + 1, 0, none⟩ = some (.int .i64 SE) := by
    have b5 : BoxS (((((w2.setCell ⟨w.heap.size + 1, 0, none⟩ (.slice none 0 0)).setCell ⟨w.heap.size + 1, 1, none⟩ (.int .i64 0)).setCell ⟨w.heap.size + 1, 2, none⟩ (.int .i64 0)).setCell ⟨w.heap.size + 1, 3, none⟩ (.int .i64 0)).setCell ⟨w.heap.size + 1, 4, none⟩ (.slice none 0 0)) (w.heap.size + 1 + 1) 31 #[.int .i64 0] := (((((bE2.away (by omega) _ _).away (by omega) _ _).away (by omega) _ _).away (by omega) _ _).away (by omega) _ _)
    exact (b5.put9 0 (.int .i64 SE)).cell 0 rfl
  have hBY : Below w.heap.size w ((((((w2.setCell ⟨w.heap.size + 1, 0, none⟩ (.slice none 0 0)).setCell ⟨w.heap.size + 1, 1, none⟩ (.int .i64 0)).setCell ⟨w.heap.size + 1, 2, none⟩ (.int .i64 0)).setCell ⟨w.heap.size + 1, 3, none⟩ (.int .i64 0)).setCell ⟨w.heap.size + 1, 4, none⟩ (.slice none 0 0)).setCell ⟨w.heap.size + 1 + 1, 0, none⟩ (.int .i64 SE)) := by have := hB2; (repeat' (first | (with_reducible exact Below.refl _ _) | (with_reducible assumption) | (with_reducible refine Below.alloc ?_ ?_ _) | (with_reducible refine Below.drew ?_) | (with_reducible refine Below.setCell ?_ ?_ _) | go_size | (exact (by simp)) | omega))
  refine bodyPost_ret (v := .tuple #[.agg #[.slice none 0 0, .int .i64 0, .int .i64 0, .int .i64 0, .slice none 0 0], .int .i64 SE]) (by simp [results, Try.f63, go_sem, y0, y1, y2, y3, y4, ye]) rfl ?_
  exact ⟨rfl, hBY⟩
set_option maxRecDepth 100000 in
set_option maxHeartbeats 8000000 in
theorem setW_yes (t : Wl.Trk) (ws : List Wl.Pt) (A Aw : Option Addr) (c cw : Nat) (hl : t.ps.length ≤ 1000000000) (hlw : ws.length ≤ 1000000000) (w : World) (hP : Prs w w.heap.size A t.ps) (hQ : Prs w w.heap.size Aw ws) (h0 : Wl.chkV t ws = 0) :
    Calls Try.prog 63 #[.agg (trV t A c), .slice Aw ws.length cw] w (McPost t A c Aw ws.length cw (Wl.setE t ws) w) := by
  have HC : Hid (∀ W, Below w.heap.size w W → Calls Try.prog 14 #[.agg (trV t A c), .slice Aw ws.length cw] W (ErrPost 0 W)) := fun W hW => by rw [← h0]; exact CheckW_any t ws A Aw c cw hl hlw W (prs_keep hP hW) (prs_keep hQ hW)
  obtain ⟨ht, hw⟩ := Wl.chk_yes.1 h0
  have HSEQ : Hid (∀ W, Below w.heap.size w W → SeqFarP Try.prog (ElbPr t ws W) 64 #[.agg (mcV t A c Aw ws.length cw)] #[] encEl w.heap.size (fun xs => xs.map Elb.es = Wl.elbsL t ws) (fun pre => pre.map Elb.es <+: Wl.elbsL t ws) 20000000 W) := fun W hW => elbows_far t ws A Aw c cw ht hw w.heap.size W hW.size (hP.keep hW) (hQ.keep hW)
  have HSE : Hid (Wl.setE t ws = if (Wl.elbsL t ws).isEmpty then 3 else 0) := by unfold Hid Wl.setE; rw [if_pos h0]
  clear hP hQ hl hlw h0 ht hw
  generalize Wl.setE t ws = SE at *
  generalize Wl.elbsL t ws = G at *
  unfold ErrPost at HC
  unfold McPost mcE
  obtain ⟨ps, cl, lo, hi⟩ := t
  unfold trV mcV at *
  dsimp only at *
  obtain ⟨n, hn⟩ : ∃ n : Nat, 9 ≤ n := ⟨9, Nat.le_refl _⟩
  have h1 : 1 ≤ n := by omega
  refine (callsIn_wide (n := n)).1 ?_
  refine callsIn_of_wp_marks Try.func63 rfl trivial ?_ rfl
  simp only [Try.ntmps63, List.size_toArray, List.length_cons, List.length_nil, Nat.reduceAdd, Nat.reduceSub, Array.replicate_succ, Array.replicate_zero, List.push_toArray, List.append_toArray, List.nil_append, List.cons_append]
  gi_wp2
  have bT := ((BoxS.new w 26 #[.slice A ps.length c, .int .i64 cl, .int .i64 lo, .int .i64 hi]).alloc (.cells #[.slice none 0 0, .int .i64 0, .int .i64 0, .int .i64 0, .slice none 0 0] 70)).alloc (.cells #[.int .i64 0] 31)
  have bX := (BoxS.new (w.alloc (.cells #[.slice A ps.length c, .int .i64 cl, .int .i64 lo, .int .i64 hi] 26)) 70 #[.slice none 0 0, .int .i64 0, .int .i64 0, .int .i64 0, .slice none 0 0]).alloc (.cells #[.int .i64 0] 31)
  have bE := BoxS.new ((w.alloc (.cells #[.slice A ps.length c, .int .i64 cl, .int .i64 lo, .int .i64 hi] 26)).alloc (.cells #[.slice none 0 0, .int .i64 0, .int .i64 0, .int .i64 0, .slice none 0 0] 70)) 31 #[.int .i64 0]
  simp only [World.size_alloc] at bX bE
  have hB1 : Below w.heap.size w (((w.alloc (.cells #[.slice A ps.length c, .int .i64 cl, .int .i64 lo, .int .i64 hi] 26)).alloc (.cells #[.slice none 0 0, .int .i64 0, .int .i64 0, .int .i64 0, .slice none 0 0] 70)).alloc (.cells #[.int .i64 0] 31)) := by (repeat' (first | (with_reducible exact Below.refl _ _) | (with_reducible assumption) | (with_reducible refine Below.alloc ?_ ?_ _) | (with_reducible refine Below.drew ?_) | (with_reducible refine Below.setCell ?_ ?_ _) | go_size | (exact (by simp)) | omega))
  generalize World.alloc (World.alloc (World.alloc w _) _) _ = w1 at *
  refine ⟨trivial, (callsIn_wide.2 (HC.out _ hB1)).mono ?_⟩
  rintro e w2 ⟨rfl, hb2⟩
  have hB2 := hB1.trans (hb2.mono hB1.size)
  have bT2 := bT.below hb2
  have bX2 := bX.below hb2
  have bE2 := bE.below hb2
  have t0 := bT2.cell 0 rfl
  have t1 := bT2.cell 1 rfl
  have t2 := bT2.cell 2 rfl
  have t3 := bT2.cell 3 rfl
  have lT := bT2.lt
  have lE := bE2.lt
  clear bT bX bE hb2 hB1 HC
  gi_wp2
  have bM := BoxS.new w2 70 #[.slice A ps.length c, .int .i64 cl, .int .i64 lo, .int .i64 hi, .slice Aw ws.length cw]
  have bX3 := bX2.alloc (.cells #[.slice A ps.length c, .int .i64 cl, .int .i64 lo, .int .i64 hi, .slice Aw ws.length cw] 70)
  have bE3 := bE2.alloc (.cells #[.slice A ps.length c, .int .i64 cl, .int .i64 lo, .int .i64 hi, .slice Aw ws.length cw] 70)
  have hB3 : Below w.heap.size w (w2.alloc (.cells #[.slice A ps.length c, .int .i64 cl, .int .i64 lo, .int .i64 hi, .slice Aw ws.length cw] 70)) := hB2.alloc hB2.size _
  have hsz : (w2.alloc (.cells #[.slice A ps.length c, .int .i64 cl, .int .i64 lo, .int .i64 hi, .slice Aw ws.length cw] 70)).heap.size = w2.heap.size + 1 := by simp
  have hws := hB2.size
  clear bT2 bX2 bE2 t0 t1 t2 t3 lT hB2
  obtain ⟨W0, hW0⟩ : ∃ W0, (w2.alloc (.cells #[.slice A ps.length c, .int .i64 cl, .int .i64 lo, .int .i64 hi, .slice Aw ws.length cw] 70)) = W0 := ⟨_, rfl⟩
  rw [hW0] at bM bX3 bE3 hB3 hsz
  try rw [hW0]
  clear hW0
  refine wpIn_farP (n₀ := w.heap.size) (gf := 64) (pb := #[.agg #[.slice A ps.length c, .int .i64 cl, .int .i64 lo, .int .i64 hi, .slice Aw ws.length cw]]) (lb := #[]) rfl (enters_of Try.func64 (by kernel_rfl) rfl)
    (HSEQ.out W0 hB3) (Below.refl _ _) (by omega) (fun _ => rfl)
    (fun pre V => (((pre = [] ∧ BoxS V (w.heap.size + 1) 70 #[.slice none 0 0, .int .i64 0, .int .i64 0, .int .i64 0, .slice none 0 0]) ∧ BoxS V (w.heap.size + 1 + 1) 31 #[.int .i64 0]) ∧ BoxS V w2.heap.size 70 #[.slice A ps.length c, .int .i64 cl, .int .i64 lo, .int .i64 hi, .slice Aw ws.length cw]) ∧ Below w.heap.size w V)
    (fun cc pre V => (((cc = .ret ∧ pre ≠ []) ∧ BoxS V (w.heap.size + 1) 70 #[.slice A ps.length c, .int .i64 cl, .int .i64 lo, .int .i64 hi, .slice Aw ws.length cw]) ∧ BoxS V (w.heap.size + 1 + 1) 31 #[.int .i64 0]) ∧ Below w.heap.size w V)
    (OwnFrom.and (OwnFrom.and (OwnFrom.and (OwnFrom.and (ownFrom_pure _ _) (Own.from (boxS_own _ _ (fun _ => _)) _)) (Own.from (boxS_own _ _ (fun _ => _)) _)) (Own.from (boxS_own _ _ (fun _ => _)) _)) (ownFrom_below (Nat.le_refl _) (by omega)))
    (fun cc => OwnFrom.and (OwnFrom.and (OwnFrom.and (ownFrom_pure _ _) (Own.from (boxS_own _ _ (fun _ => _)) _)) (Own.from (boxS_own _ _ (fun _ => _)) _)) (ownFrom_below (Nat.le_refl _) (by omega)))
    ⟨⟨⟨⟨rfl, bX3⟩, bE3⟩, bM⟩, hB3⟩
    (fun x a' _ => a' = { tmps := #[.agg #[.slice A ps.length c, .int .i64 cl, .int .i64 lo, .int .i64 hi], .slice Aw ws.length cw, .pointer (some ⟨w.heap.size, 0, none⟩), undef, .pointer (some ⟨w.heap.size + 1, 0, none⟩), .pointer (some ⟨w.heap.size + 1 + 1, 0, none⟩), .int .i64 0, .pointer (some ⟨w2.heap.size, 0, none⟩), .agg #[.slice A ps.length c, .int .i64 cl, .int .i64 lo, .int .i64 hi], .slice Aw ws.length cw, .int .i64 0, .int .i64 0, .bool false, undef, undef, .agg #[.slice A ps.length c, .int .i64 cl, .int .i64 lo, .int .i64 hi], .slice Aw ws.length cw, .agg #[.slice A ps.length c, .int .i64 cl, .int .i64 lo, .int .i64 hi, .slice Aw ws.length cw], .agg #[.slice A ps.length c, .int .i64 cl, .int .i64 lo, .int .i64 hi, .slice Aw ws.length cw], .func (.func 64) #[.agg #[.slice A ps.length c, .int .i64 cl, .int .i64 lo, .int .i64 hi, .slice Aw ws.length cw]] #[], .slice x.A x.es.length x.c, undef, undef], defers := [] })
    (fun x a' _ X Y row hs hg hr => hs)
    ?assign ?body ?done ?stop
  case assign =>
    rintro l pre x V K hI hpr hK
    unfold encEl
    gi_wp2
    exact hK _ _ (Apart.refl _ _ _) hI (by go_simp)
  case body =>
    rintro l pre x a' V ⟨⟨⟨⟨rfl, bX⟩, bE⟩, bM⟩, hB⟩ rfl hlt
    have x0 := bX.cell 0 rfl
    have x1 := bX.cell 1 rfl
    have x2 := bX.cell 2 rfl
    have x3 := bX.cell 3 rfl
    have x4 := bX.cell 4 rfl
    have gx0 := bX.frozen 0
    have gx1 := bX.frozen 1
    have gx2 := bX.frozen 2
    have gx3 := bX.frozen 3
    have gx4 := bX.frozen 4
    have lx := bX.lt
    have m0 := bM.cell 0 rfl
    have m1 := bM.cell 1 rfl
    have m2 := bM.cell 2 rfl
    have m3 := bM.cell 3 rfl
    have m4 := bM.cell 4 rfl
    have lm := bM.lt
    have xe := bE.cell 0 rfl
    have fe := bE.frozen 0
    have le := bE.lt
    gi_wp2
    have bY : BoxS ((((((V.setCell ⟨w.heap.size + 1, 0, none⟩ (.slice A ps.length c)).setCell ⟨w.heap.size + 1, 1, none⟩ (.int .i64 cl)).setCell ⟨w.heap.size + 1, 2, none⟩ (.int .i64 lo)).setCell ⟨w.heap.size + 1, 3, none⟩ (.int .i64 hi)).setCell ⟨w.heap.size + 1, 4, none⟩ (.slice Aw ws.length cw)).setCell ⟨w.heap.size + 1 + 1, 0, none⟩ (.int .i64 0)) (w.heap.size + 1) 70 #[.slice A ps.length c, .int .i64 cl, .int .i64 lo, .int .i64 hi, .slice Aw ws.length cw] := BoxS.away (((((bX.put9 0 (.slice A ps.length c)).put9 1 (.int .i64 cl)).put9 2 (.int .i64 lo)).put9 3 (.int .i64 hi)).put9 4 (.slice Aw ws.length cw)) (by omega) _ _
    have bYE : BoxS ((((((V.setCell ⟨w.heap.size + 1, 0, none⟩ (.slice A ps.length c)).setCell ⟨w.heap.size + 1, 1, none⟩ (.int .i64 cl)).setCell ⟨w.heap.size + 1, 2, none⟩ (.int .i64 lo)).setCell ⟨w.heap.size + 1, 3, none⟩ (.int .i64 hi)).setCell ⟨w.heap.size + 1, 4, none⟩ (.slice Aw ws.length cw)).setCell ⟨w.heap.size + 1 + 1, 0, none⟩ (.int .i64 0)) (w.heap.size + 1 + 1) 31 #[.int .i64 0] := ((((((bE.away (by omega) _ _).away (by omega) _ _).away (by omega) _ _).away (by omega) _ _).away (by omega) _ _).put9 0 (.int .i64 0))
    have hBY : Below w.heap.size w ((((((V.setCell ⟨w.heap.size + 1, 0, none⟩ (.slice A ps.length c)).setCell ⟨w.heap.size + 1, 1, none⟩ (.int .i64 cl)).setCell ⟨w.heap.size + 1, 2, none⟩ (.int .i64 lo)).setCell ⟨w.heap.size + 1, 3, none⟩ (.int .i64 hi)).setCell ⟨w.heap.size + 1, 4, none⟩ (.slice Aw ws.length cw)).setCell ⟨w.heap.size + 1 + 1, 0, none⟩ (.int .i64 0)) := by have := hB; (repeat' (first | (with_reducible exact Below.refl _ _) | (with_reducible assumption) | (with_reducible refine Below.alloc ?_ ?_ _) | (with_reducible refine Below.drew ?_) | (with_reducible refine Below.setCell ?_ ?_ _) | go_size | (exact (by simp)) | omega))
    have hAY : Apart w.heap.size W0.heap.size V ((((((V.setCell ⟨w.heap.size + 1, 0, none⟩ (.slice A ps.length c)).setCell ⟨w.heap.size + 1, 1, none⟩ (.int .i64 cl)).setCell ⟨w.heap.size + 1, 2, none⟩ (.int .i64 lo)).setCell ⟨w.heap.size + 1, 3, none⟩ (.int .i64 hi)).setCell ⟨w.heap.size + 1, 4, none⟩ (.slice Aw ws.length cw)).setCell ⟨w.heap.size + 1 + 1, 0, none⟩ (.int .i64 0)) := (((((((Apart.refl _ _ _).trans (Apart.setCell _ _ (by first | omega | (simp; done) | (simp; omega)) (by first | omega | (simp; done) | (simp; omega)) _)).trans (Apart.setCell _ _ (by first | omega | (simp; done) | (simp; omega)) (by first | omega | (simp; done) | (simp; omega)) _)).trans (Apart.setCell _ _ (by first | omega | (simp; done) | (simp; omega)) (by first | omega | (simp; done) | (simp; omega)) _)).trans (Apart.setCell _ _ (by first | omega | (simp; done) | (simp; omega)) (by first | omega | (simp; done) | (simp; omega)) _)).trans (Apart.setCell _ _ (by first | omega | (simp; done) | (simp; omega)) (by first | omega | (simp; done) | (simp; omega)) _)).trans (Apart.setCell _ _ (by first | omega | (simp; done) | (simp; omega)) (by first | omega | (simp; done) | (simp; omega)) _))
    exact ⟨hAY, ⟨⟨⟨rfl, by simp⟩, bY⟩, bYE⟩, hBY⟩
  case done =>
    rintro D zs V hD hzs ⟨⟨⟨⟨rfl, bX⟩, bE⟩, bM⟩, hB⟩ hK
    have hG : G = [] := hzs.symm
    have hS : Hid (SE = 3) := by unfold Hid; rw [HSE.out, hG]; rfl
    clear HSE hzs hG
    subst hS
    have x0 := bX.cell 0 rfl
    have x1 := bX.cell 1 rfl
    have x2 := bX.cell 2 rfl
    have x3 := bX.cell 3 rfl
    have x4 := bX.cell 4 rfl
    have gx0 := bX.frozen 0
    have gx1 := bX.frozen 1
    have gx2 := bX.frozen 2
    have gx3 := bX.frozen 3
    have gx4 := bX.frozen 4
    have lx := bX.lt
    have xe := bE.cell 0 rfl
    have fe := bE.frozen 0
    have le := bE.lt
    gi_wp2
    have hDV := (Array.getElem?_eq_some_iff.1 hK).1
    have bY : BoxS ((((((V.setCell ⟨w.heap.size + 1, 0, none⟩ (.slice none 0 0)).setCell ⟨w.heap.size + 1, 1, none⟩ (.int .i64 0)).setCell ⟨w.heap.size + 1, 2, none⟩ (.int .i64 0)).setCell ⟨w.heap.size + 1, 3, none⟩ (.int .i64 0)).setCell ⟨w.heap.size + 1, 4, none⟩ (.slice none 0 0)).setCell ⟨w.heap.size + 1 + 1, 0, none⟩ (.int .i64 3)) (w.heap.size + 1) 70 #[.slice none 0 0, .int .i64 0, .int .i64 0, .int .i64 0, .slice none 0 0] := BoxS.away (((((bX.put9 0 (.slice none 0 0)).put9 1 (.int .i64 0)).put9 2 (.int .i64 0)).put9 3 (.int .i64 0)).put9 4 (.slice none 0 0)) (by omega) _ _
    have bYE : BoxS ((((((V.setCell ⟨w.heap.size + 1, 0, none⟩ (.slice none 0 0)).setCell ⟨w.heap.size + 1, 1, none⟩ (.int .i64 0)).setCell ⟨w.heap.size + 1, 2, none⟩ (.int .i64 0)).setCell ⟨w.heap.size + 1, 3, none⟩ (.int .i64 0)).setCell ⟨w.heap.size + 1, 4, none⟩ (.slice none 0 0)).setCell ⟨w.heap.size + 1 + 1, 0, none⟩ (.int .i64 3)) (w.heap.size + 1 + 1) 31 #[.int .i64 3] := ((((((bE.away (by omega) _ _).away (by omega) _ _).away (by omega) _ _).away (by omega) _ _).away (by omega) _ _).put9 0 (.int .i64 3))
    have hBY : Below w.heap.size w ((((((V.setCell ⟨w.heap.size + 1, 0, none⟩ (.slice none 0 0)).setCell ⟨w.heap.size + 1, 1, none⟩ (.int .i64 0)).setCell ⟨w.heap.size + 1, 2, none⟩ (.int .i64 0)).setCell ⟨w.heap.size + 1, 3, none⟩ (.int .i64 0)).setCell ⟨w.heap.size + 1, 4, none⟩ (.slice none 0 0)).setCell ⟨w.heap.size + 1 + 1, 0, none⟩ (.int .i64 3)) := by have := hB; (repeat' (first | (with_reducible exact Below.refl _ _) | (with_reducible assumption) | (with_reducible refine Below.alloc ?_ ?_ _) | (with_reducible refine Below.drew ?_) | (with_reducible refine Below.setCell ?_ ?_ _) | go_size | (exact (by simp)) | omega))
    have hK' : ((((((V.setCell ⟨w.heap.size + 1, 0, none⟩ (.slice none 0 0)).setCell ⟨w.heap.size + 1, 1, none⟩ (.int .i64 0)).setCell ⟨w.heap.size + 1, 2, none⟩ (.int .i64 0)).setCell ⟨w.heap.size + 1, 3, none⟩ (.int .i64 0)).setCell ⟨w.heap.size + 1, 4, none⟩ (.slice none 0 0)).setCell ⟨w.heap.size + 1 + 1, 0, none⟩ (.int .i64 3)).heap[D]? = some (.deferred (some [])) := by
      refine (Below.heap_setCell _ _ _ D (by show D ≠ _; simp; omega)).trans ?_
      iterate 5 refine (Below.heap_setCell _ _ _ D (by show D ≠ _; simp; omega)).trans ?_
      exact hK
    refine ⟨by simp, .inl ⟨_, _, rfl, run_takeDeferred hK', ?_⟩⟩
    have bZ := bY.kept (grownBy_putObj' _ D (.deferred none)) (by simp; omega)
    have bZE := bYE.kept (grownBy_putObj' _ D (.deferred none)) (by simp; omega)
    have y0 := bZ.cell 0 rfl
    have y1 := bZ.cell 1 rfl
    have y2 := bZ.cell 2 rfl
    have y3 := bZ.cell 3 rfl
    have y4 := bZ.cell 4 rfl
    have ye := bZE.cell 0 rfl
    refine ⟨.tuple #[.agg #[.slice none 0 0, .int .i64 0, .int .i64 0, .int .i64 0, .slice none 0 0], .int .i64 3], ?_, rfl, hBY.trans (belowK_b (w := w) (Nat.le_refl _) _ D _ _ (by omega) hK' rfl rfl)⟩
    simp [results, Try.f63, go_sem, y0, y1, y2, y3, y4, ye]
  case stop =>
    rintro D cc pre V hD hpre ⟨⟨⟨⟨rfl, hne⟩, bX⟩, bE⟩, hB⟩ hK
    have hS : Hid (SE = 0) := by
      unfold Hid
      rw [HSE.out]
      cases hG : G with
      | nil =>
        rw [hG] at hpre
        have := List.prefix_nil.1 hpre
        exact absurd (List.map_eq_nil_iff.1 this) hne
      | cons g G => rfl
    clear HSE hpre hne
    subst hS
    gi_wp2
    refine ⟨by simp, .inl ⟨_, _, rfl, run_takeDeferred hK, ?_⟩⟩
    have bZ := bX.kept (grownBy_putObj' _ D (.deferred none)) (by simp; omega)
    have bZE := bE.kept (grownBy_putObj' _ D (.deferred none)) (by simp; omega)
    have y0 := bZ.cell 0 rfl
    have y1 := bZ.cell 1 rfl
    have y2 := bZ.cell 2 rfl
    have y3 := bZ.cell 3 rfl
    have y4 := bZ.cell 4 rfl
    have ye := bZE.cell 0 rfl
    refine ⟨.tuple #[.agg #[.slice A ps.length c, .int .i64 cl, .int .i64 lo, .int .i64 hi, .slice Aw ws.length cw], .int .i64 0], ?_, rfl, hB.trans (belowK_b (w := w) (Nat.le_refl _) V D _ _ (by omega) hK rfl rfl)⟩
    simp [results, Try.f63, go_sem, y0, y1, y2, y3, y4, ye]
theorem setW_any (t : Wl.Trk) (ws : List Wl.Pt) (A Aw : Option Addr) (c cw : Nat) (hl : t.ps.length ≤ 1000000000) (hlw : ws.length ≤ 1000000000) (w : World) (hP : Prs w w.heap.size A t.ps) (hQ : Prs w w.heap.size Aw ws) :
    Calls Try.prog 63 #[.agg (trV t A c), .slice Aw ws.length cw] w (McPost t A c Aw ws.length cw (Wl.setE t ws) w) := by
  by_cases h0 : Wl.chkV t ws = 0
  · exact setW_yes t ws A Aw c cw hl hlw w hP hQ h0
  · exact setW_err t ws A Aw c cw hl hlw w hP hQ h0
end Go.Proofs.Ytmjcdggmofohcaa
