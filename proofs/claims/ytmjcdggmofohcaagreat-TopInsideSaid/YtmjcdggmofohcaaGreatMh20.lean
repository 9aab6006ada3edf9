/- Texts of this proof, one behind the other: WlW, MapZ, WlY, WxBas, InsP, WxInP. Each says its own conditions. -/
import Derived.Test.YtmjcdggmofohcaaGreatMh07
import Derived.Test.YtmjcdggmofohcaaGreatMh12
import Derived.Test.YtmjcdggmofohcaaGreatMh14
import Derived.Test.YtmjcdggmofohcaaGreatMh15
import Derived.Test.YtmjcdggmofohcaaGreatMh16
import Derived.Test.YtmjcdggmofohcaaGreatMh18
import Derived.Test.YtmjcdggmofohcaaGreatMh19
import Derived.Maps.OwnIn
namespace Go.Proofs.YtmjcdggmofohcaaGreat
open Go.RowKit Go.Shelf
attribute [local go_sem] Oper.semAt_some
namespace Wl
/-- The error of a walk, or of one that has no elbows. -/
def setE (t : Trk) (ws : List Pt) : Int := if chkV t ws = 0 then (if (elbsL t ws).isEmpty then 3 else 0) else chkV t ws
theorem setE_yes {t : Trk} {ws : List Pt} (h : setE t ws = 0) : (trkB t = true ∧ ptsB ws = true) ∧ elbsL t ws ≠ [] := by
  unfold setE at h
  split at h
  · rename_i hc
    refine ⟨chk_yes.1 hc, fun he => ?_⟩
    rw [he] at h
    exact absurd h (by decide)
  · rename_i hc; exact absurd h hc
end Wl
set_option maxRecDepth 100000 in
set_option maxHeartbeats 8000000 in
theorem setW_err (t : Wl.Trk) (ws : List Wl.Pt) (A Aw : Option Addr) (c cw : Nat) (hl : t.ps.length ≤ 1000000000) (hlw : ws.length ≤ 1000000000) (w : World) (hP : Prs w w.heap.size A t.ps) (hQ : Prs w w.heap.size Aw ws) (h0 : Wl.chkV t ws ≠ 0) :
    Calls Tryz.prog 27 #[.agg (trV t A c), .slice Aw ws.length cw] w (McPost t A c Aw ws.length cw (Wl.setE t ws) w) := by
  have HC : Hid (∀ W, Below w.heap.size w W → Calls Tryz.prog 55 #[.agg (trV t A c), .slice Aw ws.length cw] W (ErrPost (Wl.chkV t ws) W)) := fun W hW => CheckW_any t ws A Aw c cw hl hlw W (prs_keep hP hW) (prs_keep hQ hW)
  have HS : Wl.setE t ws = Wl.chkV t ws := by unfold Wl.setE; rw [if_neg h0]
  rw [HS]
  clear hP hQ hl hlw HS
  unfold ErrPost at HC
  unfold McPost mcE
  rw [if_neg h0]
  generalize Wl.chkV t ws = SE at *
  obtain ⟨ps, cl, lo, hi⟩ := t
  unfold trV at *
  dsimp only at *
  have hce : (SE == 0) = false := by simpa using h0
  have hcn : (SE != 0) = true := by simpa using h0
  go_enter Tryz.func27, Tryz.ntmps27
  go_wp2_with fail
  have bX := (BoxS.new (w.alloc (.cells #[.slice A ps.length c, .int .i64 cl, .int .i64 lo, .int .i64 hi] 26)) 61 #[.slice none 0 0, .int .i64 0, .int .i64 0, .int .i64 0, .slice none 0 0]).alloc (.cells #[.int .i64 0] 29)
  have bE := BoxS.new ((w.alloc (.cells #[.slice A ps.length c, .int .i64 cl, .int .i64 lo, .int .i64 hi] 26)).alloc (.cells #[.slice none 0 0, .int .i64 0, .int .i64 0, .int .i64 0, .slice none 0 0] 61)) 29 #[.int .i64 0]
  simp only [World.size_alloc] at bX bE
  have hB1 : Below w.heap.size w (((w.alloc (.cells #[.slice A ps.length c, .int .i64 cl, .int .i64 lo, .int .i64 hi] 26)).alloc (.cells #[.slice none 0 0, .int .i64 0, .int .i64 0, .int .i64 0, .slice none 0 0] 61)).alloc (.cells #[.int .i64 0] 29)) := by (repeat' (first | (with_reducible exact Below.refl _ _) | (with_reducible assumption) | (with_reducible refine Below.alloc ?_ ?_ _) | (with_reducible refine Below.drew ?_) | (with_reducible refine Below.setCell ?_ ?_ _) | go_size | (exact (by simp)) | omega))
  generalize World.alloc (World.alloc (World.alloc w _) _) _ = w1 at *
  refine (HC.out _ hB1).mono ?_
  rintro e w2 ⟨rfl, hb2⟩
  have hB2 := hB1.trans (hb2.mono hB1.size)
  have bX2 := bX.below hb2
  have bE2 := bE.below hb2
  have x0 := bX2.cell 0 rfl
  have x1 := bX2.cell 1 rfl
  have x2 := bX2.cell 2 rfl
  have x3 := bX2.cell 3 rfl
  have x4 := bX2.cell 4 rfl
  have gx0 := bX2.frozen 0
  have gx1 := bX2.frozen 1
  have gx2 := bX2.frozen 2
  have gx3 := bX2.frozen 3
  have gx4 := bX2.frozen 4
  have lx := bX2.lt
  have xe := bE2.cell 0 rfl
  have fe := bE2.frozen 0
  have le := bE2.lt
  go_wp2_with fail
  have bY : BoxS ((((((w2.setCell ⟨w.heap.size + 1, 0, none⟩ (.slice none 0 0)).setCell ⟨w.heap.size + 1, 1, none⟩ (.int .i64 0)).setCell ⟨w.heap.size + 1, 2, none⟩ (.int .i64 0)).setCell ⟨w.heap.size + 1, 3, none⟩ (.int .i64 0)).setCell ⟨w.heap.size + 1, 4, none⟩ (.slice none 0 0)).setCell ⟨w.heap.size + 1 + 1, 0, none⟩ (.int .i64 SE)) (w.heap.size + 1) 61 #[.slice none 0 0, .int .i64 0, .int .i64 0, .int .i64 0, .slice none 0 0] := BoxS.away (((((bX2.put9 0 (.slice none 0 0)).put9 1 (.int .i64 0)).put9 2 (.int .i64 0)).put9 3 (.int .i64 0)).put9 4 (.slice none 0 0)) (by omega) _ _
  have y0 := bY.cell 0 rfl
  have y1 := bY.cell 1 rfl
  have y2 := bY.cell 2 rfl
  have y3 := bY.cell 3 rfl
  have y4 := bY.cell 4 rfl
  have ye : ((((((w2.setCell ⟨w.heap.size + 1, 0, none⟩ (.slice none 0 0)).setCell ⟨w.heap.size + 1, 1, none⟩ (.int .i64 0)).setCell ⟨w.heap.size + 1, 2, none⟩ (.int .i64 0)).setCell ⟨w.heap.size + 1, 3, none⟩ (.int .i64 0)).setCell ⟨w.heap.size + 1, 4, none⟩ (.slice none 0 0)).setCell ⟨w.heap.size + 1 + 1, 0, none⟩ (.int .i64 SE)).cell? ⟨w.heap.size + 1 + 1, 0, none⟩ = some (.int .i64 SE) := by
    have b5 : BoxS (((((w2.setCell ⟨w.heap.size + 1, 0, none⟩ (.slice none 0 0)).setCell ⟨w.heap.size + 1, 1, none⟩ (.int .i64 0)).setCell ⟨w.heap.size + 1, 2, none⟩ (.int .i64 0)).setCell ⟨w.heap.size + 1, 3, none⟩ (.int .i64 0)).setCell ⟨w.heap.size + 1, 4, none⟩ (.slice none 0 0)) (w.heap.size + 1 + 1) 29 #[.int .i64 0] := (((((bE2.away (by omega) _ _).away (by omega) _ _).away (by omega) _ _).away (by omega) _ _).away (by omega) _ _)
    exact (b5.put9 0 (.int .i64 SE)).cell 0 rfl
  have hBY : Below w.heap.size w ((((((w2.setCell ⟨w.heap.size + 1, 0, none⟩ (.slice none 0 0)).setCell ⟨w.heap.size + 1, 1, none⟩ (.int .i64 0)).setCell ⟨w.heap.size + 1, 2, none⟩ (.int .i64 0)).setCell ⟨w.heap.size + 1, 3, none⟩ (.int .i64 0)).setCell ⟨w.heap.size + 1, 4, none⟩ (.slice none 0 0)).setCell ⟨w.heap.size + 1 + 1, 0, none⟩ (.int .i64 SE)) := by have := hB2; (repeat' (first | (with_reducible exact Below.refl _ _) | (with_reducible assumption) | (with_reducible refine Below.alloc ?_ ?_ _) | (with_reducible refine Below.drew ?_) | (with_reducible refine Below.setCell ?_ ?_ _) | go_size | (exact (by simp)) | omega))
  refine bodyPost_ret (v := .tuple #[.agg #[.slice none 0 0, .int .i64 0, .int .i64 0, .int .i64 0, .slice none 0 0], .int .i64 SE]) (by simp [results, Tryz.f27, go_sem, y0, y1, y2, y3, y4, ye]) rfl ?_
  exact ⟨rfl, hBY⟩
set_option maxRecDepth 100000 in
set_option maxHeartbeats 8000000 in
theorem setW_yes (t : Wl.Trk) (ws : List Wl.Pt) (A Aw : Option Addr) (c cw : Nat) (hl : t.ps.length ≤ 1000000000) (hlw : ws.length ≤ 1000000000) (w : World) (hP : Prs w w.heap.size A t.ps) (hQ : Prs w w.heap.size Aw ws) (h0 : Wl.chkV t ws = 0) :
    Calls Tryz.prog 27 #[.agg (trV t A c), .slice Aw ws.length cw] w (McPost t A c Aw ws.length cw (Wl.setE t ws) w) := by
  have HC : Hid (∀ W, Below w.heap.size w W → Calls Tryz.prog 55 #[.agg (trV t A c), .slice Aw ws.length cw] W (ErrPost 0 W)) := fun W hW => by rw [← h0]; exact CheckW_any t ws A Aw c cw hl hlw W (prs_keep hP hW) (prs_keep hQ hW)
  obtain ⟨ht, hw⟩ := Wl.chk_yes.1 h0
  have HSEQ : Hid (∀ W, Below w.heap.size w W → SeqFarP Tryz.prog (ElbPr t ws W) 28 #[.agg (mcV t A c Aw ws.length cw)] #[] encEl w.heap.size (fun xs => xs.map Elb.es = Wl.elbsL t ws) (fun pre => pre.map Elb.es <+: Wl.elbsL t ws) 20000000 W) := fun W hW => elbows_far t ws A Aw c cw ht hw w.heap.size W hW.size (hP.keep hW) (hQ.keep hW)
  have HSE : Hid (Wl.setE t ws = if (Wl.elbsL t ws).isEmpty then 3 else 0) := by unfold Hid Wl.setE; rw [if_pos h0]
  clear hP hQ hl hlw h0 ht hw
  generalize Wl.setE t ws = SE at *
  generalize Wl.elbsL t ws = G at *
  unfold ErrPost at HC
  unfold McPost mcE
  obtain ⟨ps, cl, lo, hi⟩ := t
  unfold trV mcV at *
  dsimp only at *
  obtain ⟨n, hn⟩ : ∃ n : Nat, 9 ≤ n := ⟨9, Nat.le_refl _⟩
  have h1 : 1 ≤ n := by omega
  refine (callsIn_wide (n := n)).1 ?_
  refine callsIn_of_wp_marks Tryz.func27 rfl trivial ?_ rfl
  simp only [Tryz.ntmps27, List.size_toArray, List.length_cons, List.length_nil, Nat.reduceAdd, Nat.reduceSub, Array.replicate_succ, Array.replicate_zero, List.push_toArray, List.append_toArray, List.nil_append, List.cons_append]
  gi_wp2
  have bT := ((BoxS.new w 26 #[.slice A ps.length c, .int .i64 cl, .int .i64 lo, .int .i64 hi]).alloc (.cells #[.slice none 0 0, .int .i64 0, .int .i64 0, .int .i64 0, .slice none 0 0] 61)).alloc (.cells #[.int .i64 0] 29)
  have bX := (BoxS.new (w.alloc (.cells #[.slice A ps.length c, .int .i64 cl, .int .i64 lo, .int .i64 hi] 26)) 61 #[.slice none 0 0, .int .i64 0, .int .i64 0, .int .i64 0, .slice none 0 0]).alloc (.cells #[.int .i64 0] 29)
  have bE := BoxS.new ((w.alloc (.cells #[.slice A ps.length c, .int .i64 cl, .int .i64 lo, .int .i64 hi] 26)).alloc (.cells #[.slice none 0 0, .int .i64 0, .int .i64 0, .int .i64 0, .slice none 0 0] 61)) 29 #[.int .i64 0]
  simp only [World.size_alloc] at bX bE
  have hB1 : Below w.heap.size w (((w.alloc (.cells #[.slice A ps.length c, .int .i64 cl, .int .i64 lo, .int .i64 hi] 26)).alloc (.cells #[.slice none 0 0, .int .i64 0, .int .i64 0, .int .i64 0, .slice none 0 0] 61)).alloc (.cells #[.int .i64 0] 29)) := by (repeat' (first | (with_reducible exact Below.refl _ _) | (with_reducible assumption) | (with_reducible refine Below.alloc ?_ ?_ _) | (with_reducible refine Below.drew ?_) | (with_reducible refine Below.setCell ?_ ?_ _) | go_size | (exact (by simp)) | omega))
  generalize World.alloc (World.alloc (World.alloc w _) _) _ = w1 at *
  refine ⟨trivial, (callsIn_wide.2 (HC.out _ hB1)).mono ?_⟩
  rintro e w2 ⟨rfl, hb2⟩
  have hB2 := hB1.trans (hb2.mono hB1.size)
  have bT2 := bT.below hb2
  have bX2 := bX.below hb2
  have bE2 := bE.below hb2
  have t0 := bT2.cell 0 rfl
  have t1 := bT2.cell 1 rfl
  have t2 := bT2.cell 2 rfl
  have t3 := bT2.cell 3 rfl
  have lT := bT2.lt
  have lE := bE2.lt
  clear bT bX bE hb2 hB1 HC
  gi_wp2
  have bM := BoxS.new w2 61 #[.slice A ps.length c, .int .i64 cl, .int .i64 lo, .int .i64 hi, .slice Aw ws.length cw]
  have bX3 := bX2.alloc (.cells #[.slice A ps.length c, .int .i64 cl, .int .i64 lo, .int .i64 hi, .slice Aw ws.length cw] 61)
  have bE3 := bE2.alloc (.cells #[.slice A ps.length c, .int .i64 cl, .int .i64 lo, .int .i64 hi, .slice Aw ws.length cw] 61)
  have hB3 : Below w.heap.size w (w2.alloc (.cells #[.slice A ps.length c, .int .i64 cl, .int .i64 lo, .int .i64 hi, .slice Aw ws.length cw] 61)) := hB2.alloc hB2.size _
  have hsz : (w2.alloc (.cells #[.slice A ps.length c, .int .i64 cl, .int .i64 lo, .int .i64 hi, .slice Aw ws.length cw] 61)).heap.size = w2.heap.size + 1 := by simp
  have hws := hB2.size
  clear bT2 bX2 bE2 t0 t1 t2 t3 lT hB2
  obtain ⟨W0, hW0⟩ : ∃ W0, (w2.alloc (.cells #[.slice A ps.length c, .int .i64 cl, .int .i64 lo, .int .i64 hi, .slice Aw ws.length cw] 61)) = W0 := ⟨_, rfl⟩
  rw [hW0] at bM bX3 bE3 hB3 hsz
  try rw [hW0]
  clear hW0
  refine wpIn_farP (n₀ := w.heap.size) (gf := 28) (pb := #[.agg #[.slice A ps.length c, .int .i64 cl, .int .i64 lo, .int .i64 hi, .slice Aw ws.length cw]]) (lb := #[]) rfl (enters_of Tryz.func28 (by kernel_rfl) rfl)
    (HSEQ.out W0 hB3) (Below.refl _ _) (by omega) (fun _ => rfl)
    (fun pre V => (((pre = [] ∧ BoxS V (w.heap.size + 1) 61 #[.slice none 0 0, .int .i64 0, .int .i64 0, .int .i64 0, .slice none 0 0]) ∧ BoxS V (w.heap.size + 1 + 1) 29 #[.int .i64 0]) ∧ BoxS V w2.heap.size 61 #[.slice A ps.length c, .int .i64 cl, .int .i64 lo, .int .i64 hi, .slice Aw ws.length cw]) ∧ Below w.heap.size w V)
    (fun cc pre V => (((cc = .ret ∧ pre ≠ []) ∧ BoxS V (w.heap.size + 1) 61 #[.slice A ps.length c, .int .i64 cl, .int .i64 lo, .int .i64 hi, .slice Aw ws.length cw]) ∧ BoxS V (w.heap.size + 1 + 1) 29 #[.int .i64 0]) ∧ Below w.heap.size w V)
    (OwnFrom.and (OwnFrom.and (OwnFrom.and (OwnFrom.and (ownFrom_pure _ _) (Own.from (boxS_own _ _ (fun _ => _)) _)) (Own.from (boxS_own _ _ (fun _ => _)) _)) (Own.from (boxS_own _ _ (fun _ => _)) _)) (ownFrom_below (Nat.le_refl _) (by omega)))
    (fun cc => OwnFrom.and (OwnFrom.and (OwnFrom.and (ownFrom_pure _ _) (Own.from (boxS_own _ _ (fun _ => _)) _)) (Own.from (boxS_own _ _ (fun _ => _)) _)) (ownFrom_below (Nat.le_refl _) (by omega)))
    ⟨⟨⟨⟨rfl, bX3⟩, bE3⟩, bM⟩, hB3⟩
    (fun x a' _ => a' = { tmps := #[.agg #[.slice A ps.length c, .int .i64 cl, .int .i64 lo, .int .i64 hi], .slice Aw ws.length cw, .pointer (some ⟨w.heap.size, 0, none⟩), undef, .pointer (some ⟨w.heap.size + 1, 0, none⟩), .pointer (some ⟨w.heap.size + 1 + 1, 0, none⟩), .int .i64 0, .pointer (some ⟨w2.heap.size, 0, none⟩), .agg #[.slice A ps.length c, .int .i64 cl, .int .i64 lo, .int .i64 hi], .slice Aw ws.length cw, .int .i64 0, .int .i64 0, .bool false, undef, undef, .agg #[.slice A ps.length c, .int .i64 cl, .int .i64 lo, .int .i64 hi], .slice Aw ws.length cw, .agg #[.slice A ps.length c, .int .i64 cl, .int .i64 lo, .int .i64 hi, .slice Aw ws.length cw], .agg #[.slice A ps.length c, .int .i64 cl, .int .i64 lo, .int .i64 hi, .slice Aw ws.length cw], .func (.func 28) #[.agg #[.slice A ps.length c, .int .i64 cl, .int .i64 lo, .int .i64 hi, .slice Aw ws.length cw]] #[], .slice x.A x.es.length x.c, undef, undef], defers := [] })
    (fun x a' _ X Y row hs hg hr => hs)
    ?assign ?body ?done ?stop
  case assign =>
    rintro l pre x V K hI hpr hK
    unfold encEl
    gi_wp2
    exact hK _ _ (Apart.refl _ _ _) hI (by go_simp)
  case body =>
    rintro l pre x a' V ⟨⟨⟨⟨rfl, bX⟩, bE⟩, bM⟩, hB⟩ rfl hlt
    have x0 := bX.cell 0 rfl
    have x1 := bX.cell 1 rfl
    have x2 := bX.cell 2 rfl
    have x3 := bX.cell 3 rfl
    have x4 := bX.cell 4 rfl
    have gx0 := bX.frozen 0
    have gx1 := bX.frozen 1
    have gx2 := bX.frozen 2
    have gx3 := bX.frozen 3
    have gx4 := bX.frozen 4
    have lx := bX.lt
    have m0 := bM.cell 0 rfl
    have m1 := bM.cell 1 rfl
    have m2 := bM.cell 2 rfl
    have m3 := bM.cell 3 rfl
    have m4 := bM.cell 4 rfl
    have lm := bM.lt
    have xe := bE.cell 0 rfl
    have fe := bE.frozen 0
    have le := bE.lt
    gi_wp2
    have bY : BoxS ((((((V.setCell ⟨w.heap.size + 1, 0, none⟩ (.slice A ps.length c)).setCell ⟨w.heap.size + 1, 1, none⟩ (.int .i64 cl)).setCell ⟨w.heap.size + 1, 2, none⟩ (.int .i64 lo)).setCell ⟨w.heap.size + 1, 3, none⟩ (.int .i64 hi)).setCell ⟨w.heap.size + 1, 4, none⟩ (.slice Aw ws.length cw)).setCell ⟨w.heap.size + 1 + 1, 0, none⟩ (.int .i64 0)) (w.heap.size + 1) 61 #[.slice A ps.length c, .int .i64 cl, .int .i64 lo, .int .i64 hi, .slice Aw ws.length cw] := BoxS.away (((((bX.put9 0 (.slice A ps.length c)).put9 1 (.int .i64 cl)).put9 2 (.int .i64 lo)).put9 3 (.int .i64 hi)).put9 4 (.slice Aw ws.length cw)) (by omega) _ _
    have bYE : BoxS ((((((V.setCell ⟨w.heap.size + 1, 0, none⟩ (.slice A ps.length c)).setCell ⟨w.heap.size + 1, 1, none⟩ (.int .i64 cl)).setCell ⟨w.heap.size + 1, 2, none⟩ (.int .i64 lo)).setCell ⟨w.heap.size + 1, 3, none⟩ (.int .i64 hi)).setCell ⟨w.heap.size + 1, 4, none⟩ (.slice Aw ws.length cw)).setCell ⟨w.heap.size + 1 + 1, 0, none⟩ (.int .i64 0)) (w.heap.size + 1 + 1) 29 #[.int .i64 0] := ((((((bE.away (by omega) _ _).away (by omega) _ _).away (by omega) _ _).away (by omega) _ _).away (by omega) _ _).put9 0 (.int .i64 0))
    have hBY : Below w.heap.size w ((((((V.setCell ⟨w.heap.size + 1, 0, none⟩ (.slice A ps.length c)).setCell ⟨w.heap.size + 1, 1, none⟩ (.int .i64 cl)).setCell ⟨w.heap.size + 1, 2, none⟩ (.int .i64 lo)).setCell ⟨w.heap.size + 1, 3, none⟩ (.int .i64 hi)).setCell ⟨w.heap.size + 1, 4, none⟩ (.slice Aw ws.length cw)).setCell ⟨w.heap.size + 1 + 1, 0, none⟩ (.int .i64 0)) := by have := hB; (repeat' (first | (with_reducible exact Below.refl _ _) | (with_reducible assumption) | (with_reducible refine Below.alloc ?_ ?_ _) | (with_reducible refine Below.drew ?_) | (with_reducible refine Below.setCell ?_ ?_ _) | go_size | (exact (by simp)) | omega))
    have hAY : Apart w.heap.size W0.heap.size V ((((((V.setCell ⟨w.heap.size + 1, 0, none⟩ (.slice A ps.length c)).setCell ⟨w.heap.size + 1, 1, none⟩ (.int .i64 cl)).setCell ⟨w.heap.size + 1, 2, none⟩ (.int .i64 lo)).setCell ⟨w.heap.size + 1, 3, none⟩ (.int .i64 hi)).setCell ⟨w.heap.size + 1, 4, none⟩ (.slice Aw ws.length cw)).setCell ⟨w.heap.size + 1 + 1, 0, none⟩ (.int .i64 0)) := (((((((Apart.refl _ _ _).trans (Apart.setCell _ _ (by first | omega | (simp; done) | (simp; omega)) (by first | omega | (simp; done) | (simp; omega)) _)).trans (Apart.setCell _ _ (by first | omega | (simp; done) | (simp; omega)) (by first | omega | (simp; done) | (simp; omega)) _)).trans (Apart.setCell _ _ (by first | omega | (simp; done) | (simp; omega)) (by first | omega | (simp; done) | (simp; omega)) _)).trans (Apart.setCell _ _ (by first | omega | (simp; done) | (simp; omega)) (by first | omega | (simp; done) | (simp; omega)) _)).trans (Apart.setCell _ _ (by first | omega | (simp; done) | (simp; omega)) (by first | omega | (simp; done) | (simp; omega)) _)).trans (Apart.setCell _ _ (by first | omega | (simp; done) | (simp; omega)) (by first | omega | (simp; done) | (simp; omega)) _))
    exact ⟨hAY, ⟨⟨⟨rfl, by simp⟩, bY⟩, bYE⟩, hBY⟩
  case done =>
    rintro D zs V hD hzs ⟨⟨⟨⟨rfl, bX⟩, bE⟩, bM⟩, hB⟩ hK
    have hG : G = [] := hzs.symm
    have hS : Hid (SE = 3) := by unfold Hid; rw [HSE.out, hG]; rfl
    clear HSE hzs hG
    subst hS
    have x0 := bX.cell 0 rfl
    have x1 := bX.cell 1 rfl
    have x2 := bX.cell 2 rfl
    have x3 := bX.cell 3 rfl
    have x4 := bX.cell 4 rfl
    have gx0 := bX.frozen 0
    have gx1 := bX.frozen 1
    have gx2 := bX.frozen 2
    have gx3 := bX.frozen 3
    have gx4 := bX.frozen 4
    have lx := bX.lt
    have xe := bE.cell 0 rfl
    have fe := bE.frozen 0
    have le := bE.lt
    gi_wp2
    have hDV := (Array.getElem?_eq_some_iff.1 hK).1
    have bY : BoxS ((((((V.setCell ⟨w.heap.size + 1, 0, none⟩ (.slice none 0 0)).setCell ⟨w.heap.size + 1, 1, none⟩ (.int .i64 0)).setCell ⟨w.heap.size + 1, 2, none⟩ (.int .i64 0)).setCell ⟨w.heap.size + 1, 3, none⟩ (.int .i64 0)).setCell ⟨w.heap.size + 1, 4, none⟩ (.slice none 0 0)).setCell ⟨w.heap.size + 1 + 1, 0, none⟩ (.int .i64 3)) (w.heap.size + 1) 61 #[.slice none 0 0, .int .i64 0, .int .i64 0, .int .i64 0, .slice none 0 0] := BoxS.away (((((bX.put9 0 (.slice none 0 0)).put9 1 (.int .i64 0)).put9 2 (.int .i64 0)).put9 3 (.int .i64 0)).put9 4 (.slice none 0 0)) (by omega) _ _
    have bYE : BoxS ((((((V.setCell ⟨w.heap.size + 1, 0, none⟩ (.slice none 0 0)).setCell ⟨w.heap.size + 1, 1, none⟩ (.int .i64 0)).setCell ⟨w.heap.size + 1, 2, none⟩ (.int .i64 0)).setCell ⟨w.heap.size + 1, 3, none⟩ (.int .i64 0)).setCell ⟨w.heap.size + 1, 4, none⟩ (.slice none 0 0)).setCell ⟨w.heap.size + 1 + 1, 0, none⟩ (.int .i64 3)) (w.heap.size + 1 + 1) 29 #[.int .i64 3] := ((((((bE.away (by omega) _ _).away (by omega) _ _).away (by omega) _ _).away (by omega) _ _).away (by omega) _ _).put9 0 (.int .i64 3))
    have hBY : Below w.heap.size w ((((((V.setCell ⟨w.heap.size + 1, 0, none⟩ (.slice none 0 0)).setCell ⟨w.heap.size + 1, 1, none⟩ (.int .i64 0)).setCell ⟨w.heap.size + 1, 2, none⟩ (.int .i64 0)).setCell ⟨w.heap.size + 1, 3, none⟩ (.int .i64 0)).setCell ⟨w.heap.size + 1, 4, none⟩ (.slice none 0 0)).setCell ⟨w.heap.size + 1 + 1, 0, none⟩ (.int .i64 3)) := by have := hB; (repeat' (first | (with_reducible exact Below.refl _ _) | (with_reducible assumption) | (with_reducible refine Below.alloc ?_ ?_ _) | (with_reducible refine Below.drew ?_) | (with_reducible refine Below.setCell ?_ ?_ _) | go_size | (exact (by simp)) | omega))
    have hK' : ((((((V.setCell ⟨w.heap.size + 1, 0, none⟩ (.slice none 0 0)).setCell ⟨w.heap.size + 1, 1, none⟩ (.int .i64 0)).setCell ⟨w.heap.size + 1, 2, none⟩ (.int .i64 0)).setCell ⟨w.heap.size + 1, 3, none⟩ (.int .i64 0)).setCell ⟨w.heap.size + 1, 4, none⟩ (.slice none 0 0)).setCell ⟨w.heap.size + 1 + 1, 0, none⟩ (.int .i64 3)).heap[D]? = some (.deferred (some [])) := by
      refine (Below.heap_setCell _ _ _ D (by show D ≠ _; simp; omega)).trans ?_
      iterate 5 refine (Below.heap_setCell _ _ _ D (by show D ≠ _; simp; omega)).trans ?_
      exact hK
    refine ⟨by simp, .inl ⟨_, _, rfl, run_takeDeferred hK', ?_⟩⟩
    have bZ := bY.kept (grownBy_putObj' _ D (.deferred none)) (by simp; omega)
    have bZE := bYE.kept (grownBy_putObj' _ D (.deferred none)) (by simp; omega)
    have y0 := bZ.cell 0 rfl
    have y1 := bZ.cell 1 rfl
    have y2 := bZ.cell 2 rfl
    have y3 := bZ.cell 3 rfl
    have y4 := bZ.cell 4 rfl
    have ye := bZE.cell 0 rfl
    refine ⟨.tuple #[.agg #[.slice none 0 0, .int .i64 0, .int .i64 0, .int .i64 0, .slice none 0 0], .int .i64 3], ?_, rfl, hBY.trans (belowK_b (w := w) (Nat.le_refl _) _ D _ _ (by omega) hK' rfl rfl)⟩
    simp [results, Tryz.f27, go_sem, y0, y1, y2, y3, y4, ye]
  case stop =>
    rintro D cc pre V hD hpre ⟨⟨⟨⟨rfl, hne⟩, bX⟩, bE⟩, hB⟩ hK
    have hS : Hid (SE = 0) := by
      unfold Hid
      rw [HSE.out]
      cases hG : G with
      | nil =>
        rw [hG] at hpre
        have := List.prefix_nil.1 hpre
        exact absurd (List.map_eq_nil_iff.1 this) hne
      | cons g G => rfl
    clear HSE hpre hne
    subst hS
    gi_wp2
    refine ⟨by simp, .inl ⟨_, _, rfl, run_takeDeferred hK, ?_⟩⟩
    have bZ := bX.kept (grownBy_putObj' _ D (.deferred none)) (by simp; omega)
    have bZE := bE.kept (grownBy_putObj' _ D (.deferred none)) (by simp; omega)
    have y0 := bZ.cell 0 rfl
    have y1 := bZ.cell 1 rfl
    have y2 := bZ.cell 2 rfl
    have y3 := bZ.cell 3 rfl
    have y4 := bZ.cell 4 rfl
    have ye := bZE.cell 0 rfl
    refine ⟨.tuple #[.agg #[.slice A ps.length c, .int .i64 cl, .int .i64 lo, .int .i64 hi, .slice Aw ws.length cw], .int .i64 0], ?_, rfl, hB.trans (belowK_b (w := w) (Nat.le_refl _) V D _ _ (by omega) hK rfl rfl)⟩
    simp [results, Tryz.f27, go_sem, y0, y1, y2, y3, y4, ye]
theorem setW_any (t : Wl.Trk) (ws : List Wl.Pt) (A Aw : Option Addr) (c cw : Nat) (hl : t.ps.length ≤ 1000000000) (hlw : ws.length ≤ 1000000000) (w : World) (hP : Prs w w.heap.size A t.ps) (hQ : Prs w w.heap.size Aw ws) :
    Calls Tryz.prog 27 #[.agg (trV t A c), .slice Aw ws.length cw] w (McPost t A c Aw ws.length cw (Wl.setE t ws) w) := by
  by_cases h0 : Wl.chkV t ws = 0
  · exact setW_yes t ws A Aw c cw hl hlw w hP hQ h0
  · exact setW_err t ws A Aw c cw hl hlw w hP hQ h0
end Go.Proofs.YtmjcdggmofohcaaGreat
namespace Go.Proofs.YtmjcdggmofohcaaGreat
open Go.RowKit Go.Shelf Go.Maps Go.Sort
attribute [local go_sem] Oper.semAt_some
theorem wf_mid {x : Int} (h : -1000000000 ≤ x ∧ x ≤ 1000000000) : (Lit.int .i64 x).wf = true := by
  exact WalkArith.wf_i64 (by omega)
namespace Wl
/-- A map's keys are numbers. -/
def IntK (D : DataW Empty) : Prop := ∃ es, D = .map es ∧ ∀ p ∈ es, ∃ x, p.1 = .int .i64 x
theorem intK_put {D : DataW Empty} (h : IntK D) (x : Int) (d : DataW Empty) : IntK (D.put (.int .i64 x) d) := by
  obtain ⟨es, rfl, hp⟩ := h
  refine ⟨_, rfl, fun p hp' => ?_⟩
  have := (WideShapes.insert_perm (Lit.int .i64 x, d) _).mem_iff.1 hp'
  rcases List.mem_cons.1 this with rfl | hm
  · exact ⟨x, rfl⟩
  · exact hp p (List.mem_filter.1 hm).1
/-- The map of some numbers. -/
def mapZ (L : List Int) : DataW Empty := L.foldl (fun D x => D.put (.int .i64 x) (.lit (.bool true))) (.map [])
theorem mapZ_snoc (L : List Int) (x : Int) : mapZ (L ++ [x]) = (mapZ L).put (.int .i64 x) (.lit (.bool true)) := by unfold mapZ; rw [List.foldl_append]; rfl
theorem intK_map (L : List Int) : IntK (mapZ L) := by
  have key : ∀ (L : List Int) (D : DataW Empty), IntK D → IntK (L.foldl (fun D x => D.put (.int .i64 x) (.lit (.bool true))) D) := by
    intro L
    induction L with
    | nil => exact fun D h => h
    | cons x l ih => exact fun D h => ih _ (intK_put h _ _)
  exact key L _ ⟨[], rfl, fun p hp => by cases hp⟩
theorem mapZ_set (L : List Int) : mapZ L = setOf (.lit (.bool true)) (L.map fun x => .int .i64 x) := by
  unfold mapZ setOf
  rw [List.foldl_map]
theorem litsZ (L : List Int) : ∀ x ∈ (L.map fun x => Lit.int .i64 x), WideAt.IsKeyLit x := by
  intro x hx
  rw [List.mem_map] at hx
  obtain ⟨f, _, rfl⟩ := hx
  trivial
/-- The sorted keys are the numbers, ascending, each once. -/
theorem keys_asc (L : List Int) : (intKeys (mapZ L)).mergeSort (fun x y => decide (x ≤ y)) = ascOf L := by
  have hR : asc (ascOf L) := asc_ascOf L
  have ht : Tidy (mapZ L) := by rw [mapZ_set]; exact tidy_setOf _ _ (litsZ L)
  obtain ⟨es, he, hk⟩ := intK_map L
  obtain ⟨es2, he2, hp⟩ := ht
  have hes : es2 = es := by rw [he] at he2; injection he2 with h; exact h.symm
  subst hes
  have hnd : (ascOf L).Nodup := hR.imp (fun h => by omega)
  have hhas : ∀ x, x ∈ ascOf L ↔ has (.map es2) (.int .i64 x) = true := by
    intro x
    rw [mem_ascOf, ← he, mapZ_set]
    unfold setOf
    rw [has_fold _ _ _ _ ⟨[], rfl⟩ (litsZ L)]
    have h0 : has (DataW.map ([] : List (Lit × DataW Empty))) (.int .i64 x) = false := rfl
    rw [h0, Bool.false_or, List.any_map, List.any_eq_true]
    constructor
    · rintro h
      exact ⟨x, h, by simp [Lit.sameKey]⟩
    · rintro ⟨f, hf, h⟩
      have : f = x := by simpa [Lit.sameKey] using h
      exact this ▸ hf
  have hperm := perm_intKeys hp hk hnd hhas
  have h1 := mergeSort_of_perm_i hperm
  rw [List.mergeSort_of_pairwise (hR.imp (fun h => by simp only [leI, decide_eq_true_eq]; omega))] at h1
  rw [he]
  exact h1.symm
end Wl
end Go.Proofs.YtmjcdggmofohcaaGreat
namespace Go.Proofs.YtmjcdggmofohcaaGreat
open Go.RowKit Go.Shelf Go.Maps Go.Sort
attribute [local go_sem] Oper.semAt_some
theorem row_own {β : Type} (B c₀ : Nat) (v : Value) (L : List Int) : OwnFrom B (fun (_ : β) W => Row W c₀ v L) := fun s X Y row hs hg hr => by
  rcases hs with h | ⟨b, cap, e, hl, h1, h2, hc⟩
  · exact .inl h
  · refine .inr ⟨b, cap, e, hl, h1, Nat.lt_of_lt_of_le h2 hg.size, fun k x hx => ?_⟩
    have hcx := hc k x hx
    have hne : some b ≠ row := fun e' => by
      obtain ⟨o, ho, hnc⟩ := (hr b e'.symm).2
      unfold World.cell? at hcx
      rw [ho] at hcx
      cases o <;> simp_all [Obj.isCells]
    exact (World.cell?_of_block (a := ⟨b, k, none⟩) (hg.block b h2 hne)).trans hcx
namespace Wl
theorem swTo_bd {t : Trk} {ws : List Pt} {es : List Int} (hs : ∀ k, k < t.ps.length → Geo.sm (ptAt t.ps k)) (hsw : ∀ k, k < ws.length → Geo.sm (ptAt ws k)) (hin : ∀ k, k < es.length → 0 ≤ esAt es k ∧ esAt es k < t.ps.length) (hle : es.length = ws.length) (h0 : 0 < ws.length) : ∀ k : Nat, -(8000000 * (k : Int)) ≤ swTo t ws es k ∧ swTo t ws es k ≤ 8000000 * (k : Int)
  | 0 => by simp [swTo]
  | k + 1 => by
    have ih := swTo_bd hs hsw hin hle h0 k
    have hm : ∀ j, j % es.length < es.length := fun j => Nat.mod_lt _ (by omega)
    have hmw : ∀ j, j % ws.length < ws.length := fun j => Nat.mod_lt _ h0
    have hp : ∀ j, Geo.sm (ptAt t.ps (eAt es j).toNat) := fun j => by
      have := hin _ (hm j)
      rw [eAt_mod]
      exact hs _ (by omega)
    have hq := quad_bd (hp k) (hsw _ (hmw k)) (hsw _ (hmw (k + 1))) (hp (k + 1))
    show -(8000000 * ((k + 1 : Nat) : Int)) ≤ swTo t ws es k + quad _ _ _ _ ∧ swTo t ws es k + quad _ _ _ _ ≤ 8000000 * ((k + 1 : Nat) : Int)
    omega
end Wl
set_option maxRecDepth 100000 in
set_option maxHeartbeats 8000000 in
theorem RollsW_err (t : Wl.Trk) (ws : List Wl.Pt) (A Aw : Option Addr) (c cw : Nat) (hl : t.ps.length ≤ 1000000000) (hlw : ws.length ≤ 1000000000) (w : World) (hP : Prs w w.heap.size A t.ps) (hQ : Prs w w.heap.size Aw ws) (h0 : Wl.setE t ws ≠ 0) :
    Calls Tryz.prog 10 #[.agg (trV t A c), .slice Aw ws.length cw] w (IntsEPost [] (Wl.setE t ws) w) := by
  have HC : Hid (∀ W, Below w.heap.size w W → Calls Tryz.prog 27 #[.agg (trV t A c), .slice Aw ws.length cw] W (McPost t A c Aw ws.length cw (Wl.setE t ws) W)) := fun W hW => setW_any t ws A Aw c cw hl hlw W (prs_keep hP hW) (prs_keep hQ hW)
  clear hP hQ hl hlw
  unfold McPost mcE at HC
  rw [if_neg h0] at HC
  generalize Wl.setE t ws = SE at *
  obtain ⟨ps, cl, lo, hi⟩ := t
  unfold trV at *
  dsimp only at *
  have hce : (SE == 0) = false := by simpa using h0
  have hcn : (SE != 0) = true := by simpa using h0
  go_enter Tryz.func10, Tryz.ntmps10
  go_wp2_with fail
  have hB1 : Below w.heap.size w (w.alloc (.cells #[.slice A ps.length c, .int .i64 cl, .int .i64 lo, .int .i64 hi] 26)) := by (repeat' (first | (with_reducible exact Below.refl _ _) | (with_reducible assumption) | (with_reducible refine Below.alloc ?_ ?_ _) | (with_reducible refine Below.drew ?_) | (with_reducible refine Below.setCell ?_ ?_ _) | go_size | (exact (by simp)) | omega))
  generalize World.alloc w _ = w1 at *
  refine (HC.out _ hB1).mono ?_
  rintro e w2 ⟨rfl, hb2⟩
  have hB2 := hB1.trans (hb2.mono hB1.size)
  go_wp2_with fail
  have hB3 : Below w.heap.size w (w2.alloc (.cells #[.slice none 0 0, .int .i64 0, .int .i64 0, .int .i64 0, .slice none 0 0] 61)) := hB2.alloc hB2.size _
  generalize World.alloc w2 _ = w3 at *
  try go_wp2_with fail
  go_returns
  exact ⟨_, rfl, .inl ⟨rfl, rfl⟩, hB3⟩
set_option maxRecDepth 100000 in
set_option maxHeartbeats 8000000 in
theorem RollsW_yes (t : Wl.Trk) (ws : List Wl.Pt) (A Aw : Option Addr) (c cw : Nat) (hl : t.ps.length ≤ 1000000000) (hlw : ws.length ≤ 1000000000) (w : World) (hP : Prs w w.heap.size A t.ps) (hQ : Prs w w.heap.size Aw ws) (h0 : Wl.setE t ws = 0) :
    Calls Tryz.prog 10 #[.agg (trV t A c), .slice Aw ws.length cw] w (IntsEPost (Wl.rollsL t ws) 0 w) := by
  have HC : Hid (∀ W, Below w.heap.size w W → Calls Tryz.prog 27 #[.agg (trV t A c), .slice Aw ws.length cw] W (McPost t A c Aw ws.length cw 0 W)) := fun W hW => by rw [← h0]; exact setW_any t ws A Aw c cw hl hlw W (prs_keep hP hW) (prs_keep hQ hW)
  obtain ⟨⟨ht, hw⟩, hne⟩ := Wl.setE_yes h0
  have HSEQ : Hid (∀ W, Below w.heap.size w W → SeqFarP Tryz.prog (ElbPr t ws W) 28 #[.agg (mcV t A c Aw ws.length cw)] #[] encEl w.heap.size (fun xs => xs.map Elb.es = Wl.elbsL t ws) (fun pre => pre.map Elb.es <+: Wl.elbsL t ws) 20000000 W) := fun W hW => elbows_far t ws A Aw c cw ht hw w.heap.size W hW.size (hP.keep hW) (hQ.keep hW)
  have h8 := (Wl.pts_all hw).2
  have h0w : 0 < ws.length := by
    have := hw
    unfold Wl.ptsB inB at this
    simp only [Bool.and_eq_true, decide_eq_true_eq] at this
    omega
  have HIN : ∀ es : List Int, (es.length = ws.length ∧ ∀ p ∈ es, 0 ≤ p ∧ p < t.ps.length) → ∀ k, k < es.length → 0 ≤ Wl.esAt es k ∧ Wl.esAt es k < t.ps.length := fun es h k hk => by
    have := h.2 _ (List.getElem_mem hk)
    unfold Wl.esAt
    rw [List.getElem?_eq_getElem hk]
    exact this
  have HSW : Hid (∀ (x : Elb), (x.es.length = ws.length ∧ ∀ p ∈ x.es, 0 ≤ p ∧ p < t.ps.length) → ∀ V, Below w.heap.size w V → Ints V V.heap.size (.slice x.A x.es.length x.c) x.es → Calls Tryz.prog 29 #[.agg (mcV t A c Aw ws.length cw), .slice x.A x.es.length x.c] V fun e w' => e = .returned (.int .i64 (Wl.sweepV t ws x.es)) ∧ Below V.heap.size V w') := fun x hx V hV hI => sweepW_any t ws x.es A Aw x.A c cw x.c (Wl.trk_sm ht) (fun k hk => Wl.pts_sm hw hk) (HIN x.es hx) hl hx.1 h8 V (prs_keep hP hV) (prs_keep hQ hV) hI
  have HBD : Hid (∀ (x : Elb), (x.es.length = ws.length ∧ ∀ p ∈ x.es, 0 ≤ p ∧ p < t.ps.length) → -1000000000 ≤ Wl.sweepV t ws x.es ∧ Wl.sweepV t ws x.es ≤ 1000000000) := fun x hx => by
    have := Wl.swTo_bd (Wl.trk_sm ht) (fun k hk => Wl.pts_sm hw hk) (HIN x.es hx) hx.1 h0w x.es.length
    unfold Wl.sweepV
    omega
  have HRL : Hid (Wl.rollsL t ws = Wl.ascOf ((Wl.elbsL t ws).map (Wl.sweepV t ws))) := rfl
  have HLN : (Wl.elbsL t ws).length ≤ 16777216 := Wl.goL_bd ht hw ws.length [] (Nat.le_refl _)
  have hmm := @run_makeMap Tryz.prog
  clear HIN h8 h0w
  clear hP hQ hl hlw h0 ht hw hne
  generalize Wl.rollsL t ws = RL at *
  generalize hsv : Wl.sweepV t ws = SV at *
  clear hsv
  generalize Wl.elbsL t ws = G at *
  unfold McPost mcE at HC
  rw [if_pos rfl] at HC
  obtain ⟨ps, cl, lo, hi⟩ := t
  unfold trV mcV at *
  dsimp only at *
  obtain ⟨n, hn⟩ : ∃ n : Nat, 9 ≤ n := ⟨9, Nat.le_refl _⟩
  have h1 : 1 ≤ n := by omega
  refine (callsIn_wide (n := n)).1 ?_
  refine callsIn_of_wp_marks Tryz.func10 rfl trivial ?_ rfl
  simp only [Tryz.ntmps10, List.size_toArray, List.length_cons, List.length_nil, Nat.reduceAdd, Nat.reduceSub, Array.replicate_succ, Array.replicate_zero, List.push_toArray, List.append_toArray, List.nil_append, List.cons_append]
  gi_wp2
  have hB1 : Below w.heap.size w (w.alloc (.cells #[.slice A ps.length c, .int .i64 cl, .int .i64 lo, .int .i64 hi] 26)) := by (repeat' (first | (with_reducible exact Below.refl _ _) | (with_reducible assumption) | (with_reducible refine Below.alloc ?_ ?_ _) | (with_reducible refine Below.drew ?_) | (with_reducible refine Below.setCell ?_ ?_ _) | go_size | (exact (by simp)) | omega))
  generalize World.alloc w _ = w1 at *
  refine ⟨trivial, (callsIn_wide.2 (HC.out _ hB1)).mono ?_⟩
  rintro e w2 ⟨rfl, hb2⟩
  have hB2 := hB1.trans (hb2.mono hB1.size)
  clear hb2 hB1 HC
  gi_wp2
  obtain ⟨BM, hBM⟩ : ∃ B, B = w2.heap.size + 1 := ⟨_, rfl⟩
  obtain ⟨BV, hBV⟩ : ∃ B, B = w2.heap.size + 1 + 1 := ⟨_, rfl⟩
  have bG5 : BoxS (((w2.alloc (.cells #[.slice A ps.length c, .int .i64 cl, .int .i64 lo, .int .i64 hi, .slice Aw ws.length cw] 61)).alloc (.map #[] 0)).alloc (.cells #[.map (some (w2.heap.size + 1))] 64)) w2.heap.size 61 #[.slice A ps.length c, .int .i64 cl, .int .i64 lo, .int .i64 hi, .slice Aw ws.length cw] := ((BoxS.new w2 61 #[.slice A ps.length c, .int .i64 cl, .int .i64 lo, .int .i64 hi, .slice Aw ws.length cw]).alloc _).alloc _
  have bV5 : BoxS (((w2.alloc (.cells #[.slice A ps.length c, .int .i64 cl, .int .i64 lo, .int .i64 hi, .slice Aw ws.length cw] 61)).alloc (.map #[] 0)).alloc (.cells #[.map (some (w2.heap.size + 1))] 64)) BV 64 #[.map (some BM)] := by
    have := BoxS.new ((w2.alloc (.cells #[.slice A ps.length c, .int .i64 cl, .int .i64 lo, .int .i64 hi, .slice Aw ws.length cw] 61)).alloc (.map #[] 0)) 64 #[.map (some (w2.heap.size + 1))]
    simp only [World.size_alloc] at this
    rw [hBV, hBM]; exact this
  have hown5 : (((w2.alloc (.cells #[.slice A ps.length c, .int .i64 cl, .int .i64 lo, .int .i64 hi, .slice Aw ws.length cw] 61)).alloc (.map #[] 0)).alloc (.cells #[.map (some (w2.heap.size + 1))] 64)).ownsMap Tryz.prog 3 (plainElem (H := Empty) Tryz.prog 4) BM 0 (Wl.mapZ []) := by
    have := World.ownsMap_made (H := Empty) (w2.alloc (.cells #[.slice A ps.length c, .int .i64 cl, .int .i64 lo, .int .i64 hi, .slice Aw ws.length cw] 61)) Tryz.prog 3 (plainElem Tryz.prog 4)
    rw [World.size_alloc] at this
    rw [hBM]; exact this.alloc _
  have hB5 : Below w.heap.size w (((w2.alloc (.cells #[.slice A ps.length c, .int .i64 cl, .int .i64 lo, .int .i64 hi, .slice Aw ws.length cw] 61)).alloc (.map #[] 0)).alloc (.cells #[.map (some (w2.heap.size + 1))] 64)) := by have := hB2.size; (repeat' (first | (with_reducible exact Below.refl _ _) | (with_reducible assumption) | (with_reducible refine Below.alloc ?_ ?_ _) | (with_reducible refine Below.drew ?_) | (with_reducible refine Below.setCell ?_ ?_ _) | go_size | (exact (by simp)) | omega))
  have hz : (((w2.alloc (.cells #[.slice A ps.length c, .int .i64 cl, .int .i64 lo, .int .i64 hi, .slice Aw ws.length cw] 61)).alloc (.map #[] 0)).alloc (.cells #[.map (some (w2.heap.size + 1))] 64)).heap.size = w2.heap.size + 3 := by simp
  have hws := hB2.size
  have hord : w2.heap.size < BM ∧ BM < BV ∧ BV < w2.heap.size + 3 := by omega
  generalize (((w2.alloc (.cells #[.slice A ps.length c, .int .i64 cl, .int .i64 lo, .int .i64 hi, .slice Aw ws.length cw] 61)).alloc (.map #[] 0)).alloc (.cells #[.map (some (w2.heap.size + 1))] 64)) = w5 at *
  rw [← hBV, ← hBM]
  clear hBM hBV hB2
  obtain ⟨k1, k2, k3⟩ := hord
  refine wpIn_farP (n₀ := w.heap.size) (gf := 28) (pb := #[.agg #[.slice A ps.length c, .int .i64 cl, .int .i64 lo, .int .i64 hi, .slice Aw ws.length cw]]) (lb := #[]) rfl (enters_of Tryz.func28 (by kernel_rfl) rfl)
    (HSEQ.out w5 hB5) (Below.refl _ _) (by omega) (fun _ => rfl)
    (fun (pre : List Elb) V => ((BoxS V w2.heap.size 61 #[.slice A ps.length c, .int .i64 cl, .int .i64 lo, .int .i64 hi, .slice Aw ws.length cw] ∧ BoxS V BV 64 #[.map (some BM)]) ∧ V.ownsMap Tryz.prog 3 (plainElem (H := Empty) Tryz.prog 4) BM pre.length (Wl.mapZ (pre.map (fun y : Elb => SV y.es)))) ∧ Below w.heap.size w V)
    (fun _ _ _ => False)
    (OwnFrom.and (OwnFrom.and (OwnFrom.and (Own.from (boxS_own _ _ (fun _ => _)) _) (Own.from (boxS_own _ _ (fun _ => _)) _)) (fun s X Y row hs hg hr => hs.kept hg (fun e => by have := (hr _ e.symm).1; omega))) (ownFrom_below (Nat.le_refl _) (by omega)))
    (fun _ _ _ _ _ hs _ _ => hs)
    ⟨⟨⟨bG5, bV5⟩, hown5⟩, hB5⟩
    (fun x a' V => (Row V w5.heap.size (.slice x.A x.es.length x.c) x.es ∧ (x.es.length = ws.length ∧ ∀ p ∈ x.es, 0 ≤ p ∧ p < (ps.length : Int))) ∧ a' = { tmps := #[.agg #[.slice A ps.length c, .int .i64 cl, .int .i64 lo, .int .i64 hi], .slice Aw ws.length cw, .pointer (some ⟨w.heap.size, 0, none⟩), undef, .slice none 0 0, .int .i64 0, .pointer (some ⟨w2.heap.size, 0, none⟩), .int .i64 0, .pointer (some ⟨BV, 0, none⟩), .slice x.A x.es.length x.c, .tuple #[.agg #[.slice A ps.length c, .int .i64 cl, .int .i64 lo, .int .i64 hi, .slice Aw ws.length cw], .int .i64 0], .agg #[.slice A ps.length c, .int .i64 cl, .int .i64 lo, .int .i64 hi], .slice Aw ws.length cw, .tuple #[.agg #[.slice A ps.length c, .int .i64 cl, .int .i64 lo, .int .i64 hi, .slice Aw ws.length cw], .int .i64 0], .agg #[.slice A ps.length c, .int .i64 cl, .int .i64 lo, .int .i64 hi, .slice Aw ws.length cw], .int .i64 0, .int .i64 0, .bool false, undef, .map (some BM), .agg #[.slice A ps.length c, .int .i64 cl, .int .i64 lo, .int .i64 hi, .slice Aw ws.length cw], .func (.func 28) #[.agg #[.slice A ps.length c, .int .i64 cl, .int .i64 lo, .int .i64 hi, .slice Aw ws.length cw]] #[], .slice x.A x.es.length x.c, undef, undef, undef, undef, undef, undef, undef], defers := [] })
    (fun x a' s X Y row hs hg hr => ⟨⟨row_own _ _ _ _ s X Y row hs.1.1 hg hr, hs.1.2⟩, hs.2⟩)
    ?assign ?body ?done ?stop
  case assign =>
    rintro l2 pre x V K hI hpr hK
    have HPR := Lib.hid hpr
    have HI := Lib.hid hI
    clear hpr hI
    unfold encEl
    gi_wp2
    exact hK _ _ (Apart.refl _ _ _) HI.out ⟨HPR.out, rfl⟩
  case body =>
    rintro l2 pre x a' V ⟨⟨⟨bG, bV⟩, hown⟩, hB⟩ ⟨⟨hrow, hx⟩, rfl⟩ hlt
    have HX := Lib.hid hx
    have hbd := HBD.out x hx
    have hI := hrow.ints
    have hmap : (pre ++ [x]).map (fun y : Elb => SV y.es) = pre.map (fun y : Elb => SV y.es) ++ [SV x.es] := by rw [List.map_append]; rfl
    have hsn := Lib.hid (Wl.mapZ_snoc (pre.map (fun y : Elb => SV y.es)) (SV x.es))
    rw [← hmap] at hsn
    have HO : Hid (∀ W, Below V.heap.size V W → Calls Tryz.prog 29 #[.agg #[.slice A ps.length c, .int .i64 cl, .int .i64 lo, .int .i64 hi, .slice Aw ws.length cw], .slice x.A x.es.length x.c] W fun e w' => e = .returned (.int .i64 (SV x.es)) ∧ Below W.heap.size W w') := fun W hW => HSW.out x HX.out W (hB.trans (hW.mono hB.size)) ((hI.keep hW).more hW.size)
    have hln : (pre ++ [x]).length = pre.length + 1 := by simp
    have hln := Lib.hid hln
    generalize SV x.es = sv at *
    clear hrow hx hI hmap HX
    have hmo : Tryz.prog.follows .mixedOrders = true := by kernel_rfl
    have hmax : (20000000 : Nat) < maxLen := by decide
    have q0 : Below V.heap.size V V.drew := (Below.refl _ _).drew
    have KC : Hid (∀ V', Below V.heap.size V V' → (V'.cell? ⟨w2.heap.size, 0, none⟩ = some (.slice A ps.length c) ∧ V'.cell? ⟨w2.heap.size, 1, none⟩ = some (.int .i64 cl) ∧ V'.cell? ⟨w2.heap.size, 2, none⟩ = some (.int .i64 lo) ∧ V'.cell? ⟨w2.heap.size, 3, none⟩ = some (.int .i64 hi) ∧ V'.cell? ⟨w2.heap.size, 4, none⟩ = some (.slice Aw ws.length cw)) ∧ V'.cell? ⟨BV, 0, none⟩ = some (.map (some BM))) :=
      fun V' h => by
        have b := bG.below h
        exact ⟨⟨b.cell 0 rfl, b.cell 1 rfl, b.cell 2 rfl, b.cell 3 rfl, b.cell 4 rfl⟩, (bV.below h).cell 0 rfl⟩
    have hBs := hB.size
    gi_wp2
    refine wpIn_region_held (fun V' => Below V.heap.size V V') 4 hmo ?_
    refine wpHeldIn_take (i := 0) (v := ?_) (plain_of (by kernel_rfl)) rfl (by kernel_rfl) (fun _ _ _ h => h) (yieldsSoIn_of (by kernel_rfl) ?_ (fun _ => rfl)) q0 ?_; rotate_left; focus (intro wq hw; have kq := KC.out wq hw; clear hw; go_simp; try (with_reducible rfl))
    refine wpHeldIn_take (i := 1) (v := ?_) (plain_of (by kernel_rfl)) rfl (by kernel_rfl) (fun _ _ _ h => h) (yieldsSoIn_of (by kernel_rfl) ?_ (fun _ => rfl)) q0 ?_; rotate_left; focus (intro wq hw; have kq := KC.out wq hw; clear hw; go_simp; try (with_reducible rfl))
    refine wpHeldIn_take (i := 2) (v := ?_) (plain_of (by kernel_rfl)) rfl (by kernel_rfl) (fun _ _ _ h => h) (yieldsSoIn_of (by kernel_rfl) ?_ (fun _ => rfl)) q0 ?_; rotate_left; focus (intro wq hw; clear hw; go_simp; try (with_reducible rfl))
    refine wpHeldIn_one (i := 3) (by kernel_rfl) (by kernel_rfl) rfl (by kernel_rfl) (fun K1 hK1 => ?_)
    go_simp
    refine ⟨trivial, (CallsIn.inRound l2 (callsIn_wide.2 (HO.out _ q0))).mono ?_⟩
    rintro e V2 ⟨rfl, hb2⟩
    have q1 := q0.trans (hb2.mono q0.size)
    refine hK1 _ _ q1 ?_
    refine wpHeldIn_last (by kernel_rfl) rfl (by kernel_rfl) (fun K2 hK2 => ?_)
    refine wpIn_mapUpdate_at _ _ _ _ 64 rfl 3 4 (Maps.int_keyed Tryz.underlying3) Tryz.underlying64 _ BM pre.length _ rfl (ownsMap_below hown q1) (by omega) _ _ _ rfl rfl (Maps.keyOf_int_mk Tryz.underlying3 (wf_mid hbd)) _ [] (plainElem_bool Tryz.underlying4 true) ?_
    intro V3 hown3 hg3
    refine hK2 _ _ ?_
    refine wpHeldIn_done (by kernel_rfl) ?_ _
    go_simp
    gi_wp2
    have hA3 : Apart w.heap.size w5.heap.size V V3 := (Apart.of_below q1).trans (Apart.grown hg3 (fun k e => by cases e; omega))
    exact ⟨hA3, ⟨⟨(bG.below q1).kept hg3 (by simp; omega), (bV.below q1).kept hg3 (by simp; omega)⟩, by rw [hln.out, hsn.out]; exact hown3⟩, hB.trans (hA3.below hB.size)⟩
  case done =>
    rintro D0 zs V hD0 hzs ⟨⟨⟨bG, bV⟩, hown⟩, hB⟩ hK
    have hzl : zs.length ≤ 16777216 := by rw [← hzs, List.length_map] at HLN; exact HLN
    have hmm2 : (zs.map (fun y : Elb => SV y.es)) = G.map SV := by rw [← hzs, List.map_map]; rfl
    rw [hmm2] at hown
    have v0 := bV.cell 0 rfl
    have hsz := hown.size_le
    have hmax : (20000000 : Nat) < maxLen := by decide
    have HS := Lib.hid (sorted_call BM _ _ _ V hown (by omega) (by omega))
    have HKY : Hid (∀ W, Calls Tryz.prog 31 #[.map (some BM)] W fun e w' => e = .returned (.func (.func 59) #[] #[.pointer (some ⟨W.heap.size, 0, none⟩)]) ∧ w' = W.alloc (.cells #[.map (some BM)] 64)) := fun W => keys_call (some BM) W
    rw [Wl.keys_asc, ← HRL.out] at HS
    clear hown bG bV HSEQ hmm hmm2 hzs HSW HBD HRL
    gi_wp2
    refine ⟨trivial, (callsIn_wide.2 (HKY.out _)).mono ?_⟩
    rintro e V2 ⟨rfl, rfl⟩
    gi_wp2
    refine ⟨trivial, (callsIn_wide.2 HS.out).mono ?_⟩
    rintro e V3 ⟨v, rfl, hrow, hnil, hb3⟩
    have q3 : Below V.heap.size V V3 := ((Below.refl _ V).alloc (Nat.le_refl _) _).trans (hb3.mono (by simp))
    have hK3 := heap_below q3 hK
    have hB3 := hB.trans (q3.mono hB.size)
    have hVs := hB.size
    gi_wp2
    refine ⟨by simp, .inl ⟨_, _, rfl, run_takeDeferred hK3, ?_⟩⟩
    have hDV := (Array.getElem?_eq_some_iff.1 hK).1
    refine ⟨.tuple #[v, .int .i64 0], by simp [results, Tryz.f10, go_sem], v, rfl, Ints.of_own (ownsRow_put (base' := V.heap.size + 1) hrow _ (by simp; omega) (by simp)), hB3.trans (belowK_b (w := w) (Nat.le_refl _) V3 D0 _ _ (by omega) hK3 rfl rfl)⟩
  case stop =>
    rintro D0 cc pre V hD0 hpre h hK
    exact h.elim
theorem RollsW_any (t : Wl.Trk) (ws : List Wl.Pt) (A Aw : Option Addr) (c cw : Nat) (hl : t.ps.length ≤ 1000000000) (hlw : ws.length ≤ 1000000000) (w : World) (hP : Prs w w.heap.size A t.ps) (hQ : Prs w w.heap.size Aw ws) :
    Calls Tryz.prog 10 #[.agg (trV t A c), .slice Aw ws.length cw] w (IntsEPost (if Wl.setE t ws = 0 then Wl.rollsL t ws else []) (Wl.setE t ws) w) := by
  by_cases h0 : Wl.setE t ws = 0
  · rw [if_pos h0, h0]
    exact RollsW_yes t ws A Aw c cw hl hlw w hP hQ h0
  · rw [if_neg h0]
    exact RollsW_err t ws A Aw c cw hl hlw w hP hQ h0
end Go.Proofs.YtmjcdggmofohcaaGreat
namespace Go.Proofs.YtmjcdggmofohcaaGreat
open Go.RowKit
set_option maxRecDepth 100000 in
set_option maxHeartbeats 4000000 in
theorem AreElbows5_nil (t : Wl.Trk) (ws : List Wl.Pt) (A Aw Ae : Option Addr) (c cw ce : Nat) (hw0 : 0 < ws.length) (w : World) :
    Calls Tryz.prog 11 #[.agg (trV t A c), .slice Aw ws.length cw, .slice Ae 0 ce] w fun e w' => e = .returned (.bool false) ∧ Below w.heap.size w w' := by
  obtain ⟨ps, cl, lo, hi⟩ := t
  unfold trV at *
  dsimp only at *
  have hlb : ((0 : Int) != (ws.length : Int)) = true := by simp; omega
  go_enter Tryz.func11, Tryz.ntmps11
  go_wp2_with fail
  go_returns
  exact ⟨rfl, by (repeat' (first | (with_reducible exact Below.refl _ _) | (with_reducible assumption) | (with_reducible refine Below.alloc ?_ ?_ _) | (with_reducible refine Below.drew ?_) | (with_reducible refine Below.setCell ?_ ?_ _) | go_size | (exact (by simp)) | omega))⟩
theorem AreElbows5_all (t : Wl.Trk) (ws : List Wl.Pt) (es : List Int) (A Aw Ae : Option Addr) (c cw ce : Nat) (ht : Wl.trkB t = true) (hw : Wl.ptsB ws = true) (hle : es.length ≤ 1000000000) (hlw : ws.length ≤ 1000000000) (w : World) (hP : Prs w w.heap.size A t.ps) (hQ : Prs w w.heap.size Aw ws) (hE : 0 < es.length → Ints w w.heap.size (.slice Ae es.length ce) es) :
    Calls Tryz.prog 11 #[.agg (trV t A c), .slice Aw ws.length cw, .slice Ae es.length ce] w fun e w' => e = .returned (.bool (Wl.elbV t ws es)) ∧ Below w.heap.size w w' := by
  match es, hE, hle with
  | [], _, _ =>
    have h0 : 0 < ws.length := by
      unfold Wl.ptsB inB at hw
      simp only [Bool.and_eq_true, decide_eq_true_eq] at hw
      omega
    have e : Wl.elbV t ws [] = false := by
      unfold Wl.elbV
      have : decide (([] : List Int).length = ws.length) = false := decide_eq_false (by simp; omega)
      rw [this, Bool.false_and]
    rw [e]
    exact AreElbows5_nil t ws A Aw Ae c cw ce h0 w
  | x :: es, hE, hle => exact AreElbows5_any t ws (x :: es) A Aw Ae c cw ce ht hw hle hlw w hP hQ (hE (by simp))
theorem refC_any (A : Option Addr) (c : Nat) (ps : List (Int × Int)) (hl : ps.length ≤ 40) (w : World) (hP : Prs w w.heap.size A ps) :
    Calls Tryz.prog 7 #[.slice A ps.length c] w (ErrPost (Geo.errV ps) w) := by
  rw [← Geo.refV_errV]
  exact refchk_any A c ps (by omega) w hP
theorem tot_dblZ (ps : List Wl.Pt) : Geo.tot Geo.fanV ps = Wl.dbl ps := by
  have key : ∀ k, (((List.range k).map fun k => (ps[k]?.getD (0, 0), ps[(k + 1) % ps.length]?.getD (0, 0))).map Geo.fanV).sum = Wl.dblTo ps k := by
    intro k
    induction k with
    | zero => rfl
    | succ k ih =>
      rw [List.range_succ, List.map_append, List.map_append, List.sum_append, ih]
      show _ + _ = Wl.dblTo ps k + Wl.cr (Wl.ptAt ps k) (Wl.ptAt ps ((k + 1) % ps.length))
      congr 1
      unfold Geo.fanV Geo.turn Wl.cr Wl.ptAt
      simp
      grind
  exact key ps.length
namespace Wl
theorem movE_of {t : Trk} {ws : List Pt} {es : List Int} (h : chkV t ws = 0) (he : elbV t ws es = true) : movE t ws es = 0 := by unfold movE; rw [if_pos h, if_pos he]
theorem farB_len {t : Trk} {ws : List Pt} (h : farB t ws = false) : t.ps.length ≤ 40 ∧ ws.length ≤ 40 := by
  unfold farB at h
  simp only [Bool.or_eq_false_iff, decide_eq_false_iff_not] at h
  omega
theorem farB_five {t : Trk} {ws : List Pt} (h : farB t ws = false) (hc : chkV t ws = 0) : t.ps.length ≤ 5 ∧ ws.length ≤ 5 := by
  unfold farB at h
  rw [hc] at h
  simp only [Bool.or_eq_false_iff, decide_true, Bool.true_and, decide_eq_false_iff_not] at h
  omega
end Wl
section
open Go.ChangeShapes Go.WideShapes Go.ChangeAt Go.RowKit Go.Joins Go.Deep
variable {H : Type} {enc : TypeId × Value → H} {w : World} {base : Nat} {spare : Nat → Bool} {held : Bool} {r : Reach} {b0 : Nat} {v : Value} {d : DataW H} {p : List MemPlace}
set_option maxRecDepth 100000 in
theorem open_Ints5 (hv : Value.okWide Tryz.prog w r b0 27 v) (h : DataW.Trod enc Tryz.prog w base spare held 27 v d p) :
    ∃ (A : Option Addr) (c : Nat) (cs : List Int), v = .slice A cs.length c ∧ (0 < cs.length → Ints w w.heap.size (.slice A cs.length c) cs) ∧ cs.length ≤ maxLen := by
  obtain ⟨A, len, cap, rfl⟩ := okWide_slice Tryz.underlying27 hv
  obtain ⟨fuel, hf⟩ := h
  exact trod_ints5 hf
end
end Go.Proofs.YtmjcdggmofohcaaGreat
namespace Go.Proofs.YtmjcdggmofohcaaGreat
open Go.RowKit
namespace Wh
def ins (a c r n : Int) : Desk := ⟨10000, 0, 0, 0, c, max 0 (a - 10), min 9999 (a + 10), 0, [(1, 1, 1, r, ((r + n).tmod 10000 + 10000).tmod 10000)]⟩
theorem ins_one {a c r n : Int} (hn : n = a - c) (ha : 0 ≤ a ∧ a ≤ 9999) (hc : 0 ≤ c ∧ c ≤ 9999) (hr : 0 ≤ r ∧ r < 10000) :
    spE (ins a c r n) = 0 ∧ areasV (ins a c r n) = [a] ∧ skewsV (ins a c r n) = [0] := by
  obtain ⟨e, he⟩ : ∃ e, e = ((r + n).tmod 10000 + 10000).tmod 10000 := ⟨_, rfl⟩
  have b := he
  have hs := Int.tmod_add_mul_tdiv (r + n) 10000
  have l1 := Int.tmod_lt_of_pos (r + n) (show (0 : Int) < 10000 by omega)
  have l2 : -10000 < (r + n).tmod 10000 := by
    have := Int.lt_tmod_of_pos (r + n) (show (0 : Int) < 10000 by omega)
    omega
  rw [Int.tmod_eq_emod_of_nonneg (by omega)] at b
  have b1 : 0 ≤ e ∧ e < 10000 := by omega
  have b2 : (e - r - n) % 10000 = 0 := by omega
  have hright : ∀ u : Tr, (wrongN (ins a c r n) u : Int) ≤ 0 ↔ (u.1 + u.2 - a) % 10000 = 0 := fun u => by
    obtain ⟨u1, u2⟩ := u
    have hm : ∀ m : Int, decide (modV m 10000 ≤ 0) = true ↔ m % 10000 = 0 := fun m => by
      rw [decide_eq_true_eq, modV_eq (by omega)]
      have := Int.emod_nonneg m (show (10000 : Int) ≠ 0 by omega)
      omega
    have hr1 : rightB (ins a c r n) (wkAt (ins a c r n).ws 0) (u1, u2) = true ↔ (u1 + u2 - a) % 10000 = 0 := by
      unfold ins rightB
      rw [← he]
      refine (hm _).trans ?_
      unfold missV wkAt
      dsimp only
      simp only [List.getElem?_cons_zero, Option.getD_some]
      omega
    have hw : wrongN (ins a c r n) (u1, u2) = 0 + if rightB (ins a c r n) (wkAt (ins a c r n).ws 0) (u1, u2) then 0 else 1 := rfl
    rw [hw, ← hr1]
    cases rightB (ins a c r n) (wkAt (ins a c r n).ws 0) (u1, u2) <;> simp
  have hok : okB (ins a c r n) = true := by
    unfold okB whB wksB allTo allTo ins inB wkB wkAt signB inB
    rw [← he]
    simp
    omega
  refine areas_one (t := (a, 0)) hok (by unfold ins; dsimp only; omega) (by unfold ins; dsimp only; omega) ?_ ?_
  · show _ ≤ (0 : Int)
    rw [hright]
    dsimp only
    omega
  · intro u hu1 hu2 hu3
    obtain ⟨u1, u2⟩ := u
    have hu3' := (hright (u1, u2)).1 hu3
    unfold ins at hu1 hu2
    dsimp only at hu1 hu2 hu3'
    rw [Prod.mk.injEq]
    omega
end Wh
end Go.Proofs.YtmjcdggmofohcaaGreat
namespace Go.Proofs.YtmjcdggmofohcaaGreat
open Go.RowKit
namespace Wl
theorem cr_bd2 {a b : Pt} (h1 : Geo.ptB a = true) (h2 : Geo.ptB b = true) : -80000 ≤ cr a b ∧ cr a b ≤ 80000 := by
  unfold Geo.ptB inB at h1 h2
  simp only [Bool.and_eq_true, decide_eq_true_eq] at h1 h2
  have m1 := mul_bd (x := 200) (y := 200) h1.1.1 h1.1.2 h2.2.1 h2.2.2
  have m2 := mul_bd (x := 200) (y := 200) h1.2.1 h1.2.2 h2.1.1 h2.1.2
  unfold cr
  omega
theorem ptsTo_all {ps : List Pt} : ∀ n, ptsTo ps n = true → ∀ k, k < n → Geo.ptB (ptAt ps k) = true
  | n + 1, h, k, hk => by
    have h' : (ptsTo ps n && Geo.ptB (ptAt ps n)) = true := h
    rw [Bool.and_eq_true] at h'
    by_cases e : k = n
    · subst e; exact h'.2
    · exact ptsTo_all n h'.1 k (by omega)
theorem dblTo_bd2 {ps : List Pt} (h : ∀ k, k < ps.length → Geo.ptB (ptAt ps k) = true) (h0 : 0 < ps.length) : ∀ k : Nat, k ≤ ps.length → -(80000 * (k : Int)) ≤ dblTo ps k ∧ dblTo ps k ≤ 80000 * (k : Int)
  | 0, _ => by simp [dblTo]
  | k + 1, hk => by
    have ih := dblTo_bd2 h h0 k (by omega)
    have hc := cr_bd2 (h k (by omega)) (h ((k + 1) % ps.length) (Nat.mod_lt _ h0))
    show -(80000 * ((k + 1 : Nat) : Int)) ≤ dblTo ps k + cr _ _ ∧ dblTo ps k + cr _ _ ≤ 80000 * ((k + 1 : Nat) : Int)
    omega
theorem dbl_bd2 {ps : List Pt} (h : ptsB ps = true) (h5 : ps.length ≤ 5) : -400000 ≤ dbl ps ∧ dbl ps ≤ 400000 := by
  unfold ptsB at h
  rw [Bool.and_eq_true] at h
  have h0 : 0 < ps.length := by
    have := h.2
    unfold inB at this
    simp only [Bool.and_eq_true, decide_eq_true_eq] at this
    omega
  have := dblTo_bd2 (ptsTo_all _ h.1) h0 ps.length (Nat.le_refl _)
  unfold dbl
  omega
/-- What the meter says of few places and points. -/
theorem few_meter {t : Trk} {ws : List Pt} {es : List Int} (ht : trkB t = true) (hw : ptsB ws = true) (h5 : t.ps.length ≤ 5) (hw5 : ws.length ≤ 5) (he : elbV t ws es = true) :
    sweepV t ws es = dbl ws - turnsV t es * dbl t.ps ∧ -1000000 ≤ sweepV t ws es ∧ sweepV t ws es ≤ 1000000 := by
  have hw0 : 0 < ws.length := by
    unfold ptsB inB at hw
    simp only [Bool.and_eq_true, decide_eq_true_eq] at hw
    omega
  obtain ⟨m1, m2, m3, m4⟩ := meterV ht hw0 he
  have hpt := (trk_parts ht).1
  have b1 := dbl_bd2 hw hw5
  have b2 := dbl_bd2 hpt h5
  have hT : -1 ≤ turnsV t es ∧ turnsV t es ≤ 1 := by
    by_cases hc : t.cl = 1
    · have h3 := (trk_parts ht).2.1 hc
      have hB := elbV_B hw0 he
      have hst := stTo_bd hB es.length
      have hl := (elbV_iff.1 he).1
      unfold turnsV
      have h1 := Int.natAbs_tdiv (stTo t es es.length) (t.ps.length : Int)
      have h2 : (stTo t es es.length).natAbs / (t.ps.length : Int).natAbs ≤ 1 := by
        have : (stTo t es es.length).natAbs ≤ 5 := by omega
        have hp : (t.ps.length : Int).natAbs = t.ps.length := Int.natAbs_natCast _
        rw [hp]
        exact Nat.le_of_lt_succ ((Nat.div_lt_iff_lt_mul (by omega)).2 (by omega))
      have h3' : ((stTo t es es.length).tdiv (t.ps.length : Int)).natAbs ≤ 1 := by rw [h1]; exact h2
      generalize (stTo t es es.length).tdiv (t.ps.length : Int) = q at *
      omega
    · rw [m2 hc]; omega
  have hm := mul_bd (x := 1) (y := 400000) hT.1 hT.2 b2.1 b2.2
  refine ⟨m1, ?_, ?_⟩ <;> rw [m1] <;> omega
end Wl
theorem wks_one (W : World) (k : Wh.Wk) (t : TypeId) : Wks (W.alloc (.cells #[.int .i64 k.1, .int .i64 k.2.1, .int .i64 k.2.2.1, .int .i64 k.2.2.2.1, .int .i64 k.2.2.2.2] t)) (W.alloc (.cells #[.int .i64 k.1, .int .i64 k.2.1, .int .i64 k.2.2.1, .int .i64 k.2.2.2.1, .int .i64 k.2.2.2.2] t)).heap.size (some ⟨W.heap.size, 0, none⟩) [k] := fun _ => by
  have hb := BoxS.new W t #[.int .i64 k.1, .int .i64 k.2.1, .int .i64 k.2.2.1, .int .i64 k.2.2.2.1, .int .i64 k.2.2.2.2]
  refine ⟨W.heap.size, 0, rfl, hb.lt, fun j hj => ?_⟩
  obtain rfl : j = 0 := by simp at hj; omega
  exact ⟨hb.cell 0 rfl, hb.cell 1 rfl, hb.cell 2 rfl, hb.cell 3 rfl, hb.cell 4 rfl⟩
end Go.Proofs.YtmjcdggmofohcaaGreat
