/- Wheels: the law WheelsNext (P3.9, P3.10). -/
import Derived.Test.YtecmlakcpgkfbaaNxt4
namespace Go.Proofs.Ytecmlakcpgkfbaa
open Go.RowKit
set_option maxRecDepth 100000 in
set_option maxHeartbeats 2000000 in
theorem sameWalks_yes (A A2 : Option Addr) (c c2 : Nat) (ws : List Wh.Wk) (hl : ws.length ≤ 100) (w : World) (hP : Wks w w.heap.size A ws) (hP2 : Wks w w.heap.size A2 ws) :
    Calls Try.prog 29 #[.slice A ws.length c, .slice A2 ws.length c2] w fun e w' => e = .returned (.bool true) ∧ Below w.heap.size w w' := by
  have H1 := Lib.hid hP
  have H2 := Lib.hid hP2
  have hll : (ws.length : Int) ≤ 100 := by omega
  clear hP hP2
  go_enter Try.func29, Try.ntmps29
  go_wp2_with fail
  go_loopw [5] (fun x wr => ∃ k : Nat, (k : Int) ≤ ws.length ∧ x = .int .i64 k ∧ Below w.heap.size w wr) (fun x _ => (ws.length - intOf x).toNat)
  case atStart => exact ⟨0, by omega, rfl, Below.refl _ _⟩
  case round =>
    obtain ⟨k, hk, rfl, hB⟩ := hrel
    have hk0 := Int.natCast_nonneg k
    by_cases hlt : (k : Int) < ws.length
    · have hkl : k < ws.length := by omega
      obtain ⟨b, off, rfl, hb, hc⟩ := H1.out (by omega)
      obtain ⟨b2, off2, rfl, hb2, hc2⟩ := H2.out (by omega)
      obtain ⟨d0, d1, d2, d3, d4⟩ := hc k hkl
      obtain ⟨f0, f1, f2, f3, f4⟩ := hc2 k hkl
      have d0 := (hB.cell (p := ⟨b, _, none⟩) hb).trans d0
      have d1 := (hB.cell (p := ⟨b, _, none⟩) hb).trans d1
      have d2 := (hB.cell (p := ⟨b, _, none⟩) hb).trans d2
      have d3 := (hB.cell (p := ⟨b, _, none⟩) hb).trans d3
      have d4 := (hB.cell (p := ⟨b, _, none⟩) hb).trans d4
      have f0 := (hB.cell (p := ⟨b2, _, none⟩) hb2).trans f0
      have f1 := (hB.cell (p := ⟨b2, _, none⟩) hb2).trans f1
      have f2 := (hB.cell (p := ⟨b2, _, none⟩) hb2).trans f2
      have f3 := (hB.cell (p := ⟨b2, _, none⟩) hb2).trans f3
      have f4 := (hB.cell (p := ⟨b2, _, none⟩) hb2).trans f4
      clear hc hc2 H1 H2
      generalize Wh.wkAt ws k = p at *
      obtain ⟨x, y, z, u, v⟩ := p
      dsimp only at d0 d1 d2 d3 d4 f0 f1 f2 f3 f4
      go_wp2_with fail
      go_quiet (fail)
      go_wp2_with fail
      go_roundw
      case rel => exact ⟨k + 1, by omega, by go_num, by (repeat' (first | (with_reducible exact Below.refl _ _) | (with_reducible assumption) | (with_reducible refine Below.alloc ?_ ?_ _) | (with_reducible refine below_drewN ?_ _) | (with_reducible refine Below.drew ?_) | (with_reducible refine Below.setCell ?_ ?_ _) | go_size))⟩
      case measure => simp [intOf]; omega
    · go_wp2_with fail
      go_returns
      exact ⟨rfl, hB⟩
namespace Wh
theorem cases_small {d : Desk} (hf : farB d = false) (hok : okB d = true) : (casesL d).length ≤ 90000 := by
  unfold farB at hf
  rw [hok, Bool.true_and, Bool.or_eq_false_iff] at hf
  have h := hf.2
  unfold bigB at h
  simp only [Bool.or_eq_false_iff, decide_eq_false_iff_not] at h
  have hd := ok_of hok
  have e : (casesL d).length = na d * nb d := casesTo_len d _
  have h1 : na d ≤ 26 := by unfold na; omega
  have h2 : nb d ≤ 5 := by unfold nb; omega
  rw [e]
  exact Nat.le_trans (Nat.mul_le_mul h1 h2) (by decide)
theorem far_len {d : Desk} (hf : farB d = false) : d.ws.length ≤ 40 := by
  unfold farB at hf
  rw [Bool.or_eq_false_iff] at hf
  have := of_decide_eq_false hf.1
  omega
end Wh
theorem Next3_any (d : Wh.Desk) (A : Option Addr) (c : Nat) (w : World) (hl : d.ws.length ≤ 1000000000) (hz : Wh.okB d = true → (Wh.casesL d).length ≤ 90000) (hg : Wks w w.heap.size A d.ws) :
    Calls Try.prog 33 #[.agg (whV d), .slice A d.ws.length c] w (NextPost (Wh.nextV d).1 (Wh.nextV d).2 (Wh.spE d) w) := by
  have hL : Wh.spE d = 0 → Wh.knL d true = Wh.vals (Wh.truthsL d) := fun h => by unfold Wh.knL; rw [Wh.knE_sp, if_pos h]
  have key : Wh.spE d = 0 → ∀ k1 k2 : Int, (k1 = 1 ∨ k1 = -1) → (k2 = 1 ∨ k2 = -1) → ∀ A' c' W, Prs W W.heap.size A' (Wh.knL d true) → Calls Try.prog 66 #[.agg (whV d), .slice A' (Wh.knL d true).length c', .int .i64 k1, .int .i64 k2] W fun e w' => e = .returned (.int .i64 (Wh.worstV d k1 k2)) ∧ Below W.heap.size W w' := fun h0 k1 k2 h1 h2 A' c' W hP => by
    rw [hL h0] at hP ⊢
    have hok := (Wh.sp_ok h0).1
    have hd := Wh.ok_of hok
    have := worst3_any d hd k1 k2 h1 h2 A' c' (Wh.vals (Wh.truthsL d)) (by
      rw [Wh.vals_len]
      exact Nat.le_trans (List.length_filter_le _ _) (hz hok)) (fun i hi => Wh.trAt_sm hi) W hP
    rw [Wh.worst3_eq hd h1 h0] at this
    exact this
  have hbd : ∀ k1 k2 : Int, Wh.spE d = 0 → 0 ≤ Wh.worstV d k1 k2 ∧ Wh.worstV d k1 k2 ≤ 1000000 := fun k1 k2 h0 => by
    have hok := (Wh.sp_ok h0).1
    have hd := Wh.ok_of hok
    have h1 := Wh.worst_pos hd h0 k1 k2
    have h2 := Wh.worst_areas hd h0 k1 k2
    have h3 : (Wh.areasV d).length ≤ 90000 := by
      have hn : (Wh.areasV d).Nodup := (Wh.areas_sorted d).imp (fun h => by omega)
      have hsub : Wh.areasV d ⊆ Wh.arL (Wh.vals (Wh.truthsL d)) := fun x hx => by
        obtain ⟨t, ht, e⟩ := (Wh.areas_mem h0 x).1 hx
        exact (Wh.arL_mem _ x).2 ⟨t.1, List.mem_map.2 ⟨t, ht, rfl⟩, e⟩
      refine Nat.le_trans (hn.length_le_of_subset hsub) (Nat.le_trans (Wh.arL_len _) ?_)
      rw [Wh.vals_len]
      exact Nat.le_trans (List.length_filter_le _ _) (hz hok)
    omega
  by_cases h0 : Wh.spE d = 0
  · have hd := Wh.ok_of (Wh.sp_ok h0).1
    have n1 := Wh.worst_neg hd 1 1
    have n2 := Wh.worst_neg hd 1 (-1)
    rw [Int.neg_neg] at n2
    refine Next3_core d.full d.read d.slip d.skew d.circ d.glo d.ghi d.wr d.ws A c w (Wh.spE d) (Wh.knL d true) (Wh.worstV d 1 1) (Wh.worstV d 1 (-1)) (Wh.nextV d).1 (Wh.nextV d).2 (fun _ => ?_) (fun h => absurd h0 h) (hbd _ _ h0) (hbd _ _ h0) (fun W hW => ?_) (fun h => key h 1 1 (.inl rfl) (.inl rfl)) (fun h => key h 1 (-1) (.inl rfl) (.inr rfl)) (fun h => ?_) (fun h => ?_)
    · unfold Wh.nextV
      rw [if_pos h0, Wh.nextTo_four]
      split <;> exact ⟨rfl, rfl⟩
    · have := known3_any d A c true W hl hz ((hg.keep hW).wider hW.size)
      rw [Wh.knE_sp] at this
      exact this
    · have := key h (-1) 1 (.inr rfl) (.inl rfl)
      rw [n2] at this
      exact this
    · have := key h (-1) (-1) (.inr rfl) (.inr rfl)
      rw [n1] at this
      exact this
  · refine Next3_core d.full d.read d.slip d.skew d.circ d.glo d.ghi d.wr d.ws A c w (Wh.spE d) (Wh.knL d true) 0 0 (Wh.nextV d).1 (Wh.nextV d).2 (fun h => absurd h h0) (fun _ => ?_) (by omega) (by omega) (fun W hW => ?_) (fun h => absurd h h0) (fun h => absurd h h0) (fun h => absurd h h0) (fun h => absurd h h0)
    · unfold Wh.nextV
      rw [if_neg h0]
      exact ⟨rfl, rfl⟩
    · have := known3_any d A c true W hl hz ((hg.keep hW).wider hW.size)
      rw [Wh.knE_sp] at this
      exact this
set_option maxRecDepth 100000 in
set_option maxHeartbeats 8000000 in
theorem NextL_core (full read slip skew circ glo ghi wrn : Int) (ws : List Wh.Wk) (A : Option Addr) (c : Nat) (k1 k2 : Int) (w : World) (V E N1 N2 E2 : Int) (hl8 : ws.length ≤ 1000000) (HG : Hid (Wks w w.heap.size A ws))
    (HWK : Hid (∀ W, Calls Try.prog 13 #[] W (BoolPost true W)))
    (HF : Hid (∀ W, Below w.heap.size w W → Calls Try.prog 12 #[.agg #[.int .i64 full, .int .i64 read, .int .i64 slip, .int .i64 skew, .int .i64 circ, .int .i64 glo, .int .i64 ghi, .int .i64 wrn], .slice A ws.length c] W (BoolPost false W)))
    (HW1 : Hid (∀ A' c' W, Wks W W.heap.size A' ws → Calls Try.prog 30 #[.agg #[.int .i64 full, .int .i64 read, .int .i64 slip, .int .i64 skew, .int .i64 circ, .int .i64 glo, .int .i64 ghi, .int .i64 wrn], .slice A' ws.length c', .int .i64 k1, .int .i64 k2] W (WorstPost V E W)))
    (HW2 : Hid (∀ W, Below w.heap.size w W → Calls Try.prog 31 #[.agg #[.int .i64 full, .int .i64 read, .int .i64 slip, .int .i64 skew, .int .i64 circ, .int .i64 glo, .int .i64 ghi, .int .i64 wrn], .slice A ws.length c, .int .i64 k1, .int .i64 k2] W (WorstPost V E W)))
    (HN1 : Hid (∀ A' c' W, Wks W W.heap.size A' ws → Calls Try.prog 32 #[.agg #[.int .i64 full, .int .i64 read, .int .i64 slip, .int .i64 skew, .int .i64 circ, .int .i64 glo, .int .i64 ghi, .int .i64 wrn], .slice A' ws.length c'] W (NextPost N1 N2 E2 W)))
    (HN2 : Hid (∀ W, Below w.heap.size w W → Calls Try.prog 33 #[.agg #[.int .i64 full, .int .i64 read, .int .i64 slip, .int .i64 skew, .int .i64 circ, .int .i64 glo, .int .i64 ghi, .int .i64 wrn], .slice A ws.length c] W (NextPost N1 N2 E2 W)))
    (HSW : Hid (∀ A' c' W, Below w.heap.size w W → Wks W W.heap.size A' ws → Calls Try.prog 29 #[.slice A' ws.length c', .slice A ws.length c] W (BoolPost true W))) :
    Calls Try.prog 4 #[.agg #[.int .i64 full, .int .i64 read, .int .i64 slip, .int .i64 skew, .int .i64 circ, .int .i64 glo, .int .i64 ghi, .int .i64 wrn], .slice A ws.length c, .agg #[.int .i64 k1, .int .i64 k2]] w (BoolPost true w) := by
  go_enter Try.func4, Try.ntmps4
  go_wp2_with fail
  have bS1 := (BoxS.new w 25 #[.int .i64 full, .int .i64 read, .int .i64 slip, .int .i64 skew, .int .i64 circ, .int .i64 glo, .int .i64 ghi, .int .i64 wrn]).alloc (.cells #[.int .i64 k1, .int .i64 k2] 41)
  have bX1 := BoxS.new (w.alloc (.cells #[.int .i64 full, .int .i64 read, .int .i64 slip, .int .i64 skew, .int .i64 circ, .int .i64 glo, .int .i64 ghi, .int .i64 wrn] 25)) 41 #[.int .i64 k1, .int .i64 k2]
  rw [World.size_alloc] at bX1
  have hB1 : Below w.heap.size w ((w.alloc (.cells #[.int .i64 full, .int .i64 read, .int .i64 slip, .int .i64 skew, .int .i64 circ, .int .i64 glo, .int .i64 ghi, .int .i64 wrn] 25)).alloc (.cells #[.int .i64 k1, .int .i64 k2] 41)) := by (repeat' (first | (with_reducible exact Below.refl _ _) | (with_reducible assumption) | (with_reducible refine Below.alloc ?_ ?_ _) | (with_reducible refine Below.drew ?_) | (with_reducible refine Below.setCell ?_ ?_ _) | go_size | (exact (by simp)) | omega))
  generalize World.alloc (World.alloc w _) _ = w1 at *
  have cs0 : w1.cell? ⟨w.heap.size, 0, none⟩ = some (.int .i64 full) := bS1.cell 0 rfl
  have cs1 : w1.cell? ⟨w.heap.size, 1, none⟩ = some (.int .i64 read) := bS1.cell 1 rfl
  have cs2 : w1.cell? ⟨w.heap.size, 2, none⟩ = some (.int .i64 slip) := bS1.cell 2 rfl
  have cs3 : w1.cell? ⟨w.heap.size, 3, none⟩ = some (.int .i64 skew) := bS1.cell 3 rfl
  have cs4 : w1.cell? ⟨w.heap.size, 4, none⟩ = some (.int .i64 circ) := bS1.cell 4 rfl
  have cs5 : w1.cell? ⟨w.heap.size, 5, none⟩ = some (.int .i64 glo) := bS1.cell 5 rfl
  have cs6 : w1.cell? ⟨w.heap.size, 6, none⟩ = some (.int .i64 ghi) := bS1.cell 6 rfl
  have cs7 : w1.cell? ⟨w.heap.size, 7, none⟩ = some (.int .i64 wrn) := bS1.cell 7 rfl
  have lS1 := bS1.lt
  have cx0 : w1.cell? ⟨w.heap.size + 1, 0, none⟩ = some (.int .i64 k1) := bX1.cell 0 rfl
  have cx1 : w1.cell? ⟨w.heap.size + 1, 1, none⟩ = some (.int .i64 k2) := bX1.cell 1 rfl
  have lX1 := bX1.lt
  go_wp2_with fail
  refine (HF.out _ hB1).mono ?_
  rintro e w2 ⟨rfl, hb2⟩
  have bS2 := bS1.below hb2
  have bX2 := bX1.below hb2
  have hB2 := hB1.trans (hb2.mono hB1.size)
  clear cs0 cs1 cs2 cs3 cs4 cs5 cs6 cs7 lS1 cx0 cx1 lX1 bS1 bX1 hB1 hb2
  have cs0 : w2.cell? ⟨w.heap.size, 0, none⟩ = some (.int .i64 full) := bS2.cell 0 rfl
  have cs1 : w2.cell? ⟨w.heap.size, 1, none⟩ = some (.int .i64 read) := bS2.cell 1 rfl
  have cs2 : w2.cell? ⟨w.heap.size, 2, none⟩ = some (.int .i64 slip) := bS2.cell 2 rfl
  have cs3 : w2.cell? ⟨w.heap.size, 3, none⟩ = some (.int .i64 skew) := bS2.cell 3 rfl
  have cs4 : w2.cell? ⟨w.heap.size, 4, none⟩ = some (.int .i64 circ) := bS2.cell 4 rfl
  have cs5 : w2.cell? ⟨w.heap.size, 5, none⟩ = some (.int .i64 glo) := bS2.cell 5 rfl
  have cs6 : w2.cell? ⟨w.heap.size, 6, none⟩ = some (.int .i64 ghi) := bS2.cell 6 rfl
  have cs7 : w2.cell? ⟨w.heap.size, 7, none⟩ = some (.int .i64 wrn) := bS2.cell 7 rfl
  have lS2 := bS2.lt
  have cx0 : w2.cell? ⟨w.heap.size + 1, 0, none⟩ = some (.int .i64 k1) := bX2.cell 0 rfl
  have cx1 : w2.cell? ⟨w.heap.size + 1, 1, none⟩ = some (.int .i64 k2) := bX2.cell 1 rfl
  have lX2 := bX2.lt
  go_upto_region 3 with fail
  have HWl2 : Hid (Wks w2 w2.heap.size A ws) := (HG.out.keep hB2).wider hB2.size
  go_upto_region 4 with (at_builtin; go_must (refine wpList_copyw rfl (.tmp 22) (.tmp 23) rfl A c ws w2.heap.size rfl rfl rfl HWl2.out (by omega) ?_; intro Ao co w3 hown3 hb3))
  have bS3 := bS2.below hb3
  have bX3 := bX2.below hb3
  have hB3 := hB2.trans (hb3.mono hB2.size)
  clear cs0 cs1 cs2 cs3 cs4 cs5 cs6 cs7 lS2 cx0 cx1 lX2 bS2 bX2 hB2 hb3 HWl2
  have WO3 : Hid (Wks w3 w3.heap.size Ao ws) := wks_of_own hown3
  clear hown3
  have cs0 : w3.cell? ⟨w.heap.size, 0, none⟩ = some (.int .i64 full) := bS3.cell 0 rfl
  have cs1 : w3.cell? ⟨w.heap.size, 1, none⟩ = some (.int .i64 read) := bS3.cell 1 rfl
  have cs2 : w3.cell? ⟨w.heap.size, 2, none⟩ = some (.int .i64 slip) := bS3.cell 2 rfl
  have cs3 : w3.cell? ⟨w.heap.size, 3, none⟩ = some (.int .i64 skew) := bS3.cell 3 rfl
  have cs4 : w3.cell? ⟨w.heap.size, 4, none⟩ = some (.int .i64 circ) := bS3.cell 4 rfl
  have cs5 : w3.cell? ⟨w.heap.size, 5, none⟩ = some (.int .i64 glo) := bS3.cell 5 rfl
  have cs6 : w3.cell? ⟨w.heap.size, 6, none⟩ = some (.int .i64 ghi) := bS3.cell 6 rfl
  have cs7 : w3.cell? ⟨w.heap.size, 7, none⟩ = some (.int .i64 wrn) := bS3.cell 7 rfl
  have lS3 := bS3.lt
  have cx0 : w3.cell? ⟨w.heap.size + 1, 0, none⟩ = some (.int .i64 k1) := bX3.cell 0 rfl
  have cx1 : w3.cell? ⟨w.heap.size + 1, 1, none⟩ = some (.int .i64 k2) := bX3.cell 1 rfl
  have lX3 := bX3.lt
  go_wp2_with fail
  refine (HW1.out _ _ _ WO3.out).mono ?_
  rintro e w4 ⟨rfl, hb4⟩
  have bS4 := bS3.below hb4
  have bX4 := bX3.below hb4
  have hB4 := hB3.trans (hb4.mono hB3.size)
  have WO4 : Hid (Wks w4 w4.heap.size Ao ws) := (WO3.out.keep hb4).wider hb4.size
  clear cs0 cs1 cs2 cs3 cs4 cs5 cs6 cs7 lS3 cx0 cx1 lX3 bS3 bX3 WO3 hB3 hb4
  have cs0 : w4.cell? ⟨w.heap.size, 0, none⟩ = some (.int .i64 full) := bS4.cell 0 rfl
  have cs1 : w4.cell? ⟨w.heap.size, 1, none⟩ = some (.int .i64 read) := bS4.cell 1 rfl
  have cs2 : w4.cell? ⟨w.heap.size, 2, none⟩ = some (.int .i64 slip) := bS4.cell 2 rfl
  have cs3 : w4.cell? ⟨w.heap.size, 3, none⟩ = some (.int .i64 skew) := bS4.cell 3 rfl
  have cs4 : w4.cell? ⟨w.heap.size, 4, none⟩ = some (.int .i64 circ) := bS4.cell 4 rfl
  have cs5 : w4.cell? ⟨w.heap.size, 5, none⟩ = some (.int .i64 glo) := bS4.cell 5 rfl
  have cs6 : w4.cell? ⟨w.heap.size, 6, none⟩ = some (.int .i64 ghi) := bS4.cell 6 rfl
  have cs7 : w4.cell? ⟨w.heap.size, 7, none⟩ = some (.int .i64 wrn) := bS4.cell 7 rfl
  have lS4 := bS4.lt
  have cx0 : w4.cell? ⟨w.heap.size + 1, 0, none⟩ = some (.int .i64 k1) := bX4.cell 0 rfl
  have cx1 : w4.cell? ⟨w.heap.size + 1, 1, none⟩ = some (.int .i64 k2) := bX4.cell 1 rfl
  have lX4 := bX4.lt
  go_wp2_with fail
  refine (HW2.out _ hB4).mono ?_
  rintro e w5 ⟨rfl, hb5⟩
  have bS5 := bS4.below hb5
  have bX5 := bX4.below hb5
  have hB5 := hB4.trans (hb5.mono hB4.size)
  have WO5 : Hid (Wks w5 w5.heap.size Ao ws) := (WO4.out.keep hb5).wider hb5.size
  clear cs0 cs1 cs2 cs3 cs4 cs5 cs6 cs7 lS4 cx0 cx1 lX4 bS4 bX4 WO4 hB4 hb5
  have cs0 : w5.cell? ⟨w.heap.size, 0, none⟩ = some (.int .i64 full) := bS5.cell 0 rfl
  have cs1 : w5.cell? ⟨w.heap.size, 1, none⟩ = some (.int .i64 read) := bS5.cell 1 rfl
  have cs2 : w5.cell? ⟨w.heap.size, 2, none⟩ = some (.int .i64 slip) := bS5.cell 2 rfl
  have cs3 : w5.cell? ⟨w.heap.size, 3, none⟩ = some (.int .i64 skew) := bS5.cell 3 rfl
  have cs4 : w5.cell? ⟨w.heap.size, 4, none⟩ = some (.int .i64 circ) := bS5.cell 4 rfl
  have cs5 : w5.cell? ⟨w.heap.size, 5, none⟩ = some (.int .i64 glo) := bS5.cell 5 rfl
  have cs6 : w5.cell? ⟨w.heap.size, 6, none⟩ = some (.int .i64 ghi) := bS5.cell 6 rfl
  have cs7 : w5.cell? ⟨w.heap.size, 7, none⟩ = some (.int .i64 wrn) := bS5.cell 7 rfl
  have lS5 := bS5.lt
  have cx0 : w5.cell? ⟨w.heap.size + 1, 0, none⟩ = some (.int .i64 k1) := bX5.cell 0 rfl
  have cx1 : w5.cell? ⟨w.heap.size + 1, 1, none⟩ = some (.int .i64 k2) := bX5.cell 1 rfl
  have lX5 := bX5.lt
  go_wp2_with fail
  refine (HN1.out _ _ _ WO5.out).mono ?_
  rintro e w6 ⟨rfl, hb6⟩
  have bS6 := bS5.below hb6
  have bX6 := bX5.below hb6
  have hB6 := hB5.trans (hb6.mono hB5.size)
  have WO6 : Hid (Wks w6 w6.heap.size Ao ws) := (WO5.out.keep hb6).wider hb6.size
  clear cs0 cs1 cs2 cs3 cs4 cs5 cs6 cs7 lS5 cx0 cx1 lX5 bS5 bX5 WO5 hB5 hb6
  have cs0 : w6.cell? ⟨w.heap.size, 0, none⟩ = some (.int .i64 full) := bS6.cell 0 rfl
  have cs1 : w6.cell? ⟨w.heap.size, 1, none⟩ = some (.int .i64 read) := bS6.cell 1 rfl
  have cs2 : w6.cell? ⟨w.heap.size, 2, none⟩ = some (.int .i64 slip) := bS6.cell 2 rfl
  have cs3 : w6.cell? ⟨w.heap.size, 3, none⟩ = some (.int .i64 skew) := bS6.cell 3 rfl
  have cs4 : w6.cell? ⟨w.heap.size, 4, none⟩ = some (.int .i64 circ) := bS6.cell 4 rfl
  have cs5 : w6.cell? ⟨w.heap.size, 5, none⟩ = some (.int .i64 glo) := bS6.cell 5 rfl
  have cs6 : w6.cell? ⟨w.heap.size, 6, none⟩ = some (.int .i64 ghi) := bS6.cell 6 rfl
  have cs7 : w6.cell? ⟨w.heap.size, 7, none⟩ = some (.int .i64 wrn) := bS6.cell 7 rfl
  have lS6 := bS6.lt
  have cx0 : w6.cell? ⟨w.heap.size + 1, 0, none⟩ = some (.int .i64 k1) := bX6.cell 0 rfl
  have cx1 : w6.cell? ⟨w.heap.size + 1, 1, none⟩ = some (.int .i64 k2) := bX6.cell 1 rfl
  have lX6 := bX6.lt
  go_wp2_with fail
  refine (HN2.out _ hB6).mono ?_
  rintro e w7 ⟨rfl, hb7⟩
  have bS7 := bS6.below hb7
  have bX7 := bX6.below hb7
  have hB7 := hB6.trans (hb7.mono hB6.size)
  have WO7 : Hid (Wks w7 w7.heap.size Ao ws) := (WO6.out.keep hb7).wider hb7.size
  clear cs0 cs1 cs2 cs3 cs4 cs5 cs6 cs7 lS6 cx0 cx1 lX6 bS6 bX6 WO6 hB6 hb7
  have cs0 : w7.cell? ⟨w.heap.size, 0, none⟩ = some (.int .i64 full) := bS7.cell 0 rfl
  have cs1 : w7.cell? ⟨w.heap.size, 1, none⟩ = some (.int .i64 read) := bS7.cell 1 rfl
  have cs2 : w7.cell? ⟨w.heap.size, 2, none⟩ = some (.int .i64 slip) := bS7.cell 2 rfl
  have cs3 : w7.cell? ⟨w.heap.size, 3, none⟩ = some (.int .i64 skew) := bS7.cell 3 rfl
  have cs4 : w7.cell? ⟨w.heap.size, 4, none⟩ = some (.int .i64 circ) := bS7.cell 4 rfl
  have cs5 : w7.cell? ⟨w.heap.size, 5, none⟩ = some (.int .i64 glo) := bS7.cell 5 rfl
  have cs6 : w7.cell? ⟨w.heap.size, 6, none⟩ = some (.int .i64 ghi) := bS7.cell 6 rfl
  have cs7 : w7.cell? ⟨w.heap.size, 7, none⟩ = some (.int .i64 wrn) := bS7.cell 7 rfl
  have lS7 := bS7.lt
  have cx0 : w7.cell? ⟨w.heap.size + 1, 0, none⟩ = some (.int .i64 k1) := bX7.cell 0 rfl
  have cx1 : w7.cell? ⟨w.heap.size + 1, 1, none⟩ = some (.int .i64 k2) := bX7.cell 1 rfl
  have lX7 := bX7.lt
  go_wp2_with fail
  refine (HSW.out _ _ _ hB7 WO7.out).mono ?_
  rintro e w8 ⟨rfl, hb8⟩
  have bS8 := bS7.below hb8
  have bX8 := bX7.below hb8
  have hB8 := hB7.trans (hb8.mono hB7.size)
  have WO8 : Hid (Wks w8 w8.heap.size Ao ws) := (WO7.out.keep hb8).wider hb8.size
  clear cs0 cs1 cs2 cs3 cs4 cs5 cs6 cs7 lS7 cx0 cx1 lX7 bS7 bX7 WO7 hB7 hb8
  have cs0 : w8.cell? ⟨w.heap.size, 0, none⟩ = some (.int .i64 full) := bS8.cell 0 rfl
  have cs1 : w8.cell? ⟨w.heap.size, 1, none⟩ = some (.int .i64 read) := bS8.cell 1 rfl
  have cs2 : w8.cell? ⟨w.heap.size, 2, none⟩ = some (.int .i64 slip) := bS8.cell 2 rfl
  have cs3 : w8.cell? ⟨w.heap.size, 3, none⟩ = some (.int .i64 skew) := bS8.cell 3 rfl
  have cs4 : w8.cell? ⟨w.heap.size, 4, none⟩ = some (.int .i64 circ) := bS8.cell 4 rfl
  have cs5 : w8.cell? ⟨w.heap.size, 5, none⟩ = some (.int .i64 glo) := bS8.cell 5 rfl
  have cs6 : w8.cell? ⟨w.heap.size, 6, none⟩ = some (.int .i64 ghi) := bS8.cell 6 rfl
  have cs7 : w8.cell? ⟨w.heap.size, 7, none⟩ = some (.int .i64 wrn) := bS8.cell 7 rfl
  have lS8 := bS8.lt
  have cx0 : w8.cell? ⟨w.heap.size + 1, 0, none⟩ = some (.int .i64 k1) := bX8.cell 0 rfl
  have cx1 : w8.cell? ⟨w.heap.size + 1, 1, none⟩ = some (.int .i64 k2) := bX8.cell 1 rfl
  have lX8 := bX8.lt
  go_wp2_with fail
  refine (HWK.out _).mono ?_
  rintro e wz ⟨rfl, hbz⟩
  have hBz := hB8.trans (hbz.mono hB8.size)
  go_wp2_with fail
  go_returns
  exact ⟨rfl, hBz⟩
set_option maxRecDepth 100000 in
set_option maxHeartbeats 8000000 in
theorem NextL_far (full read slip skew circ glo ghi wrn : Int) (n : Nat) (A : Option Addr) (c : Nat) (k1 k2 : Int) (w : World)
    (HWK : Hid (∀ W, Calls Try.prog 13 #[] W (BoolPost true W)))
    (HF : Hid (∀ W, Below w.heap.size w W → Calls Try.prog 12 #[.agg #[.int .i64 full, .int .i64 read, .int .i64 slip, .int .i64 skew, .int .i64 circ, .int .i64 glo, .int .i64 ghi, .int .i64 wrn], .slice A n c] W (BoolPost true W))) :
    Calls Try.prog 4 #[.agg #[.int .i64 full, .int .i64 read, .int .i64 slip, .int .i64 skew, .int .i64 circ, .int .i64 glo, .int .i64 ghi, .int .i64 wrn], .slice A n c, .agg #[.int .i64 k1, .int .i64 k2]] w (BoolPost true w) := by
  go_enter Try.func4, Try.ntmps4
  go_wp2_with fail
  have bS1 := (BoxS.new w 25 #[.int .i64 full, .int .i64 read, .int .i64 slip, .int .i64 skew, .int .i64 circ, .int .i64 glo, .int .i64 ghi, .int .i64 wrn]).alloc (.cells #[.int .i64 k1, .int .i64 k2] 41)
  have bX1 := BoxS.new (w.alloc (.cells #[.int .i64 full, .int .i64 read, .int .i64 slip, .int .i64 skew, .int .i64 circ, .int .i64 glo, .int .i64 ghi, .int .i64 wrn] 25)) 41 #[.int .i64 k1, .int .i64 k2]
  rw [World.size_alloc] at bX1
  have hB1 : Below w.heap.size w ((w.alloc (.cells #[.int .i64 full, .int .i64 read, .int .i64 slip, .int .i64 skew, .int .i64 circ, .int .i64 glo, .int .i64 ghi, .int .i64 wrn] 25)).alloc (.cells #[.int .i64 k1, .int .i64 k2] 41)) := by (repeat' (first | (with_reducible exact Below.refl _ _) | (with_reducible assumption) | (with_reducible refine Below.alloc ?_ ?_ _) | (with_reducible refine Below.drew ?_) | (with_reducible refine Below.setCell ?_ ?_ _) | go_size | (exact (by simp)) | omega))
  generalize World.alloc (World.alloc w _) _ = w1 at *
  have cs0 : w1.cell? ⟨w.heap.size, 0, none⟩ = some (.int .i64 full) := bS1.cell 0 rfl
  have cs1 : w1.cell? ⟨w.heap.size, 1, none⟩ = some (.int .i64 read) := bS1.cell 1 rfl
  have cs2 : w1.cell? ⟨w.heap.size, 2, none⟩ = some (.int .i64 slip) := bS1.cell 2 rfl
  have cs3 : w1.cell? ⟨w.heap.size, 3, none⟩ = some (.int .i64 skew) := bS1.cell 3 rfl
  have cs4 : w1.cell? ⟨w.heap.size, 4, none⟩ = some (.int .i64 circ) := bS1.cell 4 rfl
  have cs5 : w1.cell? ⟨w.heap.size, 5, none⟩ = some (.int .i64 glo) := bS1.cell 5 rfl
  have cs6 : w1.cell? ⟨w.heap.size, 6, none⟩ = some (.int .i64 ghi) := bS1.cell 6 rfl
  have cs7 : w1.cell? ⟨w.heap.size, 7, none⟩ = some (.int .i64 wrn) := bS1.cell 7 rfl
  have lS1 := bS1.lt
  have cx0 : w1.cell? ⟨w.heap.size + 1, 0, none⟩ = some (.int .i64 k1) := bX1.cell 0 rfl
  have cx1 : w1.cell? ⟨w.heap.size + 1, 1, none⟩ = some (.int .i64 k2) := bX1.cell 1 rfl
  have lX1 := bX1.lt
  go_wp2_with fail
  refine (HF.out _ hB1).mono ?_
  rintro e w2 ⟨rfl, hb2⟩
  have bS2 := bS1.below hb2
  have bX2 := bX1.below hb2
  have hB2 := hB1.trans (hb2.mono hB1.size)
  clear cs0 cs1 cs2 cs3 cs4 cs5 cs6 cs7 lS1 cx0 cx1 lX1 bS1 bX1 hB1 hb2
  have cs0 : w2.cell? ⟨w.heap.size, 0, none⟩ = some (.int .i64 full) := bS2.cell 0 rfl
  have cs1 : w2.cell? ⟨w.heap.size, 1, none⟩ = some (.int .i64 read) := bS2.cell 1 rfl
  have cs2 : w2.cell? ⟨w.heap.size, 2, none⟩ = some (.int .i64 slip) := bS2.cell 2 rfl
  have cs3 : w2.cell? ⟨w.heap.size, 3, none⟩ = some (.int .i64 skew) := bS2.cell 3 rfl
  have cs4 : w2.cell? ⟨w.heap.size, 4, none⟩ = some (.int .i64 circ) := bS2.cell 4 rfl
  have cs5 : w2.cell? ⟨w.heap.size, 5, none⟩ = some (.int .i64 glo) := bS2.cell 5 rfl
  have cs6 : w2.cell? ⟨w.heap.size, 6, none⟩ = some (.int .i64 ghi) := bS2.cell 6 rfl
  have cs7 : w2.cell? ⟨w.heap.size, 7, none⟩ = some (.int .i64 wrn) := bS2.cell 7 rfl
  have lS2 := bS2.lt
  have cx0 : w2.cell? ⟨w.heap.size + 1, 0, none⟩ = some (.int .i64 k1) := bX2.cell 0 rfl
  have cx1 : w2.cell? ⟨w.heap.size + 1, 1, none⟩ = some (.int .i64 k2) := bX2.cell 1 rfl
  have lX2 := bX2.lt
  go_wp2_with fail
  refine (HWK.out _).mono ?_
  rintro e wz ⟨rfl, hbz⟩
  have hBz := hB2.trans (hbz.mono hB2.size)
  go_wp2_with fail
  go_returns
  exact ⟨rfl, hBz⟩
theorem NextL_all (d : Wh.Desk) (k1 k2 : Int) (A : Option Addr) (c : Nat) (w : World) (hg : Wks w w.heap.size A d.ws) :
    Calls Try.prog 4 #[.agg (whV d), .slice A d.ws.length c, .agg #[.int .i64 k1, .int .i64 k2]] w (BoolPost true w) := by
  have HWK : Hid (∀ W, Calls Try.prog 13 #[] W (BoolPost true W)) := works_any
  by_cases h40 : 40 < d.ws.length
  · exact NextL_far d.full d.read d.slip d.skew d.circ d.glo d.ghi d.wr d.ws.length A c k1 k2 w HWK (fun W _ => Far3_long d A c W h40)
  · have hl : d.ws.length ≤ 1000000000 := by omega
    have g1 := fun W (hW : Below w.heap.size w W) => (hg.keep hW).wider hW.size
    cases hf : Wh.farB d
    · have hz := fun h => Wh.cases_small hf h
      refine NextL_core d.full d.read d.slip d.skew d.circ d.glo d.ghi d.wr d.ws A c k1 k2 w (Wh.worstR d k1 k2) (Wh.worstE d k1 k2) (Wh.nextV d).1 (Wh.nextV d).2 (Wh.spE d) (by omega) (Lib.hid hg) HWK (fun W hW => ?_) (fun A' c' W hW => Worst_any d k1 k2 A' c' W hl hW) (fun W hW => Worst3_any d k1 k2 A c W hl hz (g1 W hW)) (fun A' c' W hW => Next_any d A' c' W hl hW) (fun W hW => Next3_any d A c W hl hz (g1 W hW)) (fun A' c' W hW hC => sameWalks_yes A' A c' c d.ws (by omega) W hC (g1 W hW))
      have := Far3_any d A c W hl (g1 W hW)
      rw [hf] at this
      exact this
    · refine NextL_far d.full d.read d.slip d.skew d.circ d.glo d.ghi d.wr d.ws.length A c k1 k2 w HWK (fun W hW => ?_)
      have := Far3_any d A c W hl (g1 W hW)
      rw [hf] at this
      exact this
section
open Go.ChangeShapes Go.WideShapes Go.ChangeAt Go.RowKit Go.Joins Go.Deep
variable {H : Type} {enc : TypeId × Value → H} {w : World} {base : Nat} {spare : Nat → Bool} {held : Bool} {r : Reach} {b0 : Nat} {v : Value} {d : DataW H} {p : List MemPlace}
set_option maxRecDepth 100000 in
theorem open_Kind (hv : Value.okWide Try.prog w r b0 41 v) (h : DataW.Trod enc Try.prog w base spare held 41 v d p) :
    ∃ x1 x2 : Int, v = .agg #[.int .i64 x1, .int .i64 x2] := by
  obtain ⟨c0, c1, y0, y1, m, rfl, rfl, rfl, hy0, hy1⟩ := open_agg2 Try.underlying41 (by kernel_rfl) (by kernel_rfl : Try.prog.cellsOf 41 = 2) hv h
  obtain ⟨a, e0, rfl, wa⟩ := DataW.trod_int Try.underlying3 hy0
  obtain ⟨b, e1, rfl, wb⟩ := DataW.trod_int Try.underlying3 hy1
  simp at e0 e1
  subst e0 e1
  exact ⟨a, b, rfl⟩
end
theorem lawNext_walk (f1 f2 f3 f4 f5 f6 f7 f8 : Int) (A : Option Addr) (c : Nat) (ws : List Wh.Wk) (k1 k2 : Int) (w : World) (_hl : ws.length ≤ maxLen) (hg : Wks w w.heap.size A ws) :
    Calls Try.prog 4 #[.agg #[.int .i64 f1, .int .i64 f2, .int .i64 f3, .int .i64 f4, .int .i64 f5, .int .i64 f6, .int .i64 f7, .int .i64 f8], .slice A ws.length c, .agg #[.int .i64 k1, .int .i64 k2]] w fun e w' => e = .returned (.bool true) ∧ Below w.heap.size w w' := NextL_all ⟨f1, f2, f3, f4, f5, f6, f7, f8, ws⟩ k1 k2 A c w hg

open Go.ChangeShapes Go.WideShapes Go.ChangeAt Go.RowKit Go.Joins

set_option maxRecDepth 100000 in
theorem next3_lifted (os : Os) (started : os.Started) (H : Type) (enc : TypeId × Value → H) :
    ReturnsInHanded {} Try.checked os 4 .any (Rows.wheelsNextSpec.pre6 enc Try.prog Try.f4 Rows.wheelsNextRow.domain false) (Rows.wheelsNextSpec.post enc Try.prog Try.f4 false true false false) := by
  refine returnsInHanded_of_change (C := Try.checked) own started (by kernel_rfl) Try.func4
    (ChangeSpec.witness6 (enc := enc) (C := Try.checked) false ⟨#[], #[.agg #[.int .i64 0, .int .i64 0, .int .i64 0, .int .i64 0, .int .i64 0, .int .i64 0, .int .i64 0, .int .i64 0], .slice none 0 0, .agg #[.int .i64 0, .int .i64 0]], []⟩ 8 (by kernel_rfl) (by kernel_rfl) (by kernel_rfl) (by kernel_rfl)) ?_
  intro W base args ds gs before hval0 hW hcnd _
  have hval : ∀ (j : Nat) t v, Try.f4.params[j]? = some t → args[j]? = some v → Value.okWide Try.prog W .any base t v := hval0
  have hW' := hW
  obtain ⟨p, q, hA0, hV, rfl, hfz, hnd⟩ := hW
  have hA : DataW.TrodAll enc Try.prog W 0 (fun _ => true) true Try.f4.params.toList args.toList ds p := hA0
  rw [Try.params4] at hA hval
  obtain ⟨v0, v1, v2, d0, d1, d2, p0, p1, p2, rfl, rfl, rfl, h0, h1, h2⟩ := trodAll_three hA
  obtain ⟨rfl, rfl⟩ := trodVars_none hV
  obtain ⟨f1, f2, f3, f4, f5, f6, f7, f8, rfl⟩ := open_Wheel (hval 0 25 v0 rfl rfl) h0
  obtain ⟨A, c, ws, rfl, hg_ws, hl_ws, hc_ws⟩ := open_Walks (hval 1 26 v1 rfl rfl) h1
  obtain ⟨k1, k2, rfl⟩ := open_Kind (hval 2 41 v2 rfl rfl) h2
  refine (lawNext_walk f1 f2 f3 f4 f5 f6 f7 f8 A c ws k1 k2 W hl_ws hg_ws).mono fun e W' ⟨he, hb⟩ => ?_
  subst he
  exact ⟨_, rfl, law_post hW' rfl rfl (by intro t ht; have : t = 25 ∨ t = 26 ∨ t = 41 := (by rw [Try.params4] at ht; simpa using ht); rcases this with rfl | rfl | rfl <;> exact ⟨by kernel_rfl, of_decide_eq_true (by kernel_rfl)⟩) rfl rfl rfl hb⟩

theorem next3_holds : Rows.WheelsNextSaid :=
  OpenClaim.holds_of_wide 4 Try.f4 rfl rfl rfl rfl rfl rfl rfl ⟨rfl, rfl, rfl, rfl, rfl⟩ rfl rfl rfl rfl rfl (by kernel_rfl) Try.func4 (by kernel_rfl)
    (of_decide_eq_true (by kernel_rfl)) (by unfold Func.isWrapper; rw [if_neg (of_decide_eq_false (by kernel_rfl))]; exact ⟨rfl, rfl⟩)
    (fun os started H enc _ => next3_lifted os started H enc)
end Go.Proofs.Ytecmlakcpgkfbaa
