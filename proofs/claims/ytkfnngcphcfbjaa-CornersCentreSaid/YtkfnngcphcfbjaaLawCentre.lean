/- The centre lies strictly within the least and the greatest X and Y of the corners; of a triangle, First is Twice times the sums. No condition beyond the statement's own. -/
import Derived.Test.YtkfnngcphcfbjaaCenP
namespace Go.Proofs.Ytkfnngcphcfbjaa
open Go.RowKit

set_option maxRecDepth 100000 in
set_option maxHeartbeats 8000000 in
theorem lawCentre_walk (A : Option Addr) (c : Nat) (ps : List (Int × Int)) (w : World) (hm : ps.length ≤ maxLen) (hg : Prs w w.heap.size A ps) :
    Calls Try.prog 9 #[.slice A ps.length c] w fun e w' => e = .returned (.bool true) ∧ Below w.heap.size w w' := by
  have HR : Hid (∀ W, Below w.heap.size w W → Calls Try.prog 14 #[.slice A ps.length c] W fun e w' => e = .returned (.bool (Geo.validB ps)) ∧ Below W.heap.size W w') := fun W hW => ready_any A c ps hm W (prs_keep hg hW)
  cases hv : Geo.validB ps with
  | false =>
    rw [hv] at HR
    clear hg hm hv
    go_enter Try.func9, Try.ntmps9
    go_wp2_with fail
    refine (HR.out _ (Below.refl _ _)).mono ?_
    rintro e w1 ⟨rfl, HBZ⟩
    go_wp2_with fail
    refine (works_any _).mono ?_
    rintro e w9 ⟨rfl, hb9⟩
    have hB9 : Below w.heap.size w w9 := HBZ.trans (hb9.mono HBZ.size)
    go_wp2_with fail
    go_returns
    exact ⟨rfl, hB9⟩
  | true =>
    rw [hv] at HR
    have hlen := Geo.valid_len hv
    have hpt : ∀ k, k < ps.length → Geo.ptB (Geo.ptAt ps k) = true := fun k hk => ((Geo.validP_iff.1 hv).2.1.1 _ (by rw [Geo.ptAt_get hk]; exact List.getElem_mem hk))
    obtain ⟨bb, off, rfl, hbb, hc⟩ := hg (by omega)
    have HC : Hid (∀ W, Below w.heap.size w W → ∀ k, k < ps.length → W.cell? ⟨bb, off + k * 2, none⟩ = some (.int .i64 (Geo.ptAt ps k).1) ∧ W.cell? ⟨bb, off + k * 2 + 1, none⟩ = some (.int .i64 (Geo.ptAt ps k).2)) := fun W hW k hk => by
      have hgk : ps[k]? = some ps[k] := List.getElem?_eq_getElem hk
      have := hc k _ hgk
      rw [Geo.ptAt_eq hgk]
      exact ⟨(hW.cell (p := ⟨bb, off + k * 2, none⟩) hbb).trans this.1, (hW.cell (p := ⟨bb, off + k * 2 + 1, none⟩) hbb).trans this.2⟩
    have HG : Hid (Prs w w.heap.size (some ⟨bb, off, none⟩) ps) := hg
    have hll : (ps.length : Int) ≤ 10 := by omega
    have HV := Lib.hid hv
    have HPT := Lib.hid hpt
    have hl3 : 3 ≤ ps.length := by omega
    have HT1 : Hid (∀ W, Below w.heap.size w W → Calls Try.prog 16 #[.slice (some ⟨bb, off, none⟩) ps.length c] W (ToldPost (Geo.toldA ps) W)) := fun W hW => told_yes _ c ps HV.out W (prs_keep HG.out hW)
    have e1 : Geo.toldA ps = #[.int .i64 (Geo.tot Geo.fanV ps), .int .i64 (Geo.tot Geo.fxV ps), .int .i64 (Geo.tot Geo.fyV ps), .int .i64 (Geo.tot Geo.xxV ps), .int .i64 (Geo.tot Geo.xyV ps), .int .i64 (Geo.tot Geo.yyV ps), .int .i64 (Geo.cenN Geo.fxV ps), .int .i64 (Geo.cenD Geo.fxV ps), .int .i64 (Geo.cenN Geo.fyV ps), .int .i64 (Geo.cenD Geo.fyV ps)] := rfl
    rw [e1] at HT1
    have hsm := Geo.valid_sm HV.out
    have hl10 := (Geo.valid_len HV.out).2
    have bT := fan_sum hsm hl10
    have bX := tot_b2 (f := Geo.fxV) hsm hl10 (fun s h1 h2 => Geo.fx_b2 h1 h2)
    have bZ := tot_b2 (f := Geo.fyV) hsm hl10 (fun s h1 h2 => Geo.fy_b2 h1 h2)
    have hT0 : 3 * Geo.tot Geo.fanV ps ≠ 0 := by have := Geo.area_ne HV.out; omega
    have n1 := Geo.low_bd (b := 3 * Geo.tot Geo.fanV ps) bX
    have n2 := Geo.lowD_bd (a := Geo.tot Geo.fxV ps) (b := 3 * Geo.tot Geo.fanV ps) (M := 240000000) (by omega)
    have n3 := Geo.low_bd (b := 3 * Geo.tot Geo.fanV ps) bZ
    have n4 := Geo.lowD_bd (a := Geo.tot Geo.fyV ps) (b := 3 * Geo.tot Geo.fanV ps) (M := 240000000) (by omega)
    have p2 := (Geo.low_mul (Geo.tot Geo.fxV ps) hT0).2.2.2
    have p4 := (Geo.low_mul (Geo.tot Geo.fyV ps) hT0).2.2.2
    have KX : Hid (∀ lo hi : Int, (∀ p ∈ ps, lo ≤ p.1 ∧ p.1 ≤ hi) → 0 < Geo.cenD Geo.fxV ps ∧ lo * Geo.cenD Geo.fxV ps < Geo.cenN Geo.fxV ps ∧ Geo.cenN Geo.fxV ps < hi * Geo.cenD Geo.fxV ps) := fun lo hi h => by
      rw [(Geo.cen_yes HV.out Geo.fxV).1, (Geo.cen_yes HV.out Geo.fxV).2]
      exact Geo.low_between (by have := Geo.between_x (Geo.validP_iff.1 HV.out) (fun p hp => (h p hp).1) (fun p hp => (h p hp).2); omega)
    have KY : Hid (∀ lo hi : Int, (∀ p ∈ ps, lo ≤ p.2 ∧ p.2 ≤ hi) → 0 < Geo.cenD Geo.fyV ps ∧ lo * Geo.cenD Geo.fyV ps < Geo.cenN Geo.fyV ps ∧ Geo.cenN Geo.fyV ps < hi * Geo.cenD Geo.fyV ps) := fun lo hi h => by
      rw [(Geo.cen_yes HV.out Geo.fyV).1, (Geo.cen_yes HV.out Geo.fyV).2]
      exact Geo.low_between (by have := Geo.between_y (Geo.validP_iff.1 HV.out) (fun p hp => (h p hp).1) (fun p hp => (h p hp).2); omega)
    have KT : Hid (ps.length = 3 → Geo.tot Geo.fxV ps = Geo.tot Geo.fanV ps * Geo.sumX ps ps.length ∧ Geo.tot Geo.fyV ps = Geo.tot Geo.fanV ps * Geo.sumY ps ps.length) := Geo.tri_first
    have KS := Lib.hid (Geo.sum_bd hpt)
    rw [← (Geo.cen_yes HV.out Geo.fxV).1] at n1
    rw [← (Geo.cen_yes HV.out Geo.fxV).2] at n2 p2
    rw [← (Geo.cen_yes HV.out Geo.fyV).1] at n3
    rw [← (Geo.cen_yes HV.out Geo.fyV).2] at n4 p4
    clear hc hg hm hv hpt e1 hsm hl10 hT0 HV hlen bX bZ
    generalize Geo.tot Geo.fanV ps = T at *
    generalize Geo.tot Geo.fxV ps = X at *
    generalize Geo.tot Geo.fyV ps = Z at *
    generalize Geo.tot Geo.xxV ps = XX at *
    generalize Geo.tot Geo.xyV ps = XY at *
    generalize Geo.tot Geo.yyV ps = YY at *
    generalize Geo.cenN Geo.fxV ps = N1 at *
    generalize Geo.cenD Geo.fxV ps = N2 at *
    generalize Geo.cenN Geo.fyV ps = N3 at *
    generalize Geo.cenD Geo.fyV ps = N4 at *
    have hn2 : ¬ N2 < 1 := by omega
    have hn4 : ¬ N4 < 1 := by omega
    have HXS : Hid (∀ x ∈ [N1, N2, N3, N4], -1125899906842624 ≤ x ∧ x ≤ 1125899906842624) := fun x hx => by
      simp only [List.mem_cons, List.not_mem_nil, or_false] at hx
      rcases hx with rfl | rfl | rfl | rfl <;> omega
    have HQ2 : Hid (N2 ≤ 240000000) := n2.2
    have HQ4 : Hid (N4 ≤ 240000000) := n4.2
    have HTB := Lib.hid bT
    obtain ⟨a0, a1⟩ := HC.out _ (Below.refl _ _) 0 (by omega)
    have hp0 := HPT.out 0 (by omega)
    rw [Nat.zero_mul, Nat.add_zero] at a0 a1
    unfold Geo.ptB inB at hp0
    simp at hp0
    generalize hpe : Geo.ptAt ps 0 = P0 at *
    obtain ⟨x0, y0⟩ := P0
    dsimp only at a0 a1 hp0
    clear n1 n2 n3 n4 p2 p4 bT
    go_enter Try.func9, Try.ntmps9
    go_wp2_with fail
    refine (HR.out _ (Below.refl _ _)).mono ?_
    rintro e w1 ⟨rfl, HB1⟩
    go_wp2_with fail
    refine (HT1.out _ HB1).mono ?_
    rintro e w2 ⟨rfl, hb2⟩
    have HB2 := HB1.trans (hb2.mono HB1.size)
    clear hb2 HB1 HT1 HR
    go_wp2_with fail
    have bA := (BoxS.new w2 30 #[.int .i64 T, .int .i64 X, .int .i64 Z, .int .i64 XX, .int .i64 XY, .int .i64 YY, .int .i64 N1, .int .i64 N2, .int .i64 N3, .int .i64 N4]).alloc (.cells #[.int .i64 N1, .int .i64 N2, .int .i64 N3, .int .i64 N4] 3)
    have bS := BoxS.new (w2.alloc (.cells #[.int .i64 T, .int .i64 X, .int .i64 Z, .int .i64 XX, .int .i64 XY, .int .i64 YY, .int .i64 N1, .int .i64 N2, .int .i64 N3, .int .i64 N4] 30)) 3 #[.int .i64 N1, .int .i64 N2, .int .i64 N3, .int .i64 N4]
    have hb3 : Below w2.heap.size w2 ((w2.alloc (.cells #[.int .i64 T, .int .i64 X, .int .i64 Z, .int .i64 XX, .int .i64 XY, .int .i64 YY, .int .i64 N1, .int .i64 N2, .int .i64 N3, .int .i64 N4] 30)).alloc (.cells #[.int .i64 N1, .int .i64 N2, .int .i64 N3, .int .i64 N4] 3)) := by (repeat' (first | (with_reducible exact Below.refl _ _) | (with_reducible assumption) | (with_reducible refine Below.alloc ?_ ?_ _) | (with_reducible refine Below.drew ?_) | (with_reducible refine Below.setCell ?_ ?_ _) | go_size | (exact (by simp)) | omega))
    have HB3 := HB2.trans (hb3.mono HB2.size)
    rw [World.size_alloc] at bS
    clear hb3
    generalize World.alloc (World.alloc w2 _) _ = w3 at *
    refine (sane_yes (w2.heap.size + 1) 4 4 [N1, N2, N3, N4] rfl (by simp) _ bS.lt (fun k x hk => ?_) HXS.out).mono ?_
    · refine bS.cell k ?_
      rcases k with _ | _ | _ | _ | k
      all_goals first | (obtain rfl := Option.some.inj hk; rfl) | (simp at hk)
    rintro e w4 ⟨rfl, hb4⟩
    have bA4 := bA.below hb4
    have HB4 := HB3.trans (hb4.mono HB3.size)
    have la := bA4.lt
    have hs2 := HB2.size
    clear bS bA hb4 HB3 HXS
    have z0 := bA4.cell 7 rfl
    have z1 := bA4.cell 9 rfl
    go_upto_region 6 with fail
    clear z0 z1
    have lb : bb < w4.heap.size := by have := HB4.size; omega
    have a0' := (HB4.cell (p := ⟨bb, off, none⟩) hbb).trans a0
    have a1' := (HB4.cell (p := ⟨bb, off + 1, none⟩) hbb).trans a1
    have KC : Hid (∀ W', Below w4.heap.size w4 W' → W'.cell? ⟨bb, off, none⟩ = some (.int .i64 x0) ∧ W'.cell? ⟨bb, off + 1, none⟩ = some (.int .i64 y0)) :=
      fun W' h => ⟨(h.cell (p := ⟨bb, _, none⟩) lb).trans a0', (h.cell (p := ⟨bb, _, none⟩) lb).trans a1'⟩
    clear a0 a1 a0' a1'
    go_cut [5, 6, 7] (fun s5 s6 s7 wx => ∃ B5 B6 B7 : Nat, (s5 = .pointer (some ⟨B5, 0, none⟩) ∧ s6 = .pointer (some ⟨B6, 0, none⟩) ∧ s7 = .pointer (some ⟨B7, 0, none⟩)) ∧ (B5 ≠ B6 ∧ B5 ≠ B7 ∧ B6 ≠ B7 ∧ w2.heap.size < B5 ∧ w2.heap.size < B6 ∧ w2.heap.size < B7) ∧ (BoxS wx B5 24 #[.int .i64 x0, .int .i64 y0] ∧ BoxS wx B6 24 #[.int .i64 x0, .int .i64 y0] ∧ BoxS wx B7 24 #[.int .i64 0, .int .i64 0] ∧ BoxS wx w2.heap.size 30 #[.int .i64 T, .int .i64 X, .int .i64 Z, .int .i64 XX, .int .i64 XY, .int .i64 YY, .int .i64 N1, .int .i64 N2, .int .i64 N3, .int .i64 N4]) ∧ Below w.heap.size w wx)
    case first => as_aux_lemma =>
      have q0 : Below w4.heap.size w4 w4.drew := (Below.refl _ _).drew
      have hmo : Try.prog.follows .mixedOrders = true := by kernel_rfl
      have hl0 : 0 < ps.length := by omega
      refine (wpIn_wide (n := 4)).1 ?_
      refine wpIn_region_held (fun W' => Below w4.heap.size w4 W') 30 hmo ?_
      refine wpHeldIn_take (i := 0) (v := ?_) (plain_of (by kernel_rfl)) rfl (by kernel_rfl) (fun _ _ _ h => h) (yieldsSoIn_of (by kernel_rfl) ?_ (fun _ => rfl)) q0 ?_; rotate_left; focus (intro wq hw; clear hw; go_simp; try (with_reducible rfl))
      refine wpHeldIn_take (i := 1) (v := ?_) (plain_of (by kernel_rfl)) rfl (by kernel_rfl) (fun _ _ _ h => h) (yieldsSoIn_of (by kernel_rfl) ?_ (fun _ => rfl)) q0 ?_; rotate_left; focus (intro wq hw; clear hw; go_simp; try (with_reducible rfl))
      refine wpHeldIn_take (i := 2) (v := ?_) (plain_of (by kernel_rfl)) rfl (by kernel_rfl) (fun _ _ _ h => h) (yieldsSoIn_of (by kernel_rfl) ?_ (fun _ => rfl)) q0 ?_; rotate_left; focus (intro wq hw; have kq := KC.out wq hw; clear hw; go_simp; try (with_reducible rfl))
      refine wpHeldIn_take (i := 3) (v := ?_) (plain_of (by kernel_rfl)) rfl (by kernel_rfl) (fun _ _ _ h => h) (yieldsSoIn_of (by kernel_rfl) ?_ (fun _ => rfl)) q0 ?_; rotate_left; focus (intro wq hw; clear hw; go_simp; try (with_reducible rfl))
      refine wpHeldIn_take (i := 4) (v := ?_) (plain_of (by kernel_rfl)) rfl (by kernel_rfl) (fun _ _ _ h => h) (yieldsSoIn_of (by kernel_rfl) ?_ (fun _ => rfl)) q0 ?_; rotate_left; focus (intro wq hw; clear hw; go_simp; try (with_reducible rfl))
      refine wpHeldIn_take (i := 5) (v := ?_) (plain_of (by kernel_rfl)) rfl (by kernel_rfl) (fun _ _ _ h => h) (yieldsSoIn_of (by kernel_rfl) ?_ (fun _ => rfl)) q0 ?_; rotate_left; focus (intro wq hw; have kq := KC.out wq hw; clear hw; go_simp; try (with_reducible rfl))
      refine wpHeldIn_take (i := 6) (v := ?_) (plain_of (by kernel_rfl)) rfl (by kernel_rfl) (fun _ _ _ h => h) (yieldsSoIn_of (by kernel_rfl) ?_ (fun _ => rfl)) q0 ?_; rotate_left; focus (intro wq hw; clear hw; go_simp; try (with_reducible rfl))
      refine wpHeldIn_three (i := 7) (j := 8) (k := 9) (by kernel_rfl) (by kernel_rfl) (by kernel_rfl) (by kernel_rfl) rfl rfl rfl (by kernel_rfl) (by kernel_rfl) (by kernel_rfl) (fun K' hK' => ?_) (fun K' hK' => ?_) (fun K' hK' => ?_)
      · go_simp
        refine hK' _ _ (by (repeat' (first | (with_reducible exact Below.refl _ _) | (with_reducible assumption) | (with_reducible refine Below.alloc ?_ ?_ _) | (with_reducible refine Below.drew ?_) | (with_reducible refine Below.setCell ?_ ?_ _) | go_size | (exact (by simp)) | omega))) ?_
        refine wpHeldIn_two (i := 8) (j := 9) (by kernel_rfl) (by kernel_rfl) (by kernel_rfl) rfl rfl (by kernel_rfl) (by kernel_rfl) (fun K2 hK2 => ?_) (fun K2 hK2 => ?_)
        · go_simp
          refine hK2 _ _ (by (repeat' (first | (with_reducible exact Below.refl _ _) | (with_reducible assumption) | (with_reducible refine Below.alloc ?_ ?_ _) | (with_reducible refine Below.drew ?_) | (with_reducible refine Below.setCell ?_ ?_ _) | go_size | (exact (by simp)) | omega))) ?_
          refine wpHeldIn_one (i := 9) (by kernel_rfl) (by kernel_rfl) rfl (by kernel_rfl) (fun K3 hK3 => ?_)
          go_simp
          refine hK3 _ _ (by (repeat' (first | (with_reducible exact Below.refl _ _) | (with_reducible assumption) | (with_reducible refine Below.alloc ?_ ?_ _) | (with_reducible refine Below.drew ?_) | (with_reducible refine Below.setCell ?_ ?_ _) | go_size | (exact (by simp)) | omega))) ?_
          refine wpHeldIn_one (i := 10) (by kernel_rfl) (by kernel_rfl) rfl (by kernel_rfl) (fun K10 hK10 => ?_)
          go_simp
          refine hK10 _ _ (by (repeat' (first | (with_reducible exact Below.refl _ _) | (with_reducible assumption) | (with_reducible refine Below.alloc ?_ ?_ _) | (with_reducible refine Below.drew ?_) | (with_reducible refine Below.setCell ?_ ?_ _) | go_size | (exact (by simp)) | omega))) ?_
          refine wpHeldIn_one (i := 11) (by kernel_rfl) (by kernel_rfl) rfl (by kernel_rfl) (fun K11 hK11 => ?_)
          go_simp
          refine hK11 _ _ (by (repeat' (first | (with_reducible exact Below.refl _ _) | (with_reducible assumption) | (with_reducible refine Below.alloc ?_ ?_ _) | (with_reducible refine Below.drew ?_) | (with_reducible refine Below.setCell ?_ ?_ _) | go_size | (exact (by simp)) | omega))) ?_
          refine wpHeldIn_one (i := 12) (by kernel_rfl) (by kernel_rfl) rfl (by kernel_rfl) (fun K12 hK12 => ?_)
          go_simp
          refine hK12 _ _ (by (repeat' (first | (with_reducible exact Below.refl _ _) | (with_reducible assumption) | (with_reducible refine Below.alloc ?_ ?_ _) | (with_reducible refine Below.drew ?_) | (with_reducible refine Below.setCell ?_ ?_ _) | go_size | (exact (by simp)) | omega))) ?_
          refine wpHeldIn_done (by kernel_rfl) ?_ _
          have v0 : BoxS (((w4.alloc (.cells #[.int .i64 x0, .int .i64 y0] 24)).alloc (.cells #[.int .i64 x0, .int .i64 y0] 24)).alloc (.cells #[.int .i64 0, .int .i64 0] 24)).drew w4.heap.size 24 #[.int .i64 x0, .int .i64 y0] := ((BoxS.new w4 24 #[.int .i64 x0, .int .i64 y0]).alloc _).alloc _
          have v1 : BoxS (((w4.alloc (.cells #[.int .i64 x0, .int .i64 y0] 24)).alloc (.cells #[.int .i64 x0, .int .i64 y0] 24)).alloc (.cells #[.int .i64 0, .int .i64 0] 24)).drew (w4.heap.size + 1) 24 #[.int .i64 x0, .int .i64 y0] := by
            have := (BoxS.new (w4.alloc (.cells #[.int .i64 x0, .int .i64 y0] 24)) 24 #[.int .i64 x0, .int .i64 y0]).alloc (.cells #[.int .i64 0, .int .i64 0] 24)
            rw [World.size_alloc] at this
            exact this
          have v2 : BoxS (((w4.alloc (.cells #[.int .i64 x0, .int .i64 y0] 24)).alloc (.cells #[.int .i64 x0, .int .i64 y0] 24)).alloc (.cells #[.int .i64 0, .int .i64 0] 24)).drew (w4.heap.size + 1 + 1) 24 #[.int .i64 0, .int .i64 0] := by
            have := BoxS.new ((w4.alloc (.cells #[.int .i64 x0, .int .i64 y0] 24)).alloc (.cells #[.int .i64 x0, .int .i64 y0] 24)) 24 #[.int .i64 0, .int .i64 0]
            rw [World.size_alloc, World.size_alloc] at this
            exact this
          have vA : BoxS (((w4.alloc (.cells #[.int .i64 x0, .int .i64 y0] 24)).alloc (.cells #[.int .i64 x0, .int .i64 y0] 24)).alloc (.cells #[.int .i64 0, .int .i64 0] 24)).drew w2.heap.size 30 #[.int .i64 T, .int .i64 X, .int .i64 Z, .int .i64 XX, .int .i64 XY, .int .i64 YY, .int .i64 N1, .int .i64 N2, .int .i64 N3, .int .i64 N4] := ((bA4.alloc _).alloc _).alloc _
          have vB : Below w4.heap.size w4 (((w4.alloc (.cells #[.int .i64 x0, .int .i64 y0] 24)).alloc (.cells #[.int .i64 x0, .int .i64 y0] 24)).alloc (.cells #[.int .i64 0, .int .i64 0] 24)).drew := by (repeat' (first | (with_reducible exact Below.refl _ _) | (with_reducible assumption) | (with_reducible refine Below.alloc ?_ ?_ _) | (with_reducible refine Below.drew ?_) | (with_reducible refine Below.setCell ?_ ?_ _) | go_size | (exact (by simp)) | omega))
          go_wp2_with fail
          go_meet
          exact ⟨_, _, _, ⟨rfl, rfl, rfl⟩, ⟨by omega, by omega, by omega, by omega, by omega, by omega⟩, ⟨v0, v1, v2, vA⟩, HB4.trans (vB.mono HB4.size)⟩
        · go_simp
          refine hK2 _ _ (by (repeat' (first | (with_reducible exact Below.refl _ _) | (with_reducible assumption) | (with_reducible refine Below.alloc ?_ ?_ _) | (with_reducible refine Below.drew ?_) | (with_reducible refine Below.setCell ?_ ?_ _) | go_size | (exact (by simp)) | omega))) ?_
          refine wpHeldIn_one (i := 8) (by kernel_rfl) (by kernel_rfl) rfl (by kernel_rfl) (fun K3 hK3 => ?_)
          go_simp
          refine hK3 _ _ (by (repeat' (first | (with_reducible exact Below.refl _ _) | (with_reducible assumption) | (with_reducible refine Below.alloc ?_ ?_ _) | (with_reducible refine Below.drew ?_) | (with_reducible refine Below.setCell ?_ ?_ _) | go_size | (exact (by simp)) | omega))) ?_
          refine wpHeldIn_one (i := 10) (by kernel_rfl) (by kernel_rfl) rfl (by kernel_rfl) (fun K10 hK10 => ?_)
          go_simp
          refine hK10 _ _ (by (repeat' (first | (with_reducible exact Below.refl _ _) | (with_reducible assumption) | (with_reducible refine Below.alloc ?_ ?_ _) | (with_reducible refine Below.drew ?_) | (with_reducible refine Below.setCell ?_ ?_ _) | go_size | (exact (by simp)) | omega))) ?_
          refine wpHeldIn_one (i := 11) (by kernel_rfl) (by kernel_rfl) rfl (by kernel_rfl) (fun K11 hK11 => ?_)
          go_simp
          refine hK11 _ _ (by (repeat' (first | (with_reducible exact Below.refl _ _) | (with_reducible assumption) | (with_reducible refine Below.alloc ?_ ?_ _) | (with_reducible refine Below.drew ?_) | (with_reducible refine Below.setCell ?_ ?_ _) | go_size | (exact (by simp)) | omega))) ?_
          refine wpHeldIn_one (i := 12) (by kernel_rfl) (by kernel_rfl) rfl (by kernel_rfl) (fun K12 hK12 => ?_)
          go_simp
          refine hK12 _ _ (by (repeat' (first | (with_reducible exact Below.refl _ _) | (with_reducible assumption) | (with_reducible refine Below.alloc ?_ ?_ _) | (with_reducible refine Below.drew ?_) | (with_reducible refine Below.setCell ?_ ?_ _) | go_size | (exact (by simp)) | omega))) ?_
          refine wpHeldIn_done (by kernel_rfl) ?_ _
          have v0 : BoxS (((w4.alloc (.cells #[.int .i64 x0, .int .i64 y0] 24)).alloc (.cells #[.int .i64 0, .int .i64 0] 24)).alloc (.cells #[.int .i64 x0, .int .i64 y0] 24)).drew w4.heap.size 24 #[.int .i64 x0, .int .i64 y0] := ((BoxS.new w4 24 #[.int .i64 x0, .int .i64 y0]).alloc _).alloc _
          have v1 : BoxS (((w4.alloc (.cells #[.int .i64 x0, .int .i64 y0] 24)).alloc (.cells #[.int .i64 0, .int .i64 0] 24)).alloc (.cells #[.int .i64 x0, .int .i64 y0] 24)).drew (w4.heap.size + 1) 24 #[.int .i64 0, .int .i64 0] := by
            have := (BoxS.new (w4.alloc (.cells #[.int .i64 x0, .int .i64 y0] 24)) 24 #[.int .i64 0, .int .i64 0]).alloc (.cells #[.int .i64 x0, .int .i64 y0] 24)
            rw [World.size_alloc] at this
            exact this
          have v2 : BoxS (((w4.alloc (.cells #[.int .i64 x0, .int .i64 y0] 24)).alloc (.cells #[.int .i64 0, .int .i64 0] 24)).alloc (.cells #[.int .i64 x0, .int .i64 y0] 24)).drew (w4.heap.size + 1 + 1) 24 #[.int .i64 x0, .int .i64 y0] := by
            have := BoxS.new ((w4.alloc (.cells #[.int .i64 x0, .int .i64 y0] 24)).alloc (.cells #[.int .i64 0, .int .i64 0] 24)) 24 #[.int .i64 x0, .int .i64 y0]
            rw [World.size_alloc, World.size_alloc] at this
            exact this
          have vA : BoxS (((w4.alloc (.cells #[.int .i64 x0, .int .i64 y0] 24)).alloc (.cells #[.int .i64 0, .int .i64 0] 24)).alloc (.cells #[.int .i64 x0, .int .i64 y0] 24)).drew w2.heap.size 30 #[.int .i64 T, .int .i64 X, .int .i64 Z, .int .i64 XX, .int .i64 XY, .int .i64 YY, .int .i64 N1, .int .i64 N2, .int .i64 N3, .int .i64 N4] := ((bA4.alloc _).alloc _).alloc _
          have vB : Below w4.heap.size w4 (((w4.alloc (.cells #[.int .i64 x0, .int .i64 y0] 24)).alloc (.cells #[.int .i64 0, .int .i64 0] 24)).alloc (.cells #[.int .i64 x0, .int .i64 y0] 24)).drew := by (repeat' (first | (with_reducible exact Below.refl _ _) | (with_reducible assumption) | (with_reducible refine Below.alloc ?_ ?_ _) | (with_reducible refine Below.drew ?_) | (with_reducible refine Below.setCell ?_ ?_ _) | go_size | (exact (by simp)) | omega))
          go_wp2_with fail
          go_meet
          exact ⟨_, _, _, ⟨rfl, rfl, rfl⟩, ⟨by omega, by omega, by omega, by omega, by omega, by omega⟩, ⟨v0, v2, v1, vA⟩, HB4.trans (vB.mono HB4.size)⟩
      · go_simp
        refine hK' _ _ (by (repeat' (first | (with_reducible exact Below.refl _ _) | (with_reducible assumption) | (with_reducible refine Below.alloc ?_ ?_ _) | (with_reducible refine Below.drew ?_) | (with_reducible refine Below.setCell ?_ ?_ _) | go_size | (exact (by simp)) | omega))) ?_
        refine wpHeldIn_two (i := 7) (j := 9) (by kernel_rfl) (by kernel_rfl) (by kernel_rfl) rfl rfl (by kernel_rfl) (by kernel_rfl) (fun K2 hK2 => ?_) (fun K2 hK2 => ?_)
        · go_simp
          refine hK2 _ _ (by (repeat' (first | (with_reducible exact Below.refl _ _) | (with_reducible assumption) | (with_reducible refine Below.alloc ?_ ?_ _) | (with_reducible refine Below.drew ?_) | (with_reducible refine Below.setCell ?_ ?_ _) | go_size | (exact (by simp)) | omega))) ?_
          refine wpHeldIn_one (i := 9) (by kernel_rfl) (by kernel_rfl) rfl (by kernel_rfl) (fun K3 hK3 => ?_)
          go_simp
          refine hK3 _ _ (by (repeat' (first | (with_reducible exact Below.refl _ _) | (with_reducible assumption) | (with_reducible refine Below.alloc ?_ ?_ _) | (with_reducible refine Below.drew ?_) | (with_reducible refine Below.setCell ?_ ?_ _) | go_size | (exact (by simp)) | omega))) ?_
          refine wpHeldIn_one (i := 10) (by kernel_rfl) (by kernel_rfl) rfl (by kernel_rfl) (fun K10 hK10 => ?_)
          go_simp
          refine hK10 _ _ (by (repeat' (first | (with_reducible exact Below.refl _ _) | (with_reducible assumption) | (with_reducible refine Below.alloc ?_ ?_ _) | (with_reducible refine Below.drew ?_) | (with_reducible refine Below.setCell ?_ ?_ _) | go_size | (exact (by simp)) | omega))) ?_
          refine wpHeldIn_one (i := 11) (by kernel_rfl) (by kernel_rfl) rfl (by kernel_rfl) (fun K11 hK11 => ?_)
          go_simp
          refine hK11 _ _ (by (repeat' (first | (with_reducible exact Below.refl _ _) | (with_reducible assumption) | (with_reducible refine Below.alloc ?_ ?_ _) | (with_reducible refine Below.drew ?_) | (with_reducible refine Below.setCell ?_ ?_ _) | go_size | (exact (by simp)) | omega))) ?_
          refine wpHeldIn_one (i := 12) (by kernel_rfl) (by kernel_rfl) rfl (by kernel_rfl) (fun K12 hK12 => ?_)
          go_simp
          refine hK12 _ _ (by (repeat' (first | (with_reducible exact Below.refl _ _) | (with_reducible assumption) | (with_reducible refine Below.alloc ?_ ?_ _) | (with_reducible refine Below.drew ?_) | (with_reducible refine Below.setCell ?_ ?_ _) | go_size | (exact (by simp)) | omega))) ?_
          refine wpHeldIn_done (by kernel_rfl) ?_ _
          have v0 : BoxS (((w4.alloc (.cells #[.int .i64 x0, .int .i64 y0] 24)).alloc (.cells #[.int .i64 x0, .int .i64 y0] 24)).alloc (.cells #[.int .i64 0, .int .i64 0] 24)).drew w4.heap.size 24 #[.int .i64 x0, .int .i64 y0] := ((BoxS.new w4 24 #[.int .i64 x0, .int .i64 y0]).alloc _).alloc _
          have v1 : BoxS (((w4.alloc (.cells #[.int .i64 x0, .int .i64 y0] 24)).alloc (.cells #[.int .i64 x0, .int .i64 y0] 24)).alloc (.cells #[.int .i64 0, .int .i64 0] 24)).drew (w4.heap.size + 1) 24 #[.int .i64 x0, .int .i64 y0] := by
            have := (BoxS.new (w4.alloc (.cells #[.int .i64 x0, .int .i64 y0] 24)) 24 #[.int .i64 x0, .int .i64 y0]).alloc (.cells #[.int .i64 0, .int .i64 0] 24)
            rw [World.size_alloc] at this
            exact this
          have v2 : BoxS (((w4.alloc (.cells #[.int .i64 x0, .int .i64 y0] 24)).alloc (.cells #[.int .i64 x0, .int .i64 y0] 24)).alloc (.cells #[.int .i64 0, .int .i64 0] 24)).drew (w4.heap.size + 1 + 1) 24 #[.int .i64 0, .int .i64 0] := by
            have := BoxS.new ((w4.alloc (.cells #[.int .i64 x0, .int .i64 y0] 24)).alloc (.cells #[.int .i64 x0, .int .i64 y0] 24)) 24 #[.int .i64 0, .int .i64 0]
            rw [World.size_alloc, World.size_alloc] at this
            exact this
          have vA : BoxS (((w4.alloc (.cells #[.int .i64 x0, .int .i64 y0] 24)).alloc (.cells #[.int .i64 x0, .int .i64 y0] 24)).alloc (.cells #[.int .i64 0, .int .i64 0] 24)).drew w2.heap.size 30 #[.int .i64 T, .int .i64 X, .int .i64 Z, .int .i64 XX, .int .i64 XY, .int .i64 YY, .int .i64 N1, .int .i64 N2, .int .i64 N3, .int .i64 N4] := ((bA4.alloc _).alloc _).alloc _
          have vB : Below w4.heap.size w4 (((w4.alloc (.cells #[.int .i64 x0, .int .i64 y0] 24)).alloc (.cells #[.int .i64 x0, .int .i64 y0] 24)).alloc (.cells #[.int .i64 0, .int .i64 0] 24)).drew := by (repeat' (first | (with_reducible exact Below.refl _ _) | (with_reducible assumption) | (with_reducible refine Below.alloc ?_ ?_ _) | (with_reducible refine Below.drew ?_) | (with_reducible refine Below.setCell ?_ ?_ _) | go_size | (exact (by simp)) | omega))
          go_wp2_with fail
          go_meet
          exact ⟨_, _, _, ⟨rfl, rfl, rfl⟩, ⟨by omega, by omega, by omega, by omega, by omega, by omega⟩, ⟨v1, v0, v2, vA⟩, HB4.trans (vB.mono HB4.size)⟩
        · go_simp
          refine hK2 _ _ (by (repeat' (first | (with_reducible exact Below.refl _ _) | (with_reducible assumption) | (with_reducible refine Below.alloc ?_ ?_ _) | (with_reducible refine Below.drew ?_) | (with_reducible refine Below.setCell ?_ ?_ _) | go_size | (exact (by simp)) | omega))) ?_
          refine wpHeldIn_one (i := 7) (by kernel_rfl) (by kernel_rfl) rfl (by kernel_rfl) (fun K3 hK3 => ?_)
          go_simp
          refine hK3 _ _ (by (repeat' (first | (with_reducible exact Below.refl _ _) | (with_reducible assumption) | (with_reducible refine Below.alloc ?_ ?_ _) | (with_reducible refine Below.drew ?_) | (with_reducible refine Below.setCell ?_ ?_ _) | go_size | (exact (by simp)) | omega))) ?_
          refine wpHeldIn_one (i := 10) (by kernel_rfl) (by kernel_rfl) rfl (by kernel_rfl) (fun K10 hK10 => ?_)
          go_simp
          refine hK10 _ _ (by (repeat' (first | (with_reducible exact Below.refl _ _) | (with_reducible assumption) | (with_reducible refine Below.alloc ?_ ?_ _) | (with_reducible refine Below.drew ?_) | (with_reducible refine Below.setCell ?_ ?_ _) | go_size | (exact (by simp)) | omega))) ?_
          refine wpHeldIn_one (i := 11) (by kernel_rfl) (by kernel_rfl) rfl (by kernel_rfl) (fun K11 hK11 => ?_)
          go_simp
          refine hK11 _ _ (by (repeat' (first | (with_reducible exact Below.refl _ _) | (with_reducible assumption) | (with_reducible refine Below.alloc ?_ ?_ _) | (with_reducible refine Below.drew ?_) | (with_reducible refine Below.setCell ?_ ?_ _) | go_size | (exact (by simp)) | omega))) ?_
          refine wpHeldIn_one (i := 12) (by kernel_rfl) (by kernel_rfl) rfl (by kernel_rfl) (fun K12 hK12 => ?_)
          go_simp
          refine hK12 _ _ (by (repeat' (first | (with_reducible exact Below.refl _ _) | (with_reducible assumption) | (with_reducible refine Below.alloc ?_ ?_ _) | (with_reducible refine Below.drew ?_) | (with_reducible refine Below.setCell ?_ ?_ _) | go_size | (exact (by simp)) | omega))) ?_
          refine wpHeldIn_done (by kernel_rfl) ?_ _
          have v0 : BoxS (((w4.alloc (.cells #[.int .i64 x0, .int .i64 y0] 24)).alloc (.cells #[.int .i64 0, .int .i64 0] 24)).alloc (.cells #[.int .i64 x0, .int .i64 y0] 24)).drew w4.heap.size 24 #[.int .i64 x0, .int .i64 y0] := ((BoxS.new w4 24 #[.int .i64 x0, .int .i64 y0]).alloc _).alloc _
          have v1 : BoxS (((w4.alloc (.cells #[.int .i64 x0, .int .i64 y0] 24)).alloc (.cells #[.int .i64 0, .int .i64 0] 24)).alloc (.cells #[.int .i64 x0, .int .i64 y0] 24)).drew (w4.heap.size + 1) 24 #[.int .i64 0, .int .i64 0] := by
            have := (BoxS.new (w4.alloc (.cells #[.int .i64 x0, .int .i64 y0] 24)) 24 #[.int .i64 0, .int .i64 0]).alloc (.cells #[.int .i64 x0, .int .i64 y0] 24)
            rw [World.size_alloc] at this
            exact this
          have v2 : BoxS (((w4.alloc (.cells #[.int .i64 x0, .int .i64 y0] 24)).alloc (.cells #[.int .i64 0, .int .i64 0] 24)).alloc (.cells #[.int .i64 x0, .int .i64 y0] 24)).drew (w4.heap.size + 1 + 1) 24 #[.int .i64 x0, .int .i64 y0] := by
            have := BoxS.new ((w4.alloc (.cells #[.int .i64 x0, .int .i64 y0] 24)).alloc (.cells #[.int .i64 0, .int .i64 0] 24)) 24 #[.int .i64 x0, .int .i64 y0]
            rw [World.size_alloc, World.size_alloc] at this
            exact this
          have vA : BoxS (((w4.alloc (.cells #[.int .i64 x0, .int .i64 y0] 24)).alloc (.cells #[.int .i64 0, .int .i64 0] 24)).alloc (.cells #[.int .i64 x0, .int .i64 y0] 24)).drew w2.heap.size 30 #[.int .i64 T, .int .i64 X, .int .i64 Z, .int .i64 XX, .int .i64 XY, .int .i64 YY, .int .i64 N1, .int .i64 N2, .int .i64 N3, .int .i64 N4] := ((bA4.alloc _).alloc _).alloc _
          have vB : Below w4.heap.size w4 (((w4.alloc (.cells #[.int .i64 x0, .int .i64 y0] 24)).alloc (.cells #[.int .i64 0, .int .i64 0] 24)).alloc (.cells #[.int .i64 x0, .int .i64 y0] 24)).drew := by (repeat' (first | (with_reducible exact Below.refl _ _) | (with_reducible assumption) | (with_reducible refine Below.alloc ?_ ?_ _) | (with_reducible refine Below.drew ?_) | (with_reducible refine Below.setCell ?_ ?_ _) | go_size | (exact (by simp)) | omega))
          go_wp2_with fail
          go_meet
          exact ⟨_, _, _, ⟨rfl, rfl, rfl⟩, ⟨by omega, by omega, by omega, by omega, by omega, by omega⟩, ⟨v2, v0, v1, vA⟩, HB4.trans (vB.mono HB4.size)⟩
      · go_simp
        refine hK' _ _ (by (repeat' (first | (with_reducible exact Below.refl _ _) | (with_reducible assumption) | (with_reducible refine Below.alloc ?_ ?_ _) | (with_reducible refine Below.drew ?_) | (with_reducible refine Below.setCell ?_ ?_ _) | go_size | (exact (by simp)) | omega))) ?_
        refine wpHeldIn_two (i := 7) (j := 8) (by kernel_rfl) (by kernel_rfl) (by kernel_rfl) rfl rfl (by kernel_rfl) (by kernel_rfl) (fun K2 hK2 => ?_) (fun K2 hK2 => ?_)
        · go_simp
          refine hK2 _ _ (by (repeat' (first | (with_reducible exact Below.refl _ _) | (with_reducible assumption) | (with_reducible refine Below.alloc ?_ ?_ _) | (with_reducible refine Below.drew ?_) | (with_reducible refine Below.setCell ?_ ?_ _) | go_size | (exact (by simp)) | omega))) ?_
          refine wpHeldIn_one (i := 8) (by kernel_rfl) (by kernel_rfl) rfl (by kernel_rfl) (fun K3 hK3 => ?_)
          go_simp
          refine hK3 _ _ (by (repeat' (first | (with_reducible exact Below.refl _ _) | (with_reducible assumption) | (with_reducible refine Below.alloc ?_ ?_ _) | (with_reducible refine Below.drew ?_) | (with_reducible refine Below.setCell ?_ ?_ _) | go_size | (exact (by simp)) | omega))) ?_
          refine wpHeldIn_one (i := 10) (by kernel_rfl) (by kernel_rfl) rfl (by kernel_rfl) (fun K10 hK10 => ?_)
          go_simp
          refine hK10 _ _ (by (repeat' (first | (with_reducible exact Below.refl _ _) | (with_reducible assumption) | (with_reducible refine Below.alloc ?_ ?_ _) | (with_reducible refine Below.drew ?_) | (with_reducible refine Below.setCell ?_ ?_ _) | go_size | (exact (by simp)) | omega))) ?_
          refine wpHeldIn_one (i := 11) (by kernel_rfl) (by kernel_rfl) rfl (by kernel_rfl) (fun K11 hK11 => ?_)
          go_simp
          refine hK11 _ _ (by (repeat' (first | (with_reducible exact Below.refl _ _) | (with_reducible assumption) | (with_reducible refine Below.alloc ?_ ?_ _) | (with_reducible refine Below.drew ?_) | (with_reducible refine Below.setCell ?_ ?_ _) | go_size | (exact (by simp)) | omega))) ?_
          refine wpHeldIn_one (i := 12) (by kernel_rfl) (by kernel_rfl) rfl (by kernel_rfl) (fun K12 hK12 => ?_)
          go_simp
          refine hK12 _ _ (by (repeat' (first | (with_reducible exact Below.refl _ _) | (with_reducible assumption) | (with_reducible refine Below.alloc ?_ ?_ _) | (with_reducible refine Below.drew ?_) | (with_reducible refine Below.setCell ?_ ?_ _) | go_size | (exact (by simp)) | omega))) ?_
          refine wpHeldIn_done (by kernel_rfl) ?_ _
          have v0 : BoxS (((w4.alloc (.cells #[.int .i64 0, .int .i64 0] 24)).alloc (.cells #[.int .i64 x0, .int .i64 y0] 24)).alloc (.cells #[.int .i64 x0, .int .i64 y0] 24)).drew w4.heap.size 24 #[.int .i64 0, .int .i64 0] := ((BoxS.new w4 24 #[.int .i64 0, .int .i64 0]).alloc _).alloc _
          have v1 : BoxS (((w4.alloc (.cells #[.int .i64 0, .int .i64 0] 24)).alloc (.cells #[.int .i64 x0, .int .i64 y0] 24)).alloc (.cells #[.int .i64 x0, .int .i64 y0] 24)).drew (w4.heap.size + 1) 24 #[.int .i64 x0, .int .i64 y0] := by
            have := (BoxS.new (w4.alloc (.cells #[.int .i64 0, .int .i64 0] 24)) 24 #[.int .i64 x0, .int .i64 y0]).alloc (.cells #[.int .i64 x0, .int .i64 y0] 24)
            rw [World.size_alloc] at this
            exact this
          have v2 : BoxS (((w4.alloc (.cells #[.int .i64 0, .int .i64 0] 24)).alloc (.cells #[.int .i64 x0, .int .i64 y0] 24)).alloc (.cells #[.int .i64 x0, .int .i64 y0] 24)).drew (w4.heap.size + 1 + 1) 24 #[.int .i64 x0, .int .i64 y0] := by
            have := BoxS.new ((w4.alloc (.cells #[.int .i64 0, .int .i64 0] 24)).alloc (.cells #[.int .i64 x0, .int .i64 y0] 24)) 24 #[.int .i64 x0, .int .i64 y0]
            rw [World.size_alloc, World.size_alloc] at this
            exact this
          have vA : BoxS (((w4.alloc (.cells #[.int .i64 0, .int .i64 0] 24)).alloc (.cells #[.int .i64 x0, .int .i64 y0] 24)).alloc (.cells #[.int .i64 x0, .int .i64 y0] 24)).drew w2.heap.size 30 #[.int .i64 T, .int .i64 X, .int .i64 Z, .int .i64 XX, .int .i64 XY, .int .i64 YY, .int .i64 N1, .int .i64 N2, .int .i64 N3, .int .i64 N4] := ((bA4.alloc _).alloc _).alloc _
          have vB : Below w4.heap.size w4 (((w4.alloc (.cells #[.int .i64 0, .int .i64 0] 24)).alloc (.cells #[.int .i64 x0, .int .i64 y0] 24)).alloc (.cells #[.int .i64 x0, .int .i64 y0] 24)).drew := by (repeat' (first | (with_reducible exact Below.refl _ _) | (with_reducible assumption) | (with_reducible refine Below.alloc ?_ ?_ _) | (with_reducible refine Below.drew ?_) | (with_reducible refine Below.setCell ?_ ?_ _) | go_size | (exact (by simp)) | omega))
          go_wp2_with fail
          go_meet
          exact ⟨_, _, _, ⟨rfl, rfl, rfl⟩, ⟨by omega, by omega, by omega, by omega, by omega, by omega⟩, ⟨v1, v2, v0, vA⟩, HB4.trans (vB.mono HB4.size)⟩
        · go_simp
          refine hK2 _ _ (by (repeat' (first | (with_reducible exact Below.refl _ _) | (with_reducible assumption) | (with_reducible refine Below.alloc ?_ ?_ _) | (with_reducible refine Below.drew ?_) | (with_reducible refine Below.setCell ?_ ?_ _) | go_size | (exact (by simp)) | omega))) ?_
          refine wpHeldIn_one (i := 7) (by kernel_rfl) (by kernel_rfl) rfl (by kernel_rfl) (fun K3 hK3 => ?_)
          go_simp
          refine hK3 _ _ (by (repeat' (first | (with_reducible exact Below.refl _ _) | (with_reducible assumption) | (with_reducible refine Below.alloc ?_ ?_ _) | (with_reducible refine Below.drew ?_) | (with_reducible refine Below.setCell ?_ ?_ _) | go_size | (exact (by simp)) | omega))) ?_
          refine wpHeldIn_one (i := 10) (by kernel_rfl) (by kernel_rfl) rfl (by kernel_rfl) (fun K10 hK10 => ?_)
          go_simp
          refine hK10 _ _ (by (repeat' (first | (with_reducible exact Below.refl _ _) | (with_reducible assumption) | (with_reducible refine Below.alloc ?_ ?_ _) | (with_reducible refine Below.drew ?_) | (with_reducible refine Below.setCell ?_ ?_ _) | go_size | (exact (by simp)) | omega))) ?_
          refine wpHeldIn_one (i := 11) (by kernel_rfl) (by kernel_rfl) rfl (by kernel_rfl) (fun K11 hK11 => ?_)
          go_simp
          refine hK11 _ _ (by (repeat' (first | (with_reducible exact Below.refl _ _) | (with_reducible assumption) | (with_reducible refine Below.alloc ?_ ?_ _) | (with_reducible refine Below.drew ?_) | (with_reducible refine Below.setCell ?_ ?_ _) | go_size | (exact (by simp)) | omega))) ?_
          refine wpHeldIn_one (i := 12) (by kernel_rfl) (by kernel_rfl) rfl (by kernel_rfl) (fun K12 hK12 => ?_)
          go_simp
          refine hK12 _ _ (by (repeat' (first | (with_reducible exact Below.refl _ _) | (with_reducible assumption) | (with_reducible refine Below.alloc ?_ ?_ _) | (with_reducible refine Below.drew ?_) | (with_reducible refine Below.setCell ?_ ?_ _) | go_size | (exact (by simp)) | omega))) ?_
          refine wpHeldIn_done (by kernel_rfl) ?_ _
          have v0 : BoxS (((w4.alloc (.cells #[.int .i64 0, .int .i64 0] 24)).alloc (.cells #[.int .i64 x0, .int .i64 y0] 24)).alloc (.cells #[.int .i64 x0, .int .i64 y0] 24)).drew w4.heap.size 24 #[.int .i64 0, .int .i64 0] := ((BoxS.new w4 24 #[.int .i64 0, .int .i64 0]).alloc _).alloc _
          have v1 : BoxS (((w4.alloc (.cells #[.int .i64 0, .int .i64 0] 24)).alloc (.cells #[.int .i64 x0, .int .i64 y0] 24)).alloc (.cells #[.int .i64 x0, .int .i64 y0] 24)).drew (w4.heap.size + 1) 24 #[.int .i64 x0, .int .i64 y0] := by
            have := (BoxS.new (w4.alloc (.cells #[.int .i64 0, .int .i64 0] 24)) 24 #[.int .i64 x0, .int .i64 y0]).alloc (.cells #[.int .i64 x0, .int .i64 y0] 24)
            rw [World.size_alloc] at this
            exact this
          have v2 : BoxS (((w4.alloc (.cells #[.int .i64 0, .int .i64 0] 24)).alloc (.cells #[.int .i64 x0, .int .i64 y0] 24)).alloc (.cells #[.int .i64 x0, .int .i64 y0] 24)).drew (w4.heap.size + 1 + 1) 24 #[.int .i64 x0, .int .i64 y0] := by
            have := BoxS.new ((w4.alloc (.cells #[.int .i64 0, .int .i64 0] 24)).alloc (.cells #[.int .i64 x0, .int .i64 y0] 24)) 24 #[.int .i64 x0, .int .i64 y0]
            rw [World.size_alloc, World.size_alloc] at this
            exact this
          have vA : BoxS (((w4.alloc (.cells #[.int .i64 0, .int .i64 0] 24)).alloc (.cells #[.int .i64 x0, .int .i64 y0] 24)).alloc (.cells #[.int .i64 x0, .int .i64 y0] 24)).drew w2.heap.size 30 #[.int .i64 T, .int .i64 X, .int .i64 Z, .int .i64 XX, .int .i64 XY, .int .i64 YY, .int .i64 N1, .int .i64 N2, .int .i64 N3, .int .i64 N4] := ((bA4.alloc _).alloc _).alloc _
          have vB : Below w4.heap.size w4 (((w4.alloc (.cells #[.int .i64 0, .int .i64 0] 24)).alloc (.cells #[.int .i64 x0, .int .i64 y0] 24)).alloc (.cells #[.int .i64 x0, .int .i64 y0] 24)).drew := by (repeat' (first | (with_reducible exact Below.refl _ _) | (with_reducible assumption) | (with_reducible refine Below.alloc ?_ ?_ _) | (with_reducible refine Below.drew ?_) | (with_reducible refine Below.setCell ?_ ?_ _) | go_size | (exact (by simp)) | omega))
          go_wp2_with fail
          go_meet
          exact ⟨_, _, _, ⟨rfl, rfl, rfl⟩, ⟨by omega, by omega, by omega, by omega, by omega, by omega⟩, ⟨v2, v1, v0, vA⟩, HB4.trans (vB.mono HB4.size)⟩
    case rest =>
      obtain ⟨B5, B6, B7, ⟨rfl, rfl, rfl⟩, ⟨d1, d2, d3, d4, d5, d6⟩, ⟨b5, b6, b7, bA⟩, HBc⟩ := hcut
      clear bA4 HB4 la KC lb
      go_wp2_with fail
      go_loopw [8] (fun x wr => ∃ (k : Nat) (p q r s : Int), (k : Int) ≤ ps.length ∧ x = .int .i64 k ∧ (BoxS wr B5 24 #[.int .i64 p, .int .i64 q] ∧ BoxS wr B6 24 #[.int .i64 r, .int .i64 s] ∧ BoxS wr B7 24 #[.int .i64 (Geo.sumX ps k), .int .i64 (Geo.sumY ps k)] ∧ BoxS wr w2.heap.size 30 #[.int .i64 T, .int .i64 X, .int .i64 Z, .int .i64 XX, .int .i64 XY, .int .i64 YY, .int .i64 N1, .int .i64 N2, .int .i64 N3, .int .i64 N4]) ∧ Below w.heap.size w wr ∧ ((-200 ≤ p ∧ p ≤ 200) ∧ (-200 ≤ q ∧ q ≤ 200) ∧ (-200 ≤ r ∧ r ≤ 200) ∧ (-200 ≤ s ∧ s ≤ 200)) ∧ Hid (∀ j, j < k → (p ≤ (Geo.ptAt ps j).1 ∧ (Geo.ptAt ps j).1 ≤ r) ∧ (q ≤ (Geo.ptAt ps j).2 ∧ (Geo.ptAt ps j).2 ≤ s))) (fun x _ => (ps.length - intOf x).toNat)
      case atStart => exact ⟨0, x0, y0, x0, y0, by omega, rfl, ⟨b5, b6, b7, bA⟩, HBc, by omega, fun j hj => by omega⟩
      case round =>
        obtain ⟨k, p, q, r, s, hk, rfl, ⟨b5', b6', b7', bA'⟩, hB, ⟨bp, bq, br, bs⟩, hle⟩ := hrel
        clear b5 b6 b7 bA HBc
        have hk0 := Int.natCast_nonneg k
        have lbb : bb < w.heap.size := hbb
        by_cases hlt : (k : Int) < ps.length
        · have hkn : k < ps.length := by omega
          obtain ⟨a0, a1⟩ := HC.out _ hB k hkn
          have hpk := HPT.out k hkn
          obtain ⟨sx, sy⟩ := KS.out k (by omega)
          have hsx : Hid (Geo.sumX ps (k + 1) = Geo.sumX ps k + (Geo.ptAt ps k).1) := rfl
          have hsy : Hid (Geo.sumY ps (k + 1) = Geo.sumY ps k + (Geo.ptAt ps k).2) := rfl
          have HLE : Hid (∀ p' q' r' s' : Int, (p' ≤ p ∧ p' ≤ (Geo.ptAt ps k).1) → (q' ≤ q ∧ q' ≤ (Geo.ptAt ps k).2) → (r ≤ r' ∧ (Geo.ptAt ps k).1 ≤ r') → (s ≤ s' ∧ (Geo.ptAt ps k).2 ≤ s') → ∀ j, j < k + 1 → (p' ≤ (Geo.ptAt ps j).1 ∧ (Geo.ptAt ps j).1 ≤ r') ∧ (q' ≤ (Geo.ptAt ps j).2 ∧ (Geo.ptAt ps j).2 ≤ s')) := by
            intro p' q' r' s' h1 h2 h3 h4 j hj
            by_cases e : j = k
            · subst e; omega
            · have := hle.out j (by omega); omega
          clear hle
          generalize Geo.ptAt ps k = pt at *
          obtain ⟨x, y⟩ := pt
          dsimp only at a0 a1 hsx hsy HLE
          unfold Geo.ptB inB at hpk
          simp at hpk
          have hw1 : IntKind.i64.wrap ((k : Int) + 1) = (k : Int) + 1 := IntWalk.i64_in _ (by omega)
          have hw2 : IntKind.i64.wrap (Geo.sumX ps k + x) = Geo.sumX ps k + x := IntWalk.i64_in _ (by omega)
          have hw3 : IntKind.i64.wrap (Geo.sumY ps k + y) = Geo.sumY ps k + y := IntWalk.i64_in _ (by omega)
          generalize Geo.sumX ps k = SX at *
          generalize Geo.sumY ps k = SY at *
          have hmo : Try.prog.follows .mixedOrders = true := by kernel_rfl
          have zc := hB.size
          have z2 := HB2.size
          have ne5 : bb ≠ B5 := by omega
          have ne6 : bb ≠ B6 := by omega
          have ne7 : bb ≠ B7 := by omega
          go_wp2_with fail
          have e0 := b5'.cell 0 rfl
          have e1 := b5'.cell 1 rfl
          have f0 := b5'.frozen 0
          have f1 := b5'.frozen 1
          refine (wpIn_wide (n := 4)).1 ?_
          have KC : Hid (∀ W2 : World, ((W2.cell? ⟨bb, off + k * 2, none⟩ = some (.int .i64 x) ∧ W2.cell? ⟨bb, off + k * 2 + 1, none⟩ = some (.int .i64 y)) ∧ W2.cell? ⟨B5, 1, none⟩ = some (.int .i64 q)) → (W2.cell? ⟨bb, off + k * 2, none⟩ = some (.int .i64 x) ∧ W2.cell? ⟨bb, off + k * 2 + 1, none⟩ = some (.int .i64 y)) ∧ W2.cell? ⟨B5, 1, none⟩ = some (.int .i64 q)) := fun _ h => h
          refine wpIn_region_held (fun W2 => (W2.cell? ⟨bb, off + k * 2, none⟩ = some (.int .i64 x) ∧ W2.cell? ⟨bb, off + k * 2 + 1, none⟩ = some (.int .i64 y)) ∧ W2.cell? ⟨B5, 1, none⟩ = some (.int .i64 q)) 19 hmo ?_
          have q0 : (wr.drew.cell? ⟨bb, off + k * 2, none⟩ = some (.int .i64 x) ∧ wr.drew.cell? ⟨bb, off + k * 2 + 1, none⟩ = some (.int .i64 y)) ∧ wr.drew.cell? ⟨B5, 1, none⟩ = some (.int .i64 q) := ⟨⟨a0, a1⟩, e1⟩
          refine wpHeldIn_take (i := 0) (v := ?_) (plain_of (by kernel_rfl)) rfl (by kernel_rfl) (fun _ _ _ h => h) (yieldsSoIn_of (by kernel_rfl) ?_ (fun _ => rfl)) q0 ?_; rotate_left; focus (intro wq hw; clear hw; go_simp; try (with_reducible rfl))
          refine wpHeldIn_take (i := 2) (v := ?_) (plain_of (by kernel_rfl)) rfl (by kernel_rfl) (fun _ _ _ h => h) (yieldsSoIn_of (by kernel_rfl) ?_ (fun _ => rfl)) q0 ?_; rotate_left; focus (intro wq hw; clear hw; go_simp; try (with_reducible rfl))
          refine wpHeldIn_take (i := 3) (v := ?_) (plain_of (by kernel_rfl)) rfl (by kernel_rfl) (fun _ _ _ h => h) (yieldsSoIn_of (by kernel_rfl) ?_ (fun _ => rfl)) q0 ?_; rotate_left; focus (intro wq hw; clear hw; go_simp; try (with_reducible rfl))
          refine wpHeldIn_take (i := 4) (v := ?_) (plain_of (by kernel_rfl)) rfl (by kernel_rfl) (fun _ _ _ h => h) (yieldsSoIn_of (by kernel_rfl) ?_ (fun _ => rfl)) q0 ?_; rotate_left; focus (intro wq hw; clear hw; go_simp; try (with_reducible rfl))
          refine wpHeldIn_take (i := 5) (v := ?_) (plain_of (by kernel_rfl)) rfl (by kernel_rfl) (fun _ _ _ h => h) (yieldsSoIn_of (by kernel_rfl) ?_ (fun _ => rfl)) q0 ?_; rotate_left; focus (intro wq hw; clear hw; go_simp; try (with_reducible rfl))
          refine wpHeldIn_take (i := 6) (v := ?_) (plain_of (by kernel_rfl)) rfl (by kernel_rfl) (fun _ _ _ h => h) (yieldsSoIn_of (by kernel_rfl) ?_ (fun _ => rfl)) q0 ?_; rotate_left; focus (intro wq hw; have kq := KC.out wq hw; clear hw; go_simp; try (with_reducible rfl))
          refine wpHeldIn_take (i := 8) (v := ?_) (plain_of (by kernel_rfl)) rfl (by kernel_rfl) (fun _ _ _ h => h) (yieldsSoIn_of (by kernel_rfl) ?_ (fun _ => rfl)) q0 ?_; rotate_left; focus (intro wq hw; clear hw; go_simp; try (with_reducible rfl))
          refine wpHeldIn_take (i := 9) (v := ?_) (plain_of (by kernel_rfl)) rfl (by kernel_rfl) (fun _ _ _ h => h) (yieldsSoIn_of (by kernel_rfl) ?_ (fun _ => rfl)) q0 ?_; rotate_left; focus (intro wq hw; have kq := KC.out wq hw; clear hw; go_simp; try (with_reducible rfl))
          refine wpHeldIn_take (i := 10) (v := ?_) (plain_of (by kernel_rfl)) rfl (by kernel_rfl) (fun _ _ _ h => h) (yieldsSoIn_of (by kernel_rfl) ?_ (fun _ => rfl)) q0 ?_; rotate_left; focus (intro wq hw; clear hw; go_simp; try (with_reducible rfl))
          refine wpHeldIn_take (i := 11) (v := ?_) (plain_of (by kernel_rfl)) rfl (by kernel_rfl) (fun _ _ _ h => h) (yieldsSoIn_of (by kernel_rfl) ?_ (fun _ => rfl)) q0 ?_; rotate_left; focus (intro wq hw; clear hw; go_simp; try (with_reducible rfl))
          refine wpHeldIn_take (i := 12) (v := ?_) (plain_of (by kernel_rfl)) rfl (by kernel_rfl) (fun _ _ _ h => h) (yieldsSoIn_of (by kernel_rfl) ?_ (fun _ => rfl)) q0 ?_; rotate_left; focus (intro wq hw; clear hw; go_simp; try (with_reducible rfl))
          refine wpHeldIn_take (i := 13) (v := ?_) (plain_of (by kernel_rfl)) rfl (by kernel_rfl) (fun _ _ _ h => h) (yieldsSoIn_of (by kernel_rfl) ?_ (fun _ => rfl)) q0 ?_; rotate_left; focus (intro wq hw; clear hw; go_simp; try (with_reducible rfl))
          refine wpHeldIn_take (i := 14) (v := ?_) (plain_of (by kernel_rfl)) rfl (by kernel_rfl) (fun _ _ _ h => h) (yieldsSoIn_of (by kernel_rfl) ?_ (fun _ => rfl)) q0 ?_; rotate_left; focus (intro wq hw; have kq := KC.out wq hw; clear hw; go_simp; try (with_reducible rfl))
          refine wpHeldIn_take (i := 15) (v := ?_) (plain_of (by kernel_rfl)) rfl (by kernel_rfl) (fun _ _ _ h => h) (yieldsSoIn_of (by kernel_rfl) ?_ (fun _ => rfl)) q0 ?_; rotate_left; focus (intro wq hw; clear hw; go_simp; try (with_reducible rfl))
          refine wpHeldIn_one (i := 1) (by kernel_rfl) (by kernel_rfl) rfl (by kernel_rfl) (fun K1 hK1 => ?_)
          go_simp
          refine hK1 _ _ q0 ?_
          refine wpHeldIn_take (i := 7) (v := ?_) (plain_of (by kernel_rfl)) rfl (by kernel_rfl) (fun _ _ _ h => h) (yieldsSoIn_of (by kernel_rfl) ?_ (fun _ => rfl)) q0 ?_; rotate_left; focus (intro wq hw; clear hw; go_simp; try (with_reducible rfl))
          refine wpHeldIn_take (i := 16) (v := ?_) (plain_of (by kernel_rfl)) rfl (by kernel_rfl) (fun _ _ _ h => h) (yieldsSoIn_of (by kernel_rfl) ?_ (fun _ => rfl)) q0 ?_; rotate_left; focus (intro wq hw; clear hw; go_simp; try (with_reducible rfl))
          refine wpHeldIn_one (i := 17) (by kernel_rfl) (by kernel_rfl) rfl (by kernel_rfl) (fun K17 hK17 => ?_)
          go_simp
          have q1 : ((wr.setCell ⟨B5, 0, none⟩ (.int .i64 (if x < p then x else p))).drew.cell? ⟨bb, off + k * 2, none⟩ = some (.int .i64 x) ∧ (wr.setCell ⟨B5, 0, none⟩ (.int .i64 (if x < p then x else p))).drew.cell? ⟨bb, off + k * 2 + 1, none⟩ = some (.int .i64 y)) ∧ (wr.setCell ⟨B5, 0, none⟩ (.int .i64 (if x < p then x else p))).drew.cell? ⟨B5, 1, none⟩ = some (.int .i64 q) := ⟨⟨cs_other (by first | (simp; done) | (simp; omega)) a0, cs_other (by first | (simp; done) | (simp; omega)) a1⟩, cs_other (by simp) e1⟩
          refine hK17 _ _ q1 ?_
          refine wpHeldIn_take (i := 18) (v := ?_) (plain_of (by kernel_rfl)) rfl (by kernel_rfl) (fun _ _ _ h => h) (yieldsSoIn_of (by kernel_rfl) ?_ (fun _ => rfl)) q1 ?_; rotate_left; focus (intro wq hw; clear hw; go_simp; try (with_reducible rfl))
          refine wpHeldIn_last (by kernel_rfl) rfl (by kernel_rfl) (fun K19 hK19 => ?_)
          go_simp
          refine hK19 _ _ ?_
          refine wpHeldIn_done (by kernel_rfl) ?_ _
          clear KC q0 q1 e0 e1 f0 f1
          replace b5' : BoxS ((wr.setCell ⟨B5, 0, none⟩ (.int .i64 (if x < p then x else p))).setCell ⟨B5, 1, none⟩ (.int .i64 (if y < q then y else q))).drew B5 24 #[.int .i64 (if x < p then x else p), .int .i64 (if y < q then y else q)] := (b5'.put 0 _).put 1 _
          replace a0 : ((wr.setCell ⟨B5, 0, none⟩ (.int .i64 (if x < p then x else p))).setCell ⟨B5, 1, none⟩ (.int .i64 (if y < q then y else q))).drew.cell? ⟨bb, off + k * 2, none⟩ = some (.int .i64 x) := cs_other (by first | (simp; done) | (simp; omega)) (cs_other (by first | (simp; done) | (simp; omega)) a0)
          replace a1 : ((wr.setCell ⟨B5, 0, none⟩ (.int .i64 (if x < p then x else p))).setCell ⟨B5, 1, none⟩ (.int .i64 (if y < q then y else q))).drew.cell? ⟨bb, off + k * 2 + 1, none⟩ = some (.int .i64 y) := cs_other (by first | (simp; done) | (simp; omega)) (cs_other (by first | (simp; done) | (simp; omega)) a1)
          replace hB : Below w.heap.size w ((wr.setCell ⟨B5, 0, none⟩ (.int .i64 (if x < p then x else p))).setCell ⟨B5, 1, none⟩ (.int .i64 (if y < q then y else q))).drew := by (repeat' (first | (with_reducible exact Below.refl _ _) | (with_reducible assumption) | (with_reducible refine Below.alloc ?_ ?_ _) | (with_reducible refine Below.drew ?_) | (with_reducible refine Below.setCell ?_ ?_ _) | go_size | (exact (by simp)) | omega))
          replace b6' : BoxS ((wr.setCell ⟨B5, 0, none⟩ (.int .i64 (if x < p then x else p))).setCell ⟨B5, 1, none⟩ (.int .i64 (if y < q then y else q))).drew B6 24 #[.int .i64 r, .int .i64 s] := told_other2 b6' (by omega) _ _ _ _
          replace b7' : BoxS ((wr.setCell ⟨B5, 0, none⟩ (.int .i64 (if x < p then x else p))).setCell ⟨B5, 1, none⟩ (.int .i64 (if y < q then y else q))).drew B7 24 #[.int .i64 SX, .int .i64 SY] := told_other2 b7' (by omega) _ _ _ _
          replace bA' : BoxS ((wr.setCell ⟨B5, 0, none⟩ (.int .i64 (if x < p then x else p))).setCell ⟨B5, 1, none⟩ (.int .i64 (if y < q then y else q))).drew w2.heap.size 30 #[.int .i64 T, .int .i64 X, .int .i64 Z, .int .i64 XX, .int .i64 XY, .int .i64 YY, .int .i64 N1, .int .i64 N2, .int .i64 N3, .int .i64 N4] := told_other2 bA' (by omega) _ _ _ _
          generalize ((wr.setCell ⟨B5, 0, none⟩ (.int .i64 (if x < p then x else p))).setCell ⟨B5, 1, none⟩ (.int .i64 (if y < q then y else q))).drew = wr5 at *
          obtain ⟨p2, hp⟩ : ∃ v, v = (if x < p then x else p) := ⟨_, rfl⟩
          obtain ⟨q2, hq⟩ : ∃ v, v = (if y < q then y else q) := ⟨_, rfl⟩
          have gp : (p2 ≤ p ∧ p2 ≤ x) ∧ -200 ≤ p2 ∧ p2 ≤ 200 := by rw [hp]; split <;> omega
          have gq : (q2 ≤ q ∧ q2 ≤ y) ∧ -200 ≤ q2 ∧ q2 ≤ 200 := by rw [hq]; split <;> omega
          rw [← hp, ← hq] at b5' ⊢
          clear hp hq
          go_wp2_with fail
          have e0 := b6'.cell 0 rfl
          have e1 := b6'.cell 1 rfl
          have f0 := b6'.frozen 0
          have f1 := b6'.frozen 1
          refine (wpIn_wide (n := 4)).1 ?_
          have KC : Hid (∀ W2 : World, ((W2.cell? ⟨bb, off + k * 2, none⟩ = some (.int .i64 x) ∧ W2.cell? ⟨bb, off + k * 2 + 1, none⟩ = some (.int .i64 y)) ∧ W2.cell? ⟨B6, 1, none⟩ = some (.int .i64 s)) → (W2.cell? ⟨bb, off + k * 2, none⟩ = some (.int .i64 x) ∧ W2.cell? ⟨bb, off + k * 2 + 1, none⟩ = some (.int .i64 y)) ∧ W2.cell? ⟨B6, 1, none⟩ = some (.int .i64 s)) := fun _ h => h
          refine wpIn_region_held (fun W2 => (W2.cell? ⟨bb, off + k * 2, none⟩ = some (.int .i64 x) ∧ W2.cell? ⟨bb, off + k * 2 + 1, none⟩ = some (.int .i64 y)) ∧ W2.cell? ⟨B6, 1, none⟩ = some (.int .i64 s)) 19 hmo ?_
          have q0 : (wr5.drew.cell? ⟨bb, off + k * 2, none⟩ = some (.int .i64 x) ∧ wr5.drew.cell? ⟨bb, off + k * 2 + 1, none⟩ = some (.int .i64 y)) ∧ wr5.drew.cell? ⟨B6, 1, none⟩ = some (.int .i64 s) := ⟨⟨a0, a1⟩, e1⟩
          refine wpHeldIn_take (i := 0) (v := ?_) (plain_of (by kernel_rfl)) rfl (by kernel_rfl) (fun _ _ _ h => h) (yieldsSoIn_of (by kernel_rfl) ?_ (fun _ => rfl)) q0 ?_; rotate_left; focus (intro wq hw; clear hw; go_simp; try (with_reducible rfl))
          refine wpHeldIn_take (i := 2) (v := ?_) (plain_of (by kernel_rfl)) rfl (by kernel_rfl) (fun _ _ _ h => h) (yieldsSoIn_of (by kernel_rfl) ?_ (fun _ => rfl)) q0 ?_; rotate_left; focus (intro wq hw; clear hw; go_simp; try (with_reducible rfl))
          refine wpHeldIn_take (i := 3) (v := ?_) (plain_of (by kernel_rfl)) rfl (by kernel_rfl) (fun _ _ _ h => h) (yieldsSoIn_of (by kernel_rfl) ?_ (fun _ => rfl)) q0 ?_; rotate_left; focus (intro wq hw; clear hw; go_simp; try (with_reducible rfl))
          refine wpHeldIn_take (i := 4) (v := ?_) (plain_of (by kernel_rfl)) rfl (by kernel_rfl) (fun _ _ _ h => h) (yieldsSoIn_of (by kernel_rfl) ?_ (fun _ => rfl)) q0 ?_; rotate_left; focus (intro wq hw; clear hw; go_simp; try (with_reducible rfl))
          refine wpHeldIn_take (i := 5) (v := ?_) (plain_of (by kernel_rfl)) rfl (by kernel_rfl) (fun _ _ _ h => h) (yieldsSoIn_of (by kernel_rfl) ?_ (fun _ => rfl)) q0 ?_; rotate_left; focus (intro wq hw; clear hw; go_simp; try (with_reducible rfl))
          refine wpHeldIn_take (i := 6) (v := ?_) (plain_of (by kernel_rfl)) rfl (by kernel_rfl) (fun _ _ _ h => h) (yieldsSoIn_of (by kernel_rfl) ?_ (fun _ => rfl)) q0 ?_; rotate_left; focus (intro wq hw; have kq := KC.out wq hw; clear hw; go_simp; try (with_reducible rfl))
          refine wpHeldIn_take (i := 8) (v := ?_) (plain_of (by kernel_rfl)) rfl (by kernel_rfl) (fun _ _ _ h => h) (yieldsSoIn_of (by kernel_rfl) ?_ (fun _ => rfl)) q0 ?_; rotate_left; focus (intro wq hw; clear hw; go_simp; try (with_reducible rfl))
          refine wpHeldIn_take (i := 9) (v := ?_) (plain_of (by kernel_rfl)) rfl (by kernel_rfl) (fun _ _ _ h => h) (yieldsSoIn_of (by kernel_rfl) ?_ (fun _ => rfl)) q0 ?_; rotate_left; focus (intro wq hw; have kq := KC.out wq hw; clear hw; go_simp; try (with_reducible rfl))
          refine wpHeldIn_take (i := 10) (v := ?_) (plain_of (by kernel_rfl)) rfl (by kernel_rfl) (fun _ _ _ h => h) (yieldsSoIn_of (by kernel_rfl) ?_ (fun _ => rfl)) q0 ?_; rotate_left; focus (intro wq hw; clear hw; go_simp; try (with_reducible rfl))
          refine wpHeldIn_take (i := 11) (v := ?_) (plain_of (by kernel_rfl)) rfl (by kernel_rfl) (fun _ _ _ h => h) (yieldsSoIn_of (by kernel_rfl) ?_ (fun _ => rfl)) q0 ?_; rotate_left; focus (intro wq hw; clear hw; go_simp; try (with_reducible rfl))
          refine wpHeldIn_take (i := 12) (v := ?_) (plain_of (by kernel_rfl)) rfl (by kernel_rfl) (fun _ _ _ h => h) (yieldsSoIn_of (by kernel_rfl) ?_ (fun _ => rfl)) q0 ?_; rotate_left; focus (intro wq hw; clear hw; go_simp; try (with_reducible rfl))
          refine wpHeldIn_take (i := 13) (v := ?_) (plain_of (by kernel_rfl)) rfl (by kernel_rfl) (fun _ _ _ h => h) (yieldsSoIn_of (by kernel_rfl) ?_ (fun _ => rfl)) q0 ?_; rotate_left; focus (intro wq hw; clear hw; go_simp; try (with_reducible rfl))
          refine wpHeldIn_take (i := 14) (v := ?_) (plain_of (by kernel_rfl)) rfl (by kernel_rfl) (fun _ _ _ h => h) (yieldsSoIn_of (by kernel_rfl) ?_ (fun _ => rfl)) q0 ?_; rotate_left; focus (intro wq hw; have kq := KC.out wq hw; clear hw; go_simp; try (with_reducible rfl))
          refine wpHeldIn_take (i := 15) (v := ?_) (plain_of (by kernel_rfl)) rfl (by kernel_rfl) (fun _ _ _ h => h) (yieldsSoIn_of (by kernel_rfl) ?_ (fun _ => rfl)) q0 ?_; rotate_left; focus (intro wq hw; clear hw; go_simp; try (with_reducible rfl))
          refine wpHeldIn_one (i := 1) (by kernel_rfl) (by kernel_rfl) rfl (by kernel_rfl) (fun K1 hK1 => ?_)
          go_simp
          refine hK1 _ _ q0 ?_
          refine wpHeldIn_take (i := 7) (v := ?_) (plain_of (by kernel_rfl)) rfl (by kernel_rfl) (fun _ _ _ h => h) (yieldsSoIn_of (by kernel_rfl) ?_ (fun _ => rfl)) q0 ?_; rotate_left; focus (intro wq hw; clear hw; go_simp; try (with_reducible rfl))
          refine wpHeldIn_take (i := 16) (v := ?_) (plain_of (by kernel_rfl)) rfl (by kernel_rfl) (fun _ _ _ h => h) (yieldsSoIn_of (by kernel_rfl) ?_ (fun _ => rfl)) q0 ?_; rotate_left; focus (intro wq hw; clear hw; go_simp; try (with_reducible rfl))
          refine wpHeldIn_one (i := 17) (by kernel_rfl) (by kernel_rfl) rfl (by kernel_rfl) (fun K17 hK17 => ?_)
          go_simp
          have q1 : ((wr5.setCell ⟨B6, 0, none⟩ (.int .i64 (if r < x then x else r))).drew.cell? ⟨bb, off + k * 2, none⟩ = some (.int .i64 x) ∧ (wr5.setCell ⟨B6, 0, none⟩ (.int .i64 (if r < x then x else r))).drew.cell? ⟨bb, off + k * 2 + 1, none⟩ = some (.int .i64 y)) ∧ (wr5.setCell ⟨B6, 0, none⟩ (.int .i64 (if r < x then x else r))).drew.cell? ⟨B6, 1, none⟩ = some (.int .i64 s) := ⟨⟨cs_other (by first | (simp; done) | (simp; omega)) a0, cs_other (by first | (simp; done) | (simp; omega)) a1⟩, cs_other (by simp) e1⟩
          refine hK17 _ _ q1 ?_
          refine wpHeldIn_take (i := 18) (v := ?_) (plain_of (by kernel_rfl)) rfl (by kernel_rfl) (fun _ _ _ h => h) (yieldsSoIn_of (by kernel_rfl) ?_ (fun _ => rfl)) q1 ?_; rotate_left; focus (intro wq hw; clear hw; go_simp; try (with_reducible rfl))
          refine wpHeldIn_last (by kernel_rfl) rfl (by kernel_rfl) (fun K19 hK19 => ?_)
          go_simp
          refine hK19 _ _ ?_
          refine wpHeldIn_done (by kernel_rfl) ?_ _
          clear KC q0 q1 e0 e1 f0 f1
          replace b6' : BoxS ((wr5.setCell ⟨B6, 0, none⟩ (.int .i64 (if r < x then x else r))).setCell ⟨B6, 1, none⟩ (.int .i64 (if s < y then y else s))).drew B6 24 #[.int .i64 (if r < x then x else r), .int .i64 (if s < y then y else s)] := (b6'.put 0 _).put 1 _
          replace a0 : ((wr5.setCell ⟨B6, 0, none⟩ (.int .i64 (if r < x then x else r))).setCell ⟨B6, 1, none⟩ (.int .i64 (if s < y then y else s))).drew.cell? ⟨bb, off + k * 2, none⟩ = some (.int .i64 x) := cs_other (by first | (simp; done) | (simp; omega)) (cs_other (by first | (simp; done) | (simp; omega)) a0)
          replace a1 : ((wr5.setCell ⟨B6, 0, none⟩ (.int .i64 (if r < x then x else r))).setCell ⟨B6, 1, none⟩ (.int .i64 (if s < y then y else s))).drew.cell? ⟨bb, off + k * 2 + 1, none⟩ = some (.int .i64 y) := cs_other (by first | (simp; done) | (simp; omega)) (cs_other (by first | (simp; done) | (simp; omega)) a1)
          replace hB : Below w.heap.size w ((wr5.setCell ⟨B6, 0, none⟩ (.int .i64 (if r < x then x else r))).setCell ⟨B6, 1, none⟩ (.int .i64 (if s < y then y else s))).drew := by (repeat' (first | (with_reducible exact Below.refl _ _) | (with_reducible assumption) | (with_reducible refine Below.alloc ?_ ?_ _) | (with_reducible refine Below.drew ?_) | (with_reducible refine Below.setCell ?_ ?_ _) | go_size | (exact (by simp)) | omega))
          replace b5' : BoxS ((wr5.setCell ⟨B6, 0, none⟩ (.int .i64 (if r < x then x else r))).setCell ⟨B6, 1, none⟩ (.int .i64 (if s < y then y else s))).drew B5 24 #[.int .i64 p2, .int .i64 q2] := told_other2 b5' (by omega) _ _ _ _
          replace b7' : BoxS ((wr5.setCell ⟨B6, 0, none⟩ (.int .i64 (if r < x then x else r))).setCell ⟨B6, 1, none⟩ (.int .i64 (if s < y then y else s))).drew B7 24 #[.int .i64 SX, .int .i64 SY] := told_other2 b7' (by omega) _ _ _ _
          replace bA' : BoxS ((wr5.setCell ⟨B6, 0, none⟩ (.int .i64 (if r < x then x else r))).setCell ⟨B6, 1, none⟩ (.int .i64 (if s < y then y else s))).drew w2.heap.size 30 #[.int .i64 T, .int .i64 X, .int .i64 Z, .int .i64 XX, .int .i64 XY, .int .i64 YY, .int .i64 N1, .int .i64 N2, .int .i64 N3, .int .i64 N4] := told_other2 bA' (by omega) _ _ _ _
          generalize ((wr5.setCell ⟨B6, 0, none⟩ (.int .i64 (if r < x then x else r))).setCell ⟨B6, 1, none⟩ (.int .i64 (if s < y then y else s))).drew = wr6 at *
          obtain ⟨r2, hr⟩ : ∃ v, v = (if r < x then x else r) := ⟨_, rfl⟩
          obtain ⟨s2, hs⟩ : ∃ v, v = (if s < y then y else s) := ⟨_, rfl⟩
          have gr : (r ≤ r2 ∧ x ≤ r2) ∧ -200 ≤ r2 ∧ r2 ≤ 200 := by rw [hr]; split <;> omega
          have gs : (s ≤ s2 ∧ y ≤ s2) ∧ -200 ≤ s2 ∧ s2 ≤ 200 := by rw [hs]; split <;> omega
          rw [← hr, ← hs] at b6' ⊢
          clear hr hs
          go_wp2_with fail
          have e0 := b7'.cell 0 rfl
          have e1 := b7'.cell 1 rfl
          have f0 := b7'.frozen 0
          have f1 := b7'.frozen 1
          refine (wpIn_wide (n := 4)).1 ?_
          have KC : Hid (∀ W2 : World, ((W2.cell? ⟨bb, off + k * 2, none⟩ = some (.int .i64 x) ∧ W2.cell? ⟨bb, off + k * 2 + 1, none⟩ = some (.int .i64 y)) ∧ W2.cell? ⟨B7, 1, none⟩ = some (.int .i64 SY)) → (W2.cell? ⟨bb, off + k * 2, none⟩ = some (.int .i64 x) ∧ W2.cell? ⟨bb, off + k * 2 + 1, none⟩ = some (.int .i64 y)) ∧ W2.cell? ⟨B7, 1, none⟩ = some (.int .i64 SY)) := fun _ h => h
          refine wpIn_region_held (fun W2 => (W2.cell? ⟨bb, off + k * 2, none⟩ = some (.int .i64 x) ∧ W2.cell? ⟨bb, off + k * 2 + 1, none⟩ = some (.int .i64 y)) ∧ W2.cell? ⟨B7, 1, none⟩ = some (.int .i64 SY)) 19 hmo ?_
          have q0 : (wr6.drew.cell? ⟨bb, off + k * 2, none⟩ = some (.int .i64 x) ∧ wr6.drew.cell? ⟨bb, off + k * 2 + 1, none⟩ = some (.int .i64 y)) ∧ wr6.drew.cell? ⟨B7, 1, none⟩ = some (.int .i64 SY) := ⟨⟨a0, a1⟩, e1⟩
          refine wpHeldIn_take (i := 0) (v := ?_) (plain_of (by kernel_rfl)) rfl (by kernel_rfl) (fun _ _ _ h => h) (yieldsSoIn_of (by kernel_rfl) ?_ (fun _ => rfl)) q0 ?_; rotate_left; focus (intro wq hw; clear hw; go_simp; try (with_reducible rfl))
          refine wpHeldIn_take (i := 2) (v := ?_) (plain_of (by kernel_rfl)) rfl (by kernel_rfl) (fun _ _ _ h => h) (yieldsSoIn_of (by kernel_rfl) ?_ (fun _ => rfl)) q0 ?_; rotate_left; focus (intro wq hw; clear hw; go_simp; try (with_reducible rfl))
          refine wpHeldIn_take (i := 3) (v := ?_) (plain_of (by kernel_rfl)) rfl (by kernel_rfl) (fun _ _ _ h => h) (yieldsSoIn_of (by kernel_rfl) ?_ (fun _ => rfl)) q0 ?_; rotate_left; focus (intro wq hw; clear hw; go_simp; try (with_reducible rfl))
          refine wpHeldIn_take (i := 4) (v := ?_) (plain_of (by kernel_rfl)) rfl (by kernel_rfl) (fun _ _ _ h => h) (yieldsSoIn_of (by kernel_rfl) ?_ (fun _ => rfl)) q0 ?_; rotate_left; focus (intro wq hw; clear hw; go_simp; try (with_reducible rfl))
          refine wpHeldIn_take (i := 5) (v := ?_) (plain_of (by kernel_rfl)) rfl (by kernel_rfl) (fun _ _ _ h => h) (yieldsSoIn_of (by kernel_rfl) ?_ (fun _ => rfl)) q0 ?_; rotate_left; focus (intro wq hw; clear hw; go_simp; try (with_reducible rfl))
          refine wpHeldIn_take (i := 6) (v := ?_) (plain_of (by kernel_rfl)) rfl (by kernel_rfl) (fun _ _ _ h => h) (yieldsSoIn_of (by kernel_rfl) ?_ (fun _ => rfl)) q0 ?_; rotate_left; focus (intro wq hw; have kq := KC.out wq hw; clear hw; go_simp; try (with_reducible rfl))
          refine wpHeldIn_take (i := 8) (v := ?_) (plain_of (by kernel_rfl)) rfl (by kernel_rfl) (fun _ _ _ h => h) (yieldsSoIn_of (by kernel_rfl) ?_ (fun _ => rfl)) q0 ?_; rotate_left; focus (intro wq hw; clear hw; go_simp; try (with_reducible rfl))
          refine wpHeldIn_take (i := 9) (v := ?_) (plain_of (by kernel_rfl)) rfl (by kernel_rfl) (fun _ _ _ h => h) (yieldsSoIn_of (by kernel_rfl) ?_ (fun _ => rfl)) q0 ?_; rotate_left; focus (intro wq hw; have kq := KC.out wq hw; clear hw; go_simp; try (with_reducible rfl))
          refine wpHeldIn_take (i := 10) (v := ?_) (plain_of (by kernel_rfl)) rfl (by kernel_rfl) (fun _ _ _ h => h) (yieldsSoIn_of (by kernel_rfl) ?_ (fun _ => rfl)) q0 ?_; rotate_left; focus (intro wq hw; clear hw; go_simp; try (with_reducible rfl))
          refine wpHeldIn_take (i := 11) (v := ?_) (plain_of (by kernel_rfl)) rfl (by kernel_rfl) (fun _ _ _ h => h) (yieldsSoIn_of (by kernel_rfl) ?_ (fun _ => rfl)) q0 ?_; rotate_left; focus (intro wq hw; clear hw; go_simp; try (with_reducible rfl))
          refine wpHeldIn_take (i := 12) (v := ?_) (plain_of (by kernel_rfl)) rfl (by kernel_rfl) (fun _ _ _ h => h) (yieldsSoIn_of (by kernel_rfl) ?_ (fun _ => rfl)) q0 ?_; rotate_left; focus (intro wq hw; clear hw; go_simp; try (with_reducible rfl))
          refine wpHeldIn_take (i := 13) (v := ?_) (plain_of (by kernel_rfl)) rfl (by kernel_rfl) (fun _ _ _ h => h) (yieldsSoIn_of (by kernel_rfl) ?_ (fun _ => rfl)) q0 ?_; rotate_left; focus (intro wq hw; clear hw; go_simp; try (with_reducible rfl))
          refine wpHeldIn_take (i := 14) (v := ?_) (plain_of (by kernel_rfl)) rfl (by kernel_rfl) (fun _ _ _ h => h) (yieldsSoIn_of (by kernel_rfl) ?_ (fun _ => rfl)) q0 ?_; rotate_left; focus (intro wq hw; have kq := KC.out wq hw; clear hw; go_simp; try (with_reducible rfl))
          refine wpHeldIn_take (i := 15) (v := ?_) (plain_of (by kernel_rfl)) rfl (by kernel_rfl) (fun _ _ _ h => h) (yieldsSoIn_of (by kernel_rfl) ?_ (fun _ => rfl)) q0 ?_; rotate_left; focus (intro wq hw; clear hw; go_simp; try (with_reducible rfl))
          refine wpHeldIn_one (i := 1) (by kernel_rfl) (by kernel_rfl) rfl (by kernel_rfl) (fun K1 hK1 => ?_)
          go_simp
          refine hK1 _ _ q0 ?_
          refine wpHeldIn_take (i := 7) (v := ?_) (plain_of (by kernel_rfl)) rfl (by kernel_rfl) (fun _ _ _ h => h) (yieldsSoIn_of (by kernel_rfl) ?_ (fun _ => rfl)) q0 ?_; rotate_left; focus (intro wq hw; clear hw; go_simp; try (with_reducible rfl))
          refine wpHeldIn_take (i := 16) (v := ?_) (plain_of (by kernel_rfl)) rfl (by kernel_rfl) (fun _ _ _ h => h) (yieldsSoIn_of (by kernel_rfl) ?_ (fun _ => rfl)) q0 ?_; rotate_left; focus (intro wq hw; clear hw; go_simp; try (with_reducible rfl))
          refine wpHeldIn_one (i := 17) (by kernel_rfl) (by kernel_rfl) rfl (by kernel_rfl) (fun K17 hK17 => ?_)
          go_simp
          have q1 : ((wr6.setCell ⟨B7, 0, none⟩ (.int .i64 (SX + x))).drew.cell? ⟨bb, off + k * 2, none⟩ = some (.int .i64 x) ∧ (wr6.setCell ⟨B7, 0, none⟩ (.int .i64 (SX + x))).drew.cell? ⟨bb, off + k * 2 + 1, none⟩ = some (.int .i64 y)) ∧ (wr6.setCell ⟨B7, 0, none⟩ (.int .i64 (SX + x))).drew.cell? ⟨B7, 1, none⟩ = some (.int .i64 SY) := ⟨⟨cs_other (by first | (simp; done) | (simp; omega)) a0, cs_other (by first | (simp; done) | (simp; omega)) a1⟩, cs_other (by simp) e1⟩
          refine hK17 _ _ q1 ?_
          refine wpHeldIn_take (i := 18) (v := ?_) (plain_of (by kernel_rfl)) rfl (by kernel_rfl) (fun _ _ _ h => h) (yieldsSoIn_of (by kernel_rfl) ?_ (fun _ => rfl)) q1 ?_; rotate_left; focus (intro wq hw; clear hw; go_simp; try (with_reducible rfl))
          refine wpHeldIn_last (by kernel_rfl) rfl (by kernel_rfl) (fun K19 hK19 => ?_)
          go_simp
          refine hK19 _ _ ?_
          refine wpHeldIn_done (by kernel_rfl) ?_ _
          clear KC q0 q1 e0 e1 f0 f1
          replace b7' : BoxS ((wr6.setCell ⟨B7, 0, none⟩ (.int .i64 (SX + x))).setCell ⟨B7, 1, none⟩ (.int .i64 (SY + y))).drew B7 24 #[.int .i64 (SX + x), .int .i64 (SY + y)] := (b7'.put 0 _).put 1 _
          replace a0 : ((wr6.setCell ⟨B7, 0, none⟩ (.int .i64 (SX + x))).setCell ⟨B7, 1, none⟩ (.int .i64 (SY + y))).drew.cell? ⟨bb, off + k * 2, none⟩ = some (.int .i64 x) := cs_other (by first | (simp; done) | (simp; omega)) (cs_other (by first | (simp; done) | (simp; omega)) a0)
          replace a1 : ((wr6.setCell ⟨B7, 0, none⟩ (.int .i64 (SX + x))).setCell ⟨B7, 1, none⟩ (.int .i64 (SY + y))).drew.cell? ⟨bb, off + k * 2 + 1, none⟩ = some (.int .i64 y) := cs_other (by first | (simp; done) | (simp; omega)) (cs_other (by first | (simp; done) | (simp; omega)) a1)
          replace hB : Below w.heap.size w ((wr6.setCell ⟨B7, 0, none⟩ (.int .i64 (SX + x))).setCell ⟨B7, 1, none⟩ (.int .i64 (SY + y))).drew := by (repeat' (first | (with_reducible exact Below.refl _ _) | (with_reducible assumption) | (with_reducible refine Below.alloc ?_ ?_ _) | (with_reducible refine Below.drew ?_) | (with_reducible refine Below.setCell ?_ ?_ _) | go_size | (exact (by simp)) | omega))
          replace b5' : BoxS ((wr6.setCell ⟨B7, 0, none⟩ (.int .i64 (SX + x))).setCell ⟨B7, 1, none⟩ (.int .i64 (SY + y))).drew B5 24 #[.int .i64 p2, .int .i64 q2] := told_other2 b5' (by omega) _ _ _ _
          replace b6' : BoxS ((wr6.setCell ⟨B7, 0, none⟩ (.int .i64 (SX + x))).setCell ⟨B7, 1, none⟩ (.int .i64 (SY + y))).drew B6 24 #[.int .i64 r2, .int .i64 s2] := told_other2 b6' (by omega) _ _ _ _
          replace bA' : BoxS ((wr6.setCell ⟨B7, 0, none⟩ (.int .i64 (SX + x))).setCell ⟨B7, 1, none⟩ (.int .i64 (SY + y))).drew w2.heap.size 30 #[.int .i64 T, .int .i64 X, .int .i64 Z, .int .i64 XX, .int .i64 XY, .int .i64 YY, .int .i64 N1, .int .i64 N2, .int .i64 N3, .int .i64 N4] := told_other2 bA' (by omega) _ _ _ _
          generalize ((wr6.setCell ⟨B7, 0, none⟩ (.int .i64 (SX + x))).setCell ⟨B7, 1, none⟩ (.int .i64 (SY + y))).drew = wr7 at *
          go_wp2_with fail
          go_roundw
          case rel => exact ⟨k + 1, p2, q2, r2, s2, by omega, by go_num, ⟨b5', b6', by rw [hsx.out, hsy.out]; exact b7', bA'⟩, hB, by omega, HLE.out _ _ _ _ gp.1 gq.1 gr.1 gs.1⟩
          case measure => simp [intOf]; omega
        · obtain rfl : k = ps.length := by omega
          have hmem : ∀ pt ∈ ps, (p ≤ pt.1 ∧ pt.1 ≤ r) ∧ (q ≤ pt.2 ∧ pt.2 ≤ s) := by
            intro pt hpt
            obtain ⟨j, hj, e⟩ := List.getElem_of_mem hpt
            have := hle.out j hj
            rw [Geo.ptAt_get hj, e] at this
            exact this
          obtain ⟨x1, x2, x3⟩ := KX.out p r (fun pt hp => (hmem pt hp).1)
          obtain ⟨y1, y2, y3⟩ := KY.out q s (fun pt hp => (hmem pt hp).2)
          have HX : Hid (∀ W, Calls Try.prog 31 #[.agg #[.int .i64 N1, .int .i64 N2], .int .i64 p, .int .i64 r] W fun e w' => e = .returned (.bool true) ∧ Below W.heap.size W w') := fun W => between_yes N1 N2 p r W x2 x3 bp br ⟨x1, HQ2.out⟩
          have HY : Hid (∀ W, Calls Try.prog 31 #[.agg #[.int .i64 N3, .int .i64 N4], .int .i64 q, .int .i64 s] W fun e w' => e = .returned (.bool true) ∧ Below W.heap.size W w') := fun W => between_yes N3 N4 q s W y2 y3 bq bs ⟨y1, HQ4.out⟩
          have hsum := KS.out ps.length (Nat.le_refl _)
          have hT := HTB.out
          clear hmem hle x1 x2 x3 y1 y2 y3 HC HPT KX KY KS
          generalize Geo.sumX ps ps.length = SX at *
          generalize Geo.sumY ps ps.length = SY at *
          have m1 := mul_bd (a := T) (b := SX) (x := 80000000) (y := 2000) (by omega) (by omega) (by omega) (by omega)
          have m2 := mul_bd (a := T) (b := SY) (x := 80000000) (y := 2000) (by omega) (by omega) (by omega) (by omega)
          have hw1 : IntKind.i64.wrap (T * SX) = T * SX := IntWalk.i64_in _ (by omega)
          have hw2 : IntKind.i64.wrap (T * SY) = T * SY := IntWalk.i64_in _ (by omega)
          clear m1 m2 hsum hT bp bq br bs
          have c6 := bA'.cell 6 rfl
          have c7 := bA'.cell 7 rfl
          have c50 := b5'.cell 0 rfl
          have c60 := b6'.cell 0 rfl
          go_wp2_with fail
          refine (HX.out _).mono ?_
          rintro e v1 ⟨rfl, hb1⟩
          replace b5' := b5'.below hb1
          replace b6' := b6'.below hb1
          replace b7' := b7'.below hb1
          replace bA' := bA'.below hb1
          replace hB := hB.trans (hb1.mono hB.size)
          clear c6 c7 c50 c60 hb1 HX
          have c8 := bA'.cell 8 rfl
          have c9 := bA'.cell 9 rfl
          have c51 := b5'.cell 1 rfl
          have c61 := b6'.cell 1 rfl
          go_wp2_with fail
          refine (HY.out _).mono ?_
          rintro e v2 ⟨rfl, hb2⟩
          replace b7' := b7'.below hb2
          replace bA' := bA'.below hb2
          have HBZ := hB.trans (hb2.mono hB.size)
          clear c8 c9 c51 c61 hb2 HY b5' b6' hB
          have c0 := bA'.cell 0 rfl
          have c1 := bA'.cell 1 rfl
          have c2 := bA'.cell 2 rfl
          have c70 := b7'.cell 0 rfl
          have c71 := b7'.cell 1 rfl
          by_cases h3 : ps.length = 3
          · obtain ⟨t1, t2⟩ := KT.out h3
            have hi3 : (ps.length : Int) = 3 := by omega
            subst t1
            subst t2
            clear KT
            go_wp2_with fail
            refine (works_any _).mono ?_
            rintro e w9 ⟨rfl, hb9⟩
            have hB9 : Below w.heap.size w w9 := HBZ.trans (hb9.mono HBZ.size)
            go_wp2_with fail
            go_returns
            exact ⟨rfl, hB9⟩
          · have hi3 : ¬ (ps.length : Int) = 3 := by omega
            clear KT
            go_wp2_with fail
            refine (works_any _).mono ?_
            rintro e w9 ⟨rfl, hb9⟩
            have hB9 : Below w.heap.size w w9 := HBZ.trans (hb9.mono HBZ.size)
            go_wp2_with fail
            go_returns
            exact ⟨rfl, hB9⟩

open Go.ChangeShapes Go.WideShapes Go.ChangeAt Go.RowKit Go.Joins

set_option maxRecDepth 100000 in
theorem centre_lifted (os : Os) (started : os.Started) (H : Type) (enc : TypeId × Value → H) :
    ReturnsInHanded {} Try.checked os 9 .any (Rows.cornersCentreSpec.pre6 enc Try.prog Try.f9 Rows.cornersCentreRow.domain false) (Rows.cornersCentreSpec.post enc Try.prog Try.f9 false true false false) := by
  refine returnsInHanded_of_change (C := Try.checked) own started (by kernel_rfl) Try.func9
    (ChangeSpec.witness6 (enc := enc) (C := Try.checked) false ⟨#[], #[.slice none 0 0], []⟩ 8 (by kernel_rfl) (by kernel_rfl) (by kernel_rfl) (by kernel_rfl)) ?_
  intro W base args ds gs before hval0 hW hcnd _
  have hval : ∀ (j : Nat) t v, Try.f9.params[j]? = some t → args[j]? = some v → Value.okWide Try.prog W .any base t v := hval0
  have hW' := hW
  obtain ⟨p, q, hA0, hV, rfl, hfz, hnd⟩ := hW
  have hA : DataW.TrodAll enc Try.prog W 0 (fun _ => true) true Try.f9.params.toList args.toList ds p := hA0
  rw [Try.params9] at hA hval
  obtain ⟨v0, d0, rfl, rfl, h0⟩ := trodAll_one hA
  obtain ⟨rfl, rfl⟩ := trodVars_none hV
  obtain ⟨A, c, ps, rfl, hg_ps, hl_ps⟩ := open_prs Try.underlying22 Try.underlying24 (by kernel_rfl) (by kernel_rfl) (by kernel_rfl) (by kernel_rfl) (by kernel_rfl) Try.underlying3 Try.underlying3 (hval 0 22 v0 rfl rfl) h0
  refine (lawCentre_walk A c ps W hl_ps hg_ps).mono fun e W' ⟨he, hb⟩ => ?_
  subst he
  exact ⟨_, rfl, law_post hW' rfl rfl (by intro t ht; have : t = 22 := (by rw [Try.params9] at ht; simpa using ht); subst this; exact ⟨by kernel_rfl, of_decide_eq_true (by kernel_rfl)⟩) rfl rfl rfl hb⟩

theorem centre_holds : Rows.CornersCentreSaid :=
  OpenClaim.holds_of_wide 9 Try.f9 rfl rfl rfl rfl rfl rfl rfl ⟨rfl, rfl, rfl, rfl, rfl⟩ rfl rfl rfl rfl rfl (by kernel_rfl) Try.func9 (by kernel_rfl)
    (of_decide_eq_true (by kernel_rfl)) (by unfold Func.isWrapper; rw [if_neg (of_decide_eq_false (by kernel_rfl))]; exact ⟨rfl, rfl⟩)
    (fun os started H enc _ => centre_lifted os started H enc)
end Go.Proofs.Ytkfnngcphcfbjaa
