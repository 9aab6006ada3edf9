/- Wheels: the law WheelsOne (P3.16): the walk. -/
import Derived.Test.YtecmlakcpgkfbaaTrQ
import Derived.Test.YtecmlakcpgkfbaaSub3
import Derived.Test.YtecmlakcpgkfbaaPushW
import Derived.Test.YtecmlakcpgkfbaaFew3
namespace Go.Proofs.Ytecmlakcpgkfbaa
open Go.RowKit
namespace Wh
theorem ready_ok' {d : Desk} (h : readyB d = true) : okB d = true ∧ d.ghi - d.glo ≤ 25 ∧ d.ws.length ≤ 4 := by
  unfold readyB farB bigB at h
  simp only [Bool.and_eq_true, Bool.not_eq_true', Bool.or_eq_false_iff, Bool.and_eq_false_imp, decide_eq_false_iff_not] at h
  obtain ⟨⟨_, h2⟩, hok⟩ := h
  have h3 := h2 hok
  exact ⟨hok, by omega, by omega⟩
theorem areas_span {d : Desk} (hok : okB d = true) (h : d.ghi - d.glo ≤ 25) : (areasV d).length ≤ 100 := by
  have hd := ok_of hok
  by_cases h0 : spE d = 0
  · have hn : (areasV d).Nodup := (areas_sorted d).imp (fun h => by omega)
    have hsub : areasV d ⊆ (List.range 100).map (fun n : Nat => d.glo + (n : Int)) := fun x hx => by
      obtain ⟨t, ht, rfl⟩ := (areas_mem h0 x).1 hx
      have := ((mem_truths hd t).1 ht).1.1
      rw [List.mem_map]
      exact ⟨(t.1.1 - d.glo).toNat, by rw [List.mem_range]; omega, by omega⟩
    have := hn.length_le_of_subset hsub
    rwa [List.length_map, List.length_range] at this
  · unfold areasV
    rw [if_neg h0]
    simp
theorem few_lt {d : Desk} (hok : okB d = true) {i : Nat} (hi : i < d.ws.length) (h0 : spE (subD d i) = 0) : fewV d < d.ws.length := by
  obtain ⟨t, ht⟩ := List.exists_mem_of_ne_nil _ (sp_ok h0).2
  obtain ⟨h1, h2⟩ := sub_right hok hi ht
  have h3 := wrong_lt h2 d.ws.length hi
  unfold fewV fewF
  rw [hok, if_pos rfl]
  have := (few_le_from d ((d.ws.length : Int) - 1) (casesL d) (d.ws.length : Nat)).2 (.inr ⟨t, (cases_iff (ok_of hok) t).2 h1, by
    have e : wrongN d t.1 = wrongTo d t.1 d.ws.length := rfl
    omega⟩)
  omega
end Wh
set_option maxRecDepth 100000 in
set_option maxHeartbeats 16000000 in
theorem One_any (d : Wh.Desk) (i : Int) (A : Option Addr) (c : Nat) (w : World) (hl : d.ws.length ≤ 1000000000) (hcap : d.ws.length ≤ c) (hg : Wks w w.heap.size A d.ws) :
    Calls Try.prog 10 #[.agg (whV d), .slice A d.ws.length c, .int .i64 i] w fun e w' => e = .returned (.bool true) ∧ Below w.heap.size w w' := by
  have HRD : Hid (∀ W, Below w.heap.size w W → Calls Try.prog 34 #[.agg (whV d), .slice A d.ws.length c] W fun e w' => e = .returned (.bool (Wh.readyB d)) ∧ Below W.heap.size W w') := fun W hW => ready3_any d A c W hl ((hg.keep hW).wider hW.size)
  have HWK : Hid (∀ W, Calls Try.prog 13 #[] W fun e w' => e = .returned (.bool true) ∧ Below W.heap.size W w') := works_any
  cases hr : Wh.readyB d
  · rw [hr] at HRD
    clear hr hg hcap
    obtain ⟨full, read, slip, skew, circ, glo, ghi, wrn, ws⟩ := d
    unfold whV at *
    dsimp only at *
    go_enter Try.func10, Try.ntmps10
    go_wp2_with fail
    have bS1 := BoxS.new w 25 #[.int .i64 full, .int .i64 read, .int .i64 slip, .int .i64 skew, .int .i64 circ, .int .i64 glo, .int .i64 ghi, .int .i64 wrn]
    have hB1 : Below w.heap.size w (w.alloc (.cells #[.int .i64 full, .int .i64 read, .int .i64 slip, .int .i64 skew, .int .i64 circ, .int .i64 glo, .int .i64 ghi, .int .i64 wrn] 25)) := by (repeat' (first | (with_reducible exact Below.refl _ _) | (with_reducible assumption) | (with_reducible refine Below.alloc ?_ ?_ _) | (with_reducible refine Below.drew ?_) | (with_reducible refine Below.setCell ?_ ?_ _) | go_size | (exact (by simp)) | omega))
    generalize World.alloc w _ = w1 at *
    refine (HRD.out _ hB1).mono ?_
    rintro e w2 ⟨rfl, hb2⟩
    have bS2 := bS1.below hb2
    have hB2 := hB1.trans (hb2.mono hB1.size)
    clear bS1 hb2 hB1 HRD
    obtain ⟨⟨⟨s0, s1, s2⟩, s3, s4, s5⟩, s6, s7⟩ := boxS8 bS2
    have lS := bS2.lt
    go_wp2_with fail
    refine (HWK.out _).mono ?_
    rintro e w19 ⟨rfl, hb19⟩
    go_wp2_with fail
    go_returns
    exact ⟨rfl, hB2.trans (hb19.mono hB2.size)⟩
  · obtain ⟨hok, hsp, hl4⟩ := Wh.ready_ok' hr
    rw [hr] at HRD
    by_cases hi0 : i < 0
    · have q0 : decide (i < 0) = true := decide_eq_true hi0
      clear hr hg hok hsp hl4 hcap
      obtain ⟨full, read, slip, skew, circ, glo, ghi, wrn, ws⟩ := d
      unfold whV at *
      dsimp only at *
      go_enter Try.func10, Try.ntmps10
      go_wp2_with fail
      have bS1 := BoxS.new w 25 #[.int .i64 full, .int .i64 read, .int .i64 slip, .int .i64 skew, .int .i64 circ, .int .i64 glo, .int .i64 ghi, .int .i64 wrn]
      have hB1 : Below w.heap.size w (w.alloc (.cells #[.int .i64 full, .int .i64 read, .int .i64 slip, .int .i64 skew, .int .i64 circ, .int .i64 glo, .int .i64 ghi, .int .i64 wrn] 25)) := by (repeat' (first | (with_reducible exact Below.refl _ _) | (with_reducible assumption) | (with_reducible refine Below.alloc ?_ ?_ _) | (with_reducible refine Below.drew ?_) | (with_reducible refine Below.setCell ?_ ?_ _) | go_size | (exact (by simp)) | omega))
      generalize World.alloc w _ = w1 at *
      refine (HRD.out _ hB1).mono ?_
      rintro e w2 ⟨rfl, hb2⟩
      have bS2 := bS1.below hb2
      have hB2 := hB1.trans (hb2.mono hB1.size)
      clear bS1 hb2 hB1 HRD
      obtain ⟨⟨⟨s0, s1, s2⟩, s3, s4, s5⟩, s6, s7⟩ := boxS8 bS2
      have lS := bS2.lt
      go_wp2_with fail
      refine (HWK.out _).mono ?_
      rintro e w19 ⟨rfl, hb19⟩
      go_wp2_with fail
      go_returns
      exact ⟨rfl, hB2.trans (hb19.mono hB2.size)⟩
    · have q0 : decide (i < 0) = false := decide_eq_false hi0
      by_cases hi1 : (d.ws.length : Int) ≤ i
      · have q1 : decide ((d.ws.length : Int) ≤ i) = true := decide_eq_true hi1
        clear hr hg hok hsp hl4 hcap
        obtain ⟨full, read, slip, skew, circ, glo, ghi, wrn, ws⟩ := d
        unfold whV at *
        dsimp only at *
        go_enter Try.func10, Try.ntmps10
        go_wp2_with fail
        have bS1 := BoxS.new w 25 #[.int .i64 full, .int .i64 read, .int .i64 slip, .int .i64 skew, .int .i64 circ, .int .i64 glo, .int .i64 ghi, .int .i64 wrn]
        have hB1 : Below w.heap.size w (w.alloc (.cells #[.int .i64 full, .int .i64 read, .int .i64 slip, .int .i64 skew, .int .i64 circ, .int .i64 glo, .int .i64 ghi, .int .i64 wrn] 25)) := by (repeat' (first | (with_reducible exact Below.refl _ _) | (with_reducible assumption) | (with_reducible refine Below.alloc ?_ ?_ _) | (with_reducible refine Below.drew ?_) | (with_reducible refine Below.setCell ?_ ?_ _) | go_size | (exact (by simp)) | omega))
        generalize World.alloc w _ = w1 at *
        refine (HRD.out _ hB1).mono ?_
        rintro e w2 ⟨rfl, hb2⟩
        have bS2 := bS1.below hb2
        have hB2 := hB1.trans (hb2.mono hB1.size)
        clear bS1 hb2 hB1 HRD
        obtain ⟨⟨⟨s0, s1, s2⟩, s3, s4, s5⟩, s6, s7⟩ := boxS8 bS2
        have lS := bS2.lt
        go_wp2_with fail
        refine (HWK.out _).mono ?_
        rintro e w19 ⟨rfl, hb19⟩
        go_wp2_with fail
        go_returns
        exact ⟨rfl, hB2.trans (hb19.mono hB2.size)⟩
      · have q1 : decide ((d.ws.length : Int) ≤ i) = false := decide_eq_false hi1
        obtain ⟨k, rfl⟩ : ∃ k : Nat, i = k := ⟨i.toNat, by omega⟩
        have hk : k < d.ws.length := by omega
        have hos := Wh.ok_sub hok hk
        have hon := Wh.ok_none hok
        have HTE : Hid (∀ W, Below w.heap.size w W → Calls Try.prog 43 #[.agg (whV d), .slice A d.ws.length c, .int .i64 (k : Int)] W (IntsEPost (Wh.areasV (Wh.subD d k)) (Wh.spE (Wh.subD d k)) W)) := fun W hW => by
          have := Tells_any d k A c W hl hcap (by omega) ((hg.keep hW).wider hW.size)
          unfold Wh.tellsV Wh.tellsE at this
          rw [if_pos hok, if_pos hok, if_pos (by omega), if_pos (by omega), Int.toNat_natCast] at this
          exact this
        have HAS : Hid (∀ A' c' W, Wks W W.heap.size A' [Wh.wkAt d.ws k] → Calls Try.prog 20 #[.agg (whV (Wh.subD d k)), .slice A' 1 c'] W (IntsEPost (Wh.areasV (Wh.subD d k)) (Wh.spE (Wh.subD d k)) W)) := fun A' c' W hW => Areas_any (Wh.subD d k) A' c' W (by show 1 ≤ 1000000000; omega) hW
        have HAN : Hid (∀ W, Below w.heap.size w W → Calls Try.prog 20 #[.agg (whV (Wh.noneD d)), .slice A d.ws.length c] W (IntsEPost (Wh.areasV (Wh.noneD d)) (Wh.spE (Wh.noneD d)) W)) := fun W hW => Areas_any (Wh.noneD d) A c W hl ((hg.keep hW).wider hW.size)
        have HFW : Hid (∀ W, Below w.heap.size w W → Calls Try.prog 16 #[.agg (whV d), .slice A d.ws.length c] W (TwoPost (Wh.fewV d) 0 W)) := fun W hW => by
          have := Fewest_any d A c W hl ((hg.keep hW).wider hW.size)
          rw [Wh.chkE_yes hok] at this
          exact this
        have HK0 : Hid (∀ W, Calls Try.prog 35 #[.int .i64 0] W fun e w' => e = .returned (.bool true) ∧ w' = W) := fun W => isKnown3_any 0 W
        have HK3 : Hid (∀ W, Calls Try.prog 35 #[.int .i64 3] W fun e w' => e = .returned (.bool true) ∧ w' = W) := fun W => isKnown3_any 3 W
        have n1 := Wh.areas_span hos hsp
        have n2 := Wh.areas_span hon hsp
        have q2 : decide ((100 : Int) < ((Wh.areasV (Wh.subD d k)).length : Int)) = false := decide_eq_false (by omega)
        have q3 : decide (((Wh.areasV (Wh.noneD d)).length : Int) ≤ 100) = true := decide_eq_true (by omega)
        have HFL : Hid (Wh.spE (Wh.subD d k) = 0 → Wh.fewV d < d.ws.length) := fun h => Wh.few_lt hok hk h
        have HNS : Hid (Wh.spE (Wh.noneD d) = 0 → Wh.spE (Wh.subD d k) = 0 ∧ (∀ x ∈ Wh.areasV (Wh.noneD d), x ∈ Wh.areasV (Wh.subD d k)) ∧ (Wh.areasV (Wh.noneD d)).length ≤ (Wh.areasV (Wh.subD d k)).length) := fun h => ⟨Wh.sub_sp hos (Wh.none_sub hok hk) h, Wh.sub_areas hos (Wh.none_sub hok hk) h⟩
        have hE1 := Wh.sp_or hos
        have hE2 := Wh.sp_or hon
        have HG := Lib.hid hg
        clear hr hg hok hsp hcap hos hon hi0 hi1
        generalize Wh.areasV (Wh.subD d k) = LS at *
        generalize Wh.areasV (Wh.noneD d) = LN at *
        generalize Wh.spE (Wh.subD d k) = E1 at *
        generalize Wh.spE (Wh.noneD d) = E2 at *
        generalize Wh.fewV d = FV at *
        unfold whV at HAS HAN
        unfold Wh.subD at HAS
        unfold Wh.noneD at HAN
        dsimp only at HAS HAN
        obtain ⟨full, read, slip, skew, circ, glo, ghi, wrn, ws⟩ := d
        unfold whV at *
        dsimp only at *
        rcases hE1 with rfl | rfl
        · have hfl := HFL.out rfl
          have q4 : decide ((ws.length : Int) ≤ FV) = false := decide_eq_false (by omega)
          rcases hE2 with rfl | rfl
          · skip
            go_enter Try.func10, Try.ntmps10
            go_wp2_with fail
            have bS1 := BoxS.new w 25 #[.int .i64 full, .int .i64 read, .int .i64 slip, .int .i64 skew, .int .i64 circ, .int .i64 glo, .int .i64 ghi, .int .i64 wrn]
            have hB1 : Below w.heap.size w (w.alloc (.cells #[.int .i64 full, .int .i64 read, .int .i64 slip, .int .i64 skew, .int .i64 circ, .int .i64 glo, .int .i64 ghi, .int .i64 wrn] 25)) := by (repeat' (first | (with_reducible exact Below.refl _ _) | (with_reducible assumption) | (with_reducible refine Below.alloc ?_ ?_ _) | (with_reducible refine Below.drew ?_) | (with_reducible refine Below.setCell ?_ ?_ _) | go_size | (exact (by simp)) | omega))
            generalize World.alloc w _ = w1 at *
            refine (HRD.out _ hB1).mono ?_
            rintro e w2 ⟨rfl, hb2⟩
            have bS2 := bS1.below hb2
            have hB2 := hB1.trans (hb2.mono hB1.size)
            clear bS1 hb2 hB1 HRD
            obtain ⟨⟨⟨s0, s1, s2⟩, s3, s4, s5⟩, s6, s7⟩ := boxS8 bS2
            have lS := bS2.lt
            go_wp2_with fail
            refine (HTE.out _ hB2).mono ?_
            rintro e w3 ⟨v3, rfl, hi3, hb3⟩
            obtain ⟨A3, c3, rfl⟩ := ints_form hi3.out
            have bS3 := bS2.below hb3
            have hB3 := hB2.trans (hb3.mono hB2.size)
            clear s0 s1 s2 s3 s4 s5 s6 s7 lS bS2
            obtain ⟨⟨⟨s0, s1, s2⟩, s3, s4, s5⟩, s6, s7⟩ := boxS8 bS3
            have lS := bS3.lt
            go_upto_region 5 with fail
            have bN4 := BoxS.new w3 25 #[.int .i64 full, .int .i64 read, .int .i64 slip, .int .i64 skew, .int .i64 circ, .int .i64 glo, .int .i64 ghi, .int .i64 wrn]
            have bS4 := bS3.alloc (.cells #[.int .i64 full, .int .i64 read, .int .i64 slip, .int .i64 skew, .int .i64 circ, .int .i64 glo, .int .i64 ghi, .int .i64 wrn] 25)
            have hb4 : Below w3.heap.size w3 (w3.alloc (.cells #[.int .i64 full, .int .i64 read, .int .i64 slip, .int .i64 skew, .int .i64 circ, .int .i64 glo, .int .i64 ghi, .int .i64 wrn] 25)) := by (repeat' (first | (with_reducible exact Below.refl _ _) | (with_reducible assumption) | (with_reducible refine Below.alloc ?_ ?_ _) | (with_reducible refine Below.drew ?_) | (with_reducible refine Below.setCell ?_ ?_ _) | go_size | (exact (by simp)) | omega))
            generalize World.alloc w3 _ = w4 at *
            have f7 := bN4.frozen 7
            have g7 := bN4.cell 7 rfl
            have lN := bN4.lt
            go_upto_region 6 with fail
            have bN5 : BoxS (w4.setCell ⟨w3.heap.size, 7, none⟩ (.int .i64 0)) w3.heap.size 25 #[.int .i64 full, .int .i64 read, .int .i64 slip, .int .i64 skew, .int .i64 circ, .int .i64 glo, .int .i64 ghi, .int .i64 0] := bN4.put9 7 (.int .i64 0)
            have bS5 : BoxS (w4.setCell ⟨w3.heap.size, 7, none⟩ (.int .i64 0)) w.heap.size 25 #[.int .i64 full, .int .i64 read, .int .i64 slip, .int .i64 skew, .int .i64 circ, .int .i64 glo, .int .i64 ghi, .int .i64 wrn] := bS4.away (by omega) _ _
            have hb5 : Below w3.heap.size w3 (w4.setCell ⟨w3.heap.size, 7, none⟩ (.int .i64 0)) := by (repeat' (first | (with_reducible exact Below.refl _ _) | (with_reducible assumption) | (with_reducible refine Below.alloc ?_ ?_ _) | (with_reducible refine Below.drew ?_) | (with_reducible refine Below.setCell ?_ ?_ _) | go_size | (exact (by simp)) | omega))
            clear f7 g7 lN bN4 bS4 hb4 s0 s1 s2 s3 s4 s5 s6 s7 lS bS3
            generalize World.setCell w4 _ _ = w5 at *
            have hB5 := hB3.trans (hb5.mono hB3.size)
            have hi5 : Hid (Ints w5 w5.heap.size (.slice A3 LS.length c3) LS) := (hi3.out.keep hb5).more hb5.size
            clear hi3 hb5 hb3 hB3 HTE
            refine (wpIn_wide (n := 4)).1 ?_
            have hmo : Try.prog.follows .mixedOrders = true := by kernel_rfl
            have q0 : Below w5.heap.size w5 w5.drew := (Below.refl _ _).drew
            have KC : Hid (∀ W', Below w5.heap.size w5 W' → ((W'.cell? ⟨w3.heap.size, 0, none⟩ = some (.int .i64 full) ∧ W'.cell? ⟨w3.heap.size, 1, none⟩ = some (.int .i64 read) ∧ W'.cell? ⟨w3.heap.size, 2, none⟩ = some (.int .i64 slip)) ∧ W'.cell? ⟨w3.heap.size, 3, none⟩ = some (.int .i64 skew) ∧ W'.cell? ⟨w3.heap.size, 4, none⟩ = some (.int .i64 circ) ∧ W'.cell? ⟨w3.heap.size, 5, none⟩ = some (.int .i64 glo)) ∧ W'.cell? ⟨w3.heap.size, 6, none⟩ = some (.int .i64 ghi) ∧ W'.cell? ⟨w3.heap.size, 7, none⟩ = some (.int .i64 0)) := fun W' h => boxS8 (bN5.below h)
            obtain ⟨bb, off, hA, hbb, hcc⟩ := HG.out (by omega)
            subst hA
            have hck := hcc k hk
            have KD : Hid (∀ W', Below w5.heap.size w5 W' → W'.cell? ⟨bb, off + k * 5, none⟩ = some (.int .i64 (Wh.wkAt ws k).1) ∧ W'.cell? ⟨bb, off + k * 5 + 1, none⟩ = some (.int .i64 (Wh.wkAt ws k).2.1) ∧ W'.cell? ⟨bb, off + k * 5 + 2, none⟩ = some (.int .i64 (Wh.wkAt ws k).2.2.1) ∧ W'.cell? ⟨bb, off + k * 5 + 3, none⟩ = some (.int .i64 (Wh.wkAt ws k).2.2.2.1) ∧ W'.cell? ⟨bb, off + k * 5 + 4, none⟩ = some (.int .i64 (Wh.wkAt ws k).2.2.2.2)) := fun W' h => by
              have hx := hB5.trans (h.mono hB5.size)
              exact ⟨(hx.cell (p := ⟨bb, _, none⟩) hbb).trans hck.1, (hx.cell (p := ⟨bb, _, none⟩) hbb).trans hck.2.1, (hx.cell (p := ⟨bb, _, none⟩) hbb).trans hck.2.2.1, (hx.cell (p := ⟨bb, _, none⟩) hbb).trans hck.2.2.2.1, (hx.cell (p := ⟨bb, _, none⟩) hbb).trans hck.2.2.2.2⟩
            have dk0 : decide ((k : Int) < 0) = false := decide_eq_false (by omega)
            have dk1 : decide ((ws.length : Int) ≤ k) = false := decide_eq_false (by omega)
            have dk2 : decide (ws.length ≤ k) = false := decide_eq_false (by omega)
            have dk3 : (k : Int) < ws.length := by omega
            clear hck hcc
            generalize Wh.wkAt ws k = kk at *
            refine wpIn_region_held (fun W' => Below w5.heap.size w5 W') 40 hmo ?_
            refine wpHeldIn_take (i := 0) (v := ?_) (plain_of (by kernel_rfl)) rfl (by kernel_rfl) (fun _ _ _ h => h) (yieldsSoIn_of (by kernel_rfl) ?_ (fun _ => rfl)) q0 ?_; rotate_left; focus (intro wq hw; have kq := KC.out wq hw; clear hw; go_simp; try (with_reducible rfl))
            refine wpHeldIn_take (i := 2) (v := ?_) (plain_of (by kernel_rfl)) rfl (by kernel_rfl) (fun _ _ _ h => h) (yieldsSoIn_of (by kernel_rfl) ?_ (fun _ => rfl)) q0 ?_; rotate_left; focus (intro wq hw; clear hw; go_simp; try (with_reducible rfl))
            refine wpHeldIn_take (i := 3) (v := ?_) (plain_of (by kernel_rfl)) rfl (by kernel_rfl) (fun _ _ _ h => h) (yieldsSoIn_of (by kernel_rfl) ?_ (fun _ => rfl)) q0 ?_; rotate_left; focus (intro wq hw; clear hw; go_simp; try (with_reducible rfl))
            refine wpHeldIn_take (i := 4) (v := ?_) (plain_of (by kernel_rfl)) rfl (by kernel_rfl) (fun _ _ _ h => h) (yieldsSoIn_of (by kernel_rfl) ?_ (fun _ => rfl)) q0 ?_; rotate_left; focus (intro wq hw; clear hw; go_simp; try (with_reducible rfl))
            refine wpHeldIn_take (i := 5) (v := ?_) (plain_of (by kernel_rfl)) rfl (by kernel_rfl) (fun _ _ _ h => h) (yieldsSoIn_of (by kernel_rfl) ?_ (fun _ => rfl)) q0 ?_; rotate_left; focus (intro wq hw; have kq := KD.out wq hw; clear hw; go_simp; try (with_reducible rfl))
            refine wpHeldIn_onew 1 6 7 42 47 48 46 (f0 := 6) kk rfl rfl rfl rfl rfl rfl rfl rfl rfl rfl (by kernel_rfl) rfl (by kernel_rfl) (by decide) (by decide) ⟨of_decide_eq_true (by kernel_rfl), of_decide_eq_true (by kernel_rfl)⟩ rfl q0 ?_
            intro u1 u5 A6 c6 w6 hk6 q6
            go_simp
            refine wpHeldIn_one (i := 8) (by kernel_rfl) (by kernel_rfl) rfl (by kernel_rfl) (fun K5 hK5 => ?_)
            go_simp
            refine ⟨trivial, (callsIn_wide.2 (HAS.out _ _ _ hk6)).mono ?_⟩
            rintro e w7 ⟨v7, rfl, hi7, hb7⟩
            obtain ⟨A5, c5, rfl⟩ := ints_form hi7.out
            have q7 := q6.trans (hb7.mono q6.size)
            refine hK5 _ _ q7 ?_
            refine wpHeldIn_take (i := 9) (v := ?_) (plain_of (by kernel_rfl)) rfl (by kernel_rfl) (fun _ _ _ h => h) (yieldsSoIn_of (by kernel_rfl) ?_ (fun _ => rfl)) q7 ?_; rotate_left; focus (intro wq hw; clear hw; go_simp; try (with_reducible rfl))
            refine wpHeldIn_take (i := 10) (v := ?_) (plain_of (by kernel_rfl)) rfl (by kernel_rfl) (fun _ _ _ h => h) (yieldsSoIn_of (by kernel_rfl) ?_ (fun _ => rfl)) q7 ?_; rotate_left; focus (intro wq hw; clear hw; go_simp; try (with_reducible rfl))
            refine wpHeldIn_take (i := 11) (v := ?_) (plain_of (by kernel_rfl)) rfl (by kernel_rfl) (fun _ _ _ h => h) (yieldsSoIn_of (by kernel_rfl) ?_ (fun _ => rfl)) q7 ?_; rotate_left; focus (intro wq hw; clear hw; go_simp; try (with_reducible rfl))
            refine wpHeldIn_take (i := 12) (v := ?_) (plain_of (by kernel_rfl)) rfl (by kernel_rfl) (fun _ _ _ h => h) (yieldsSoIn_of (by kernel_rfl) ?_ (fun _ => rfl)) q7 ?_; rotate_left; focus (intro wq hw; clear hw; go_simp; try (with_reducible rfl))
            refine wpHeldIn_take (i := 13) (v := ?_) (plain_of (by kernel_rfl)) rfl (by kernel_rfl) (fun _ _ _ h => h) (yieldsSoIn_of (by kernel_rfl) ?_ (fun _ => rfl)) q7 ?_; rotate_left; focus (intro wq hw; clear hw; go_simp; try (with_reducible rfl))
            refine wpHeldIn_done (by kernel_rfl) ?_ _
            go_simp
            have bS6 := bS5.below q7
            have bN6 := bN5.below q7
            have hB6 := hB5.trans (q7.mono hB5.size)
            have hs6 : Hid (Ints w7 w7.heap.size (.slice A3 LS.length c3) LS) := (hi5.out.keep q7).more q7.size
            have hi6 := hi7
            clear q0 q6 q7 hb7 hk6 KC KD hmo hi5 hi7 hB5 bS5 bN5 dk0 dk1 dk2 dk3
            obtain ⟨⟨⟨s0, s1, s2⟩, s3, s4, s5⟩, s6, s7⟩ := boxS8 bS6
            have lS := bS6.lt
            obtain ⟨⟨⟨y0, y1, y2⟩, y3, y4, y5⟩, y6, y7⟩ := boxS8 bN6
            have lN := bN6.lt
            go_wp2_with fail
            refine (HAN.out _ hB6).mono ?_
            rintro e w7a ⟨v7, rfl, hn7, hb7⟩
            obtain ⟨A7, c7, rfl⟩ := ints_form hn7.out
            have hs7 : Hid (Ints w7a w7a.heap.size (.slice A3 LS.length c3) LS) := (hs6.out.keep hb7).more hb7.size
            have hi7 : Hid (Ints w7a w7a.heap.size (.slice A5 LS.length c5) LS) := (hi6.out.keep hb7).more hb7.size
            have bS7 := bS6.below hb7
            have bN7 := bN6.below hb7
            have hB7 := hB6.trans (hb7.mono hB6.size)
            clear s0 s1 s2 s3 s4 s5 s6 s7 lS y0 y1 y2 y3 y4 y5 y6 y7 lN bS6 bN6
            obtain ⟨⟨⟨s0, s1, s2⟩, s3, s4, s5⟩, s6, s7⟩ := boxS8 bS7
            have lS := bS7.lt
            obtain ⟨⟨⟨y0, y1, y2⟩, y3, y4, y5⟩, y6, y7⟩ := boxS8 bN7
            have lN := bN7.lt
            clear hs6 hi6
            go_wp2_with fail
            refine (HFW.out _ hB7).mono ?_
            rintro e w8 ⟨rfl, hb8⟩
            have hs8 : Hid (Ints w8 w8.heap.size (.slice A3 LS.length c3) LS) := (hs7.out.keep hb8).more hb8.size
            have hi8 : Hid (Ints w8 w8.heap.size (.slice A5 LS.length c5) LS) := (hi7.out.keep hb8).more hb8.size
            have hn8 : Hid (Ints w8 w8.heap.size (.slice A7 LN.length c7) LN) := (hn7.out.keep hb8).more hb8.size
            have bS8 := bS7.below hb8
            have bN8 := bN7.below hb8
            have hB8 := hB7.trans (hb8.mono hB7.size)
            clear s0 s1 s2 s3 s4 s5 s6 s7 lS y0 y1 y2 y3 y4 y5 y6 y7 lN bS7 bN7
            obtain ⟨⟨⟨s0, s1, s2⟩, s3, s4, s5⟩, s6, s7⟩ := boxS8 bS8
            have lS := bS8.lt
            obtain ⟨⟨⟨y0, y1, y2⟩, y3, y4, y5⟩, y6, y7⟩ := boxS8 bN8
            have lN := bN8.lt
            clear hs7 hi7 hn7
            go_wp2_with fail
            refine (HK0.out _).mono ?_
            rintro e w8' ⟨rfl, rfl⟩
            go_wp2_with fail
            refine (SameInts_any _ _ LS LS _ hs8.out hi8.out (by omega) (by omega)).mono ?_
            rintro e w9 ⟨rfl, hb9⟩
            have hs9 : Hid (Ints w9 w9.heap.size (.slice A3 LS.length c3) LS) := (hs8.out.keep hb9).more hb9.size
            have hn9 : Hid (Ints w9 w9.heap.size (.slice A7 LN.length c7) LN) := (hn8.out.keep hb9).more hb9.size
            have bS9 := bS8.below hb9
            have bN9 := bN8.below hb9
            have hB9 := hB8.trans (hb9.mono hB8.size)
            clear s0 s1 s2 s3 s4 s5 s6 s7 lS y0 y1 y2 y3 y4 y5 y6 y7 lN bS8 bN8
            obtain ⟨⟨⟨s0, s1, s2⟩, s3, s4, s5⟩, s6, s7⟩ := boxS8 bS9
            have lS := bS9.lt
            obtain ⟨⟨⟨y0, y1, y2⟩, y3, y4, y5⟩, y6, y7⟩ := boxS8 bN9
            have lN := bN9.lt
            clear hs8 hn8 hi8
            have sme : decide (LS = LS) = true := decide_eq_true rfl
            rw [sme]
            go_wp2_with fail
            refine (HK0.out _).mono ?_
            rintro e w9' ⟨rfl, rfl⟩
            go_wp2_with fail
            obtain ⟨_, p2, p3⟩ := HNS.out (by trivial)
            refine (subset3_yes _ LN _ LS _ hn9.out hs9.out (by omega) (by omega) p2 p3).mono ?_
            rintro e w10 ⟨rfl, hb10⟩
            have hB10 := hB9.trans (hb10.mono hB9.size)
            clear p2
            go_wp2_with fail
            refine (HWK.out _).mono ?_
            rintro e w19 ⟨rfl, hb19⟩
            go_wp2_with fail
            go_returns
            exact ⟨rfl, hB10.trans (hb19.mono hB10.size)⟩
          · skip
            go_enter Try.func10, Try.ntmps10
            go_wp2_with fail
            have bS1 := BoxS.new w 25 #[.int .i64 full, .int .i64 read, .int .i64 slip, .int .i64 skew, .int .i64 circ, .int .i64 glo, .int .i64 ghi, .int .i64 wrn]
            have hB1 : Below w.heap.size w (w.alloc (.cells #[.int .i64 full, .int .i64 read, .int .i64 slip, .int .i64 skew, .int .i64 circ, .int .i64 glo, .int .i64 ghi, .int .i64 wrn] 25)) := by (repeat' (first | (with_reducible exact Below.refl _ _) | (with_reducible assumption) | (with_reducible refine Below.alloc ?_ ?_ _) | (with_reducible refine Below.drew ?_) | (with_reducible refine Below.setCell ?_ ?_ _) | go_size | (exact (by simp)) | omega))
            generalize World.alloc w _ = w1 at *
            refine (HRD.out _ hB1).mono ?_
            rintro e w2 ⟨rfl, hb2⟩
            have bS2 := bS1.below hb2
            have hB2 := hB1.trans (hb2.mono hB1.size)
            clear bS1 hb2 hB1 HRD
            obtain ⟨⟨⟨s0, s1, s2⟩, s3, s4, s5⟩, s6, s7⟩ := boxS8 bS2
            have lS := bS2.lt
            go_wp2_with fail
            refine (HTE.out _ hB2).mono ?_
            rintro e w3 ⟨v3, rfl, hi3, hb3⟩
            obtain ⟨A3, c3, rfl⟩ := ints_form hi3.out
            have bS3 := bS2.below hb3
            have hB3 := hB2.trans (hb3.mono hB2.size)
            clear s0 s1 s2 s3 s4 s5 s6 s7 lS bS2
            obtain ⟨⟨⟨s0, s1, s2⟩, s3, s4, s5⟩, s6, s7⟩ := boxS8 bS3
            have lS := bS3.lt
            go_upto_region 5 with fail
            have bN4 := BoxS.new w3 25 #[.int .i64 full, .int .i64 read, .int .i64 slip, .int .i64 skew, .int .i64 circ, .int .i64 glo, .int .i64 ghi, .int .i64 wrn]
            have bS4 := bS3.alloc (.cells #[.int .i64 full, .int .i64 read, .int .i64 slip, .int .i64 skew, .int .i64 circ, .int .i64 glo, .int .i64 ghi, .int .i64 wrn] 25)
            have hb4 : Below w3.heap.size w3 (w3.alloc (.cells #[.int .i64 full, .int .i64 read, .int .i64 slip, .int .i64 skew, .int .i64 circ, .int .i64 glo, .int .i64 ghi, .int .i64 wrn] 25)) := by (repeat' (first | (with_reducible exact Below.refl _ _) | (with_reducible assumption) | (with_reducible refine Below.alloc ?_ ?_ _) | (with_reducible refine Below.drew ?_) | (with_reducible refine Below.setCell ?_ ?_ _) | go_size | (exact (by simp)) | omega))
            generalize World.alloc w3 _ = w4 at *
            have f7 := bN4.frozen 7
            have g7 := bN4.cell 7 rfl
            have lN := bN4.lt
            go_upto_region 6 with fail
            have bN5 : BoxS (w4.setCell ⟨w3.heap.size, 7, none⟩ (.int .i64 0)) w3.heap.size 25 #[.int .i64 full, .int .i64 read, .int .i64 slip, .int .i64 skew, .int .i64 circ, .int .i64 glo, .int .i64 ghi, .int .i64 0] := bN4.put9 7 (.int .i64 0)
            have bS5 : BoxS (w4.setCell ⟨w3.heap.size, 7, none⟩ (.int .i64 0)) w.heap.size 25 #[.int .i64 full, .int .i64 read, .int .i64 slip, .int .i64 skew, .int .i64 circ, .int .i64 glo, .int .i64 ghi, .int .i64 wrn] := bS4.away (by omega) _ _
            have hb5 : Below w3.heap.size w3 (w4.setCell ⟨w3.heap.size, 7, none⟩ (.int .i64 0)) := by (repeat' (first | (with_reducible exact Below.refl _ _) | (with_reducible assumption) | (with_reducible refine Below.alloc ?_ ?_ _) | (with_reducible refine Below.drew ?_) | (with_reducible refine Below.setCell ?_ ?_ _) | go_size | (exact (by simp)) | omega))
            clear f7 g7 lN bN4 bS4 hb4 s0 s1 s2 s3 s4 s5 s6 s7 lS bS3
            generalize World.setCell w4 _ _ = w5 at *
            have hB5 := hB3.trans (hb5.mono hB3.size)
            have hi5 : Hid (Ints w5 w5.heap.size (.slice A3 LS.length c3) LS) := (hi3.out.keep hb5).more hb5.size
            clear hi3 hb5 hb3 hB3 HTE
            refine (wpIn_wide (n := 4)).1 ?_
            have hmo : Try.prog.follows .mixedOrders = true := by kernel_rfl
            have q0 : Below w5.heap.size w5 w5.drew := (Below.refl _ _).drew
            have KC : Hid (∀ W', Below w5.heap.size w5 W' → ((W'.cell? ⟨w3.heap.size, 0, none⟩ = some (.int .i64 full) ∧ W'.cell? ⟨w3.heap.size, 1, none⟩ = some (.int .i64 read) ∧ W'.cell? ⟨w3.heap.size, 2, none⟩ = some (.int .i64 slip)) ∧ W'.cell? ⟨w3.heap.size, 3, none⟩ = some (.int .i64 skew) ∧ W'.cell? ⟨w3.heap.size, 4, none⟩ = some (.int .i64 circ) ∧ W'.cell? ⟨w3.heap.size, 5, none⟩ = some (.int .i64 glo)) ∧ W'.cell? ⟨w3.heap.size, 6, none⟩ = some (.int .i64 ghi) ∧ W'.cell? ⟨w3.heap.size, 7, none⟩ = some (.int .i64 0)) := fun W' h => boxS8 (bN5.below h)
            obtain ⟨bb, off, hA, hbb, hcc⟩ := HG.out (by omega)
            subst hA
            have hck := hcc k hk
            have KD : Hid (∀ W', Below w5.heap.size w5 W' → W'.cell? ⟨bb, off + k * 5, none⟩ = some (.int .i64 (Wh.wkAt ws k).1) ∧ W'.cell? ⟨bb, off + k * 5 + 1, none⟩ = some (.int .i64 (Wh.wkAt ws k).2.1) ∧ W'.cell? ⟨bb, off + k * 5 + 2, none⟩ = some (.int .i64 (Wh.wkAt ws k).2.2.1) ∧ W'.cell? ⟨bb, off + k * 5 + 3, none⟩ = some (.int .i64 (Wh.wkAt ws k).2.2.2.1) ∧ W'.cell? ⟨bb, off + k * 5 + 4, none⟩ = some (.int .i64 (Wh.wkAt ws k).2.2.2.2)) := fun W' h => by
              have hx := hB5.trans (h.mono hB5.size)
              exact ⟨(hx.cell (p := ⟨bb, _, none⟩) hbb).trans hck.1, (hx.cell (p := ⟨bb, _, none⟩) hbb).trans hck.2.1, (hx.cell (p := ⟨bb, _, none⟩) hbb).trans hck.2.2.1, (hx.cell (p := ⟨bb, _, none⟩) hbb).trans hck.2.2.2.1, (hx.cell (p := ⟨bb, _, none⟩) hbb).trans hck.2.2.2.2⟩
            have dk0 : decide ((k : Int) < 0) = false := decide_eq_false (by omega)
            have dk1 : decide ((ws.length : Int) ≤ k) = false := decide_eq_false (by omega)
            have dk2 : decide (ws.length ≤ k) = false := decide_eq_false (by omega)
            have dk3 : (k : Int) < ws.length := by omega
            clear hck hcc
            generalize Wh.wkAt ws k = kk at *
            refine wpIn_region_held (fun W' => Below w5.heap.size w5 W') 40 hmo ?_
            refine wpHeldIn_take (i := 0) (v := ?_) (plain_of (by kernel_rfl)) rfl (by kernel_rfl) (fun _ _ _ h => h) (yieldsSoIn_of (by kernel_rfl) ?_ (fun _ => rfl)) q0 ?_; rotate_left; focus (intro wq hw; have kq := KC.out wq hw; clear hw; go_simp; try (with_reducible rfl))
            refine wpHeldIn_take (i := 2) (v := ?_) (plain_of (by kernel_rfl)) rfl (by kernel_rfl) (fun _ _ _ h => h) (yieldsSoIn_of (by kernel_rfl) ?_ (fun _ => rfl)) q0 ?_; rotate_left; focus (intro wq hw; clear hw; go_simp; try (with_reducible rfl))
            refine wpHeldIn_take (i := 3) (v := ?_) (plain_of (by kernel_rfl)) rfl (by kernel_rfl) (fun _ _ _ h => h) (yieldsSoIn_of (by kernel_rfl) ?_ (fun _ => rfl)) q0 ?_; rotate_left; focus (intro wq hw; clear hw; go_simp; try (with_reducible rfl))
            refine wpHeldIn_take (i := 4) (v := ?_) (plain_of (by kernel_rfl)) rfl (by kernel_rfl) (fun _ _ _ h => h) (yieldsSoIn_of (by kernel_rfl) ?_ (fun _ => rfl)) q0 ?_; rotate_left; focus (intro wq hw; clear hw; go_simp; try (with_reducible rfl))
            refine wpHeldIn_take (i := 5) (v := ?_) (plain_of (by kernel_rfl)) rfl (by kernel_rfl) (fun _ _ _ h => h) (yieldsSoIn_of (by kernel_rfl) ?_ (fun _ => rfl)) q0 ?_; rotate_left; focus (intro wq hw; have kq := KD.out wq hw; clear hw; go_simp; try (with_reducible rfl))
            refine wpHeldIn_onew 1 6 7 42 47 48 46 (f0 := 6) kk rfl rfl rfl rfl rfl rfl rfl rfl rfl rfl (by kernel_rfl) rfl (by kernel_rfl) (by decide) (by decide) ⟨of_decide_eq_true (by kernel_rfl), of_decide_eq_true (by kernel_rfl)⟩ rfl q0 ?_
            intro u1 u5 A6 c6 w6 hk6 q6
            go_simp
            refine wpHeldIn_one (i := 8) (by kernel_rfl) (by kernel_rfl) rfl (by kernel_rfl) (fun K5 hK5 => ?_)
            go_simp
            refine ⟨trivial, (callsIn_wide.2 (HAS.out _ _ _ hk6)).mono ?_⟩
            rintro e w7 ⟨v7, rfl, hi7, hb7⟩
            obtain ⟨A5, c5, rfl⟩ := ints_form hi7.out
            have q7 := q6.trans (hb7.mono q6.size)
            refine hK5 _ _ q7 ?_
            refine wpHeldIn_take (i := 9) (v := ?_) (plain_of (by kernel_rfl)) rfl (by kernel_rfl) (fun _ _ _ h => h) (yieldsSoIn_of (by kernel_rfl) ?_ (fun _ => rfl)) q7 ?_; rotate_left; focus (intro wq hw; clear hw; go_simp; try (with_reducible rfl))
            refine wpHeldIn_take (i := 10) (v := ?_) (plain_of (by kernel_rfl)) rfl (by kernel_rfl) (fun _ _ _ h => h) (yieldsSoIn_of (by kernel_rfl) ?_ (fun _ => rfl)) q7 ?_; rotate_left; focus (intro wq hw; clear hw; go_simp; try (with_reducible rfl))
            refine wpHeldIn_take (i := 11) (v := ?_) (plain_of (by kernel_rfl)) rfl (by kernel_rfl) (fun _ _ _ h => h) (yieldsSoIn_of (by kernel_rfl) ?_ (fun _ => rfl)) q7 ?_; rotate_left; focus (intro wq hw; clear hw; go_simp; try (with_reducible rfl))
            refine wpHeldIn_take (i := 12) (v := ?_) (plain_of (by kernel_rfl)) rfl (by kernel_rfl) (fun _ _ _ h => h) (yieldsSoIn_of (by kernel_rfl) ?_ (fun _ => rfl)) q7 ?_; rotate_left; focus (intro wq hw; clear hw; go_simp; try (with_reducible rfl))
            refine wpHeldIn_take (i := 13) (v := ?_) (plain_of (by kernel_rfl)) rfl (by kernel_rfl) (fun _ _ _ h => h) (yieldsSoIn_of (by kernel_rfl) ?_ (fun _ => rfl)) q7 ?_; rotate_left; focus (intro wq hw; clear hw; go_simp; try (with_reducible rfl))
            refine wpHeldIn_done (by kernel_rfl) ?_ _
            go_simp
            have bS6 := bS5.below q7
            have bN6 := bN5.below q7
            have hB6 := hB5.trans (q7.mono hB5.size)
            have hs6 : Hid (Ints w7 w7.heap.size (.slice A3 LS.length c3) LS) := (hi5.out.keep q7).more q7.size
            have hi6 := hi7
            clear q0 q6 q7 hb7 hk6 KC KD hmo hi5 hi7 hB5 bS5 bN5 dk0 dk1 dk2 dk3
            obtain ⟨⟨⟨s0, s1, s2⟩, s3, s4, s5⟩, s6, s7⟩ := boxS8 bS6
            have lS := bS6.lt
            obtain ⟨⟨⟨y0, y1, y2⟩, y3, y4, y5⟩, y6, y7⟩ := boxS8 bN6
            have lN := bN6.lt
            go_wp2_with fail
            refine (HAN.out _ hB6).mono ?_
            rintro e w7a ⟨v7, rfl, hn7, hb7⟩
            obtain ⟨A7, c7, rfl⟩ := ints_form hn7.out
            have hs7 : Hid (Ints w7a w7a.heap.size (.slice A3 LS.length c3) LS) := (hs6.out.keep hb7).more hb7.size
            have hi7 : Hid (Ints w7a w7a.heap.size (.slice A5 LS.length c5) LS) := (hi6.out.keep hb7).more hb7.size
            have bS7 := bS6.below hb7
            have bN7 := bN6.below hb7
            have hB7 := hB6.trans (hb7.mono hB6.size)
            clear s0 s1 s2 s3 s4 s5 s6 s7 lS y0 y1 y2 y3 y4 y5 y6 y7 lN bS6 bN6
            obtain ⟨⟨⟨s0, s1, s2⟩, s3, s4, s5⟩, s6, s7⟩ := boxS8 bS7
            have lS := bS7.lt
            obtain ⟨⟨⟨y0, y1, y2⟩, y3, y4, y5⟩, y6, y7⟩ := boxS8 bN7
            have lN := bN7.lt
            clear hs6 hi6
            go_wp2_with fail
            refine (HFW.out _ hB7).mono ?_
            rintro e w8 ⟨rfl, hb8⟩
            have hs8 : Hid (Ints w8 w8.heap.size (.slice A3 LS.length c3) LS) := (hs7.out.keep hb8).more hb8.size
            have hi8 : Hid (Ints w8 w8.heap.size (.slice A5 LS.length c5) LS) := (hi7.out.keep hb8).more hb8.size
            have hn8 : Hid (Ints w8 w8.heap.size (.slice A7 LN.length c7) LN) := (hn7.out.keep hb8).more hb8.size
            have bS8 := bS7.below hb8
            have bN8 := bN7.below hb8
            have hB8 := hB7.trans (hb8.mono hB7.size)
            clear s0 s1 s2 s3 s4 s5 s6 s7 lS y0 y1 y2 y3 y4 y5 y6 y7 lN bS7 bN7
            obtain ⟨⟨⟨s0, s1, s2⟩, s3, s4, s5⟩, s6, s7⟩ := boxS8 bS8
            have lS := bS8.lt
            obtain ⟨⟨⟨y0, y1, y2⟩, y3, y4, y5⟩, y6, y7⟩ := boxS8 bN8
            have lN := bN8.lt
            clear hs7 hi7 hn7
            go_wp2_with fail
            refine (HK0.out _).mono ?_
            rintro e w8' ⟨rfl, rfl⟩
            go_wp2_with fail
            refine (SameInts_any _ _ LS LS _ hs8.out hi8.out (by omega) (by omega)).mono ?_
            rintro e w9 ⟨rfl, hb9⟩
            have bS9 := bS8.below hb9
            have bN9 := bN8.below hb9
            have hB9 := hB8.trans (hb9.mono hB8.size)
            clear s0 s1 s2 s3 s4 s5 s6 s7 lS y0 y1 y2 y3 y4 y5 y6 y7 lN bS8 bN8
            obtain ⟨⟨⟨s0, s1, s2⟩, s3, s4, s5⟩, s6, s7⟩ := boxS8 bS9
            have lS := bS9.lt
            obtain ⟨⟨⟨y0, y1, y2⟩, y3, y4, y5⟩, y6, y7⟩ := boxS8 bN9
            have lN := bN9.lt
            clear hs8 hn8 hi8
            have sme : decide (LS = LS) = true := decide_eq_true rfl
            rw [sme]
            go_wp2_with fail
            refine (HK3.out _).mono ?_
            rintro e w9' ⟨rfl, rfl⟩
            go_wp2_with fail
            refine (HWK.out _).mono ?_
            rintro e w19 ⟨rfl, hb19⟩
            go_wp2_with fail
            go_returns
            exact ⟨rfl, hB9.trans (hb19.mono hB9.size)⟩
        · rcases hE2 with rfl | rfl
          · exact absurd (HNS.out rfl).1 (by omega)
          · skip
            go_enter Try.func10, Try.ntmps10
            go_wp2_with fail
            have bS1 := BoxS.new w 25 #[.int .i64 full, .int .i64 read, .int .i64 slip, .int .i64 skew, .int .i64 circ, .int .i64 glo, .int .i64 ghi, .int .i64 wrn]
            have hB1 : Below w.heap.size w (w.alloc (.cells #[.int .i64 full, .int .i64 read, .int .i64 slip, .int .i64 skew, .int .i64 circ, .int .i64 glo, .int .i64 ghi, .int .i64 wrn] 25)) := by (repeat' (first | (with_reducible exact Below.refl _ _) | (with_reducible assumption) | (with_reducible refine Below.alloc ?_ ?_ _) | (with_reducible refine Below.drew ?_) | (with_reducible refine Below.setCell ?_ ?_ _) | go_size | (exact (by simp)) | omega))
            generalize World.alloc w _ = w1 at *
            refine (HRD.out _ hB1).mono ?_
            rintro e w2 ⟨rfl, hb2⟩
            have bS2 := bS1.below hb2
            have hB2 := hB1.trans (hb2.mono hB1.size)
            clear bS1 hb2 hB1 HRD
            obtain ⟨⟨⟨s0, s1, s2⟩, s3, s4, s5⟩, s6, s7⟩ := boxS8 bS2
            have lS := bS2.lt
            go_wp2_with fail
            refine (HTE.out _ hB2).mono ?_
            rintro e w3 ⟨v3, rfl, hi3, hb3⟩
            obtain ⟨A3, c3, rfl⟩ := ints_form hi3.out
            have bS3 := bS2.below hb3
            have hB3 := hB2.trans (hb3.mono hB2.size)
            clear s0 s1 s2 s3 s4 s5 s6 s7 lS bS2
            obtain ⟨⟨⟨s0, s1, s2⟩, s3, s4, s5⟩, s6, s7⟩ := boxS8 bS3
            have lS := bS3.lt
            go_upto_region 5 with fail
            have bN4 := BoxS.new w3 25 #[.int .i64 full, .int .i64 read, .int .i64 slip, .int .i64 skew, .int .i64 circ, .int .i64 glo, .int .i64 ghi, .int .i64 wrn]
            have bS4 := bS3.alloc (.cells #[.int .i64 full, .int .i64 read, .int .i64 slip, .int .i64 skew, .int .i64 circ, .int .i64 glo, .int .i64 ghi, .int .i64 wrn] 25)
            have hb4 : Below w3.heap.size w3 (w3.alloc (.cells #[.int .i64 full, .int .i64 read, .int .i64 slip, .int .i64 skew, .int .i64 circ, .int .i64 glo, .int .i64 ghi, .int .i64 wrn] 25)) := by (repeat' (first | (with_reducible exact Below.refl _ _) | (with_reducible assumption) | (with_reducible refine Below.alloc ?_ ?_ _) | (with_reducible refine Below.drew ?_) | (with_reducible refine Below.setCell ?_ ?_ _) | go_size | (exact (by simp)) | omega))
            generalize World.alloc w3 _ = w4 at *
            have f7 := bN4.frozen 7
            have g7 := bN4.cell 7 rfl
            have lN := bN4.lt
            go_upto_region 6 with fail
            have bN5 : BoxS (w4.setCell ⟨w3.heap.size, 7, none⟩ (.int .i64 0)) w3.heap.size 25 #[.int .i64 full, .int .i64 read, .int .i64 slip, .int .i64 skew, .int .i64 circ, .int .i64 glo, .int .i64 ghi, .int .i64 0] := bN4.put9 7 (.int .i64 0)
            have bS5 : BoxS (w4.setCell ⟨w3.heap.size, 7, none⟩ (.int .i64 0)) w.heap.size 25 #[.int .i64 full, .int .i64 read, .int .i64 slip, .int .i64 skew, .int .i64 circ, .int .i64 glo, .int .i64 ghi, .int .i64 wrn] := bS4.away (by omega) _ _
            have hb5 : Below w3.heap.size w3 (w4.setCell ⟨w3.heap.size, 7, none⟩ (.int .i64 0)) := by (repeat' (first | (with_reducible exact Below.refl _ _) | (with_reducible assumption) | (with_reducible refine Below.alloc ?_ ?_ _) | (with_reducible refine Below.drew ?_) | (with_reducible refine Below.setCell ?_ ?_ _) | go_size | (exact (by simp)) | omega))
            clear f7 g7 lN bN4 bS4 hb4 s0 s1 s2 s3 s4 s5 s6 s7 lS bS3
            generalize World.setCell w4 _ _ = w5 at *
            have hB5 := hB3.trans (hb5.mono hB3.size)
            have hi5 : Hid (Ints w5 w5.heap.size (.slice A3 LS.length c3) LS) := (hi3.out.keep hb5).more hb5.size
            clear hi3 hb5 hb3 hB3 HTE
            refine (wpIn_wide (n := 4)).1 ?_
            have hmo : Try.prog.follows .mixedOrders = true := by kernel_rfl
            have q0 : Below w5.heap.size w5 w5.drew := (Below.refl _ _).drew
            have KC : Hid (∀ W', Below w5.heap.size w5 W' → ((W'.cell? ⟨w3.heap.size, 0, none⟩ = some (.int .i64 full) ∧ W'.cell? ⟨w3.heap.size, 1, none⟩ = some (.int .i64 read) ∧ W'.cell? ⟨w3.heap.size, 2, none⟩ = some (.int .i64 slip)) ∧ W'.cell? ⟨w3.heap.size, 3, none⟩ = some (.int .i64 skew) ∧ W'.cell? ⟨w3.heap.size, 4, none⟩ = some (.int .i64 circ) ∧ W'.cell? ⟨w3.heap.size, 5, none⟩ = some (.int .i64 glo)) ∧ W'.cell? ⟨w3.heap.size, 6, none⟩ = some (.int .i64 ghi) ∧ W'.cell? ⟨w3.heap.size, 7, none⟩ = some (.int .i64 0)) := fun W' h => boxS8 (bN5.below h)
            obtain ⟨bb, off, hA, hbb, hcc⟩ := HG.out (by omega)
            subst hA
            have hck := hcc k hk
            have KD : Hid (∀ W', Below w5.heap.size w5 W' → W'.cell? ⟨bb, off + k * 5, none⟩ = some (.int .i64 (Wh.wkAt ws k).1) ∧ W'.cell? ⟨bb, off + k * 5 + 1, none⟩ = some (.int .i64 (Wh.wkAt ws k).2.1) ∧ W'.cell? ⟨bb, off + k * 5 + 2, none⟩ = some (.int .i64 (Wh.wkAt ws k).2.2.1) ∧ W'.cell? ⟨bb, off + k * 5 + 3, none⟩ = some (.int .i64 (Wh.wkAt ws k).2.2.2.1) ∧ W'.cell? ⟨bb, off + k * 5 + 4, none⟩ = some (.int .i64 (Wh.wkAt ws k).2.2.2.2)) := fun W' h => by
              have hx := hB5.trans (h.mono hB5.size)
              exact ⟨(hx.cell (p := ⟨bb, _, none⟩) hbb).trans hck.1, (hx.cell (p := ⟨bb, _, none⟩) hbb).trans hck.2.1, (hx.cell (p := ⟨bb, _, none⟩) hbb).trans hck.2.2.1, (hx.cell (p := ⟨bb, _, none⟩) hbb).trans hck.2.2.2.1, (hx.cell (p := ⟨bb, _, none⟩) hbb).trans hck.2.2.2.2⟩
            have dk0 : decide ((k : Int) < 0) = false := decide_eq_false (by omega)
            have dk1 : decide ((ws.length : Int) ≤ k) = false := decide_eq_false (by omega)
            have dk2 : decide (ws.length ≤ k) = false := decide_eq_false (by omega)
            have dk3 : (k : Int) < ws.length := by omega
            clear hck hcc
            generalize Wh.wkAt ws k = kk at *
            refine wpIn_region_held (fun W' => Below w5.heap.size w5 W') 40 hmo ?_
            refine wpHeldIn_take (i := 0) (v := ?_) (plain_of (by kernel_rfl)) rfl (by kernel_rfl) (fun _ _ _ h => h) (yieldsSoIn_of (by kernel_rfl) ?_ (fun _ => rfl)) q0 ?_; rotate_left; focus (intro wq hw; have kq := KC.out wq hw; clear hw; go_simp; try (with_reducible rfl))
            refine wpHeldIn_take (i := 2) (v := ?_) (plain_of (by kernel_rfl)) rfl (by kernel_rfl) (fun _ _ _ h => h) (yieldsSoIn_of (by kernel_rfl) ?_ (fun _ => rfl)) q0 ?_; rotate_left; focus (intro wq hw; clear hw; go_simp; try (with_reducible rfl))
            refine wpHeldIn_take (i := 3) (v := ?_) (plain_of (by kernel_rfl)) rfl (by kernel_rfl) (fun _ _ _ h => h) (yieldsSoIn_of (by kernel_rfl) ?_ (fun _ => rfl)) q0 ?_; rotate_left; focus (intro wq hw; clear hw; go_simp; try (with_reducible rfl))
            refine wpHeldIn_take (i := 4) (v := ?_) (plain_of (by kernel_rfl)) rfl (by kernel_rfl) (fun _ _ _ h => h) (yieldsSoIn_of (by kernel_rfl) ?_ (fun _ => rfl)) q0 ?_; rotate_left; focus (intro wq hw; clear hw; go_simp; try (with_reducible rfl))
            refine wpHeldIn_take (i := 5) (v := ?_) (plain_of (by kernel_rfl)) rfl (by kernel_rfl) (fun _ _ _ h => h) (yieldsSoIn_of (by kernel_rfl) ?_ (fun _ => rfl)) q0 ?_; rotate_left; focus (intro wq hw; have kq := KD.out wq hw; clear hw; go_simp; try (with_reducible rfl))
            refine wpHeldIn_onew 1 6 7 42 47 48 46 (f0 := 6) kk rfl rfl rfl rfl rfl rfl rfl rfl rfl rfl (by kernel_rfl) rfl (by kernel_rfl) (by decide) (by decide) ⟨of_decide_eq_true (by kernel_rfl), of_decide_eq_true (by kernel_rfl)⟩ rfl q0 ?_
            intro u1 u5 A6 c6 w6 hk6 q6
            go_simp
            refine wpHeldIn_one (i := 8) (by kernel_rfl) (by kernel_rfl) rfl (by kernel_rfl) (fun K5 hK5 => ?_)
            go_simp
            refine ⟨trivial, (callsIn_wide.2 (HAS.out _ _ _ hk6)).mono ?_⟩
            rintro e w7 ⟨v7, rfl, hi7, hb7⟩
            obtain ⟨A5, c5, rfl⟩ := ints_form hi7.out
            have q7 := q6.trans (hb7.mono q6.size)
            refine hK5 _ _ q7 ?_
            refine wpHeldIn_take (i := 9) (v := ?_) (plain_of (by kernel_rfl)) rfl (by kernel_rfl) (fun _ _ _ h => h) (yieldsSoIn_of (by kernel_rfl) ?_ (fun _ => rfl)) q7 ?_; rotate_left; focus (intro wq hw; clear hw; go_simp; try (with_reducible rfl))
            refine wpHeldIn_take (i := 10) (v := ?_) (plain_of (by kernel_rfl)) rfl (by kernel_rfl) (fun _ _ _ h => h) (yieldsSoIn_of (by kernel_rfl) ?_ (fun _ => rfl)) q7 ?_; rotate_left; focus (intro wq hw; clear hw; go_simp; try (with_reducible rfl))
            refine wpHeldIn_take (i := 11) (v := ?_) (plain_of (by kernel_rfl)) rfl (by kernel_rfl) (fun _ _ _ h => h) (yieldsSoIn_of (by kernel_rfl) ?_ (fun _ => rfl)) q7 ?_; rotate_left; focus (intro wq hw; clear hw; go_simp; try (with_reducible rfl))
            refine wpHeldIn_take (i := 12) (v := ?_) (plain_of (by kernel_rfl)) rfl (by kernel_rfl) (fun _ _ _ h => h) (yieldsSoIn_of (by kernel_rfl) ?_ (fun _ => rfl)) q7 ?_; rotate_left; focus (intro wq hw; clear hw; go_simp; try (with_reducible rfl))
            refine wpHeldIn_take (i := 13) (v := ?_) (plain_of (by kernel_rfl)) rfl (by kernel_rfl) (fun _ _ _ h => h) (yieldsSoIn_of (by kernel_rfl) ?_ (fun _ => rfl)) q7 ?_; rotate_left; focus (intro wq hw; clear hw; go_simp; try (with_reducible rfl))
            refine wpHeldIn_done (by kernel_rfl) ?_ _
            go_simp
            have bS6 := bS5.below q7
            have bN6 := bN5.below q7
            have hB6 := hB5.trans (q7.mono hB5.size)
            have hs6 : Hid (Ints w7 w7.heap.size (.slice A3 LS.length c3) LS) := (hi5.out.keep q7).more q7.size
            have hi6 := hi7
            clear q0 q6 q7 hb7 hk6 KC KD hmo hi5 hi7 hB5 bS5 bN5 dk0 dk1 dk2 dk3
            obtain ⟨⟨⟨s0, s1, s2⟩, s3, s4, s5⟩, s6, s7⟩ := boxS8 bS6
            have lS := bS6.lt
            obtain ⟨⟨⟨y0, y1, y2⟩, y3, y4, y5⟩, y6, y7⟩ := boxS8 bN6
            have lN := bN6.lt
            go_wp2_with fail
            refine (HAN.out _ hB6).mono ?_
            rintro e w7a ⟨v7, rfl, hn7, hb7⟩
            obtain ⟨A7, c7, rfl⟩ := ints_form hn7.out
            have hs7 : Hid (Ints w7a w7a.heap.size (.slice A3 LS.length c3) LS) := (hs6.out.keep hb7).more hb7.size
            have hi7 : Hid (Ints w7a w7a.heap.size (.slice A5 LS.length c5) LS) := (hi6.out.keep hb7).more hb7.size
            have bS7 := bS6.below hb7
            have bN7 := bN6.below hb7
            have hB7 := hB6.trans (hb7.mono hB6.size)
            clear s0 s1 s2 s3 s4 s5 s6 s7 lS y0 y1 y2 y3 y4 y5 y6 y7 lN bS6 bN6
            obtain ⟨⟨⟨s0, s1, s2⟩, s3, s4, s5⟩, s6, s7⟩ := boxS8 bS7
            have lS := bS7.lt
            obtain ⟨⟨⟨y0, y1, y2⟩, y3, y4, y5⟩, y6, y7⟩ := boxS8 bN7
            have lN := bN7.lt
            clear hs6 hi6
            go_wp2_with fail
            refine (HFW.out _ hB7).mono ?_
            rintro e w8 ⟨rfl, hb8⟩
            have hs8 : Hid (Ints w8 w8.heap.size (.slice A3 LS.length c3) LS) := (hs7.out.keep hb8).more hb8.size
            have hi8 : Hid (Ints w8 w8.heap.size (.slice A5 LS.length c5) LS) := (hi7.out.keep hb8).more hb8.size
            have hn8 : Hid (Ints w8 w8.heap.size (.slice A7 LN.length c7) LN) := (hn7.out.keep hb8).more hb8.size
            have bS8 := bS7.below hb8
            have bN8 := bN7.below hb8
            have hB8 := hB7.trans (hb8.mono hB7.size)
            clear s0 s1 s2 s3 s4 s5 s6 s7 lS y0 y1 y2 y3 y4 y5 y6 y7 lN bS7 bN7
            obtain ⟨⟨⟨s0, s1, s2⟩, s3, s4, s5⟩, s6, s7⟩ := boxS8 bS8
            have lS := bS8.lt
            obtain ⟨⟨⟨y0, y1, y2⟩, y3, y4, y5⟩, y6, y7⟩ := boxS8 bN8
            have lN := bN8.lt
            clear hs7 hi7 hn7
            go_wp2_with fail
            refine (HK3.out _).mono ?_
            rintro e w8' ⟨rfl, rfl⟩
            go_wp2_with fail
            refine (SameInts_any _ _ LS LS _ hs8.out hi8.out (by omega) (by omega)).mono ?_
            rintro e w9 ⟨rfl, hb9⟩
            have bS9 := bS8.below hb9
            have bN9 := bN8.below hb9
            have hB9 := hB8.trans (hb9.mono hB8.size)
            clear s0 s1 s2 s3 s4 s5 s6 s7 lS y0 y1 y2 y3 y4 y5 y6 y7 lN bS8 bN8
            obtain ⟨⟨⟨s0, s1, s2⟩, s3, s4, s5⟩, s6, s7⟩ := boxS8 bS9
            have lS := bS9.lt
            obtain ⟨⟨⟨y0, y1, y2⟩, y3, y4, y5⟩, y6, y7⟩ := boxS8 bN9
            have lN := bN9.lt
            clear hs8 hn8 hi8
            have sme : decide (LS = LS) = true := decide_eq_true rfl
            rw [sme]
            go_wp2_with fail
            refine (HK3.out _).mono ?_
            rintro e w9' ⟨rfl, rfl⟩
            go_wp2_with fail
            refine (HWK.out _).mono ?_
            rintro e w19 ⟨rfl, hb19⟩
            go_wp2_with fail
            go_returns
            exact ⟨rfl, hB9.trans (hb19.mono hB9.size)⟩
end Go.Proofs.Ytecmlakcpgkfbaa
