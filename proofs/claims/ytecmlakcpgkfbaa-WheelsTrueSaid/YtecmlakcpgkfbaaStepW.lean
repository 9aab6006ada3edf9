/- Wheels: the law WheelsStep (P3.15): the walk. -/
import Derived.Test.YtecmlakcpgkfbaaTrP
import Derived.Test.YtecmlakcpgkfbaaSub3
import Derived.Test.YtecmlakcpgkfbaaPushW
namespace Go.Proofs.Ytecmlakcpgkfbaa
open Go.RowKit
namespace Wh
theorem areas_few {d : Desk} (h : readyB d = true) : (areasV d).length ≤ 100 := by
  unfold readyB farB bigB at h
  simp only [Bool.and_eq_true, Bool.not_eq_true', Bool.or_eq_false_iff, Bool.and_eq_false_imp, decide_eq_false_iff_not] at h
  obtain ⟨⟨_, h2⟩, hok⟩ := h
  have h3 := (h2 hok).1.1.2
  have hd := ok_of hok
  by_cases h0 : spE d = 0
  · have hn : (areasV d).Nodup := (areas_sorted d).imp (fun h => by omega)
    have hsub : areasV d ⊆ (List.range 100).map (fun n : Nat => d.glo + (n : Int)) := fun x hx => by
      obtain ⟨t, ht, rfl⟩ := (areas_mem h0 x).1 hx
      have := ((mem_truths hd t).1 ht).1.1
      rw [List.mem_map]
      exact ⟨(t.1.1 - d.glo).toNat, by rw [List.mem_range]; omega, by omega⟩
    have := hn.length_le_of_subset hsub
    rwa [List.length_map, List.length_range] at this
  · unfold areasV
    rw [if_neg h0]
    simp
theorem ready_ok {d : Desk} (h : readyB d = true) : okB d = true := by
  unfold readyB at h
  exact (Bool.and_eq_true_iff.1 h).2
theorem worstE_eq {d : Desk} (hok : okB d = true) {a b : Int} (ha : signB a = true) (hb : signB b = true) : worstE d a b = spE d := by
  unfold worstE
  rw [hok, ha, hb]
  rfl
theorem worstR_eq {d : Desk} (hok : okB d = true) (h0 : spE d = 0) {a b : Int} (ha : signB a = true) (hb : signB b = true) : worstR d a b = worstV d a b := by
  unfold worstR
  rw [worstE_eq hok ha hb, if_pos h0]
end Wh
def NextPost (a b e : Int) (w : World) (x : Ending) (w' : World) : Prop := x = .returned (.tuple #[.int .i64 a, .int .i64 b, .int .i64 e]) ∧ Below w.heap.size w w'
set_option maxRecDepth 100000 in
set_option maxHeartbeats 16000000 in
theorem Step_any (d : Wh.Desk) (x : Wh.Wk) (A : Option Addr) (c : Nat) (w : World) (hl : d.ws.length ≤ 1000000000) (hg : Wks w w.heap.size A d.ws) :
    Calls Try.prog 9 #[.agg (whV d), .slice A d.ws.length c, .agg #[.int .i64 x.1, .int .i64 x.2.1, .int .i64 x.2.2.1, .int .i64 x.2.2.2.1, .int .i64 x.2.2.2.2]] w fun e w' => e = .returned (.bool true) ∧ Below w.heap.size w w' := by
  have HRD : Hid (∀ W, Below w.heap.size w W → Calls Try.prog 34 #[.agg (whV d), .slice A d.ws.length c] W fun e w' => e = .returned (.bool (Wh.readyB d)) ∧ Below W.heap.size W w') := fun W hW => ready3_any d A c W hl ((hg.keep hW).wider hW.size)
  have HWK : Hid (∀ W, Calls Try.prog 13 #[] W fun e w' => e = .returned (.bool true) ∧ Below W.heap.size W w') := works_any
  cases hr : Wh.readyB d
  · rw [hr] at HRD
    clear hr hg
    obtain ⟨full, read, slip, skew, circ, glo, ghi, wrn, ws⟩ := d
    obtain ⟨x1, x2, x3, x4, x5⟩ := x
    unfold whV at *
    dsimp only at *
    go_enter Try.func9, Try.ntmps9
    go_wp2_with fail
    have bS1 := (BoxS.new w 25 #[.int .i64 full, .int .i64 read, .int .i64 slip, .int .i64 skew, .int .i64 circ, .int .i64 glo, .int .i64 ghi, .int .i64 wrn]).alloc (.cells #[.int .i64 x1, .int .i64 x2, .int .i64 x3, .int .i64 x4, .int .i64 x5] 54)
    have bX1 := BoxS.new (w.alloc (.cells #[.int .i64 full, .int .i64 read, .int .i64 slip, .int .i64 skew, .int .i64 circ, .int .i64 glo, .int .i64 ghi, .int .i64 wrn] 25)) 54 #[.int .i64 x1, .int .i64 x2, .int .i64 x3, .int .i64 x4, .int .i64 x5]
    rw [World.size_alloc] at bX1
    have hB1 : Below w.heap.size w ((w.alloc (.cells #[.int .i64 full, .int .i64 read, .int .i64 slip, .int .i64 skew, .int .i64 circ, .int .i64 glo, .int .i64 ghi, .int .i64 wrn] 25)).alloc (.cells #[.int .i64 x1, .int .i64 x2, .int .i64 x3, .int .i64 x4, .int .i64 x5] 54)) := by (repeat' (first | (with_reducible exact Below.refl _ _) | (with_reducible assumption) | (with_reducible refine Below.alloc ?_ ?_ _) | (with_reducible refine Below.drew ?_) | (with_reducible refine Below.setCell ?_ ?_ _) | go_size | (exact (by simp)) | omega))
    generalize World.alloc (World.alloc w _) _ = w1 at *
    obtain ⟨⟨⟨s0, s1, s2⟩, s3, s4, s5⟩, s6, s7⟩ := boxS8 bS1
    have lS := bS1.lt
    obtain ⟨⟨y0, y1, y2⟩, y3, y4⟩ := boxS5 bX1
    have lX := bX1.lt
    go_wp2_with fail
    refine (HRD.out _ hB1).mono ?_
    rintro e w2 ⟨rfl, hb2⟩
    have bS2 := bS1.below hb2
    have bX2 := bX1.below hb2
    have hB2 := hB1.trans (hb2.mono hB1.size)
    clear s0 s1 s2 s3 s4 s5 s6 s7 lS y0 y1 y2 y3 y4 lX bS1 bX1 hb2 HRD
    obtain ⟨⟨⟨s0, s1, s2⟩, s3, s4, s5⟩, s6, s7⟩ := boxS8 bS2
    have lS := bS2.lt
    obtain ⟨⟨y0, y1, y2⟩, y3, y4⟩ := boxS5 bX2
    have lX := bX2.lt
    go_wp2_with fail
    refine (HWK.out _).mono ?_
    rintro e w9 ⟨rfl, hb9⟩
    go_wp2_with fail
    go_returns
    exact ⟨rfl, hB2.trans (hb9.mono hB2.size)⟩
  · have hok := Wh.ready_ok hr
    have hs := Wh.ok_of hok
    have f1 := hs.f1
    have f2 := hs.f2
    rw [hr] at HRD
    by_cases hl3 : d.ws.length ≤ 3
    · have q0 : decide (3 < (d.ws.length : Int)) = false := decide_eq_false (by omega)
      have HIW : Hid (∀ W, Calls Try.prog 42 #[.agg (whV d), .agg #[.int .i64 x.1, .int .i64 x.2.1, .int .i64 x.2.2.1, .int .i64 x.2.2.2.1, .int .i64 x.2.2.2.2]] W fun e w' => e = .returned (.bool (Wh.wkB d.full x)) ∧ Below W.heap.size W w') := fun W => IsWalk3_any d (by omega) x W
      cases hx : Wh.wkB d.full x
      · rw [hx] at HIW
        clear hr hg hok hs f1 f2 hx
        obtain ⟨full, read, slip, skew, circ, glo, ghi, wrn, ws⟩ := d
        obtain ⟨x1, x2, x3, x4, x5⟩ := x
        unfold whV at *
        dsimp only at *
        go_enter Try.func9, Try.ntmps9
        go_wp2_with fail
        have bS1 := (BoxS.new w 25 #[.int .i64 full, .int .i64 read, .int .i64 slip, .int .i64 skew, .int .i64 circ, .int .i64 glo, .int .i64 ghi, .int .i64 wrn]).alloc (.cells #[.int .i64 x1, .int .i64 x2, .int .i64 x3, .int .i64 x4, .int .i64 x5] 54)
        have bX1 := BoxS.new (w.alloc (.cells #[.int .i64 full, .int .i64 read, .int .i64 slip, .int .i64 skew, .int .i64 circ, .int .i64 glo, .int .i64 ghi, .int .i64 wrn] 25)) 54 #[.int .i64 x1, .int .i64 x2, .int .i64 x3, .int .i64 x4, .int .i64 x5]
        rw [World.size_alloc] at bX1
        have hB1 : Below w.heap.size w ((w.alloc (.cells #[.int .i64 full, .int .i64 read, .int .i64 slip, .int .i64 skew, .int .i64 circ, .int .i64 glo, .int .i64 ghi, .int .i64 wrn] 25)).alloc (.cells #[.int .i64 x1, .int .i64 x2, .int .i64 x3, .int .i64 x4, .int .i64 x5] 54)) := by (repeat' (first | (with_reducible exact Below.refl _ _) | (with_reducible assumption) | (with_reducible refine Below.alloc ?_ ?_ _) | (with_reducible refine Below.drew ?_) | (with_reducible refine Below.setCell ?_ ?_ _) | go_size | (exact (by simp)) | omega))
        generalize World.alloc (World.alloc w _) _ = w1 at *
        obtain ⟨⟨⟨s0, s1, s2⟩, s3, s4, s5⟩, s6, s7⟩ := boxS8 bS1
        have lS := bS1.lt
        obtain ⟨⟨y0, y1, y2⟩, y3, y4⟩ := boxS5 bX1
        have lX := bX1.lt
        go_wp2_with fail
        refine (HRD.out _ hB1).mono ?_
        rintro e w2 ⟨rfl, hb2⟩
        have bS2 := bS1.below hb2
        have bX2 := bX1.below hb2
        have hB2 := hB1.trans (hb2.mono hB1.size)
        clear s0 s1 s2 s3 s4 s5 s6 s7 lS y0 y1 y2 y3 y4 lX bS1 bX1 hb2 HRD
        obtain ⟨⟨⟨s0, s1, s2⟩, s3, s4, s5⟩, s6, s7⟩ := boxS8 bS2
        have lS := bS2.lt
        obtain ⟨⟨y0, y1, y2⟩, y3, y4⟩ := boxS5 bX2
        have lX := bX2.lt
        go_wp2_with fail
        refine (HIW.out _).mono ?_
        rintro e w3 ⟨rfl, hb3⟩
        have bS3 := bS2.below hb3
        have bX3 := bX2.below hb3
        have hB3 := hB2.trans (hb3.mono hB2.size)
        clear s0 s1 s2 s3 s4 s5 s6 s7 lS y0 y1 y2 y3 y4 lX bS2 bX2 
        obtain ⟨⟨⟨s0, s1, s2⟩, s3, s4, s5⟩, s6, s7⟩ := boxS8 bS3
        have lS := bS3.lt
        obtain ⟨⟨y0, y1, y2⟩, y3, y4⟩ := boxS5 bX3
        have lX := bX3.lt
        go_wp2_with fail
        refine (HWK.out _).mono ?_
        rintro e w9 ⟨rfl, hb9⟩
        go_wp2_with fail
        go_returns
        exact ⟨rfl, hB3.trans (hb9.mono hB3.size)⟩
      · have hsx : Wh.signB x.1 = true ∧ Wh.signB x.2.1 = true := by
          have := hx
          unfold Wh.wkB at this
          simp only [Bool.and_eq_true] at this
          exact this.1.1.1
        have hxi : 0 ≤ x.2.2.1 := by
          have := hx
          unfold Wh.wkB inB at this
          simp only [Bool.and_eq_true, decide_eq_true_eq] at this
          omega
        rw [hx] at HIW
        have HAR : Hid (∀ W, Below w.heap.size w W → Calls Try.prog 20 #[.agg (whV d), .slice A d.ws.length c] W (IntsEPost (Wh.areasV d) (Wh.spE d) W)) := fun W hW => Areas_any d A c W hl ((hg.keep hW).wider hW.size)
        have HNX : Hid (∀ W, Below w.heap.size w W → Calls Try.prog 32 #[.agg (whV d), .slice A d.ws.length c] W (NextPost (Wh.nextV d).1 (Wh.nextV d).2 (Wh.spE d) W)) := fun W hW => Next_any d A c W hl ((hg.keep hW).wider hW.size)
        have HWO : Hid (∀ W, Below w.heap.size w W → Calls Try.prog 30 #[.agg (whV d), .slice A d.ws.length c, .int .i64 x.1, .int .i64 x.2.1] W (WorstPost (Wh.worstR d x.1 x.2.1) (Wh.spE d) W)) := fun W hW => by
          have := Worst_any d x.1 x.2.1 A c W hl ((hg.keep hW).wider hW.size)
          rw [Wh.worstE_eq hok hsx.1 hsx.2] at this
          exact this
        have HKN : Hid (∀ W, Calls Try.prog 35 #[.int .i64 (Wh.spE d)] W fun e w' => e = .returned (.bool true) ∧ w' = W) := fun W => by
          have := isKnown3_any (Wh.spE d) W
          rw [show (decide (Wh.spE d = 0) || decide (Wh.spE d = 3)) = true from by rcases Wh.sp_or hok with h | h <;> rw [h] <;> rfl] at this
          exact this
        have hfew := Wh.areas_few hr
        have q1 : decide ((100 : Int) < ((Wh.areasV d).length : Int)) = false := decide_eq_false (by omega)
        by_cases h0 : Wh.spE d = 0
        · have hd := hs
          have hsg := Wh.next_sign d h0
          have hxs : (x.1 = 1 ∨ x.1 = -1) ∧ (x.2.1 = 1 ∨ x.2.1 = -1) := ⟨Wh.signB_iff.1 hsx.1, Wh.signB_iff.1 hsx.2⟩
          have n1 := Wh.worst_pos hd h0 x.1 x.2.1
          have n2 := Wh.worst_areas hd h0 x.1 x.2.1
          have n3 := Wh.next_least hd h0 hxs.1 hxs.2
          have HWN : Hid (∀ W, Below w.heap.size w W → Calls Try.prog 30 #[.agg (whV d), .slice A d.ws.length c, .int .i64 (Wh.nextV d).1, .int .i64 (Wh.nextV d).2] W (WorstPost (Wh.worstV d (Wh.nextV d).1 (Wh.nextV d).2) 0 W)) := fun W hW => by
            have := Worst_any d (Wh.nextV d).1 (Wh.nextV d).2 A c W hl ((hg.keep hW).wider hW.size)
            rw [Wh.worstE_eq hok hsg.1 hsg.2, Wh.worstR_eq hok h0 hsg.1 hsg.2, h0] at this
            exact this
          have HPL : Hid (x.2.2.1 = 0 → d.wr = 0 → ((Wh.areasV (Wh.pushD d x)).length : Int) ≤ Wh.worstV d x.1 x.2.1 ∧ (∀ y ∈ Wh.areasV (Wh.pushD d x), y ∈ Wh.areasV d) ∧ (Wh.areasV (Wh.pushD d x)).length ≤ (Wh.areasV d).length) := fun h1 h2 => Wh.step_plain hok (by omega) hx h1 h2 h0
          have HAP : Hid (∀ A' c' W, Wks W W.heap.size A' (d.ws ++ [x]) → Calls Try.prog 20 #[.agg (whV d), .slice A' (d.ws.length + 1) c'] W (IntsEPost (Wh.areasV (Wh.pushD d x)) (Wh.spE (Wh.pushD d x)) W)) := fun A' c' W hW => by
            have := Areas_any (Wh.pushD d x) A' c' W (by unfold Wh.pushD; simp; omega) hW
            have e : (Wh.pushD d x).ws.length = d.ws.length + 1 := by unfold Wh.pushD; simp
            rw [e] at this
            exact this
          have HKP : Hid (∀ W, Calls Try.prog 35 #[.int .i64 (Wh.spE (Wh.pushD d x))] W fun e w' => e = .returned (.bool true) ∧ w' = W) := fun W => by
            have := isKnown3_any (Wh.spE (Wh.pushD d x)) W
            rw [show (decide (Wh.spE (Wh.pushD d x) = 0) || decide (Wh.spE (Wh.pushD d x) = 3)) = true from by rcases Wh.sp_or (Wh.ok_push hok (by omega) hx) with h | h <;> rw [h] <;> rfl] at this
            exact this
          have hlp := Wh.areas_len (Wh.pushD d x)
          rw [Wh.worstR_eq hok h0 hsx.1 hsx.2] at HWO
          have HG := Lib.hid hg
          have hw0 := hs.w1
          have hl8 : d.ws.length ≤ 1000000 := by omega
          rw [h0] at HAR HNX HWO HKN
          clear hr hg hok hs f1 f2 hx hsx hsg hxs hd h0 hl
          generalize Wh.areasV (Wh.pushD d x) = LP at *
          generalize Wh.spE (Wh.pushD d x) = EP at *
          generalize Wh.areasV d = LA at *
          generalize Wh.nextV d = NX at *
          obtain ⟨nx1, nx2⟩ := NX
          dsimp only at *
          generalize Wh.worstV d nx1 nx2 = WN at *
          generalize Wh.worstV d x.1 x.2.1 = WV at *
          obtain ⟨full, read, slip, skew, circ, glo, ghi, wrn, ws⟩ := d
          obtain ⟨x1, x2, x3, x4, x5⟩ := x
          unfold whV at *
          dsimp only at *
          go_enter Try.func9, Try.ntmps9
          go_wp2_with fail
          have bS1 := (BoxS.new w 25 #[.int .i64 full, .int .i64 read, .int .i64 slip, .int .i64 skew, .int .i64 circ, .int .i64 glo, .int .i64 ghi, .int .i64 wrn]).alloc (.cells #[.int .i64 x1, .int .i64 x2, .int .i64 x3, .int .i64 x4, .int .i64 x5] 54)
          have bX1 := BoxS.new (w.alloc (.cells #[.int .i64 full, .int .i64 read, .int .i64 slip, .int .i64 skew, .int .i64 circ, .int .i64 glo, .int .i64 ghi, .int .i64 wrn] 25)) 54 #[.int .i64 x1, .int .i64 x2, .int .i64 x3, .int .i64 x4, .int .i64 x5]
          rw [World.size_alloc] at bX1
          have hB1 : Below w.heap.size w ((w.alloc (.cells #[.int .i64 full, .int .i64 read, .int .i64 slip, .int .i64 skew, .int .i64 circ, .int .i64 glo, .int .i64 ghi, .int .i64 wrn] 25)).alloc (.cells #[.int .i64 x1, .int .i64 x2, .int .i64 x3, .int .i64 x4, .int .i64 x5] 54)) := by (repeat' (first | (with_reducible exact Below.refl _ _) | (with_reducible assumption) | (with_reducible refine Below.alloc ?_ ?_ _) | (with_reducible refine Below.drew ?_) | (with_reducible refine Below.setCell ?_ ?_ _) | go_size | (exact (by simp)) | omega))
          generalize World.alloc (World.alloc w _) _ = w1 at *
          obtain ⟨⟨⟨s0, s1, s2⟩, s3, s4, s5⟩, s6, s7⟩ := boxS8 bS1
          have lS := bS1.lt
          obtain ⟨⟨y0, y1, y2⟩, y3, y4⟩ := boxS5 bX1
          have lX := bX1.lt
          go_wp2_with fail
          refine (HRD.out _ hB1).mono ?_
          rintro e w2 ⟨rfl, hb2⟩
          have bS2 := bS1.below hb2
          have bX2 := bX1.below hb2
          have hB2 := hB1.trans (hb2.mono hB1.size)
          clear s0 s1 s2 s3 s4 s5 s6 s7 lS y0 y1 y2 y3 y4 lX bS1 bX1 hb2 HRD
          obtain ⟨⟨⟨s0, s1, s2⟩, s3, s4, s5⟩, s6, s7⟩ := boxS8 bS2
          have lS := bS2.lt
          obtain ⟨⟨y0, y1, y2⟩, y3, y4⟩ := boxS5 bX2
          have lX := bX2.lt
          go_wp2_with fail
          refine (HIW.out _).mono ?_
          rintro e w3 ⟨rfl, hb3⟩
          have bS3 := bS2.below hb3
          have bX3 := bX2.below hb3
          have hB3 := hB2.trans (hb3.mono hB2.size)
          clear s0 s1 s2 s3 s4 s5 s6 s7 lS y0 y1 y2 y3 y4 lX bS2 bX2 
          obtain ⟨⟨⟨s0, s1, s2⟩, s3, s4, s5⟩, s6, s7⟩ := boxS8 bS3
          have lS := bS3.lt
          obtain ⟨⟨y0, y1, y2⟩, y3, y4⟩ := boxS5 bX3
          have lX := bX3.lt
          go_wp2_with fail
          refine (HAR.out _ hB3).mono ?_
          rintro e w4 ⟨v4, rfl, hi4, hb4⟩
          obtain ⟨A4, c4, rfl⟩ := ints_form hi4.out
          have bS4 := bS3.below hb4
          have bX4 := bX3.below hb4
          have hB4 := hB3.trans (hb4.mono hB3.size)
          clear s0 s1 s2 s3 s4 s5 s6 s7 lS y0 y1 y2 y3 y4 lX bS3 bX3 
          obtain ⟨⟨⟨s0, s1, s2⟩, s3, s4, s5⟩, s6, s7⟩ := boxS8 bS4
          have lS := bS4.lt
          obtain ⟨⟨y0, y1, y2⟩, y3, y4⟩ := boxS5 bX4
          have lX := bX4.lt
          go_wp2_with fail
          refine (HNX.out _ hB4).mono ?_
          rintro e w5 ⟨rfl, hb5⟩
          have hi5 : Hid (Ints w5 w5.heap.size (.slice A4 LA.length c4) LA) := (hi4.out.keep hb5).more hb5.size
          have bS5 := bS4.below hb5
          have bX5 := bX4.below hb5
          have hB5 := hB4.trans (hb5.mono hB4.size)
          clear s0 s1 s2 s3 s4 s5 s6 s7 lS y0 y1 y2 y3 y4 lX bS4 bX4 
          obtain ⟨⟨⟨s0, s1, s2⟩, s3, s4, s5⟩, s6, s7⟩ := boxS8 bS5
          have lS := bS5.lt
          obtain ⟨⟨y0, y1, y2⟩, y3, y4⟩ := boxS5 bX5
          have lX := bX5.lt
          go_wp2_with fail
          refine (HWO.out _ hB5).mono ?_
          rintro e w6 ⟨rfl, hb6⟩
          have hi6 : Hid (Ints w6 w6.heap.size (.slice A4 LA.length c4) LA) := (hi5.out.keep hb6).more hb6.size
          have bS6 := bS5.below hb6
          have bX6 := bX5.below hb6
          have hB6 := hB5.trans (hb6.mono hB5.size)
          clear s0 s1 s2 s3 s4 s5 s6 s7 lS y0 y1 y2 y3 y4 lX bS5 bX5 
          obtain ⟨⟨⟨s0, s1, s2⟩, s3, s4, s5⟩, s6, s7⟩ := boxS8 bS6
          have lS := bS6.lt
          obtain ⟨⟨y0, y1, y2⟩, y3, y4⟩ := boxS5 bX6
          have lX := bX6.lt
          go_wp2_with fail
          refine (HKN.out _).mono ?_
          rintro e w6' ⟨rfl, rfl⟩
          go_wp2_with fail
          refine (HWN.out _ hB6).mono ?_
          rintro e w7 ⟨rfl, hb7⟩
          have hi7 : Hid (Ints w7 w7.heap.size (.slice A4 LA.length c4) LA) := (hi6.out.keep hb7).more hb7.size
          have bS7 := bS6.below hb7
          have bX7 := bX6.below hb7
          have hB7 := hB6.trans (hb7.mono hB6.size)
          clear s0 s1 s2 s3 s4 s5 s6 s7 lS y0 y1 y2 y3 y4 lX bS6 bX6 
          obtain ⟨⟨⟨s0, s1, s2⟩, s3, s4, s5⟩, s6, s7⟩ := boxS8 bS7
          have lS := bS7.lt
          obtain ⟨⟨y0, y1, y2⟩, y3, y4⟩ := boxS5 bX7
          have lX := bX7.lt
          have r1 : decide (WV < 1) = false := decide_eq_false (by omega)
          have r2 : decide ((LA.length : Int) < WV) = false := decide_eq_false (by omega)
          have r3 : decide (WV < WN) = false := decide_eq_false (by omega)
          by_cases hin : 0 < x3
          · have r4 : decide (0 < x3) = true := decide_eq_true hin
            go_wp2_with fail
            refine (HWK.out _).mono ?_
            rintro e w9 ⟨rfl, hb9⟩
            go_wp2_with fail
            go_returns
            exact ⟨rfl, hB7.trans (hb9.mono hB7.size)⟩
          · have r4 : decide (0 < x3) = false := decide_eq_false hin
            by_cases hwz : 0 < wrn
            · have r5 : decide (0 < wrn) = true := decide_eq_true hwz
              go_wp2_with fail
              refine (HWK.out _).mono ?_
              rintro e w9 ⟨rfl, hb9⟩
              go_wp2_with fail
              go_returns
              exact ⟨rfl, hB7.trans (hb9.mono hB7.size)⟩
            · have r5 : decide (0 < wrn) = false := decide_eq_false hwz
              go_upto_region 15 with fail
              refine (wpIn_wide (n := 4)).1 ?_
              have hmo : Try.prog.follows .mixedOrders = true := by kernel_rfl
              have q0 : Below w7.heap.size w7 w7.drew := (Below.refl _ _).drew
              have KC : Hid (∀ W', Below w7.heap.size w7 W' → (((W'.cell? ⟨w.heap.size, 0, none⟩ = some (.int .i64 full) ∧ W'.cell? ⟨w.heap.size, 1, none⟩ = some (.int .i64 read) ∧ W'.cell? ⟨w.heap.size, 2, none⟩ = some (.int .i64 slip)) ∧ W'.cell? ⟨w.heap.size, 3, none⟩ = some (.int .i64 skew) ∧ W'.cell? ⟨w.heap.size, 4, none⟩ = some (.int .i64 circ) ∧ W'.cell? ⟨w.heap.size, 5, none⟩ = some (.int .i64 glo)) ∧ W'.cell? ⟨w.heap.size, 6, none⟩ = some (.int .i64 ghi) ∧ W'.cell? ⟨w.heap.size, 7, none⟩ = some (.int .i64 wrn)) ∧ ((W'.cell? ⟨w.heap.size + 1, 0, none⟩ = some (.int .i64 x1) ∧ W'.cell? ⟨w.heap.size + 1, 1, none⟩ = some (.int .i64 x2) ∧ W'.cell? ⟨w.heap.size + 1, 2, none⟩ = some (.int .i64 x3)) ∧ W'.cell? ⟨w.heap.size + 1, 3, none⟩ = some (.int .i64 x4) ∧ W'.cell? ⟨w.heap.size + 1, 4, none⟩ = some (.int .i64 x5))) := fun W' h => ⟨boxS8 (bS7.below h), boxS5 (bX7.below h)⟩
              have hW7 : Wks w7.drew w7.drew.heap.size A ws := by
                have h1 := hB7.drew
                exact (HG.out.keep h1).wider h1.size
              clear s0 s1 s2 s3 s4 s5 s6 s7 lS y0 y1 y2 y3 y4 lX bS7 bX7
              refine wpIn_region_held (fun W' => Below w7.heap.size w7 W') 40 hmo ?_
              refine wpHeldIn_take (i := 0) (v := ?_) (plain_of (by kernel_rfl)) rfl (by kernel_rfl) (fun _ _ _ h => h) (yieldsSoIn_of (by kernel_rfl) ?_ (fun _ => rfl)) q0 ?_; rotate_left; focus (intro wq hw; have kq := KC.out wq hw; clear hw; go_simp; try (with_reducible rfl))
              refine wpHeldIn_take (i := 2) (v := ?_) (plain_of (by kernel_rfl)) rfl (by kernel_rfl) (fun _ _ _ h => h) (yieldsSoIn_of (by kernel_rfl) ?_ (fun _ => rfl)) q0 ?_; rotate_left; focus (intro wq hw; clear hw; go_simp; try (with_reducible rfl))
              refine wpHeldIn_take (i := 4) (v := ?_) (plain_of (by kernel_rfl)) rfl (by kernel_rfl) (fun _ _ _ h => h) (yieldsSoIn_of (by kernel_rfl) ?_ (fun _ => rfl)) q0 ?_; rotate_left; focus (intro wq hw; have kq := KC.out wq hw; clear hw; go_simp; try (with_reducible rfl))
              refine wpHeldIn_pushw 1 3 5 6 114 116 118 119 115 117 (f0 := 6) (x1, x2, x3, x4, x5) rfl rfl rfl rfl rfl rfl rfl rfl rfl rfl rfl rfl rfl (by kernel_rfl) rfl (by kernel_rfl) (by decide) (by decide) ⟨of_decide_eq_true (by kernel_rfl), of_decide_eq_true (by kernel_rfl), of_decide_eq_true (by kernel_rfl)⟩ rfl rfl hW7 hl8 q0 ?_
              intro u1 u3 u5 A8 c8 w8 hk8 q8
              go_simp
              refine wpHeldIn_one (i := 7) (by kernel_rfl) (by kernel_rfl) rfl (by kernel_rfl) (fun K5 hK5 => ?_)
              go_simp
              refine ⟨trivial, (callsIn_wide.2 (HAP.out _ _ _ hk8)).mono ?_⟩
              rintro e w9 ⟨v9, rfl, hi9, hb9⟩
              obtain ⟨A9, c9, rfl⟩ := ints_form hi9.out
              have q9 := q8.trans (hb9.mono q8.size)
              refine hK5 _ _ q9 ?_
              refine wpHeldIn_take (i := 8) (v := ?_) (plain_of (by kernel_rfl)) rfl (by kernel_rfl) (fun _ _ _ h => h) (yieldsSoIn_of (by kernel_rfl) ?_ (fun _ => rfl)) q9 ?_; rotate_left; focus (intro wq hw; clear hw; go_simp; try (with_reducible rfl))
              refine wpHeldIn_take (i := 9) (v := ?_) (plain_of (by kernel_rfl)) rfl (by kernel_rfl) (fun _ _ _ h => h) (yieldsSoIn_of (by kernel_rfl) ?_ (fun _ => rfl)) q9 ?_; rotate_left; focus (intro wq hw; clear hw; go_simp; try (with_reducible rfl))
              refine wpHeldIn_take (i := 10) (v := ?_) (plain_of (by kernel_rfl)) rfl (by kernel_rfl) (fun _ _ _ h => h) (yieldsSoIn_of (by kernel_rfl) ?_ (fun _ => rfl)) q9 ?_; rotate_left; focus (intro wq hw; clear hw; go_simp; try (with_reducible rfl))
              refine wpHeldIn_take (i := 11) (v := ?_) (plain_of (by kernel_rfl)) rfl (by kernel_rfl) (fun _ _ _ h => h) (yieldsSoIn_of (by kernel_rfl) ?_ (fun _ => rfl)) q9 ?_; rotate_left; focus (intro wq hw; clear hw; go_simp; try (with_reducible rfl))
              refine wpHeldIn_take (i := 12) (v := ?_) (plain_of (by kernel_rfl)) rfl (by kernel_rfl) (fun _ _ _ h => h) (yieldsSoIn_of (by kernel_rfl) ?_ (fun _ => rfl)) q9 ?_; rotate_left; focus (intro wq hw; clear hw; go_simp; try (with_reducible rfl))
              refine wpHeldIn_done (by kernel_rfl) ?_ _
              go_simp
              have hB9 := hB7.trans (q9.mono hB7.size)
              have hi9a : Hid (Ints w9 w9.heap.size (.slice A4 LA.length c4) LA) := (hi7.out.keep q9).more q9.size
              clear q0 q8 q9 hb9 hk8 KC hmo hi7 hB7
              obtain ⟨p1, p2, p3⟩ := HPL.out (by omega) (by omega)
              have r6 : decide ((LP.length : Int) ≤ WV) = true := decide_eq_true p1
              have HSU := Lib.hid p2
              clear p2
              go_wp2_with fail
              refine (HKP.out _).mono ?_
              rintro e w9' ⟨rfl, rfl⟩
              go_wp2_with fail
              refine (subset3_yes _ LP _ LA _ hi9.out hi9a.out (by omega) (by omega) HSU.out p3).mono ?_
              rintro e w10 ⟨rfl, hb10⟩
              have hB10 := hB9.trans (hb10.mono hB9.size)
              go_wp2_with fail
              refine (HWK.out _).mono ?_
              rintro e w11 ⟨rfl, hb11⟩
              go_wp2_with fail
              go_returns
              exact ⟨rfl, hB10.trans (hb11.mono hB10.size)⟩
        · have h3 : Wh.spE d = 3 := (Wh.sp_or hok).resolve_left h0
          rw [h3] at HAR HNX HWO HKN
          clear hr hg hok hs f1 f2 hx hsx h0 h3
          generalize Wh.areasV d = LA at *
          generalize Wh.nextV d = NX at *
          generalize Wh.worstR d x.1 x.2.1 = WV at *
          obtain ⟨nx1, nx2⟩ := NX
          dsimp only at *
          obtain ⟨full, read, slip, skew, circ, glo, ghi, wrn, ws⟩ := d
          obtain ⟨x1, x2, x3, x4, x5⟩ := x
          unfold whV at *
          dsimp only at *
          go_enter Try.func9, Try.ntmps9
          go_wp2_with fail
          have bS1 := (BoxS.new w 25 #[.int .i64 full, .int .i64 read, .int .i64 slip, .int .i64 skew, .int .i64 circ, .int .i64 glo, .int .i64 ghi, .int .i64 wrn]).alloc (.cells #[.int .i64 x1, .int .i64 x2, .int .i64 x3, .int .i64 x4, .int .i64 x5] 54)
          have bX1 := BoxS.new (w.alloc (.cells #[.int .i64 full, .int .i64 read, .int .i64 slip, .int .i64 skew, .int .i64 circ, .int .i64 glo, .int .i64 ghi, .int .i64 wrn] 25)) 54 #[.int .i64 x1, .int .i64 x2, .int .i64 x3, .int .i64 x4, .int .i64 x5]
          rw [World.size_alloc] at bX1
          have hB1 : Below w.heap.size w ((w.alloc (.cells #[.int .i64 full, .int .i64 read, .int .i64 slip, .int .i64 skew, .int .i64 circ, .int .i64 glo, .int .i64 ghi, .int .i64 wrn] 25)).alloc (.cells #[.int .i64 x1, .int .i64 x2, .int .i64 x3, .int .i64 x4, .int .i64 x5] 54)) := by (repeat' (first | (with_reducible exact Below.refl _ _) | (with_reducible assumption) | (with_reducible refine Below.alloc ?_ ?_ _) | (with_reducible refine Below.drew ?_) | (with_reducible refine Below.setCell ?_ ?_ _) | go_size | (exact (by simp)) | omega))
          generalize World.alloc (World.alloc w _) _ = w1 at *
          obtain ⟨⟨⟨s0, s1, s2⟩, s3, s4, s5⟩, s6, s7⟩ := boxS8 bS1
          have lS := bS1.lt
          obtain ⟨⟨y0, y1, y2⟩, y3, y4⟩ := boxS5 bX1
          have lX := bX1.lt
          go_wp2_with fail
          refine (HRD.out _ hB1).mono ?_
          rintro e w2 ⟨rfl, hb2⟩
          have bS2 := bS1.below hb2
          have bX2 := bX1.below hb2
          have hB2 := hB1.trans (hb2.mono hB1.size)
          clear s0 s1 s2 s3 s4 s5 s6 s7 lS y0 y1 y2 y3 y4 lX bS1 bX1 hb2 HRD
          obtain ⟨⟨⟨s0, s1, s2⟩, s3, s4, s5⟩, s6, s7⟩ := boxS8 bS2
          have lS := bS2.lt
          obtain ⟨⟨y0, y1, y2⟩, y3, y4⟩ := boxS5 bX2
          have lX := bX2.lt
          go_wp2_with fail
          refine (HIW.out _).mono ?_
          rintro e w3 ⟨rfl, hb3⟩
          have bS3 := bS2.below hb3
          have bX3 := bX2.below hb3
          have hB3 := hB2.trans (hb3.mono hB2.size)
          clear s0 s1 s2 s3 s4 s5 s6 s7 lS y0 y1 y2 y3 y4 lX bS2 bX2 
          obtain ⟨⟨⟨s0, s1, s2⟩, s3, s4, s5⟩, s6, s7⟩ := boxS8 bS3
          have lS := bS3.lt
          obtain ⟨⟨y0, y1, y2⟩, y3, y4⟩ := boxS5 bX3
          have lX := bX3.lt
          go_wp2_with fail
          refine (HAR.out _ hB3).mono ?_
          rintro e w4 ⟨v4, rfl, hi4, hb4⟩
          obtain ⟨A4, c4, rfl⟩ := ints_form hi4.out
          have bS4 := bS3.below hb4
          have bX4 := bX3.below hb4
          have hB4 := hB3.trans (hb4.mono hB3.size)
          clear s0 s1 s2 s3 s4 s5 s6 s7 lS y0 y1 y2 y3 y4 lX bS3 bX3 
          obtain ⟨⟨⟨s0, s1, s2⟩, s3, s4, s5⟩, s6, s7⟩ := boxS8 bS4
          have lS := bS4.lt
          obtain ⟨⟨y0, y1, y2⟩, y3, y4⟩ := boxS5 bX4
          have lX := bX4.lt
          go_wp2_with fail
          refine (HNX.out _ hB4).mono ?_
          rintro e w5 ⟨rfl, hb5⟩
          have bS5 := bS4.below hb5
          have bX5 := bX4.below hb5
          have hB5 := hB4.trans (hb5.mono hB4.size)
          clear s0 s1 s2 s3 s4 s5 s6 s7 lS y0 y1 y2 y3 y4 lX bS4 bX4 
          obtain ⟨⟨⟨s0, s1, s2⟩, s3, s4, s5⟩, s6, s7⟩ := boxS8 bS5
          have lS := bS5.lt
          obtain ⟨⟨y0, y1, y2⟩, y3, y4⟩ := boxS5 bX5
          have lX := bX5.lt
          go_wp2_with fail
          refine (HWO.out _ hB5).mono ?_
          rintro e w6 ⟨rfl, hb6⟩
          have bS6 := bS5.below hb6
          have bX6 := bX5.below hb6
          have hB6 := hB5.trans (hb6.mono hB5.size)
          clear s0 s1 s2 s3 s4 s5 s6 s7 lS y0 y1 y2 y3 y4 lX bS5 bX5 
          obtain ⟨⟨⟨s0, s1, s2⟩, s3, s4, s5⟩, s6, s7⟩ := boxS8 bS6
          have lS := bS6.lt
          obtain ⟨⟨y0, y1, y2⟩, y3, y4⟩ := boxS5 bX6
          have lX := bX6.lt
          go_wp2_with fail
          refine (HKN.out _).mono ?_
          rintro e w6' ⟨rfl, rfl⟩
          go_wp2_with fail
          refine (HWK.out _).mono ?_
          rintro e w9 ⟨rfl, hb9⟩
          go_wp2_with fail
          go_returns
          exact ⟨rfl, hB6.trans (hb9.mono hB6.size)⟩
    · have q0 : decide (3 < (d.ws.length : Int)) = true := decide_eq_true (by omega)
      clear hr hg hok hs f1 f2
      obtain ⟨full, read, slip, skew, circ, glo, ghi, wrn, ws⟩ := d
      obtain ⟨x1, x2, x3, x4, x5⟩ := x
      unfold whV at *
      dsimp only at *
      go_enter Try.func9, Try.ntmps9
      go_wp2_with fail
      have bS1 := (BoxS.new w 25 #[.int .i64 full, .int .i64 read, .int .i64 slip, .int .i64 skew, .int .i64 circ, .int .i64 glo, .int .i64 ghi, .int .i64 wrn]).alloc (.cells #[.int .i64 x1, .int .i64 x2, .int .i64 x3, .int .i64 x4, .int .i64 x5] 54)
      have bX1 := BoxS.new (w.alloc (.cells #[.int .i64 full, .int .i64 read, .int .i64 slip, .int .i64 skew, .int .i64 circ, .int .i64 glo, .int .i64 ghi, .int .i64 wrn] 25)) 54 #[.int .i64 x1, .int .i64 x2, .int .i64 x3, .int .i64 x4, .int .i64 x5]
      rw [World.size_alloc] at bX1
      have hB1 : Below w.heap.size w ((w.alloc (.cells #[.int .i64 full, .int .i64 read, .int .i64 slip, .int .i64 skew, .int .i64 circ, .int .i64 glo, .int .i64 ghi, .int .i64 wrn] 25)).alloc (.cells #[.int .i64 x1, .int .i64 x2, .int .i64 x3, .int .i64 x4, .int .i64 x5] 54)) := by (repeat' (first | (with_reducible exact Below.refl _ _) | (with_reducible assumption) | (with_reducible refine Below.alloc ?_ ?_ _) | (with_reducible refine Below.drew ?_) | (with_reducible refine Below.setCell ?_ ?_ _) | go_size | (exact (by simp)) | omega))
      generalize World.alloc (World.alloc w _) _ = w1 at *
      obtain ⟨⟨⟨s0, s1, s2⟩, s3, s4, s5⟩, s6, s7⟩ := boxS8 bS1
      have lS := bS1.lt
      obtain ⟨⟨y0, y1, y2⟩, y3, y4⟩ := boxS5 bX1
      have lX := bX1.lt
      go_wp2_with fail
      refine (HRD.out _ hB1).mono ?_
      rintro e w2 ⟨rfl, hb2⟩
      have bS2 := bS1.below hb2
      have bX2 := bX1.below hb2
      have hB2 := hB1.trans (hb2.mono hB1.size)
      clear s0 s1 s2 s3 s4 s5 s6 s7 lS y0 y1 y2 y3 y4 lX bS1 bX1 hb2 HRD
      obtain ⟨⟨⟨s0, s1, s2⟩, s3, s4, s5⟩, s6, s7⟩ := boxS8 bS2
      have lS := bS2.lt
      obtain ⟨⟨y0, y1, y2⟩, y3, y4⟩ := boxS5 bX2
      have lX := bX2.lt
      go_wp2_with fail
      refine (HWK.out _).mono ?_
      rintro e w9 ⟨rfl, hb9⟩
      go_wp2_with fail
      go_returns
      exact ⟨rfl, hB2.trans (hb9.mono hB2.size)⟩
end Go.Proofs.Ytecmlakcpgkfbaa
