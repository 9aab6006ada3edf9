/- Sheets: what the reference's Check answers. -/
import Derived.Test.YtgpmnkdagpcffaaShS
import Derived.Test.YtgpmnkdagpcffaaRefA
namespace Go.Proofs.Ytgpmnkdagpcffaa
open Go.RowKit
set_option maxHeartbeats 400000 in
theorem within4_any (n l h : Int) (w : World) : Calls Try.prog 77 #[.int .i64 n, .int .i64 l, .int .i64 h] w fun e w' => e = .returned (.bool (inB n l h)) ∧ w' = w := by
  have H : Hid (∀ W, Calls Try.prog 79 #[.int .i64 n, .int .i64 l, .int .i64 h] W fun e w' => e = .returned (.bool (inB n l h)) ∧ W = w') := fun W => Within_any n l h W
  generalize inB n l h = b at *
  go_enter Try.func77, Try.ntmps77
  go_wp2_with fail
  refine (H.out _).mono ?_
  rintro e w1 ⟨rfl, rfl⟩
  go_wp2_with fail
  go_returns
  exact ⟨rfl, rfl⟩
set_option maxHeartbeats 400000 in
theorem isWay4_any (n : Int) (w : World) : Calls Try.prog 78 #[.int .i64 n] w fun e w' => e = .returned (.bool (Sh.wayB n)) ∧ w' = w := by
  go_enter Try.func78, Try.ntmps78
  go_wp2
  all_goals
    go_ret
    refine ⟨ret_b ?_, rfl⟩
    rw [Bool.eq_iff_iff]
    simp [Sh.wayB]
    try omega
set_option maxHeartbeats 400000 in
theorem isSpan4_any (l h : Int) (w : World) : Calls Try.prog 76 #[.agg #[.int .i64 l, .int .i64 h]] w fun e w' => e = .returned (.bool (Sh.spanB l h)) ∧ Below w.heap.size w w' := by
  go_enter Try.func76, Try.ntmps76
  go_wp2
  all_goals
    go_ret
    refine ⟨ret_b ?_, (Below.refl _ _).alloc (Nat.le_refl _) _⟩
    rw [Bool.eq_iff_iff]
    simp [Sh.spanB]
    try omega

set_option maxRecDepth 100000 in
set_option maxHeartbeats 4000000 in
theorem refCheck4_any (s : Sheet) (A : Option Addr) (c : Nat) (w : World) (hl : s.cs.length ≤ 1000000000) (hg : Cts w w.heap.size A s.cs) :
    Calls Try.prog 27 #[.agg (shV s A c)] w (ErrPost (Sh.chkE s) w) := by
  have HH : Hid (Sh.headB s = (((Sh.spanB s.al s.ah && Sh.spanB s.bl s.bh) && decide (s.cs.length ≤ 8)) && inB s.wr 0 8)) := rfl
  have HN : Hid (Sh.headB s = false → Sh.chkE s = 40) := Sh.chkE_head
  have HY : Hid (Sh.headB s = true → Sh.chkE s = if Sh.allTo s.cs s.cs.length then 0 else 40) := fun h => by unfold Sh.chkE Sh.okB; rw [h]; rfl
  obtain ⟨al, ah, bl, bh, cs, wrn⟩ := s
  dsimp only at *
  unfold shV
  dsimp only
  generalize Sh.chkE ⟨al, ah, bl, bh, cs, wrn⟩ = E at *
  generalize Sh.headB ⟨al, ah, bl, bh, cs, wrn⟩ = HB at *
  have H1 : Hid (∀ W, Calls Try.prog 76 #[.agg #[.int .i64 al, .int .i64 ah]] W fun e w' => e = .returned (.bool (Sh.spanB al ah)) ∧ Below W.heap.size W w') := fun W => isSpan4_any al ah W
  have H2 : Hid (∀ W, Calls Try.prog 76 #[.agg #[.int .i64 bl, .int .i64 bh]] W fun e w' => e = .returned (.bool (Sh.spanB bl bh)) ∧ Below W.heap.size W w') := fun W => isSpan4_any bl bh W
  have H4 : Hid (∀ W, Calls Try.prog 77 #[.int .i64 wrn, .int .i64 0, .int .i64 8] W fun e w' => e = .returned (.bool (inB wrn 0 8)) ∧ w' = W) := fun W => within4_any wrn 0 8 W
  have HG := Lib.hid hg
  have hll : (cs.length : Int) ≤ 1000000000 := by omega
  clear hg
  generalize Sh.spanB al ah = b1 at *
  generalize Sh.spanB bl bh = b2 at *
  generalize inB wrn 0 8 = b4 at *
  cases b1 with
  | false =>
    go_enter Try.func27, Try.ntmps27
    go_wp2_with fail
    have bS1 := BoxS.new w 26 #[.int .i64 al, .int .i64 ah, .int .i64 bl, .int .i64 bh, .slice A cs.length c, .int .i64 wrn]
    have hB1 : Below w.heap.size w (w.alloc (.cells #[.int .i64 al, .int .i64 ah, .int .i64 bl, .int .i64 bh, .slice A cs.length c, .int .i64 wrn] 26)) := by (repeat' (first | (with_reducible exact Below.refl _ _) | (with_reducible assumption) | (with_reducible refine Below.alloc ?_ ?_ _) | (with_reducible refine Below.drew ?_) | (with_reducible refine Below.setCell ?_ ?_ _) | go_size | (exact (by simp)) | omega))
    generalize World.alloc w _ = w1 at *
    refine (H1.out _).mono ?_
    rintro e w2 ⟨rfl, hb2⟩
    have bS2 := bS1.below hb2
    have hB2 := hB1.trans (hb2.mono hB1.size)
    clear bS1 hB1 hb2
    obtain ⟨⟨s0, s1, s2⟩, s3, s4, s5⟩ := boxS6 bS2
    go_wp2_with fail
    go_returns
    exact ⟨by rw [HN.out (by rw [HH.out]; simp)]; rfl, hB2⟩
  | true =>
    cases b2 with
    | false =>
      go_enter Try.func27, Try.ntmps27
      go_wp2_with fail
      have bS1 := BoxS.new w 26 #[.int .i64 al, .int .i64 ah, .int .i64 bl, .int .i64 bh, .slice A cs.length c, .int .i64 wrn]
      have hB1 : Below w.heap.size w (w.alloc (.cells #[.int .i64 al, .int .i64 ah, .int .i64 bl, .int .i64 bh, .slice A cs.length c, .int .i64 wrn] 26)) := by (repeat' (first | (with_reducible exact Below.refl _ _) | (with_reducible assumption) | (with_reducible refine Below.alloc ?_ ?_ _) | (with_reducible refine Below.drew ?_) | (with_reducible refine Below.setCell ?_ ?_ _) | go_size | (exact (by simp)) | omega))
      generalize World.alloc w _ = w1 at *
      refine (H1.out _).mono ?_
      rintro e w2 ⟨rfl, hb2⟩
      have bS2 := bS1.below hb2
      have hB2 := hB1.trans (hb2.mono hB1.size)
      clear bS1 hB1 hb2
      obtain ⟨⟨s0, s1, s2⟩, s3, s4, s5⟩ := boxS6 bS2
      go_wp2_with fail
      refine (H2.out _).mono ?_
      rintro e w3 ⟨rfl, hb3⟩
      have bS3 := bS2.below hb3
      have hB3 := hB2.trans (hb3.mono hB2.size)
      clear s0 s1 s2 s3 s4 s5 bS2 hB2 hb3
      obtain ⟨⟨s0, s1, s2⟩, s3, s4, s5⟩ := boxS6 bS3
      go_wp2_with fail
      go_returns
      exact ⟨by rw [HN.out (by rw [HH.out]; simp)]; rfl, hB3⟩
    | true =>
      by_cases h8 : cs.length ≤ 8
      · have h8i : ¬ (8 : Int) < cs.length := by omega
        cases b4 with
        | false =>
          go_enter Try.func27, Try.ntmps27
          go_wp2_with fail
          have bS1 := BoxS.new w 26 #[.int .i64 al, .int .i64 ah, .int .i64 bl, .int .i64 bh, .slice A cs.length c, .int .i64 wrn]
          have hB1 : Below w.heap.size w (w.alloc (.cells #[.int .i64 al, .int .i64 ah, .int .i64 bl, .int .i64 bh, .slice A cs.length c, .int .i64 wrn] 26)) := by (repeat' (first | (with_reducible exact Below.refl _ _) | (with_reducible assumption) | (with_reducible refine Below.alloc ?_ ?_ _) | (with_reducible refine Below.drew ?_) | (with_reducible refine Below.setCell ?_ ?_ _) | go_size | (exact (by simp)) | omega))
          generalize World.alloc w _ = w1 at *
          refine (H1.out _).mono ?_
          rintro e w2 ⟨rfl, hb2⟩
          have bS2 := bS1.below hb2
          have hB2 := hB1.trans (hb2.mono hB1.size)
          clear bS1 hB1 hb2
          obtain ⟨⟨s0, s1, s2⟩, s3, s4, s5⟩ := boxS6 bS2
          go_wp2_with fail
          refine (H2.out _).mono ?_
          rintro e w3 ⟨rfl, hb3⟩
          have bS3 := bS2.below hb3
          have hB3 := hB2.trans (hb3.mono hB2.size)
          clear s0 s1 s2 s3 s4 s5 bS2 hB2 hb3
          obtain ⟨⟨s0, s1, s2⟩, s3, s4, s5⟩ := boxS6 bS3
          go_wp2_with fail
          refine (H4.out _).mono ?_
          rintro e w4 ⟨rfl, rfl⟩
          go_wp2_with fail
          go_returns
          exact ⟨by rw [HN.out (by rw [HH.out]; simp)]; rfl, hB3⟩
        | true =>
          have HE := Lib.hid (HY.out (by rw [HH.out]; simp [h8]))
          go_enter Try.func27, Try.ntmps27
          go_wp2_with fail
          have bS1 := BoxS.new w 26 #[.int .i64 al, .int .i64 ah, .int .i64 bl, .int .i64 bh, .slice A cs.length c, .int .i64 wrn]
          have hB1 : Below w.heap.size w (w.alloc (.cells #[.int .i64 al, .int .i64 ah, .int .i64 bl, .int .i64 bh, .slice A cs.length c, .int .i64 wrn] 26)) := by (repeat' (first | (with_reducible exact Below.refl _ _) | (with_reducible assumption) | (with_reducible refine Below.alloc ?_ ?_ _) | (with_reducible refine Below.drew ?_) | (with_reducible refine Below.setCell ?_ ?_ _) | go_size | (exact (by simp)) | omega))
          generalize World.alloc w _ = w1 at *
          refine (H1.out _).mono ?_
          rintro e w2 ⟨rfl, hb2⟩
          have bS2 := bS1.below hb2
          have hB2 := hB1.trans (hb2.mono hB1.size)
          clear bS1 hB1 hb2
          obtain ⟨⟨s0, s1, s2⟩, s3, s4, s5⟩ := boxS6 bS2
          go_wp2_with fail
          refine (H2.out _).mono ?_
          rintro e w3 ⟨rfl, hb3⟩
          have bS3 := bS2.below hb3
          have hB3 := hB2.trans (hb3.mono hB2.size)
          clear s0 s1 s2 s3 s4 s5 bS2 hB2 hb3
          obtain ⟨⟨s0, s1, s2⟩, s3, s4, s5⟩ := boxS6 bS3
          go_wp2_with fail
          refine (H4.out _).mono ?_
          rintro e w4 ⟨rfl, rfl⟩
          go_wp2_with fail
          clear s0 s1 s2 s3 s4 s5
          go_loopw [3] (fun x wr => ∃ k : Nat, (k : Int) ≤ cs.length ∧ x = .int .i64 k ∧ Hid (Sh.allTo cs k = true) ∧ Below w.heap.size w wr ∧ BoxS wr w.heap.size 26 #[.int .i64 al, .int .i64 ah, .int .i64 bl, .int .i64 bh, .slice A cs.length c, .int .i64 wrn]) (fun x _ => (cs.length - intOf x).toNat)
          case atStart => exact ⟨0, by omega, rfl, rfl, hB3, bS3⟩
          case round =>
            obtain ⟨k, hk, rfl, hall, hB, bS⟩ := hrel
            obtain ⟨⟨s0, s1, s2⟩, s3, s4, s5⟩ := boxS6 bS
            have ls := bS.lt
            have hk0 := Int.natCast_nonneg k
            by_cases hlt : (k : Int) < cs.length
            · have hkn : k < cs.length := by omega
              obtain ⟨bb, off, rfl, hbb, hc⟩ := HG.out (by omega)
              obtain ⟨h0, h1, h2, h3⟩ := hc k hkn
              have a0 := (hB.cell (p := ⟨bb, _, none⟩) hbb).trans h0
              have a1 := (hB.cell (p := ⟨bb, _, none⟩) hbb).trans h1
              have a2 := (hB.cell (p := ⟨bb, _, none⟩) hbb).trans h2
              have a3 := (hB.cell (p := ⟨bb, _, none⟩) hbb).trans h3
              have HS : Hid (Sh.allTo cs (k + 1) = (Sh.allTo cs k && Sh.ctB (Sh.ctAt cs k))) := rfl
              have HNO : Hid (Sh.ctB (Sh.ctAt cs k) = false → Sh.allTo cs cs.length = false) := Sh.allTo_no hkn
              have hw1 : IntKind.i64.wrap ((k : Int) + 1) = (k : Int) + 1 := IntWalk.i64_in _ (by omega)
              clear hc h0 h1 h2 h3
              generalize Sh.ctAt cs k = ct at *
              obtain ⟨c0, c1, c2, c3⟩ := ct
              dsimp only at a0 a1 a2 a3
              have V1 : Hid (∀ W, Calls Try.prog 78 #[.int .i64 c0] W fun e w' => e = .returned (.bool (Sh.wayB c0)) ∧ w' = W) := fun W => isWay4_any c0 W
              have V2 : Hid (∀ W, Calls Try.prog 77 #[.int .i64 c1, .int .i64 1, .int .i64 9999] W fun e w' => e = .returned (.bool (inB c1 1 9999)) ∧ w' = W) := fun W => within4_any c1 1 9999 W
              have V3 : Hid (∀ W, Calls Try.prog 77 #[.int .i64 c2, .int .i64 0, .int .i64 9999] W fun e w' => e = .returned (.bool (inB c2 0 9999)) ∧ w' = W) := fun W => within4_any c2 0 9999 W
              have V4 : Hid (∀ W, Calls Try.prog 77 #[.int .i64 c3, .int .i64 0, .int .i64 9999] W fun e w' => e = .returned (.bool (inB c3 0 9999)) ∧ w' = W) := fun W => within4_any c3 0 9999 W
              have HR : Hid (Sh.ctB (c0, c1, c2, c3) = (((Sh.wayB c0 && inB c1 1 9999) && inB c2 0 9999) && inB c3 0 9999)) := rfl
              generalize Sh.ctB (c0, c1, c2, c3) = cb at *
              generalize Sh.wayB c0 = d1 at *
              generalize inB c1 1 9999 = d2 at *
              generalize inB c2 0 9999 = d3 at *
              generalize inB c3 0 9999 = d4 at *
              go_wp2_with fail
              have hBa : Below w.heap.size w (wr.alloc (.cells #[.int .i64 c0, .int .i64 c1, .int .i64 c2, .int .i64 c3] 29)) := hB.alloc hB.size _
              have bK := BoxS.new wr 29 #[.int .i64 c0, .int .i64 c1, .int .i64 c2, .int .i64 c3]
              have bSa := bS.alloc (.cells #[.int .i64 c0, .int .i64 c1, .int .i64 c2, .int .i64 c3] 29)
              clear a0 a1 a2 a3 s0 s1 s2 s3 s4 s5 bS
              generalize World.alloc wr _ = w5 at *
              obtain ⟨k0, k1, k2, k3⟩ := boxS4 bK
              refine (V1.out _).mono ?_
              rintro e w6 ⟨rfl, rfl⟩
              cases d1 with
              | false =>
                go_wp2_with fail
                go_returns
                exact ⟨by rw [HE.out, HNO.out (by rw [HR.out]; simp)]; rfl, hBa⟩
              | true =>
                go_wp2_with fail
                refine (V2.out _).mono ?_
                rintro e w7 ⟨rfl, rfl⟩
                cases d2 with
                | false =>
                  go_wp2_with fail
                  go_returns
                  exact ⟨by rw [HE.out, HNO.out (by rw [HR.out]; simp)]; rfl, hBa⟩
                | true =>
                  go_wp2_with fail
                  refine (V3.out _).mono ?_
                  rintro e w8 ⟨rfl, rfl⟩
                  cases d3 with
                  | false =>
                    go_wp2_with fail
                    go_returns
                    exact ⟨by rw [HE.out, HNO.out (by rw [HR.out]; simp)]; rfl, hBa⟩
                  | true =>
                    go_wp2_with fail
                    refine (V4.out _).mono ?_
                    rintro e w9 ⟨rfl, rfl⟩
                    cases d4 with
                    | false =>
                      go_wp2_with fail
                      go_returns
                      exact ⟨by rw [HE.out, HNO.out (by rw [HR.out]; simp)]; rfl, hBa⟩
                    | true =>
                      go_wp2_with fail
                      go_roundw
                      case rel => exact ⟨k + 1, by omega, by go_num, by unfold Hid; rw [HS.out, hall.out, HR.out]; rfl, hBa, bSa⟩
                      case measure => simp [intOf]; omega
            · obtain rfl : k = cs.length := by omega
              go_wp2_with fail
              go_returns
              exact ⟨by rw [HE.out, hall.out]; rfl, hB⟩
      · have h8i : (8 : Int) < cs.length := by omega
        go_enter Try.func27, Try.ntmps27
        go_wp2_with fail
        have bS1 := BoxS.new w 26 #[.int .i64 al, .int .i64 ah, .int .i64 bl, .int .i64 bh, .slice A cs.length c, .int .i64 wrn]
        have hB1 : Below w.heap.size w (w.alloc (.cells #[.int .i64 al, .int .i64 ah, .int .i64 bl, .int .i64 bh, .slice A cs.length c, .int .i64 wrn] 26)) := by (repeat' (first | (with_reducible exact Below.refl _ _) | (with_reducible assumption) | (with_reducible refine Below.alloc ?_ ?_ _) | (with_reducible refine Below.drew ?_) | (with_reducible refine Below.setCell ?_ ?_ _) | go_size | (exact (by simp)) | omega))
        generalize World.alloc w _ = w1 at *
        refine (H1.out _).mono ?_
        rintro e w2 ⟨rfl, hb2⟩
        have bS2 := bS1.below hb2
        have hB2 := hB1.trans (hb2.mono hB1.size)
        clear bS1 hB1 hb2
        obtain ⟨⟨s0, s1, s2⟩, s3, s4, s5⟩ := boxS6 bS2
        go_wp2_with fail
        refine (H2.out _).mono ?_
        rintro e w3 ⟨rfl, hb3⟩
        have bS3 := bS2.below hb3
        have hB3 := hB2.trans (hb3.mono hB2.size)
        clear s0 s1 s2 s3 s4 s5 bS2 hB2 hb3
        obtain ⟨⟨s0, s1, s2⟩, s3, s4, s5⟩ := boxS6 bS3
        go_wp2_with fail
        go_returns
        exact ⟨by rw [HN.out (by rw [HH.out]; simp [h8])]; rfl, hB3⟩
end Go.Proofs.Ytgpmnkdagpcffaa
