/- Wheels: how many areas one more walk leaves at the most, by the call. -/
import Derived.Test.YtecmlakcpgkfbaaWhNx
namespace Go.Proofs.Ytecmlakcpgkfbaa
open Go.RowKit
namespace Wh
def worstE (d : Desk) (s t : Int) : Int := if okB d then (if signB s && signB t then spE d else 1) else chkE d
def worstR (d : Desk) (s t : Int) : Int := if worstE d s t = 0 then worstV d s t else 0
end Wh
def WorstPost (v x : Int) (w : World) (e : Ending) (w' : World) : Prop := e = .returned (.tuple #[.int .i64 v, .int .i64 x]) ∧ Below w.heap.size w w'
set_option maxRecDepth 100000 in
set_option maxHeartbeats 8000000 in
theorem Worst_any (d : Wh.Desk) (s t : Int) (A : Option Addr) (c : Nat) (w : World) (hl : d.ws.length ≤ 1000000000) (hg : Wks w w.heap.size A d.ws) :
    Calls Try.prog 30 #[.agg (whV d), .slice A d.ws.length c, .int .i64 s, .int .i64 t] w (WorstPost (Wh.worstR d s t) (Wh.worstE d s t) w) := by
  have HC : Hid (∀ W, Below w.heap.size w W → Calls Try.prog 14 #[.agg (whV d), .slice A d.ws.length c] W (ErrPost (Wh.chkE d) W)) := fun W hW => wCheck_any d A c W hl ((hg.keep hW).wider hW.size)
  have HI1 : Hid (∀ W, Calls Try.prog 63 #[.int .i64 s] W fun e w' => e = .returned (.bool (Wh.signB s)) ∧ w' = W) := fun W => isSign_any s W
  have HI2 : Hid (∀ W, Calls Try.prog 63 #[.int .i64 t] W fun e w' => e = .returned (.bool (Wh.signB t)) ∧ w' = W) := fun W => isSign_any t W
  have HP : Hid (∀ W, Below w.heap.size w W → Calls Try.prog 55 #[.agg (whV d), .slice A d.ws.length c] W (SpPost (Wh.spV d A c) (Wh.spE d) W)) := fun W hW => lay_any d A c W hl ((hg.keep hW).wider hW.size)
  by_cases hok : Wh.okB d = true
  · rw [Wh.chkE_yes hok] at HC
    cases h1 : Wh.signB s
    · have hE : Wh.worstE d s t = 1 := by unfold Wh.worstE; rw [if_pos hok, h1]; rfl
      have hR : Wh.worstR d s t = 0 := by unfold Wh.worstR; rw [hE]; rfl
      rw [hE, hR]
      rw [h1] at HI1
      clear hE hR HP HI2 hok h1 hg hl
      obtain ⟨full, read, slip, skew, circ, glo, ghi, wrn, ws⟩ := d
      unfold whV at *
      dsimp only at *
      go_enter Try.func30, Try.ntmps30
      go_wp2_with fail
      have hB1 : Below w.heap.size w (w.alloc (.cells #[.int .i64 full, .int .i64 read, .int .i64 slip, .int .i64 skew, .int .i64 circ, .int .i64 glo, .int .i64 ghi, .int .i64 wrn] 25)) := by (repeat' (first | (with_reducible exact Below.refl _ _) | (with_reducible assumption) | (with_reducible refine Below.alloc ?_ ?_ _) | (with_reducible refine Below.drew ?_) | (with_reducible refine Below.setCell ?_ ?_ _) | go_size | (exact (by simp)) | omega))
      have bw1 := BoxS.new w 25 #[.int .i64 full, .int .i64 read, .int .i64 slip, .int .i64 skew, .int .i64 circ, .int .i64 glo, .int .i64 ghi, .int .i64 wrn]
      generalize World.alloc w _ = w1 at *
      refine (HC.out _ hB1).mono ?_
      rintro e w2 ⟨rfl, hb2⟩
      have hB2 := hB1.trans (hb2.mono hB1.size)
      have bw2 := bw1.below hb2
      clear hb2 hB1 HC bw1
      obtain ⟨⟨⟨a0, a1, a2⟩, a3, a4, a5⟩, a6, a7⟩ := boxS8 bw2
      go_wp2_with fail
      refine (HI1.out _).mono ?_
      rintro e w3 ⟨rfl, rfl⟩
      go_wp2_with fail
      go_returns
      exact ⟨rfl, hB2⟩
    · cases h2 : Wh.signB t
      · have hE : Wh.worstE d s t = 1 := by unfold Wh.worstE; rw [if_pos hok, h1, h2]; rfl
        have hR : Wh.worstR d s t = 0 := by unfold Wh.worstR; rw [hE]; rfl
        rw [hE, hR]
        rw [h1] at HI1
        rw [h2] at HI2
        clear hE hR HP hok h1 h2 hg hl
        obtain ⟨full, read, slip, skew, circ, glo, ghi, wrn, ws⟩ := d
        unfold whV at *
        dsimp only at *
        go_enter Try.func30, Try.ntmps30
        go_wp2_with fail
        have hB1 : Below w.heap.size w (w.alloc (.cells #[.int .i64 full, .int .i64 read, .int .i64 slip, .int .i64 skew, .int .i64 circ, .int .i64 glo, .int .i64 ghi, .int .i64 wrn] 25)) := by (repeat' (first | (with_reducible exact Below.refl _ _) | (with_reducible assumption) | (with_reducible refine Below.alloc ?_ ?_ _) | (with_reducible refine Below.drew ?_) | (with_reducible refine Below.setCell ?_ ?_ _) | go_size | (exact (by simp)) | omega))
        have bw1 := BoxS.new w 25 #[.int .i64 full, .int .i64 read, .int .i64 slip, .int .i64 skew, .int .i64 circ, .int .i64 glo, .int .i64 ghi, .int .i64 wrn]
        generalize World.alloc w _ = w1 at *
        refine (HC.out _ hB1).mono ?_
        rintro e w2 ⟨rfl, hb2⟩
        have hB2 := hB1.trans (hb2.mono hB1.size)
        have bw2 := bw1.below hb2
        clear hb2 hB1 HC bw1
        obtain ⟨⟨⟨a0, a1, a2⟩, a3, a4, a5⟩, a6, a7⟩ := boxS8 bw2
        go_wp2_with fail
        refine (HI1.out _).mono ?_
        rintro e w3 ⟨rfl, rfl⟩
        go_wp2_with fail
        refine (HI2.out _).mono ?_
        rintro e w4 ⟨rfl, rfl⟩
        go_wp2_with fail
        go_returns
        exact ⟨rfl, hB2⟩
      · have hE : Wh.worstE d s t = Wh.spE d := by unfold Wh.worstE; rw [if_pos hok, h1, h2]; rfl
        by_cases h0 : Wh.spE d = 0
        · have hR : Wh.worstR d s t = Wh.worstV d s t := by unfold Wh.worstR; rw [hE, if_pos h0]
          have HWO : Hid (∀ W, Below w.heap.size w W → Calls Try.prog 64 #[.agg (dkV d A c), .agg #[.int .i64 s, .int .i64 t]] W fun e w' => e = .returned (.int .i64 (Wh.worstV d s t)) ∧ Below W.heap.size W w') := fun W hW => by
            have q1 := Wh.signB_iff.1 h1
            have q2 := Wh.signB_iff.1 h2
            exact worst_any d hok s t (by omega) (by omega) A c W ((hg.keep hW).wider hW.size)
          rw [hE, hR, h0]
          rw [h1] at HI1
          rw [h2] at HI2
          rw [Wh.spV_yes h0, h0] at HP
          generalize Wh.worstV d s t = WV at *
          clear hE hR hok h1 h2 hg hl h0
          obtain ⟨full, read, slip, skew, circ, glo, ghi, wrn, ws⟩ := d
          unfold dkV at *
          unfold whV at *
          dsimp only at *
          go_enter Try.func30, Try.ntmps30
          go_wp2_with fail
          have hB1 : Below w.heap.size w (w.alloc (.cells #[.int .i64 full, .int .i64 read, .int .i64 slip, .int .i64 skew, .int .i64 circ, .int .i64 glo, .int .i64 ghi, .int .i64 wrn] 25)) := by (repeat' (first | (with_reducible exact Below.refl _ _) | (with_reducible assumption) | (with_reducible refine Below.alloc ?_ ?_ _) | (with_reducible refine Below.drew ?_) | (with_reducible refine Below.setCell ?_ ?_ _) | go_size | (exact (by simp)) | omega))
          have bw1 := BoxS.new w 25 #[.int .i64 full, .int .i64 read, .int .i64 slip, .int .i64 skew, .int .i64 circ, .int .i64 glo, .int .i64 ghi, .int .i64 wrn]
          generalize World.alloc w _ = w1 at *
          refine (HC.out _ hB1).mono ?_
          rintro e w2 ⟨rfl, hb2⟩
          have hB2 := hB1.trans (hb2.mono hB1.size)
          have bw2 := bw1.below hb2
          clear hb2 hB1 HC bw1
          obtain ⟨⟨⟨a0, a1, a2⟩, a3, a4, a5⟩, a6, a7⟩ := boxS8 bw2
          go_wp2_with fail
          refine (HI1.out _).mono ?_
          rintro e w3 ⟨rfl, rfl⟩
          go_wp2_with fail
          refine (HI2.out _).mono ?_
          rintro e w4 ⟨rfl, rfl⟩
          go_wp2_with fail
          refine (HP.out _ hB2).mono ?_
          rintro e w3 ⟨rfl, hb3⟩
          have hB3 := hB2.trans (hb3.mono hB2.size)
          go_wp2_with fail
          refine (HWO.out _ (hB3.alloc hB3.size _)).mono ?_
          rintro e w4 ⟨rfl, hb4⟩
          have hB4 := (hB3.alloc hB3.size (.cells #[.int .i64 full, .int .i64 read, .int .i64 slip, .int .i64 skew, .int .i64 circ, .int .i64 glo, .int .i64 ghi, .int .i64 wrn, .slice A ws.length c] 77)).trans (hb4.mono (by have := hB3.size; simp; omega))
          go_wp2_with fail
          go_returns
          exact ⟨rfl, hB4⟩
        · have hR : Wh.worstR d s t = 0 := by unfold Wh.worstR; rw [hE, if_neg h0]
          rw [hE, hR]
          rw [h1] at HI1
          rw [h2] at HI2
          rw [Wh.spV_no h0] at HP
          have hb : (Wh.spE d == 0) = false := by simpa using h0
          generalize Wh.spE d = E at *
          clear hE hR hok h1 h2 hg hl h0
          obtain ⟨full, read, slip, skew, circ, glo, ghi, wrn, ws⟩ := d
          unfold whV at *
          dsimp only at *
          go_enter Try.func30, Try.ntmps30
          go_wp2_with fail
          have hB1 : Below w.heap.size w (w.alloc (.cells #[.int .i64 full, .int .i64 read, .int .i64 slip, .int .i64 skew, .int .i64 circ, .int .i64 glo, .int .i64 ghi, .int .i64 wrn] 25)) := by (repeat' (first | (with_reducible exact Below.refl _ _) | (with_reducible assumption) | (with_reducible refine Below.alloc ?_ ?_ _) | (with_reducible refine Below.drew ?_) | (with_reducible refine Below.setCell ?_ ?_ _) | go_size | (exact (by simp)) | omega))
          have bw1 := BoxS.new w 25 #[.int .i64 full, .int .i64 read, .int .i64 slip, .int .i64 skew, .int .i64 circ, .int .i64 glo, .int .i64 ghi, .int .i64 wrn]
          generalize World.alloc w _ = w1 at *
          refine (HC.out _ hB1).mono ?_
          rintro e w2 ⟨rfl, hb2⟩
          have hB2 := hB1.trans (hb2.mono hB1.size)
          have bw2 := bw1.below hb2
          clear hb2 hB1 HC bw1
          obtain ⟨⟨⟨a0, a1, a2⟩, a3, a4, a5⟩, a6, a7⟩ := boxS8 bw2
          go_wp2_with fail
          refine (HI1.out _).mono ?_
          rintro e w3 ⟨rfl, rfl⟩
          go_wp2_with fail
          refine (HI2.out _).mono ?_
          rintro e w4 ⟨rfl, rfl⟩
          go_wp2_with fail
          refine (HP.out _ hB2).mono ?_
          rintro e w3 ⟨rfl, hb3⟩
          have hB3 := hB2.trans (hb3.mono hB2.size)
          go_wp2_with fail
          go_returns
          exact ⟨rfl, hB3.alloc hB3.size _⟩
  · have hno : Wh.okB d = false := by simpa using hok
    have hE : Wh.worstE d s t = Wh.chkE d := by unfold Wh.worstE; rw [if_neg hok]
    have hR : Wh.worstR d s t = 0 := by unfold Wh.worstR; rw [hE, if_neg (Wh.chkE_no hno)]
    have hb : (Wh.chkE d == 0) = false := by simpa using Wh.chkE_no hno
    rw [hE, hR]
    generalize Wh.chkE d = E at *
    clear hE hR HP HI1 HI2 hok hno hg hl
    obtain ⟨full, read, slip, skew, circ, glo, ghi, wrn, ws⟩ := d
    unfold whV at *
    dsimp only at *
    go_enter Try.func30, Try.ntmps30
    go_wp2_with fail
    have hB1 : Below w.heap.size w (w.alloc (.cells #[.int .i64 full, .int .i64 read, .int .i64 slip, .int .i64 skew, .int .i64 circ, .int .i64 glo, .int .i64 ghi, .int .i64 wrn] 25)) := by (repeat' (first | (with_reducible exact Below.refl _ _) | (with_reducible assumption) | (with_reducible refine Below.alloc ?_ ?_ _) | (with_reducible refine Below.drew ?_) | (with_reducible refine Below.setCell ?_ ?_ _) | go_size | (exact (by simp)) | omega))
    have bw1 := BoxS.new w 25 #[.int .i64 full, .int .i64 read, .int .i64 slip, .int .i64 skew, .int .i64 circ, .int .i64 glo, .int .i64 ghi, .int .i64 wrn]
    generalize World.alloc w _ = w1 at *
    refine (HC.out _ hB1).mono ?_
    rintro e w2 ⟨rfl, hb2⟩
    have hB2 := hB1.trans (hb2.mono hB1.size)
    have bw2 := bw1.below hb2
    clear hb2 hB1 HC bw1
    obtain ⟨⟨⟨a0, a1, a2⟩, a3, a4, a5⟩, a6, a7⟩ := boxS8 bw2
    go_wp2_with fail
    go_returns
    exact ⟨rfl, hB2⟩
end Go.Proofs.Ytecmlakcpgkfbaa
