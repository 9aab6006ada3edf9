/- Wheels: which wheels a statement does not examine. -/
import Derived.Test.YtecmlakcpgkfbaaRefW
namespace Go.Proofs.Ytecmlakcpgkfbaa
open Go.RowKit
namespace Wh
def bigB (d : Desk) : Bool := ((decide (2 < max (max d.read d.slip) d.skew) || decide (25 < d.ghi - d.glo)) || decide (120 < d.full)) || decide (4 < d.ws.length)
def farB (d : Desk) : Bool := decide (40 < d.ws.length) || (okB d && bigB d)
def readyB (d : Desk) : Bool := !farB d && okB d
end Wh
set_option maxRecDepth 100000 in
set_option maxHeartbeats 4000000 in
theorem Far3_any (d : Wh.Desk) (A : Option Addr) (c : Nat) (w : World) (hl : d.ws.length ≤ 1000000000) (hg : Wks w w.heap.size A d.ws) :
    Calls Try.prog 12 #[.agg (whV d), .slice A d.ws.length c] w fun e w' => e = .returned (.bool (Wh.farB d)) ∧ Below w.heap.size w w' := by
  have HC : Hid (∀ W, Below w.heap.size w W → Calls Try.prog 15 #[.agg (whV d), .slice A d.ws.length c] W (ErrPost (Wh.chkE d) W)) := fun W hW => Check3_any d A c W hl ((hg.keep hW).wider hW.size)
  by_cases h40 : 40 < d.ws.length
  · have hR : Wh.farB d = true := by unfold Wh.farB; rw [decide_eq_true h40]; rfl
    rw [hR]
    have h4i : decide ((40 : Int) < (d.ws.length : Int)) = true := decide_eq_true (by omega)
    clear HC hg
    obtain ⟨full, read, slip, skew, circ, glo, ghi, wrn, ws⟩ := d
    unfold whV
    dsimp only at *
    go_enter Try.func12, Try.ntmps12
    go_wp2_with fail
    go_returns
    exact ⟨rfl, by (repeat' (first | (with_reducible exact Below.refl _ _) | (with_reducible assumption) | (with_reducible refine Below.alloc ?_ ?_ _) | (with_reducible refine Below.drew ?_) | (with_reducible refine Below.setCell ?_ ?_ _) | go_size | (exact (by simp)) | omega))⟩
  · have h4i : decide ((40 : Int) < (d.ws.length : Int)) = false := decide_eq_false (by omega)
    by_cases hok : Wh.okB d = true
    · have hR : Wh.farB d = Wh.bigB d := by unfold Wh.farB; rw [decide_eq_false h40, hok]; rfl
      have hs := Wh.ok_of hok
      have r1 := hs.g1
      have r2 := hs.g2
      have r3 := hs.g3
      rw [hR]
      rw [Wh.chkE_yes hok] at HC
      have HBG : Hid (Wh.bigB d = (((decide (2 < max (max d.read d.slip) d.skew) || decide (25 < d.ghi - d.glo)) || decide (120 < d.full)) || decide (4 < d.ws.length))) := rfl
      have hw1 : IntKind.i64.wrap (d.ghi - d.glo) = d.ghi - d.glo := IntWalk.i64_in _ (by omega)
      have b4 : decide ((4 : Int) < (d.ws.length : Int)) = decide (4 < d.ws.length) := decide_eq_decide.2 (by omega)
      generalize Wh.bigB d = R at *
      clear hs hR hg hok r1 r2 r3 h40
      obtain ⟨full, read, slip, skew, circ, glo, ghi, wrn, ws⟩ := d
      unfold whV at *
      dsimp only at *
      go_enter Try.func12, Try.ntmps12
      go_wp2_with fail
      have bS1 := BoxS.new w 25 #[.int .i64 full, .int .i64 read, .int .i64 slip, .int .i64 skew, .int .i64 circ, .int .i64 glo, .int .i64 ghi, .int .i64 wrn]
      have hB1 : Below w.heap.size w (w.alloc (.cells #[.int .i64 full, .int .i64 read, .int .i64 slip, .int .i64 skew, .int .i64 circ, .int .i64 glo, .int .i64 ghi, .int .i64 wrn] 25)) := by (repeat' (first | (with_reducible exact Below.refl _ _) | (with_reducible assumption) | (with_reducible refine Below.alloc ?_ ?_ _) | (with_reducible refine Below.drew ?_) | (with_reducible refine Below.setCell ?_ ?_ _) | go_size | (exact (by simp)) | omega))
      generalize World.alloc w _ = w1 at *
      refine (HC.out _ hB1).mono ?_
      rintro e w2 ⟨rfl, hb2⟩
      have bS2 := bS1.below hb2
      have hB2 := hB1.trans (hb2.mono hB1.size)
      clear bS1 hB1 hb2 HC
      obtain ⟨⟨⟨s0, s1, s2⟩, s3, s4, s5⟩, s6, s7⟩ := boxS8 bS2
      go_wp2_with fail
      all_goals
        go_returns
        refine ⟨ret_b ?_, hB2⟩
        rw [HBG.out, Bool.eq_iff_iff]
        simp only [Bool.or_eq_true, decide_eq_true_eq] at *
        first | omega | (simp; omega) | (constructor <;> intro <;> simp_all <;> omega)
    · have hno : Wh.okB d = false := by simpa using hok
      have hR : Wh.farB d = false := by unfold Wh.farB; rw [decide_eq_false h40, hno]; rfl
      have hb : (Wh.chkE d == 0) = false := by simpa using Wh.chkE_no hno
      rw [hR]
      generalize Wh.chkE d = E at *
      clear hg hR hok hno
      obtain ⟨full, read, slip, skew, circ, glo, ghi, wrn, ws⟩ := d
      unfold whV at *
      dsimp only at *
      go_enter Try.func12, Try.ntmps12
      go_wp2_with fail
      have hB1 : Below w.heap.size w (w.alloc (.cells #[.int .i64 full, .int .i64 read, .int .i64 slip, .int .i64 skew, .int .i64 circ, .int .i64 glo, .int .i64 ghi, .int .i64 wrn] 25)) := by (repeat' (first | (with_reducible exact Below.refl _ _) | (with_reducible assumption) | (with_reducible refine Below.alloc ?_ ?_ _) | (with_reducible refine Below.drew ?_) | (with_reducible refine Below.setCell ?_ ?_ _) | go_size | (exact (by simp)) | omega))
      generalize World.alloc w _ = w1 at *
      refine (HC.out _ hB1).mono ?_
      rintro e w2 ⟨rfl, hb2⟩
      have hB2 := hB1.trans (hb2.mono hB1.size)
      clear hB1 hb2 HC
      go_wp2_with fail
      go_returns
      exact ⟨rfl, hB2⟩
end Go.Proofs.Ytecmlakcpgkfbaa
