/- Wheels: all areas and skews of truths. -/
import Derived.Test.YtkmacpkjobdffaaGreatWhI
namespace Go.Proofs.YtkmacpkjobdffaaGreat
open Go.RowKit Go.Shelf
namespace Wh
def skewsV (d : Desk) : List Int := if spE d = 0 then allL (fun t => t.2) (truthsL d) else []
end Wh
set_option maxRecDepth 100000 in
theorem theSkew_any : Hid (∀ (x : Wh.Tr) W, Calls Tryz.prog 87 #[.agg #[.int .i64 x.1, .int .i64 x.2]] W fun e w' => e = .returned (.int .i64 ((fun t : Wh.Tr => t.2) x)) ∧ Below W.heap.size W w') := by
  intro x W
  obtain ⟨x1, x2⟩ := x
  dsimp only
  go_enter Tryz.func87, Tryz.ntmps87
  go_wp2_with fail
  go_returns
  exact ⟨rfl, by (repeat' (first | (with_reducible exact Below.refl _ _) | (with_reducible assumption) | (with_reducible refine Below.alloc ?_ ?_ _) | (with_reducible refine Below.drew ?_) | (with_reducible refine Below.setCell ?_ ?_ _) | go_size | (exact (by simp)) | omega))⟩

set_option maxRecDepth 100000 in
set_option maxHeartbeats 4000000 in
theorem Skews_any (d : Wh.Desk) (A : Option Addr) (c : Nat) (w : World) (hl : d.ws.length ≤ 1000000000) (hg : Wks w w.heap.size A d.ws) :
    Calls Tryz.prog 47 #[.agg (whV d), .slice A d.ws.length c] w (IntsEPost (Wh.skewsV d) (Wh.spE d) w) := by
  have HP : Hid (∀ W, Below w.heap.size w W → Calls Tryz.prog 84 #[.agg (whV d), .slice A d.ws.length c] W (SpPost (Wh.spV d A c) (Wh.spE d) W)) := fun W hW => lay_any d A c W hl ((hg.keep hW).wider hW.size)
  unfold Wh.skewsV
  by_cases h0 : Wh.spE d = 0
  · have HA : Hid (∀ W, Below w.heap.size w W → Calls Tryz.prog 85 #[.agg (dkV d A c), .func (.func 87) #[] #[]] W (SortPost (Wh.allL (fun t => t.2) (Wh.truthsL d)) W)) := fun W hW => all_any d (Wh.sp_ok h0).1 87 (fun t => t.2) (fun args W => enters_of Tryz.func87 (by kernel_rfl) rfl args W) (fun x => by have := x.2; unfold Wh.tsm at this; (try dsimp only); omega) theSkew_any A c W ((hg.keep hW).wider hW.size)
    rw [if_pos h0]
    rw [Wh.spV_yes h0, h0] at HP
    rw [h0]
    unfold SortPost at HA
    generalize Wh.allL (fun t => t.2) (Wh.truthsL d) = L at *
    clear hg h0 hl
    obtain ⟨full, read, slip, skew, circ, glo, ghi, wrn, ws⟩ := d
    unfold dkV at *
    unfold whV at *
    dsimp only at *
    go_enter Tryz.func47, Tryz.ntmps47
    go_wp2_with fail
    have hB1 : Below w.heap.size w (w.alloc (.cells #[.int .i64 full, .int .i64 read, .int .i64 slip, .int .i64 skew, .int .i64 circ, .int .i64 glo, .int .i64 ghi, .int .i64 wrn] 25)) := by (repeat' (first | (with_reducible exact Below.refl _ _) | (with_reducible assumption) | (with_reducible refine Below.alloc ?_ ?_ _) | (with_reducible refine Below.drew ?_) | (with_reducible refine Below.setCell ?_ ?_ _) | go_size | (exact (by simp)) | omega))
    generalize World.alloc w _ = w1 at *
    refine (HP.out _ hB1).mono ?_
    rintro e w2 ⟨rfl, hb2⟩
    have hB2 := hB1.trans (hb2.mono hB1.size)
    clear hb2 hB1 HP
    go_wp2_with fail
    have hB3 : Below w.heap.size w (w2.alloc (.cells #[.int .i64 full, .int .i64 read, .int .i64 slip, .int .i64 skew, .int .i64 circ, .int .i64 glo, .int .i64 ghi, .int .i64 wrn, .slice A ws.length c] 115)) := hB2.alloc hB2.size _
    generalize World.alloc w2 _ = w3 at *
    refine (HA.out _ hB3).mono ?_
    rintro e w4 ⟨v, rfl, hrow, _, hb4⟩
    have hB4 := hB3.trans (hb4.mono hB3.size)
    go_wp2_with fail
    go_returns
    exact ⟨v, rfl, Ints.of_own (show w4.ownsRow _ 3 1 v L.length (L.map (Value.int .i64)) from hrow), hB4⟩
  · rw [if_neg h0]
    rw [Wh.spV_no h0] at HP
    have hb : (Wh.spE d == 0) = false := by simpa using h0
    clear hg h0
    generalize Wh.spE d = E at *
    obtain ⟨full, read, slip, skew, circ, glo, ghi, wrn, ws⟩ := d
    unfold whV at *
    dsimp only at *
    go_enter Tryz.func47, Tryz.ntmps47
    go_wp2_with fail
    have hB1 : Below w.heap.size w (w.alloc (.cells #[.int .i64 full, .int .i64 read, .int .i64 slip, .int .i64 skew, .int .i64 circ, .int .i64 glo, .int .i64 ghi, .int .i64 wrn] 25)) := by (repeat' (first | (with_reducible exact Below.refl _ _) | (with_reducible assumption) | (with_reducible refine Below.alloc ?_ ?_ _) | (with_reducible refine Below.drew ?_) | (with_reducible refine Below.setCell ?_ ?_ _) | go_size | (exact (by simp)) | omega))
    generalize World.alloc w _ = w1 at *
    refine (HP.out _ hB1).mono ?_
    rintro e w2 ⟨rfl, hb2⟩
    have hB2 := hB1.trans (hb2.mono hB1.size)
    go_wp2_with fail
    go_returns
    exact ⟨_, rfl, .inl ⟨rfl, rfl⟩, hB2.alloc hB2.size _⟩
end Go.Proofs.YtkmacpkjobdffaaGreat
