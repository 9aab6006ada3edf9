/- Trials: gains and skews of all truths. -/
import Derived.Test.YtkmacpkjobdffaaGreatTiO
namespace Go.Proofs.YtkmacpkjobdffaaGreat
open Go.RowKit Go.Maps
set_option maxHeartbeats 1000000 in
theorem Gains1_any (x : Ti.GkS) (w : World) : Calls Tryz.prog 58 #[.agg #[.int .i64 x.1.1, .int .i64 x.1.2]] w fun e w' => e = .returned (.int .i64 x.1.1) ∧ Below w.heap.size w w' := by
  generalize x.1.1 = a at *
  generalize x.1.2 = b at *
  go_enter Tryz.func58, Tryz.ntmps58
  go_wp2_with fail
  go_returns
  exact ⟨rfl, by (repeat' (first | (with_reducible exact Below.refl _ _) | (with_reducible assumption) | (with_reducible refine Below.alloc ?_ ?_ _) | (with_reducible refine Below.drew ?_) | (with_reducible refine Below.setCell ?_ ?_ _) | go_size | (exact (by simp)) | omega))⟩
set_option maxHeartbeats 4000000 in
theorem GainsT_any (t : Ti.Tri) (A : Option Addr) (c : Nat) (w : World) (hl : t.ts.length ≤ 1000000000) (hg : Tsts w w.heap.size A t.ts) :
    Calls Tryz.prog 15 #[.agg (tiV t A c)] w (IntsEPost (Ti.allE (fun x => x.1) (Ti.opE t true) t) (Ti.opE t true) w) := by
  have HA : Hid (∀ W, Below w.heap.size w W → Calls Tryz.prog 57 #[.agg (tiV t A c), .bool true, .func (.func 58) #[] #[]] W (IntsEPost (Ti.allE (fun x => x.1) (Ti.opE t true) t) (Ti.opE t true) W)) := fun W hW =>
    allT_any t true 58 (fun x => x.1) (fun args W => enters_of Tryz.func58 (by kernel_rfl) rfl args W) (fun x => by have := x.2; unfold Ti.gsm at this; (try dsimp only); omega) A c W hl ((hg.keep hW).wider hW.size) (fun x W => Gains1_any x W)
  unfold IntsEPost at *
  generalize Ti.allE (fun x => x.1) (Ti.opE t true) t = L at *
  generalize Ti.opE t true = E at *
  clear hg
  unfold tiV at *
  obtain ⟨d, gain, ts⟩ := t
  obtain ⟨full, read, slip, skew, circ, glo, ghi, wrn, dws⟩ := d
  dsimp only at *
  go_enter Tryz.func15, Tryz.ntmps15
  go_wp2_with fail
  have hB1 : Below w.heap.size w (w.alloc (.cells #[.int .i64 full, .int .i64 read, .int .i64 slip, .int .i64 skew, .int .i64 circ, .int .i64 glo, .int .i64 ghi, .int .i64 wrn, .int .i64 gain, .slice A ts.length c] 28)) := by (repeat' (first | (with_reducible exact Below.refl _ _) | (with_reducible assumption) | (with_reducible refine Below.alloc ?_ ?_ _) | (with_reducible refine Below.drew ?_) | (with_reducible refine Below.setCell ?_ ?_ _) | go_size | (exact (by simp)) | omega))
  generalize World.alloc w _ = w1 at *
  refine (HA.out _ hB1).mono ?_
  rintro e w2 ⟨v, rfl, hv, hb2⟩
  have hB2 := hB1.trans (hb2.mono hB1.size)
  go_wp2_with fail
  go_returns
  exact ⟨v, rfl, hv, hB2⟩
set_option maxHeartbeats 1000000 in
theorem Skews1_any (x : Ti.GkS) (w : World) : Calls Tryz.prog 60 #[.agg #[.int .i64 x.1.1, .int .i64 x.1.2]] w fun e w' => e = .returned (.int .i64 x.1.2) ∧ Below w.heap.size w w' := by
  generalize x.1.1 = a at *
  generalize x.1.2 = b at *
  go_enter Tryz.func60, Tryz.ntmps60
  go_wp2_with fail
  go_returns
  exact ⟨rfl, by (repeat' (first | (with_reducible exact Below.refl _ _) | (with_reducible assumption) | (with_reducible refine Below.alloc ?_ ?_ _) | (with_reducible refine Below.drew ?_) | (with_reducible refine Below.setCell ?_ ?_ _) | go_size | (exact (by simp)) | omega))⟩
set_option maxHeartbeats 4000000 in
theorem SkewsT_any (t : Ti.Tri) (A : Option Addr) (c : Nat) (w : World) (hl : t.ts.length ≤ 1000000000) (hg : Tsts w w.heap.size A t.ts) :
    Calls Tryz.prog 17 #[.agg (tiV t A c)] w (IntsEPost (Ti.allE (fun x => x.2) (Ti.opE t true) t) (Ti.opE t true) w) := by
  have HA : Hid (∀ W, Below w.heap.size w W → Calls Tryz.prog 57 #[.agg (tiV t A c), .bool true, .func (.func 60) #[] #[]] W (IntsEPost (Ti.allE (fun x => x.2) (Ti.opE t true) t) (Ti.opE t true) W)) := fun W hW =>
    allT_any t true 60 (fun x => x.2) (fun args W => enters_of Tryz.func60 (by kernel_rfl) rfl args W) (fun x => by have := x.2; unfold Ti.gsm at this; (try dsimp only); omega) A c W hl ((hg.keep hW).wider hW.size) (fun x W => Skews1_any x W)
  unfold IntsEPost at *
  generalize Ti.allE (fun x => x.2) (Ti.opE t true) t = L at *
  generalize Ti.opE t true = E at *
  clear hg
  unfold tiV at *
  obtain ⟨d, gain, ts⟩ := t
  obtain ⟨full, read, slip, skew, circ, glo, ghi, wrn, dws⟩ := d
  dsimp only at *
  go_enter Tryz.func17, Tryz.ntmps17
  go_wp2_with fail
  have hB1 : Below w.heap.size w (w.alloc (.cells #[.int .i64 full, .int .i64 read, .int .i64 slip, .int .i64 skew, .int .i64 circ, .int .i64 glo, .int .i64 ghi, .int .i64 wrn, .int .i64 gain, .slice A ts.length c] 28)) := by (repeat' (first | (with_reducible exact Below.refl _ _) | (with_reducible assumption) | (with_reducible refine Below.alloc ?_ ?_ _) | (with_reducible refine Below.drew ?_) | (with_reducible refine Below.setCell ?_ ?_ _) | go_size | (exact (by simp)) | omega))
  generalize World.alloc w _ = w1 at *
  refine (HA.out _ hB1).mono ?_
  rintro e w2 ⟨v, rfl, hv, hb2⟩
  have hB2 := hB1.trans (hb2.mono hB1.size)
  go_wp2_with fail
  go_returns
  exact ⟨v, rfl, hv, hB2⟩
end Go.Proofs.YtkmacpkjobdffaaGreat
