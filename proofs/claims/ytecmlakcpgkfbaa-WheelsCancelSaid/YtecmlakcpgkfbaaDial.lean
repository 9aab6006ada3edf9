/- The law's look at the examples of wheels, corners and arms. -/
import Derived.Test.YtecmlakcpgkfbaaRndP
import Derived.Test.YtecmlakcpgkfbaaArmsH
namespace Go.Proofs.Ytecmlakcpgkfbaa
open Go.RowKit
def exWs : List Wh.Wk := [(1, 1, 0, 10, 62), (1, -1, 0, 62, 16)]
def exD : Wh.Desk := ⟨100, 0, 0, 2, 0, 40, 60, 0, exWs⟩
theorem exD_ok : Wh.okB exD = true := by decide +kernel
theorem exD_ne : Wh.truthsL exD ≠ [] := by decide +kernel
theorem exD_all : ∀ x ∈ Wh.truthsL exD, x.1.1 = 53 := by decide +kernel
theorem exD_sp : Wh.spE exD = 0 := Wh.sp_yes exD_ok exD_ne
theorem exD_areas : Wh.areasV exD = [53] := by
  unfold Wh.areasV
  rw [if_pos exD_sp]
  exact Wh.all_one _ _ _ exD_ne exD_all
set_option maxRecDepth 100000 in
set_option maxHeartbeats 2000000 in
theorem Example3_any (w : World) : Calls Try.prog 48 #[] w fun e w' => ∃ A c, e = .returned (.tuple #[.agg #[.int .i64 100, .int .i64 0, .int .i64 0, .int .i64 2, .int .i64 0, .int .i64 40, .int .i64 60, .int .i64 0], .slice A 2 c]) ∧ Hid (Wks w' w'.heap.size A exWs) ∧ Below w.heap.size w w' := by
  go_enter Try.func48, Try.ntmps48
  go_wp2_with fail
  refine bodyPost_ret (v := .tuple #[.agg #[.int .i64 100, .int .i64 0, .int .i64 0, .int .i64 2, .int .i64 0, .int .i64 40, .int .i64 60, .int .i64 0], .slice (some ⟨w.heap.size + 1, 0, none⟩) 2 2]) (by simp [results, Try.results48, go_sem]) rfl ?_
  have hb : BoxS ((w.alloc (.cells #[.int .i64 100, .int .i64 0, .int .i64 0, .int .i64 2, .int .i64 0, .int .i64 40, .int .i64 60, .int .i64 0] 25)).alloc (.cells #[.int .i64 1, .int .i64 1, .int .i64 0, .int .i64 10, .int .i64 62, .int .i64 1, .int .i64 (-1), .int .i64 0, .int .i64 62, .int .i64 16] 54)) (w.heap.size + 1) 54 #[.int .i64 1, .int .i64 1, .int .i64 0, .int .i64 10, .int .i64 62, .int .i64 1, .int .i64 (-1), .int .i64 0, .int .i64 62, .int .i64 16] := by
    have := BoxS.new (w.alloc (.cells #[.int .i64 100, .int .i64 0, .int .i64 0, .int .i64 2, .int .i64 0, .int .i64 40, .int .i64 60, .int .i64 0] 25)) 54 #[.int .i64 1, .int .i64 1, .int .i64 0, .int .i64 10, .int .i64 62, .int .i64 1, .int .i64 (-1), .int .i64 0, .int .i64 62, .int .i64 16]
    rw [World.size_alloc] at this
    exact this
  refine ⟨some ⟨w.heap.size + 1, 0, none⟩, 2, rfl, fun _ => ⟨w.heap.size + 1, 0, rfl, by simp, fun k hk => ?_⟩, by (repeat' (first | (with_reducible exact Below.refl _ _) | (with_reducible assumption) | (with_reducible refine Below.alloc ?_ ?_ _) | (with_reducible refine Below.drew ?_) | (with_reducible refine Below.setCell ?_ ?_ _) | go_size | (exact (by simp)) | omega))⟩
  rcases k with _ | _ | k
  · exact ⟨hb.cell 0 rfl, hb.cell 1 rfl, hb.cell 2 rfl, hb.cell 3 rfl, hb.cell 4 rfl⟩
  · exact ⟨hb.cell 5 rfl, hb.cell 6 rfl, hb.cell 7 rfl, hb.cell 8 rfl, hb.cell 9 rfl⟩
  · simp [exWs] at hk
    omega
def exP : List Geo.Pt := [(0, 0), (4, 0), (4, 3), (2, 1), (0, 3)]
theorem exP_valid : Geo.validB exP = true := by decide +kernel
theorem exP_tw : Geo.whenV exP (Geo.tot Geo.fanV exP) = 16 := (Geo.whenV_yes exP_valid _).trans (by decide +kernel)
set_option maxRecDepth 100000 in
set_option maxHeartbeats 2000000 in
theorem Example2_any (w : World) : Calls Try.prog 74 #[] w fun e w' => ∃ A c, e = .returned (.slice A 5 c) ∧ Hid (Prs w' w'.heap.size A exP) ∧ Below w.heap.size w w' := by
  go_enter Try.func74, Try.ntmps74
  go_wp2_with fail
  go_returns
  refine ⟨some ⟨w.heap.size, 0, none⟩, 5, rfl, fun _ => ⟨w.heap.size, 0, rfl, by simp, fun k g hk => ?_⟩, (Below.refl _ _).alloc (Nat.le_refl _) _⟩
  have hb := BoxS.new w 105 #[.int .i64 0, .int .i64 0, .int .i64 4, .int .i64 0, .int .i64 4, .int .i64 3, .int .i64 2, .int .i64 1, .int .i64 0, .int .i64 3]
  rcases k with _ | _ | _ | _ | _ | k
  · obtain rfl : g = (0, 0) := by simpa [exP] using hk.symm
    exact ⟨hb.cell 0 rfl, hb.cell 1 rfl⟩
  · obtain rfl : g = (4, 0) := by simpa [exP] using hk.symm
    exact ⟨hb.cell 2 rfl, hb.cell 3 rfl⟩
  · obtain rfl : g = (4, 3) := by simpa [exP] using hk.symm
    exact ⟨hb.cell 4 rfl, hb.cell 5 rfl⟩
  · obtain rfl : g = (2, 1) := by simpa [exP] using hk.symm
    exact ⟨hb.cell 6 rfl, hb.cell 7 rfl⟩
  · obtain rfl : g = (0, 3) := by simpa [exP] using hk.symm
    exact ⟨hb.cell 8 rfl, hb.cell 9 rfl⟩
  · simp [exP] at hk
set_option maxRecDepth 100000 in
theorem Example1_any (w : World) : Calls Try.prog 75 #[] w fun e w' => e = .returned (.tuple #[.agg #[.int .i64 1, .int .i64 2, .int .i64 3, .int .i64 10, .int .i64 10, .int .i64 200], .agg #[.int .i64 10, .int .i64 1]]) ∧ Below w.heap.size w w' := by
  go_enter Try.func75, Try.ntmps75
  go_wp2
  refine bodyPost_ret (v := .tuple #[.agg #[.int .i64 1, .int .i64 2, .int .i64 3, .int .i64 10, .int .i64 10, .int .i64 200], .agg #[.int .i64 10, .int .i64 1]]) (by simp [results, Try.results75, go_sem]) rfl ?_
  exact ⟨rfl, by (repeat' (first | (with_reducible exact Below.refl _ _) | (with_reducible assumption) | (with_reducible refine Below.alloc ?_ ?_ _) | (with_reducible refine below_drewN ?_ _) | (with_reducible refine Below.drew ?_) | (with_reducible refine Below.setCell ?_ ?_ _) | go_size))⟩
theorem exA_val : (Arm.valN 1 2 3 10 10 200 40 (inB 40 10 200) = 6 ∧ Arm.valD 1 2 3 10 10 200 40 (inB 40 10 200) = 1) ∧ Arm.valE 1 2 3 10 10 200 40 (inB 40 10 200) = 0 := by decide +kernel
set_option maxRecDepth 100000 in
set_option maxHeartbeats 4000000 in
theorem dialled_any (w : World) : Calls Try.prog 46 #[] w fun e w' => e = .returned (.bool true) ∧ Below w.heap.size w w' := by
  have HE3 : Hid (∀ W, Calls Try.prog 48 #[] W fun e w' => ∃ A c, e = .returned (.tuple #[.agg #[.int .i64 100, .int .i64 0, .int .i64 0, .int .i64 2, .int .i64 0, .int .i64 40, .int .i64 60, .int .i64 0], .slice A 2 c]) ∧ Hid (Wks w' w'.heap.size A exWs) ∧ Below W.heap.size W w') := Example3_any
  have HE2 : Hid (∀ W, Calls Try.prog 74 #[] W fun e w' => ∃ A c, e = .returned (.slice A 5 c) ∧ Hid (Prs w' w'.heap.size A exP) ∧ Below W.heap.size W w') := Example2_any
  have HE1 : Hid (∀ W, Calls Try.prog 75 #[] W fun e w' => e = .returned (.tuple #[.agg #[.int .i64 1, .int .i64 2, .int .i64 3, .int .i64 10, .int .i64 10, .int .i64 200], .agg #[.int .i64 10, .int .i64 1]]) ∧ Below W.heap.size W w') := Example1_any
  have HA : Hid (∀ A c W, Wks W W.heap.size A exWs → Calls Try.prog 20 #[.agg #[.int .i64 100, .int .i64 0, .int .i64 0, .int .i64 2, .int .i64 0, .int .i64 40, .int .i64 60, .int .i64 0], .slice A 2 c] W (IntsEPost [53] 0 W)) := fun A c W hW => by
    have := Areas_any exD A c W (by decide) hW
    rw [exD_areas, exD_sp] at this
    exact this
  have HT : Hid (∀ A c W, Prs W W.heap.size A exP → Calls Try.prog 47 #[.slice A 5 c] W fun e w' => e = .returned (.tuple #[.int .i64 16, .int .i64 0]) ∧ Below W.heap.size W w') := fun A c W hW => by
    have := Twice_any A c exP (by decide) W hW
    rw [exP_tw, Geo.errV_yes exP_valid] at this
    exact this
  have HV : Hid (∀ W, Calls Try.prog 76 #[.agg #[.int .i64 1, .int .i64 2, .int .i64 3, .int .i64 10, .int .i64 10, .int .i64 200], .int .i64 40] W fun e w' => e = .returned (.tuple #[.agg #[.int .i64 6, .int .i64 1], .int .i64 0]) ∧ Below W.heap.size W w') := fun W => by
    have := Value_any 1 2 3 10 10 200 40 W
    rw [exA_val.1.1, exA_val.1.2, exA_val.2] at this
    exact this
  unfold IntsEPost at HA
  generalize exWs = EW at *
  generalize exP = EP at *
  go_enter Try.func46, Try.ntmps46
  go_wp2_with fail
  refine (HE3.out _).mono ?_
  rintro e w1 ⟨A, c, rfl, hW, hB1⟩
  have bW1 := BoxS.new w1 25 #[.int .i64 100, .int .i64 0, .int .i64 0, .int .i64 2, .int .i64 0, .int .i64 40, .int .i64 60, .int .i64 0]
  have hb1 : Below w1.heap.size w1 (w1.alloc (.cells #[.int .i64 100, .int .i64 0, .int .i64 0, .int .i64 2, .int .i64 0, .int .i64 40, .int .i64 60, .int .i64 0] 25)) := (Below.refl _ _).alloc (Nat.le_refl _) _
  go_wp2_with fail
  have hB2 := hB1.trans (hb1.mono hB1.size)
  have hW2 := Lib.hid ((hW.out.keep hb1).wider hb1.size)
  clear hW hb1 hB1 bW1
  generalize World.alloc w1 _ = w2 at *
  refine (HA.out A c _ hW2.out).mono ?_
  rintro e w3 ⟨v, rfl, hI3, hb3⟩
  have hB3 := hB2.trans (hb3.mono hB2.size)
  clear hW2 hB2 hb3
  go_wp2_with fail
  refine (HE2.out _).mono ?_
  rintro e w4 ⟨A2, c2, rfl, hP4, hb4⟩
  have hB4 := hB3.trans (hb4.mono hB3.size)
  have hI4 := Lib.hid (Ints.more (Ints.keep hI3.out hb4) hb4.size)
  clear hB3 hb4 hI3
  go_wp2_with fail
  refine (HT.out A2 c2 _ hP4.out).mono ?_
  rintro e w5 ⟨rfl, hb5⟩
  have hB5 := hB4.trans (hb5.mono hB4.size)
  have hI5 := Lib.hid (Ints.more (Ints.keep hI4.out hb5) hb5.size)
  clear hB4 hb5 hI4 hP4
  go_wp2_with fail
  refine (HE1.out _).mono ?_
  rintro e w6 ⟨rfl, hb6⟩
  have hB6 := hB5.trans (hb6.mono hB5.size)
  have hI6 := Lib.hid (Ints.more (Ints.keep hI5.out hb6) hb6.size)
  clear hB5 hb6 hI5
  go_wp2_with fail
  have hx : Below w6.heap.size w6 ((w6.alloc (.cells #[.int .i64 1, .int .i64 2, .int .i64 3, .int .i64 10, .int .i64 10, .int .i64 200] 113)).alloc (.cells #[.int .i64 10, .int .i64 1] 115)) := by (repeat' (first | (with_reducible exact Below.refl _ _) | (with_reducible assumption) | (with_reducible refine Below.alloc ?_ ?_ _) | (with_reducible refine Below.drew ?_) | (with_reducible refine Below.setCell ?_ ?_ _) | go_size | (exact (by simp)) | omega))
  have hB7 := hB6.trans (hx.mono hB6.size)
  have hI7 := Lib.hid (Ints.more (Ints.keep hI6.out hx) hx.size)
  clear hB6 hI6 hx
  generalize World.alloc (World.alloc w6 _) _ = w7 at *
  refine (HV.out _).mono ?_
  rintro e w8 ⟨rfl, hb8⟩
  have hB8 := hB7.trans (hb8.mono hB7.size)
  have hI8 := Ints.more (Ints.keep hI7.out hb8) hb8.size
  clear hB7 hb8 hI7
  rcases hI8 with ⟨_, h⟩ | ⟨b, off, cap, rfl, hbl, hc⟩
  · cases h
  · have c0 : w8.cell? ⟨b, off, none⟩ = some (.int .i64 53) := hc 0 53 rfl
    clear hc
    go_wp2_with fail
    go_returns
    have hz8 := hB8.size
    exact ⟨rfl, hB8.alloc hz8 _⟩
end Go.Proofs.Ytecmlakcpgkfbaa
