/- Sheets: the example. -/
import Derived.Test.YtgpmnkdagpcffaaShR
namespace Go.Proofs.Ytgpmnkdagpcffaa
open Go.RowKit Go.Shelf Go.Maps Go.Sort
def exS : Sheet := ⟨980, 1000, 990, 1010, [(1, 1000, 985, 2), (2, 500, 500, 1), (1, 2000, 1990, 20)], 0⟩
def exQ : List Geo.Pt := [(0, 0), (20, 0), (20, 10), (0, 10)]
theorem exS_ok : Sh.okB exS = true := by decide +kernel
theorem exS_many : (Sh.truthsL exS).length = 15 := by decide +kernel
theorem exS_sp : Sh.spE exS = 0 := Sh.sp_yes exS_ok (fun h => by have := exS_many; rw [h] at this; cases this)
theorem exQ_valid : Geo.validB exQ = true := by decide +kernel
theorem exQ_tot : Geo.tot Geo.fanV exQ = 400 := by decide +kernel
theorem exS_lo : Sh.areaLo exS 400 = 404 := by decide +kernel
theorem exS_hi : Sh.areaHi exS 400 = 407 := by decide +kernel
theorem exS_agree : Sh.knownV (Sh.agreeB 400 405 1) (Sh.truthsL exS) = 3 := by decide +kernel
theorem exS_keys : intKeys (Sh.mapD (H := Empty) 1 (Sh.truthsL exS)) = [985, 986, 987] := by decide +kernel
theorem exS_fac : Sh.facL 1 (Sh.truthsL exS) = [985, 986, 987] := by
  unfold Sh.facL
  rw [exS_keys]
  exact List.mergeSort_of_pairwise (by simp)
/-- What the example hands back: a sheet that reads as 'exS'. -/
def ExPost (w : World) (e : Ending) (w' : World) : Prop := ∃ A c, e = .returned (.agg #[.int .i64 980, .int .i64 1000, .int .i64 990, .int .i64 1010, .slice A 3 c, .int .i64 0]) ∧ Hid (Cts w' w'.heap.size A exS.cs) ∧ Below w.heap.size w w'
set_option maxRecDepth 100000 in
set_option maxHeartbeats 1000000 in
theorem Example_any (w : World) : Calls Try.prog 57 #[] w (ExPost w) := by
  go_enter Try.func57, Try.ntmps57
  go_wp2_with fail
  have bS := (BoxS.new w 26 #[.int .i64 980, .int .i64 1000, .int .i64 990, .int .i64 1010, .slice (some ⟨w.heap.size + 1, 0, none⟩) 3 3, .int .i64 0]).alloc (.cells #[.int .i64 1, .int .i64 1000, .int .i64 985, .int .i64 2, .int .i64 2, .int .i64 500, .int .i64 500, .int .i64 1, .int .i64 1, .int .i64 2000, .int .i64 1990, .int .i64 20] 29)
  have bC := BoxS.new (w.alloc (.cells #[.int .i64 980, .int .i64 1000, .int .i64 990, .int .i64 1010, .slice (some ⟨w.heap.size + 1, 0, none⟩) 3 3, .int .i64 0] 26)) 29 #[.int .i64 1, .int .i64 1000, .int .i64 985, .int .i64 2, .int .i64 2, .int .i64 500, .int .i64 500, .int .i64 1, .int .i64 1, .int .i64 2000, .int .i64 1990, .int .i64 20]
  rw [World.size_alloc] at bC
  have hB : Below w.heap.size w ((w.alloc (.cells #[.int .i64 980, .int .i64 1000, .int .i64 990, .int .i64 1010, .slice (some ⟨w.heap.size + 1, 0, none⟩) 3 3, .int .i64 0] 26)).alloc (.cells #[.int .i64 1, .int .i64 1000, .int .i64 985, .int .i64 2, .int .i64 2, .int .i64 500, .int .i64 500, .int .i64 1, .int .i64 1, .int .i64 2000, .int .i64 1990, .int .i64 20] 29)) := by (repeat' (first | (with_reducible exact Below.refl _ _) | (with_reducible assumption) | (with_reducible refine Below.alloc ?_ ?_ _) | (with_reducible refine Below.drew ?_) | (with_reducible refine Below.setCell ?_ ?_ _) | go_size | (exact (by simp)) | omega))
  generalize World.alloc (World.alloc w _) _ = w1 at *
  obtain ⟨⟨s0, s1, s2⟩, s3, s4, s5⟩ := boxS6 bS
  refine bodyPost_ret (v := .agg #[.int .i64 980, .int .i64 1000, .int .i64 990, .int .i64 1010, .slice (some ⟨w.heap.size + 1, 0, none⟩) 3 3, .int .i64 0]) (by simp [results, Try.results57, go_sem, s0, s1, s2, s3, s4, s5]) rfl ⟨_, 3, rfl, fun _ => ⟨w.heap.size + 1, 0, rfl, bC.lt, fun k hk => ?_⟩, hB⟩
  rcases k with _ | _ | _ | k
  · exact ⟨bC.cell 0 rfl, bC.cell 1 rfl, bC.cell 2 rfl, bC.cell 3 rfl⟩
  · exact ⟨bC.cell 4 rfl, bC.cell 5 rfl, bC.cell 6 rfl, bC.cell 7 rfl⟩
  · exact ⟨bC.cell 8 rfl, bC.cell 9 rfl, bC.cell 10 rfl, bC.cell 11 rfl⟩
  · simp [exS] at hk; omega
theorem ints_below {w w' : World} {B : Nat} {v : Value} {xs : List Int} (h : Ints w B v xs) (hb : Below B w w') : Ints w' B v xs := h.keep hb

set_option maxRecDepth 100000 in
set_option maxHeartbeats 4000000 in
theorem works_any (w : World) : Calls Try.prog 15 #[] w fun e w' => e = .returned (.bool true) ∧ Below w.heap.size w w' := by
  have H1 : Hid (∀ A c W, Cts W W.heap.size A exS.cs → Calls Try.prog 17 #[.agg #[.int .i64 980, .int .i64 1000, .int .i64 990, .int .i64 1010, .slice A 3 c, .int .i64 0]] W fun e W' => e = .returned (.tuple #[.int .i64 15, .int .i64 0]) ∧ Below W.heap.size W W') := fun A c W h => by
    have := Many_any exS A c W (by decide) h
    rw [show Sh.manyV exS = 15 from by unfold Sh.manyV; rw [if_pos exS_sp, exS_many]; rfl, exS_sp] at this
    exact this
  have H2 : Hid (∀ A c A2 c2 W, Cts W W.heap.size A exS.cs → Prs W W.heap.size A2 exQ → Calls Try.prog 23 #[.agg #[.int .i64 980, .int .i64 1000, .int .i64 990, .int .i64 1010, .slice A 3 c, .int .i64 0], .slice A2 4 c2] W fun e W' => e = .returned (.tuple #[.agg #[.int .i64 404, .int .i64 407], .int .i64 0]) ∧ Below W.heap.size W W') := fun A c A2 c2 W h h2 => by
    have := Area_yes exS exS_sp A c A2 c2 exQ exQ_valid W h h2
    rw [exQ_tot, exS_lo, exS_hi] at this
    exact this
  have H3 : Hid (∀ A c A2 c2 W, Cts W W.heap.size A exS.cs → Prs W W.heap.size A2 exQ → Calls Try.prog 30 #[.agg #[.int .i64 980, .int .i64 1000, .int .i64 990, .int .i64 1010, .slice A 3 c, .int .i64 0], .slice A2 4 c2, .int .i64 405, .int .i64 1] W fun e W' => e = .returned (.tuple #[.int .i64 3, .int .i64 0]) ∧ Below W.heap.size W W') := fun A c A2 c2 W h h2 => by
    have := Agrees_yes exS exS_sp A c A2 c2 exQ exQ_valid 405 1 (by omega) (by omega) W h h2
    rw [exQ_tot, exS_agree] at this
    exact this
  have H4 : Hid (∀ A c W, Cts W W.heap.size A exS.cs → Calls Try.prog 22 #[.agg #[.int .i64 980, .int .i64 1000, .int .i64 990, .int .i64 1010, .slice A 3 c, .int .i64 0], .int .i64 1] W fun e W' => ∃ v, e = .returned (.tuple #[v, .int .i64 0]) ∧ Hid (Ints W' W'.heap.size v [985, 986, 987]) ∧ Below W.heap.size W W') := fun A c W h => by
    have := Factors_yes exS 1 A c W (by decide) h exS_sp (by decide)
    rw [exS_fac] at this
    exact this.mono fun e W' ⟨v, h1, h2, h3, h4⟩ => ⟨v, h1, Ints.of_own h2, h4⟩
  have H5 : Hid (∀ v v' W, Ints W W.heap.size v [985, 986, 987] → Ints W W.heap.size v' [985, 986, 987] → Calls Try.prog 26 #[v, v'] W fun e W' => e = .returned (.bool true) ∧ Below W.heap.size W W') := fun v v' W h h' => by
    have := sameInts_any v v' [985, 986, 987] [985, 986, 987] W h h' (by decide) (by decide)
    rw [decide_eq_true rfl] at this
    exact this
  have HE : Hid (∀ W, Calls Try.prog 57 #[] W (ExPost W)) := Example_any
  go_enter Try.func15, Try.ntmps15
  go_wp2_with fail
  refine (HE.out _).mono ?_
  rintro e w1 ⟨A, c, rfl, hC1, hB1⟩
  clear HE
  go_wp2_with fail
  have bS2 := (BoxS.new w1 26 #[.int .i64 980, .int .i64 1000, .int .i64 990, .int .i64 1010, .slice A 3 c, .int .i64 0]).alloc (.cells #[.int .i64 0, .int .i64 0, .int .i64 20, .int .i64 0, .int .i64 20, .int .i64 10, .int .i64 0, .int .i64 10] 43)
  have bQ2 := BoxS.new (w1.alloc (.cells #[.int .i64 980, .int .i64 1000, .int .i64 990, .int .i64 1010, .slice A 3 c, .int .i64 0] 26)) 43 #[.int .i64 0, .int .i64 0, .int .i64 20, .int .i64 0, .int .i64 20, .int .i64 10, .int .i64 0, .int .i64 10]
  rw [World.size_alloc] at bQ2
  have hB2 : Below w.heap.size w ((w1.alloc (.cells #[.int .i64 980, .int .i64 1000, .int .i64 990, .int .i64 1010, .slice A 3 c, .int .i64 0] 26)).alloc (.cells #[.int .i64 0, .int .i64 0, .int .i64 20, .int .i64 0, .int .i64 20, .int .i64 10, .int .i64 0, .int .i64 10] 43)) := (hB1.alloc hB1.size _).alloc (by have := hB1.size; simp; omega) _
  have hC2 : Hid (Cts ((w1.alloc (.cells #[.int .i64 980, .int .i64 1000, .int .i64 990, .int .i64 1010, .slice A 3 c, .int .i64 0] 26)).alloc (.cells #[.int .i64 0, .int .i64 0, .int .i64 20, .int .i64 0, .int .i64 20, .int .i64 10, .int .i64 0, .int .i64 10] 43)) ((w1.alloc (.cells #[.int .i64 980, .int .i64 1000, .int .i64 990, .int .i64 1010, .slice A 3 c, .int .i64 0] 26)).alloc (.cells #[.int .i64 0, .int .i64 0, .int .i64 20, .int .i64 0, .int .i64 20, .int .i64 10, .int .i64 0, .int .i64 10] 43)).heap.size A exS.cs) :=
    ((hC1.out.keep (((Below.refl _ _).alloc (Nat.le_refl _) _).alloc (by simp) _)).wider (by simp; omega))
  have hQ2 : Hid (Prs ((w1.alloc (.cells #[.int .i64 980, .int .i64 1000, .int .i64 990, .int .i64 1010, .slice A 3 c, .int .i64 0] 26)).alloc (.cells #[.int .i64 0, .int .i64 0, .int .i64 20, .int .i64 0, .int .i64 20, .int .i64 10, .int .i64 0, .int .i64 10] 43)) ((w1.alloc (.cells #[.int .i64 980, .int .i64 1000, .int .i64 990, .int .i64 1010, .slice A 3 c, .int .i64 0] 26)).alloc (.cells #[.int .i64 0, .int .i64 0, .int .i64 20, .int .i64 0, .int .i64 20, .int .i64 10, .int .i64 0, .int .i64 10] 43)).heap.size (some ⟨w1.heap.size + 1, 0, none⟩) exQ) := fun _ => ⟨w1.heap.size + 1, 0, rfl, bQ2.lt, fun k g hk => by
    rcases k with _ | _ | _ | _ | k
    · obtain rfl : g = (0, 0) := by simpa [exQ] using hk.symm
      exact ⟨bQ2.cell 0 rfl, bQ2.cell 1 rfl⟩
    · obtain rfl : g = (20, 0) := by simpa [exQ] using hk.symm
      exact ⟨bQ2.cell 2 rfl, bQ2.cell 3 rfl⟩
    · obtain rfl : g = (20, 10) := by simpa [exQ] using hk.symm
      exact ⟨bQ2.cell 4 rfl, bQ2.cell 5 rfl⟩
    · obtain rfl : g = (0, 10) := by simpa [exQ] using hk.symm
      exact ⟨bQ2.cell 6 rfl, bQ2.cell 7 rfl⟩
    · simp [exQ] at hk⟩
  generalize World.alloc (World.alloc w1 _) _ = w2 at *
  clear hC1 hB1 bQ2
  refine (H1.out A c _ hC2.out).mono ?_
  rintro e w3 ⟨rfl, hb⟩
  have hC3 : Hid (Cts w3 w3.heap.size A exS.cs) := (hC2.out.keep hb).wider hb.size
  have hQ3 := Lib.hid (prs_keep hQ2.out hb)
  have bS3 := bS2.below hb
  have hB3 : Below w.heap.size w w3 := hB2.trans (hb.mono hB2.size)
  clear hb hC2 hQ2 bS2 hB2 H1
  obtain ⟨⟨s0, s1, s2⟩, s3, s4, s5⟩ := boxS6 bS3
  go_wp2_with fail
  refine (H2.out A c _ _ _ hC3.out hQ3.out).mono ?_
  rintro e w4 ⟨rfl, hb⟩
  have hC4 : Hid (Cts w4 w4.heap.size A exS.cs) := (hC3.out.keep hb).wider hb.size
  have hQ4 := Lib.hid (prs_keep hQ3.out hb)
  have bS4 := bS3.below hb
  have hB4 : Below w.heap.size w w4 := hB3.trans (hb.mono hB3.size)
  clear s0 s1 s2 s3 s4 s5 hb hC3 hQ3 bS3 hB3 H2
  obtain ⟨⟨s0, s1, s2⟩, s3, s4, s5⟩ := boxS6 bS4
  have ls := bS4.lt
  go_wp2_with fail
  have bR5 := BoxS.new w4 23 #[.int .i64 404, .int .i64 407]
  have bS5 := bS4.alloc (.cells #[.int .i64 404, .int .i64 407] 23)
  have hb5 : Below w4.heap.size w4 (w4.alloc (.cells #[.int .i64 404, .int .i64 407] 23)) := (Below.refl _ _).alloc (Nat.le_refl _) _
  have hC5 : Hid (Cts (w4.alloc (.cells #[.int .i64 404, .int .i64 407] 23)) (w4.alloc (.cells #[.int .i64 404, .int .i64 407] 23)).heap.size A exS.cs) := (hC4.out.keep hb5).wider hb5.size
  have hQ5 := Lib.hid (prs_keep hQ4.out hb5)
  have hB5 : Below w.heap.size w (w4.alloc (.cells #[.int .i64 404, .int .i64 407] 23)) := hB4.alloc hB4.size _
  clear s0 s1 s2 s3 s4 s5 hb5 hC4 hQ4 bS4 hB4
  generalize World.alloc w4 _ = w5 at *
  refine (H3.out A c _ _ _ hC5.out hQ5.out).mono ?_
  rintro e w6 ⟨rfl, hb⟩
  have hC6 : Hid (Cts w6 w6.heap.size A exS.cs) := (hC5.out.keep hb).wider hb.size
  have bS6 := bS5.below hb
  have bR6 := bR5.below hb
  have hB6 : Below w.heap.size w w6 := hB5.trans (hb.mono hB5.size)
  clear hb hC5 hQ5 bS5 bR5 hB5 H3
  obtain ⟨⟨s0, s1, s2⟩, s3, s4, s5⟩ := boxS6 bS6
  go_wp2_with fail
  refine (H4.out A c _ hC6.out).mono ?_
  rintro e w7 ⟨v, rfl, hI7, hb⟩
  have bR7 := bR6.below hb
  have hB7 : Below w.heap.size w w7 := hB6.trans (hb.mono hB6.size)
  clear s0 s1 s2 s3 s4 s5 hb hC6 bS6 bR6 hB6 H4
  obtain ⟨r0, r1⟩ := boxS2 bR7
  have lr := bR7.lt
  go_wp2_with fail
  have bI8 := BoxS.new w7 3 #[.int .i64 985, .int .i64 986, .int .i64 987]
  have hb8 : Below w7.heap.size w7 (w7.alloc (.cells #[.int .i64 985, .int .i64 986, .int .i64 987] 3)) := (Below.refl _ _).alloc (Nat.le_refl _) _
  have hB8 : Below w.heap.size w (w7.alloc (.cells #[.int .i64 985, .int .i64 986, .int .i64 987] 3)) := hB7.alloc hB7.size _
  have hJ8 : Hid (Ints (w7.alloc (.cells #[.int .i64 985, .int .i64 986, .int .i64 987] 3)) (w7.alloc (.cells #[.int .i64 985, .int .i64 986, .int .i64 987] 3)).heap.size (.slice (some ⟨w7.heap.size, 0, none⟩) 3 3) [985, 986, 987]) := .inr ⟨w7.heap.size, 0, 3, rfl, bI8.lt, fun k x hk => by
    rcases k with _ | _ | _ | k
    · obtain rfl : x = 985 := by simpa using hk.symm
      exact bI8.cell 0 rfl
    · obtain rfl : x = 986 := by simpa using hk.symm
      exact bI8.cell 1 rfl
    · obtain rfl : x = 987 := by simpa using hk.symm
      exact bI8.cell 2 rfl
    · simp at hk⟩
  have hI8 : Hid (Ints (w7.alloc (.cells #[.int .i64 985, .int .i64 986, .int .i64 987] 3)) (w7.alloc (.cells #[.int .i64 985, .int .i64 986, .int .i64 987] 3)).heap.size v [985, 986, 987]) := (hI7.out.keep hb8).more hb8.size
  clear hb8 bI8 hI7
  refine (H5.out v _ _ hI8.out hJ8.out).mono ?_
  rintro e w9 ⟨rfl, hb⟩
  have hB9 : Below w.heap.size w w9 := hB8.trans (hb.mono hB8.size)
  go_wp2_with fail
  go_returns
  exact ⟨rfl, hB9⟩
end Go.Proofs.Ytgpmnkdagpcffaa
