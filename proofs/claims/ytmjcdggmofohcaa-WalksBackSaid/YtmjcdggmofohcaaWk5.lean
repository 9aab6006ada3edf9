/- Walks: the law's look at its own examples. -/
import Derived.Test.YtmjcdggmofohcaaEx5
import Derived.Test.YtmjcdggmofohcaaWlZ
import Derived.Test.YtmjcdggmofohcaaWlSr
import Derived.Test.YtmjcdggmofohcaaSameI
namespace Go.Proofs.Ytmjcdggmofohcaa
open Go.RowKit
theorem exS1 : Wl.setE exK5 exA5 = 0 := by decide +kernel
theorem exS2 : (Wl.elbsL exK5 exA5).length = 9 := by decide +kernel
theorem exS3 : Wl.reachRL exK5 (4, 2) = [1, 2] := by decide +kernel
theorem exS4 : Wl.reachRE exK5 (4, 2) = 0 := by decide +kernel
theorem exS5 : Wl.movE exC5 exB5 [0, 1, 2, 3] = 0 := by decide +kernel
theorem exS6 : Wl.sweepV exC5 exB5 [0, 1, 2, 3] = 24 := by decide +kernel
theorem exS7 : Wl.setE exC5 exB5 = 0 := by decide +kernel
theorem exS8 : Wl.movesV (Wl.calmV (Wl.elbsL exC5 exB5)) = 4 := by decide +kernel
theorem ints_lit4 (W : World) : Ints (W.alloc (.cells #[.int .i64 0, .int .i64 1, .int .i64 2, .int .i64 3] 3)) (W.heap.size + 1) (.slice (some ⟨W.heap.size, 0, none⟩) 4 4) [0, 1, 2, 3] := by
  have hb := BoxS.new W 3 #[.int .i64 0, .int .i64 1, .int .i64 2, .int .i64 3]
  refine .inr ⟨W.heap.size, 0, 4, rfl, by omega, fun k x hk => ?_⟩
  rw [Nat.zero_add]
  match k, hk with
  | 0, hk => obtain rfl : 0 = x := by simpa using hk
             exact hb.cell 0 rfl
  | 1, hk => obtain rfl : 1 = x := by simpa using hk
             exact hb.cell 1 rfl
  | 2, hk => obtain rfl : 2 = x := by simpa using hk
             exact hb.cell 2 rfl
  | 3, hk => obtain rfl : 3 = x := by simpa using hk
             exact hb.cell 3 rfl
  | k + 4, hk => simp at hk
theorem ints_lit2 (W : World) : Ints (W.alloc (.cells #[.int .i64 1, .int .i64 2] 3)) (W.heap.size + 1) (.slice (some ⟨W.heap.size, 0, none⟩) 2 2) [1, 2] := by
  have hb := BoxS.new W 3 #[.int .i64 1, .int .i64 2]
  refine .inr ⟨W.heap.size, 0, 2, rfl, by omega, fun k x hk => ?_⟩
  rw [Nat.zero_add]
  match k, hk with
  | 0, hk => obtain rfl : 1 = x := by simpa using hk
             exact hb.cell 0 rfl
  | 1, hk => obtain rfl : 2 = x := by simpa using hk
             exact hb.cell 1 rfl
  | k + 2, hk => simp at hk
set_option maxRecDepth 100000 in
set_option maxHeartbeats 8000000 in
theorem works5_any (w : World) : Calls Try.prog 12 #[] w fun e w' => e = .returned (.bool true) ∧ Below w.heap.size w w' := by
  have HE : Hid (∀ W, Calls Try.prog 48 #[] W (Ex5Post W)) := Example5_any
  have HM : Hid (∀ (A Aw : Option Addr) (c cw : Nat) W, Prs W W.heap.size A exK5.ps → Prs W W.heap.size Aw exA5 → Calls Try.prog 29 #[.agg #[.slice A 3 c, .int .i64 0, .int .i64 1, .int .i64 13], .slice Aw 4 cw] W fun e W' => e = .returned (.tuple #[.int .i64 9, .int .i64 0]) ∧ Below W.heap.size W W') := fun A Aw c cw W h1 h2 => by
    have := ManyW_any exK5 exA5 A Aw c cw (by decide) (by decide) W h1 h2
    rw [exS1, if_pos rfl, exS2] at this
    exact this
  have HR : Hid (∀ (A : Option Addr) (c : Nat) W, Prs W W.heap.size A exK5.ps → Calls Try.prog 18 #[.agg #[.slice A 3 c, .int .i64 0, .int .i64 1, .int .i64 13], .agg #[.int .i64 4, .int .i64 2]] W (IntsEPost [1, 2] 0 W)) := fun A c W h1 => by
    have := ReachP_any exK5 A c (4, 2) (by decide) W h1
    rw [exS3, exS4] at this
    exact this
  have HS : Hid (∀ (A Aw Ae : Option Addr) (c cw ce : Nat) W, Prs W W.heap.size A exC5.ps → Prs W W.heap.size Aw exB5 → Ints W W.heap.size (.slice Ae 4 ce) [0, 1, 2, 3] → Calls Try.prog 24 #[.agg #[.slice A 4 c, .int .i64 1, .int .i64 1, .int .i64 2], .slice Aw 4 cw, .slice Ae 4 ce] W fun e W' => e = .returned (.tuple #[.int .i64 24, .int .i64 0]) ∧ Below W.heap.size W W') := fun A Aw Ae c cw ce W h1 h2 h3 => by
    have := SweepW_any exC5 exB5 [0, 1, 2, 3] A Aw Ae c cw ce (by decide) (by decide) (by decide) W h1 h2 h3
    rw [exS5, if_pos rfl, exS6] at this
    exact this
  have HL : Hid (∀ (A Aw : Option Addr) (c cw : Nat) W, Prs W W.heap.size A exC5.ps → Prs W W.heap.size Aw exB5 → Calls Try.prog 33 #[.agg #[.slice A 4 c, .int .i64 1, .int .i64 1, .int .i64 2], .slice Aw 4 cw] W fun e W' => e = .returned (.tuple #[.int .i64 4, .int .i64 0]) ∧ Below W.heap.size W W') := fun A Aw c cw W h1 h2 => by
    have := LeastW_any exC5 exB5 A Aw c cw (by decide) (by decide) W h1 h2
    rw [exS7, if_pos rfl, exS8] at this
    exact this
  have HI : Hid (∀ v v' W, Ints W W.heap.size v [1, 2] → Ints W W.heap.size v' [1, 2] → Calls Try.prog 22 #[v, v'] W fun e W' => e = .returned (.bool true) ∧ Below W.heap.size W W') := fun v v' W h h' => by
    have := SameInts_any v v' [1, 2] [1, 2] W h h' (by decide) (by decide)
    rw [decide_eq_true rfl] at this
    exact this
  unfold IntsEPost at HR
  unfold Ex5Post at HE
  generalize exK5.ps = KP at *
  generalize exC5.ps = CP at *
  generalize exA5 = AP at *
  generalize exB5 = BP at *
  go_enter Try.func12, Try.ntmps12
  go_wp2_with fail
  refine (HE.out _).mono ?_
  rintro e w1 ⟨Ak, Aa, Ac, Ab, ck, ca, cc, cb, rfl, ⟨hK, hA⟩, ⟨hC, hBw⟩, hB1⟩
  clear HE
  go_wp2_with fail
  have bK := (BoxS.new w1 26 #[.slice Ak 3 ck, .int .i64 0, .int .i64 1, .int .i64 13]).alloc (.cells #[.slice Ac 4 cc, .int .i64 1, .int .i64 1, .int .i64 2] 26)
  have bC := BoxS.new (w1.alloc (.cells #[.slice Ak 3 ck, .int .i64 0, .int .i64 1, .int .i64 13] 26)) 26 #[.slice Ac 4 cc, .int .i64 1, .int .i64 1, .int .i64 2]
  rw [World.size_alloc] at bC
  have hb2 : Below w1.heap.size w1 ((w1.alloc (.cells #[.slice Ak 3 ck, .int .i64 0, .int .i64 1, .int .i64 13] 26)).alloc (.cells #[.slice Ac 4 cc, .int .i64 1, .int .i64 1, .int .i64 2] 26)) := by (repeat' (first | (with_reducible exact Below.refl _ _) | (with_reducible assumption) | (with_reducible refine Below.alloc ?_ ?_ _) | (with_reducible refine Below.drew ?_) | (with_reducible refine Below.setCell ?_ ?_ _) | go_size | (exact (by simp)) | omega))
  generalize World.alloc (World.alloc w1 _) _ = w2 at *
  have hK2 := Lib.hid (prs_keep hK.out hb2)
  have hA2 := Lib.hid (prs_keep hA.out hb2)
  have hC2 := Lib.hid (prs_keep hC.out hb2)
  have hBw2 := Lib.hid (prs_keep hBw.out hb2)
  have hB2 := hB1.trans (hb2.mono hB1.size)
  have bK2 := bK
  have bC2 := bC
  clear hK hA hC hBw hb2 hB1 bK bC
  obtain ⟨k0, k1, k2, k3⟩ := boxS4 bK2
  obtain ⟨c0, c1, c2, c3⟩ := boxS4 bC2
  have lK := bK2.lt
  have lC := bC2.lt
  go_wp2_with fail
  refine (HM.out _ _ _ _ _ hK2.out hA2.out).mono ?_
  rintro e w3 ⟨rfl, hb3⟩
  have hK3 := Lib.hid (prs_keep hK2.out hb3)
  have hA3 := Lib.hid (prs_keep hA2.out hb3)
  have hC3 := Lib.hid (prs_keep hC2.out hb3)
  have hBw3 := Lib.hid (prs_keep hBw2.out hb3)
  have bK3 := bK2.below hb3
  have bC3 := bC2.below hb3
  have hB3 := hB2.trans (hb3.mono hB2.size)
  clear hK2 hA2 hC2 hBw2 bK2 bC2 hb3 hB2 k0 k1 k2 k3 c0 c1 c2 c3 lK lC
  obtain ⟨k0, k1, k2, k3⟩ := boxS4 bK3
  obtain ⟨c0, c1, c2, c3⟩ := boxS4 bC3
  have lK := bK3.lt
  have lC := bC3.lt
  go_wp2_with fail
  refine (HR.out _ _ _ hK3.out).mono ?_
  rintro e w4 ⟨v, rfl, hI4, hb4⟩
  have hK4 := Lib.hid (prs_keep hK3.out hb4)
  have hA4 := Lib.hid (prs_keep hA3.out hb4)
  have hC4 := Lib.hid (prs_keep hC3.out hb4)
  have hBw4 := Lib.hid (prs_keep hBw3.out hb4)
  have bK4 := bK3.below hb4
  have bC4 := bC3.below hb4
  have hB4 := hB3.trans (hb4.mono hB3.size)
  clear hK3 hA3 hC3 hBw3 bK3 bC3 hb4 hB3 k0 k1 k2 k3 c0 c1 c2 c3 lK lC
  obtain ⟨k0, k1, k2, k3⟩ := boxS4 bK4
  obtain ⟨c0, c1, c2, c3⟩ := boxS4 bC4
  have lK := bK4.lt
  have lC := bC4.lt
  go_wp2_with fail
  have hE5 := Lib.hid (ints_lit4 w4)
  have hb5 : Below w4.heap.size w4 (w4.alloc (.cells #[.int .i64 0, .int .i64 1, .int .i64 2, .int .i64 3] 3)) := (Below.refl _ _).alloc (Nat.le_refl _) _
  have hE5 : Hid (Ints (w4.alloc (.cells #[.int .i64 0, .int .i64 1, .int .i64 2, .int .i64 3] 3)) (w4.alloc (.cells #[.int .i64 0, .int .i64 1, .int .i64 2, .int .i64 3] 3)).heap.size (.slice (some ⟨w4.heap.size, 0, none⟩) 4 4) [0, 1, 2, 3]) := by rw [World.size_alloc]; exact hE5.out
  generalize World.alloc w4 _ = w5 at *
  have hK5 := Lib.hid (prs_keep hK4.out hb5)
  have hA5 := Lib.hid (prs_keep hA4.out hb5)
  have hC5 := Lib.hid (prs_keep hC4.out hb5)
  have hBw5 := Lib.hid (prs_keep hBw4.out hb5)
  have bK5 := bK4.below hb5
  have bC5 := bC4.below hb5
  have hI5 : Hid (Ints w5 w5.heap.size v [1, 2]) := (hI4.out.keep hb5).more hb5.size
  have hB5 := hB4.trans (hb5.mono hB4.size)
  clear hK4 hA4 hC4 hBw4 bK4 bC4 hb5 hB4 hI4 k0 k1 k2 k3 c0 c1 c2 c3 lK lC
  obtain ⟨k0, k1, k2, k3⟩ := boxS4 bK5
  obtain ⟨c0, c1, c2, c3⟩ := boxS4 bC5
  have lK := bK5.lt
  have lC := bC5.lt
  refine (HS.out _ _ _ _ _ _ _ hC5.out hBw5.out hE5.out).mono ?_
  rintro e w6 ⟨rfl, hb6⟩
  clear hE5
  have hK6 := Lib.hid (prs_keep hK5.out hb6)
  have hA6 := Lib.hid (prs_keep hA5.out hb6)
  have hC6 := Lib.hid (prs_keep hC5.out hb6)
  have hBw6 := Lib.hid (prs_keep hBw5.out hb6)
  have bK6 := bK5.below hb6
  have bC6 := bC5.below hb6
  have hI6 : Hid (Ints w6 w6.heap.size v [1, 2]) := (hI5.out.keep hb6).more hb6.size
  have hB6 := hB5.trans (hb6.mono hB5.size)
  clear hK5 hA5 hC5 hBw5 bK5 bC5 hb6 hB5 hI5 k0 k1 k2 k3 c0 c1 c2 c3 lK lC
  obtain ⟨k0, k1, k2, k3⟩ := boxS4 bK6
  obtain ⟨c0, c1, c2, c3⟩ := boxS4 bC6
  have lK := bK6.lt
  have lC := bC6.lt
  go_wp2_with fail
  refine (HL.out _ _ _ _ _ hC6.out hBw6.out).mono ?_
  rintro e w7 ⟨rfl, hb7⟩
  have hK7 := Lib.hid (prs_keep hK6.out hb7)
  have hA7 := Lib.hid (prs_keep hA6.out hb7)
  have hC7 := Lib.hid (prs_keep hC6.out hb7)
  have hBw7 := Lib.hid (prs_keep hBw6.out hb7)
  have bK7 := bK6.below hb7
  have bC7 := bC6.below hb7
  have hI7 : Hid (Ints w7 w7.heap.size v [1, 2]) := (hI6.out.keep hb7).more hb7.size
  have hB7 := hB6.trans (hb7.mono hB6.size)
  clear hK6 hA6 hC6 hBw6 bK6 bC6 hb7 hB6 hI6 k0 k1 k2 k3 c0 c1 c2 c3 lK lC
  obtain ⟨k0, k1, k2, k3⟩ := boxS4 bK7
  obtain ⟨c0, c1, c2, c3⟩ := boxS4 bC7
  have lK := bK7.lt
  have lC := bC7.lt
  go_wp2_with fail
  have hF8 := Lib.hid (ints_lit2 w7)
  have hb8 : Below w7.heap.size w7 (w7.alloc (.cells #[.int .i64 1, .int .i64 2] 3)) := (Below.refl _ _).alloc (Nat.le_refl _) _
  have hF8 : Hid (Ints (w7.alloc (.cells #[.int .i64 1, .int .i64 2] 3)) (w7.alloc (.cells #[.int .i64 1, .int .i64 2] 3)).heap.size (.slice (some ⟨w7.heap.size, 0, none⟩) 2 2) [1, 2]) := by rw [World.size_alloc]; exact hF8.out
  generalize World.alloc w7 _ = w8 at *
  have hK8 := Lib.hid (prs_keep hK7.out hb8)
  have hA8 := Lib.hid (prs_keep hA7.out hb8)
  have hC8 := Lib.hid (prs_keep hC7.out hb8)
  have hBw8 := Lib.hid (prs_keep hBw7.out hb8)
  have bK8 := bK7.below hb8
  have bC8 := bC7.below hb8
  have hI8 : Hid (Ints w8 w8.heap.size v [1, 2]) := (hI7.out.keep hb8).more hb8.size
  have hB8 := hB7.trans (hb8.mono hB7.size)
  clear hK7 hA7 hC7 hBw7 bK7 bC7 hb8 hB7 hI7 k0 k1 k2 k3 c0 c1 c2 c3 lK lC
  refine (HI.out _ _ _ hI8.out hF8.out).mono ?_
  rintro e w9 ⟨rfl, hb9⟩
  have hB9 := hB8.trans (hb9.mono hB8.size)
  go_wp2_with fail
  go_returns
  exact ⟨rfl, hB9⟩
end Go.Proofs.Ytmjcdggmofohcaa
