/- Texts of this proof, one behind the other: RndP, Dial, WxSwp, Op5, Far5. Each says its own conditions. -/
import Derived.Test.YtmjcdggmofohcaaGreatMh03
import Derived.Test.YtmjcdggmofohcaaGreatMh05
import Derived.Test.YtmjcdggmofohcaaGreatMh08
import Derived.Test.YtmjcdggmofohcaaGreatMh13
import Derived.Test.YtmjcdggmofohcaaGreatMh14
import Derived.Test.YtmjcdggmofohcaaGreatMh16
import Derived.Test.YtmjcdggmofohcaaGreatMh17
namespace Go.Proofs.YtmjcdggmofohcaaGreat
open Go.RowKit Go.Shelf Go.Maps Go.Sort
namespace Wh
/-- The desk of the law: a wheel that reads rightly and does not slip, and a walk on each side. -/
def rnd (F a k s1 s2 : Int) : Desk := ⟨F, 0, 0, 4, 0, max 0 (a - 10), min 9999 (a + 10), 0, [(1, 1, 0, s1, (s1 + a + k + F).tmod F), (1, -1, 0, s2, (s2 + a - k + F).tmod F)]⟩
theorem rnd_one {F a k s1 s2 : Int} (hF : 60 ≤ F ∧ F ≤ 10000) (ha : 0 ≤ a ∧ a ≤ 9999) (hk : -4 ≤ k ∧ k ≤ 4) (h1 : 0 ≤ s1 ∧ s1 < F) (h2 : 0 ≤ s2 ∧ s2 < F) :
    spE (rnd F a k s1 s2) = 0 ∧ areasV (rnd F a k s1 s2) = [a] ∧ skewsV (rnd F a k s1 s2) = [k] := by
  have e1 : (s1 + a + k + F).tmod F = (s1 + a + k + F) % F := Int.tmod_eq_emod_of_nonneg (by omega)
  have e2 : (s2 + a - k + F).tmod F = (s2 + a - k + F) % F := Int.tmod_eq_emod_of_nonneg (by omega)
  have b1 := Int.emod_nonneg (s1 + a + k + F) (show F ≠ 0 by omega)
  have b2 := Int.emod_lt_of_pos (s1 + a + k + F) (show 0 < F by omega)
  have b3 := Int.emod_nonneg (s2 + a - k + F) (show F ≠ 0 by omega)
  have b4 := Int.emod_lt_of_pos (s2 + a - k + F) (show 0 < F by omega)
  obtain ⟨q1, hq1⟩ : ∃ q, q = (s1 + a + k + F) / F := ⟨_, rfl⟩
  obtain ⟨q2, hq2⟩ : ∃ q, q = (s2 + a - k + F) / F := ⟨_, rfl⟩
  have d1 := Int.emod_add_mul_ediv (s1 + a + k + F) F
  have d2 := Int.emod_add_mul_ediv (s2 + a - k + F) F
  rw [← hq1] at d1
  rw [← hq2] at d2
  obtain ⟨r1, hr1⟩ : ∃ r, r = (s1 + a + k + F) % F := ⟨_, rfl⟩
  obtain ⟨r2, hr2⟩ : ∃ r, r = (s2 + a - k + F) % F := ⟨_, rfl⟩
  rw [← hr1] at b1 b2 d1 e1
  rw [← hr2] at b3 b4 d2 e2
  have hright : ∀ u : Tr, (wrongN (rnd F a k s1 s2) u : Int) ≤ 0 ↔ (F ∣ u.1 + u.2 - a - k) ∧ F ∣ u.1 - u.2 - a + k := fun u => by
    obtain ⟨u1, u2⟩ := u
    have hm : ∀ m : Int, decide (modV m F ≤ 0) = true ↔ F ∣ m := fun m => by
      rw [decide_eq_true_eq, modV_eq (by omega)]
      have := Int.emod_nonneg m (show F ≠ 0 by omega)
      constructor
      · intro h; exact Int.dvd_of_emod_eq_zero (by omega)
      · intro h; rw [Int.emod_eq_zero_of_dvd h]; omega
    have hd1 : F ∣ missV F 0 0 (1, 1, 0, s1, r1) (u1, u2) ↔ F ∣ u1 + u2 - a - k := by
      have e : missV F 0 0 (1, 1, 0, s1, r1) (u1, u2) = (u1 + u2 - a - k) + F * (q1 - 1) := by
        have hF1 : F * (q1 - 1) = F * q1 - F := by rw [Int.mul_sub, Int.mul_one]
        rw [hF1]
        unfold missV
        dsimp only
        omega
      rw [e]
      exact ⟨fun h => (Int.dvd_add_left (Int.dvd_mul_right F _)).1 h, fun h => (Int.dvd_add_left (Int.dvd_mul_right F _)).2 h⟩
    have hd2 : F ∣ missV F 0 0 (1, -1, 0, s2, r2) (u1, u2) ↔ F ∣ u1 - u2 - a + k := by
      have e : missV F 0 0 (1, -1, 0, s2, r2) (u1, u2) = (u1 - u2 - a + k) + F * (q2 - 1) := by
        have hF1 : F * (q2 - 1) = F * q2 - F := by rw [Int.mul_sub, Int.mul_one]
        rw [hF1]
        unfold missV
        dsimp only
        omega
      rw [e]
      exact ⟨fun h => (Int.dvd_add_left (Int.dvd_mul_right F _)).1 h, fun h => (Int.dvd_add_left (Int.dvd_mul_right F _)).2 h⟩
    have hr1' : rightB (rnd F a k s1 s2) (wkAt (rnd F a k s1 s2).ws 0) (u1, u2) = true ↔ F ∣ u1 + u2 - a - k := by
      unfold rnd rightB
      rw [e1, e2]
      exact (hm _).trans hd1
    have hr2' : rightB (rnd F a k s1 s2) (wkAt (rnd F a k s1 s2).ws 1) (u1, u2) = true ↔ F ∣ u1 - u2 - a + k := by
      unfold rnd rightB
      rw [e1, e2]
      exact (hm _).trans hd2
    have hw : wrongN (rnd F a k s1 s2) (u1, u2) = (0 + if rightB (rnd F a k s1 s2) (wkAt (rnd F a k s1 s2).ws 0) (u1, u2) then 0 else 1) + if rightB (rnd F a k s1 s2) (wkAt (rnd F a k s1 s2).ws 1) (u1, u2) then 0 else 1 := rfl
    rw [hw, ← hr1', ← hr2']
    cases rightB (rnd F a k s1 s2) (wkAt (rnd F a k s1 s2).ws 0) (u1, u2) <;> cases rightB (rnd F a k s1 s2) (wkAt (rnd F a k s1 s2).ws 1) (u1, u2) <;> simp
  have hok : okB (rnd F a k s1 s2) = true := by
    unfold okB whB wksB allTo allTo allTo rnd inB wkB wkAt signB inB
    rw [e1, e2]
    simp
    omega
  refine areas_one (t := (a, k)) hok (by unfold rnd; dsimp only; omega) (by unfold rnd; dsimp only; omega) ?_ ?_
  · show _ ≤ (0 : Int)
    rw [hright]
    exact ⟨⟨0, by dsimp only; omega⟩, ⟨0, by dsimp only; omega⟩⟩
  · intro u hu1 hu2 hu3
    obtain ⟨u1, u2⟩ := u
    have hu3' := (hright (u1, u2)).1 hu3
    unfold rnd at hu1 hu2
    dsimp only at hu1 hu2 hu3'
    obtain ⟨⟨c1, hc1⟩, c2, hc2⟩ := hu3'
    have z : ∀ c m : Int, m = F * c → -60 < m → m < 60 → m = 0 := fun c m h l u => by
      by_cases hc : c = 0
      · rw [h, hc, Int.mul_zero]
      · exfalso
        rcases Int.lt_or_gt_of_ne hc with hc | hc
        · have := Int.mul_le_mul_of_nonneg_left (show c ≤ -1 by omega) (show 0 ≤ F by omega)
          omega
        · have := Int.mul_le_mul_of_nonneg_left (show 1 ≤ c by omega) (show 0 ≤ F by omega)
          omega
    have z1 := z c1 _ hc1 (by omega) (by omega)
    have z2 := z c2 _ hc2 (by omega) (by omega)
    rw [Prod.mk.injEq]
    omega
end Wh
namespace Geo
theorem sum_bd (M : Int) (hM : 0 ≤ M) : ∀ L : List Int, (∀ x ∈ L, -M ≤ x ∧ x ≤ M) → -(M * (L.length : Int)) ≤ L.sum ∧ L.sum ≤ M * (L.length : Int)
  | [], _ => by simp
  | x :: l, h => by
    have ih := sum_bd M hM l fun y hy => h y (List.mem_cons_of_mem _ hy)
    have hx := h x List.mem_cons_self
    rw [List.sum_cons, List.length_cons]
    have e : M * ((l.length + 1 : Nat) : Int) = M * (l.length : Int) + M := by rw [Int.natCast_add, Int.mul_add]; simp
    rw [e]
    omega
theorem tot_small {ps : List Pt} (h : validB ps = true) : -1000000 ≤ tot fanV ps ∧ tot fanV ps ≤ 1000000 := by
  obtain ⟨⟨_, hl⟩, hd, _⟩ := (validB_parts ps).1 h
  have hp : ∀ k : Nat, (-200 ≤ (ps[k]?.getD (0, 0)).1 ∧ (ps[k]?.getD (0, 0)).1 ≤ 200) ∧ (-200 ≤ (ps[k]?.getD (0, 0)).2 ∧ (ps[k]?.getD (0, 0)).2 ≤ 200) := fun k => by
    cases hk : ps[k]? with
    | none => simp
    | some p =>
      have := hd.1 p (List.mem_of_getElem? hk)
      unfold ptB inB at this
      simp only [Bool.and_eq_true, decide_eq_true_eq] at this
      exact this
  have hb := sum_bd 80000 (by omega) ((sidesL ps).map fanV) fun x hx => by
    rw [List.mem_map] at hx
    obtain ⟨s, hs, rfl⟩ := hx
    unfold sidesL at hs
    rw [List.mem_map] at hs
    obtain ⟨k, _, rfl⟩ := hs
    have p1 := hp k
    have p2 := hp ((k + 1) % ps.length)
    generalize ps[k]?.getD (0, 0) = a at *
    generalize ps[(k + 1) % ps.length]?.getD (0, 0) = b at *
    obtain ⟨a1, a2⟩ := a
    obtain ⟨b1, b2⟩ := b
    dsimp only at p1 p2
    have e : fanV ((a1, a2), (b1, b2)) = a1 * b2 - a2 * b1 := by unfold fanV turn; grind
    rw [e]
    have m1 := mul_bd (a := a1) (b := b2) (x := 200) (y := 200) (by omega) (by omega) (by omega) (by omega)
    have m2 := mul_bd (a := a2) (b := b1) (x := 200) (y := 200) (by omega) (by omega) (by omega) (by omega)
    omega
  have hlen : ((sidesL ps).map fanV).length = ps.length := by unfold sidesL; simp
  rw [hlen] at hb
  unfold tot
  omega
end Geo
end Go.Proofs.YtmjcdggmofohcaaGreat
namespace Go.Proofs.YtmjcdggmofohcaaGreat
open Go.RowKit
def exP : List Geo.Pt := [(0, 0), (4, 0), (4, 3), (2, 1), (0, 3)]
theorem exP_valid : Geo.validB exP = true := by decide +kernel
theorem exP_tw : Geo.whenV exP (Geo.tot Geo.fanV exP) = 16 := (Geo.whenV_yes exP_valid _).trans (by decide +kernel)
set_option maxRecDepth 100000 in
set_option maxHeartbeats 2000000 in
theorem Example2_any (w : World) : Calls Tryz.prog 46 #[] w fun e w' => ∃ A c, e = .returned (.slice A 5 c) ∧ Hid (Prs w' w'.heap.size A exP) ∧ Below w.heap.size w w' := by
  go_enter Tryz.func46, Tryz.ntmps46
  go_wp2_with fail
  go_returns
  refine ⟨some ⟨w.heap.size, 0, none⟩, 5, rfl, fun _ => ⟨w.heap.size, 0, rfl, by simp, fun k g hk => ?_⟩, (Below.refl _ _).alloc (Nat.le_refl _) _⟩
  have hb := BoxS.new w 53 #[.int .i64 0, .int .i64 0, .int .i64 4, .int .i64 0, .int .i64 4, .int .i64 3, .int .i64 2, .int .i64 1, .int .i64 0, .int .i64 3]
  rcases k with _ | _ | _ | _ | _ | k
  · obtain rfl : g = (0, 0) := by simpa [exP] using hk.symm
    exact ⟨hb.cell 0 rfl, hb.cell 1 rfl⟩
  · obtain rfl : g = (4, 0) := by simpa [exP] using hk.symm
    exact ⟨hb.cell 2 rfl, hb.cell 3 rfl⟩
  · obtain rfl : g = (4, 3) := by simpa [exP] using hk.symm
    exact ⟨hb.cell 4 rfl, hb.cell 5 rfl⟩
  · obtain rfl : g = (2, 1) := by simpa [exP] using hk.symm
    exact ⟨hb.cell 6 rfl, hb.cell 7 rfl⟩
  · obtain rfl : g = (0, 3) := by simpa [exP] using hk.symm
    exact ⟨hb.cell 8 rfl, hb.cell 9 rfl⟩
  · simp [exP] at hk
set_option maxRecDepth 100000 in
theorem Example1_any (w : World) : Calls Tryz.prog 47 #[] w fun e w' => e = .returned (.tuple #[.agg #[.int .i64 1, .int .i64 2, .int .i64 3, .int .i64 10, .int .i64 10, .int .i64 200], .agg #[.int .i64 10, .int .i64 1]]) ∧ Below w.heap.size w w' := by
  go_enter Tryz.func47, Tryz.ntmps47
  go_wp2
  refine bodyPost_ret (v := .tuple #[.agg #[.int .i64 1, .int .i64 2, .int .i64 3, .int .i64 10, .int .i64 10, .int .i64 200], .agg #[.int .i64 10, .int .i64 1]]) (by simp [results, Tryz.results47, go_sem]) rfl ?_
  exact ⟨rfl, by (repeat' (first | (with_reducible exact Below.refl _ _) | (with_reducible assumption) | (with_reducible refine Below.alloc ?_ ?_ _) | (with_reducible refine below_drewN ?_ _) | (with_reducible refine Below.drew ?_) | (with_reducible refine Below.setCell ?_ ?_ _) | go_size))⟩
theorem exA_val : (Arm.valN 1 2 3 10 10 200 40 (inB 40 10 200) = 6 ∧ Arm.valD 1 2 3 10 10 200 40 (inB 40 10 200) = 1) ∧ Arm.valE 1 2 3 10 10 200 40 (inB 40 10 200) = 0 := by decide +kernel
set_option maxRecDepth 100000 in
set_option maxHeartbeats 4000000 in
theorem dialled_any (w : World) : Calls Tryz.prog 24 #[] w fun e w' => e = .returned (.bool true) ∧ Below w.heap.size w w' := by
  have HE3 : Hid (∀ W, Calls Tryz.prog 45 #[] W fun e w' => ∃ A c, e = .returned (.tuple #[.agg #[.int .i64 100, .int .i64 0, .int .i64 0, .int .i64 2, .int .i64 0, .int .i64 40, .int .i64 60, .int .i64 0], .slice A 2 c]) ∧ Hid (Wks w' w'.heap.size A exWs) ∧ Below W.heap.size W w') := Example3_any
  have HE2 : Hid (∀ W, Calls Tryz.prog 46 #[] W fun e w' => ∃ A c, e = .returned (.slice A 5 c) ∧ Hid (Prs w' w'.heap.size A exP) ∧ Below W.heap.size W w') := Example2_any
  have HE1 : Hid (∀ W, Calls Tryz.prog 47 #[] W fun e w' => e = .returned (.tuple #[.agg #[.int .i64 1, .int .i64 2, .int .i64 3, .int .i64 10, .int .i64 10, .int .i64 200], .agg #[.int .i64 10, .int .i64 1]]) ∧ Below W.heap.size W w') := Example1_any
  have HA : Hid (∀ A c W, Wks W W.heap.size A exWs → Calls Tryz.prog 15 #[.agg #[.int .i64 100, .int .i64 0, .int .i64 0, .int .i64 2, .int .i64 0, .int .i64 40, .int .i64 60, .int .i64 0], .slice A 2 c] W (IntsEPost [53] 0 W)) := fun A c W hW => by
    have := Areas_any exD A c W (by decide) hW
    rw [exD_areas, exD_sp] at this
    exact this
  have HT : Hid (∀ A c W, Prs W W.heap.size A exP → Calls Tryz.prog 9 #[.slice A 5 c] W fun e w' => e = .returned (.tuple #[.int .i64 16, .int .i64 0]) ∧ Below W.heap.size W w') := fun A c W hW => by
    have := Twice_any A c exP (by decide) W hW
    rw [exP_tw, Geo.errV_yes exP_valid] at this
    exact this
  have HV : Hid (∀ W, Calls Tryz.prog 48 #[.agg #[.int .i64 1, .int .i64 2, .int .i64 3, .int .i64 10, .int .i64 10, .int .i64 200], .int .i64 40] W fun e w' => e = .returned (.tuple #[.agg #[.int .i64 6, .int .i64 1], .int .i64 0]) ∧ Below W.heap.size W w') := fun W => by
    have := Value_any 1 2 3 10 10 200 40 W
    rw [exA_val.1.1, exA_val.1.2, exA_val.2] at this
    exact this
  unfold IntsEPost at HA
  generalize exWs = EW at *
  generalize exP = EP at *
  go_enter Tryz.func24, Tryz.ntmps24
  go_wp2_with fail
  refine (HE3.out _).mono ?_
  rintro e w1 ⟨A, c, rfl, hW, hB1⟩
  have bW1 := BoxS.new w1 42 #[.int .i64 100, .int .i64 0, .int .i64 0, .int .i64 2, .int .i64 0, .int .i64 40, .int .i64 60, .int .i64 0]
  have hb1 : Below w1.heap.size w1 (w1.alloc (.cells #[.int .i64 100, .int .i64 0, .int .i64 0, .int .i64 2, .int .i64 0, .int .i64 40, .int .i64 60, .int .i64 0] 42)) := (Below.refl _ _).alloc (Nat.le_refl _) _
  go_wp2_with fail
  have hB2 := hB1.trans (hb1.mono hB1.size)
  have hW2 := Lib.hid ((hW.out.keep hb1).wider hb1.size)
  clear hW hb1 hB1 bW1
  generalize World.alloc w1 _ = w2 at *
  refine (HA.out A c _ hW2.out).mono ?_
  rintro e w3 ⟨v, rfl, hI3, hb3⟩
  have hB3 := hB2.trans (hb3.mono hB2.size)
  clear hW2 hB2 hb3
  go_wp2_with fail
  refine (HE2.out _).mono ?_
  rintro e w4 ⟨A2, c2, rfl, hP4, hb4⟩
  have hB4 := hB3.trans (hb4.mono hB3.size)
  have hI4 := Lib.hid (Ints.more (Ints.keep hI3.out hb4) hb4.size)
  clear hB3 hb4 hI3
  go_wp2_with fail
  refine (HT.out A2 c2 _ hP4.out).mono ?_
  rintro e w5 ⟨rfl, hb5⟩
  have hB5 := hB4.trans (hb5.mono hB4.size)
  have hI5 := Lib.hid (Ints.more (Ints.keep hI4.out hb5) hb5.size)
  clear hB4 hb5 hI4 hP4
  go_wp2_with fail
  refine (HE1.out _).mono ?_
  rintro e w6 ⟨rfl, hb6⟩
  have hB6 := hB5.trans (hb6.mono hB5.size)
  have hI6 := Lib.hid (Ints.more (Ints.keep hI5.out hb6) hb6.size)
  clear hB5 hb6 hI5
  go_wp2_with fail
  have hx : Below w6.heap.size w6 ((w6.alloc (.cells #[.int .i64 1, .int .i64 2, .int .i64 3, .int .i64 10, .int .i64 10, .int .i64 200] 94)).alloc (.cells #[.int .i64 10, .int .i64 1] 96)) := by (repeat' (first | (with_reducible exact Below.refl _ _) | (with_reducible assumption) | (with_reducible refine Below.alloc ?_ ?_ _) | (with_reducible refine Below.drew ?_) | (with_reducible refine Below.setCell ?_ ?_ _) | go_size | (exact (by simp)) | omega))
  have hB7 := hB6.trans (hx.mono hB6.size)
  have hI7 := Lib.hid (Ints.more (Ints.keep hI6.out hx) hx.size)
  clear hB6 hI6 hx
  generalize World.alloc (World.alloc w6 _) _ = w7 at *
  refine (HV.out _).mono ?_
  rintro e w8 ⟨rfl, hb8⟩
  have hB8 := hB7.trans (hb8.mono hB7.size)
  have hI8 := Ints.more (Ints.keep hI7.out hb8) hb8.size
  clear hB7 hb8 hI7
  rcases hI8 with ⟨_, h⟩ | ⟨b, off, cap, rfl, hbl, hc⟩
  · cases h
  · have c0 : w8.cell? ⟨b, off, none⟩ = some (.int .i64 53) := hc 0 53 rfl
    clear hc
    go_wp2_with fail
    go_returns
    have hz8 := hB8.size
    exact ⟨rfl, hB8.alloc hz8 _⟩
end Go.Proofs.YtmjcdggmofohcaaGreat
namespace Go.Proofs.YtmjcdggmofohcaaGreat
open Go.RowKit
theorem exS5 : Wl.movE exC5 exB5 [0, 1, 2, 3] = 0 := by decide +kernel
theorem exS6 : Wl.sweepV exC5 exB5 [0, 1, 2, 3] = 24 := by decide +kernel
theorem ints_lit4 (W : World) : Ints (W.alloc (.cells #[.int .i64 0, .int .i64 1, .int .i64 2, .int .i64 3] 3)) (W.heap.size + 1) (.slice (some ⟨W.heap.size, 0, none⟩) 4 4) [0, 1, 2, 3] := by
  have hb := BoxS.new W 3 #[.int .i64 0, .int .i64 1, .int .i64 2, .int .i64 3]
  refine .inr ⟨W.heap.size, 0, 4, rfl, by omega, fun k x hk => ?_⟩
  rw [Nat.zero_add]
  match k, hk with
  | 0, hk => obtain rfl : 0 = x := by simpa using hk
             exact hb.cell 0 rfl
  | 1, hk => obtain rfl : 1 = x := by simpa using hk
             exact hb.cell 1 rfl
  | 2, hk => obtain rfl : 2 = x := by simpa using hk
             exact hb.cell 2 rfl
  | 3, hk => obtain rfl : 3 = x := by simpa using hk
             exact hb.cell 3 rfl
  | k + 4, hk => simp at hk
set_option maxRecDepth 100000 in
set_option maxHeartbeats 8000000 in
theorem swept_any (w : World) : Calls Tryz.prog 8 #[] w fun e w' => e = .returned (.bool true) ∧ Below w.heap.size w w' := by
  have HE : Hid (∀ W, Calls Tryz.prog 23 #[] W (Ex5Post W)) := Example5_any
  have HD : Hid (∀ W, Calls Tryz.prog 24 #[] W fun e w' => e = .returned (.bool true) ∧ Below W.heap.size W w') := dialled_any
  have HS : Hid (∀ (A Aw Ae : Option Addr) (c cw ce : Nat) W, Prs W W.heap.size A exC5.ps → Prs W W.heap.size Aw exB5 → Ints W W.heap.size (.slice Ae 4 ce) [0, 1, 2, 3] → Calls Tryz.prog 12 #[.agg #[.slice A 4 c, .int .i64 1, .int .i64 1, .int .i64 2], .slice Aw 4 cw, .slice Ae 4 ce] W fun e W' => e = .returned (.tuple #[.int .i64 24, .int .i64 0]) ∧ Below W.heap.size W W') := fun A Aw Ae c cw ce W h1 h2 h3 => by
    have := SweepW_any exC5 exB5 [0, 1, 2, 3] A Aw Ae c cw ce (by decide) (by decide) (by decide) W h1 h2 h3
    rw [exS5, if_pos rfl, exS6] at this
    exact this
  unfold Ex5Post at HE
  generalize exK5.ps = KP at *
  generalize exC5.ps = CP at *
  generalize exA5 = AP at *
  generalize exB5 = BP at *
  go_enter Tryz.func8, Tryz.ntmps8
  go_wp2_with fail
  refine (HE.out _).mono ?_
  rintro e w1 ⟨Ak, Aa, Ac, Ab, ck, ca, cc, cb, rfl, ⟨_, _⟩, ⟨hC, hBw⟩, hB1⟩
  clear HE
  go_wp2_with fail
  have hE5 : Hid (Ints (((w1.alloc (.cells #[.slice Ak 3 ck, .int .i64 0, .int .i64 1, .int .i64 13] 26)).alloc (.cells #[.slice Ac 4 cc, .int .i64 1, .int .i64 1, .int .i64 2] 26)).alloc (.cells #[.int .i64 0, .int .i64 1, .int .i64 2, .int .i64 3] 3)) (((w1.alloc (.cells #[.slice Ak 3 ck, .int .i64 0, .int .i64 1, .int .i64 13] 26)).alloc (.cells #[.slice Ac 4 cc, .int .i64 1, .int .i64 1, .int .i64 2] 26)).alloc (.cells #[.int .i64 0, .int .i64 1, .int .i64 2, .int .i64 3] 3)).heap.size (.slice (some ⟨w1.heap.size + 1 + 1, 0, none⟩) 4 4) [0, 1, 2, 3]) := by
    have := ints_lit4 ((w1.alloc (.cells #[.slice Ak 3 ck, .int .i64 0, .int .i64 1, .int .i64 13] 26)).alloc (.cells #[.slice Ac 4 cc, .int .i64 1, .int .i64 1, .int .i64 2] 26))
    simp only [World.size_alloc] at this ⊢
    exact this
  have hb2 : Below w1.heap.size w1 (((w1.alloc (.cells #[.slice Ak 3 ck, .int .i64 0, .int .i64 1, .int .i64 13] 26)).alloc (.cells #[.slice Ac 4 cc, .int .i64 1, .int .i64 1, .int .i64 2] 26)).alloc (.cells #[.int .i64 0, .int .i64 1, .int .i64 2, .int .i64 3] 3)) := by (repeat' (first | (with_reducible exact Below.refl _ _) | (with_reducible assumption) | (with_reducible refine Below.alloc ?_ ?_ _) | (with_reducible refine Below.drew ?_) | (with_reducible refine Below.setCell ?_ ?_ _) | go_size | (exact (by simp)) | omega))
  generalize World.alloc (World.alloc (World.alloc w1 _) _) _ = w2 at *
  have hC2 := Lib.hid (prs_keep hC.out hb2)
  have hBw2 := Lib.hid (prs_keep hBw.out hb2)
  have hB2 := hB1.trans (hb2.mono hB1.size)
  clear hC hBw hb2 hB1
  refine (HS.out _ _ _ _ _ _ _ hC2.out hBw2.out hE5.out).mono ?_
  rintro e w3 ⟨rfl, hb3⟩
  have hB3 := hB2.trans (hb3.mono hB2.size)
  clear hC2 hBw2 hE5 hb3 hB2
  go_wp2_with fail
  refine (HD.out _).mono ?_
  rintro e w4 ⟨rfl, hb4⟩
  have hB4 := hB3.trans (hb4.mono hB3.size)
  go_wp2_with fail
  go_returns
  exact ⟨rfl, hB4⟩
end Go.Proofs.YtmjcdggmofohcaaGreat
namespace Go.Proofs.YtmjcdggmofohcaaGreat
open Go.ChangeShapes Go.WideShapes Go.ChangeAt Go.RowKit Go.Joins Go.Deep
theorem cells_int5 : Tryz.prog.cellsOf 3 = 1 := by kernel_rfl
theorem cells_span5 : Tryz.prog.cellsOf 24 = 2 := by kernel_rfl
theorem cells_pt5 : Tryz.prog.cellsOf 53 = 2 := by kernel_rfl
theorem cells_ints5 : Tryz.prog.cellsOf 27 = 1 := by kernel_rfl
theorem cells_pts5 : Tryz.prog.cellsOf 22 = 1 := by kernel_rfl
theorem addr_add (b off n : Nat) : (⟨b, off, none⟩ : Addr).add n = ⟨b, off + n, none⟩ := by unfold Addr.add; split <;> simp_all
section
variable {H : Type} {enc : TypeId × Value → H} {w : World} {base : Nat} {spare : Nat → Bool} {held : Bool} {r : Reach} {b0 : Nat} {v : Value} {d : DataW H} {p : List MemPlace}
set_option maxRecDepth 100000 in
theorem trod_span_cells {n : Nat} {c0 c1 : Value} {x : DataW H × List MemPlace} (h : DataW.trod enc Tryz.prog w base spare held n 24 [c0, c1] = some x) : ∃ a b : Int, c0 = .int .i64 a ∧ c1 = .int .i64 b := by
  obtain ⟨y0, y1, m, hx, _, h0, h1⟩ := trod_struct2 Tryz.underlying24 h
  obtain ⟨a, e0, rfl, wa⟩ := DataW.trod_int Tryz.underlying3 (by simpa using h0)
  obtain ⟨b, e1, rfl, wb⟩ := DataW.trod_int Tryz.underlying3 (by simpa using h1)
  rw [cells_int5] at e0 e1
  exact ⟨a, b, by simpa using e0, by simpa using e1⟩
set_option maxRecDepth 100000 in
theorem trod_pts5 {n : Nat} {c0 : Value} {x : DataW H × List MemPlace} (h : DataW.trod enc Tryz.prog w base spare held n 22 [c0] = some x) :
    ∃ (A : Option Addr) (c : Nat) (cs : List (Int × Int)), c0 = .slice A cs.length c ∧ Prs w w.heap.size A cs ∧ cs.length ≤ maxLen := by
  rcases open_slice Tryz.underlying22 h with ⟨e, _⟩ | ⟨a, len, cap, m, n, D, Pl, e, hb, hl, hm, hmm, _, hx⟩
  · obtain rfl : c0 = .slice none 0 0 := by simpa using e
    exact ⟨none, 0, [], rfl, fun h => by simp at h, by simp⟩
  · obtain rfl : c0 = .slice (some a) len cap := by simpa using e
    have hlm : len ≤ m := by rw [hmm]; split <;> omega
    have each : ∀ i, i < m → ∃ q : Int × Int, w.cell? (a.add (i * 2)) = some (.int .i64 q.1) ∧ w.cell? (a.add (i * 2 + 1)) = some (.int .i64 q.2) := by
      intro i hi
      obtain ⟨cs', h1, h2⟩ := hx i hi
      rw [cells_pt5] at h1
      obtain ⟨_, hlen, hcell⟩ := World.cells?_some h1
      match cs', hlen with
      | [v0, v1], _ =>
        obtain ⟨y0, y1, m', hx', _, g0, g1⟩ := trod_struct2 Tryz.underlying53 h2
        obtain ⟨a0, e0', _, _⟩ := DataW.trod_int Tryz.underlying3 (by simpa using g0)
        obtain ⟨a1, e1', _, _⟩ := DataW.trod_int Tryz.underlying3 (by simpa using g1)
        rw [cells_int5] at e0' e1'
        obtain rfl : v0 = .int .i64 a0 := by simpa using e0'
        obtain rfl : v1 = .int .i64 a1 := by simpa using e1'
        have e0 := hcell 0 (by omega)
        have e1 := hcell 1 (by omega)
        rw [Go.Deep.add_add] at e0 e1
        exact ⟨(a0, a1), by simpa using e0, by simpa using e1⟩
    obtain ⟨q, hq⟩ := choose_lt each
    refine ⟨some a, cap, (List.range len).map q, by simp, fun hn => ?_, by simp; omega⟩
    have hn' : 0 < len := by simpa using hn
    have hc0 := (hq 0 (by omega)).1
    have hs := World.cell?_spot hc0
    have hlt := cell_lt hc0
    obtain ⟨b, off, spot⟩ := a
    have hs' : spot = none := by simpa [Addr.add] using hs
    subst hs'
    refine ⟨b, off, rfl, by simpa [addr_add] using hlt, fun k g hk => ?_⟩
    have hkl : k < len := by have := (List.getElem?_eq_some_iff.1 hk).1; simpa using this
    rw [List.getElem?_map, List.getElem?_range hkl] at hk
    obtain rfl : q k = g := by simpa using hk
    obtain ⟨x0, x1⟩ := hq k (by omega)
    rw [addr_add] at x0 x1
    exact ⟨x0, x1⟩
set_option maxRecDepth 100000 in
theorem trod_ints5 {n : Nat} {c0 : Value} {x : DataW H × List MemPlace} (h : DataW.trod enc Tryz.prog w base spare held n 27 [c0] = some x) :
    ∃ (A : Option Addr) (c : Nat) (cs : List Int), c0 = .slice A cs.length c ∧ (0 < cs.length → Ints w w.heap.size (.slice A cs.length c) cs) ∧ cs.length ≤ maxLen := by
  rcases open_slice Tryz.underlying27 h with ⟨e, _⟩ | ⟨a, len, cap, m, n, D, Pl, e, hb, hl, hm, hmm, _, hx⟩
  · obtain rfl : c0 = .slice none 0 0 := by simpa using e
    exact ⟨none, 0, [], rfl, fun _ => .inl ⟨rfl, rfl⟩, by simp⟩
  · obtain rfl : c0 = .slice (some a) len cap := by simpa using e
    have hlm : len ≤ m := by rw [hmm]; split <;> omega
    have each : ∀ i, i < m → ∃ q : Int, w.cell? (a.add i) = some (.int .i64 q) := by
      intro i hi
      obtain ⟨cs', h1, h2⟩ := hx i hi
      rw [cells_int5] at h1
      obtain ⟨_, hlen, hcell⟩ := World.cells?_some h1
      match cs', hlen with
      | [v0], _ =>
        obtain ⟨a0, e0', _, _⟩ := DataW.trod_int Tryz.underlying3 h2
        obtain rfl : v0 = .int .i64 a0 := by simpa using e0'
        have e0 := hcell 0 (by omega)
        rw [Go.Deep.add_add] at e0
        exact ⟨a0, by simpa using e0⟩
    obtain ⟨q, hq⟩ := choose_lt each
    refine ⟨some a, cap, (List.range len).map q, by simp, fun hn => ?_, by simp; omega⟩
    have hn' : 0 < len := by simpa using hn
    have hc0 := hq 0 (by omega)
    have hs := World.cell?_spot hc0
    have hlt := cell_lt hc0
    obtain ⟨b, off, spot⟩ := a
    have hs' : spot = none := by simpa [Addr.add] using hs
    subst hs'
    refine .inr ⟨b, off, cap, by simp, by simpa [addr_add] using hlt, fun k g hk => ?_⟩
    have hkl : k < len := by have := (List.getElem?_eq_some_iff.1 hk).1; simpa using this
    rw [List.getElem?_map, List.getElem?_range hkl] at hk
    obtain rfl : q k = g := by simpa using hk
    have x0 := hq k (by omega)
    rw [addr_add] at x0
    exact x0
set_option maxRecDepth 100000 in
theorem open_Track (hv : Value.okWide Tryz.prog w r b0 26 v) (h : DataW.Trod enc Tryz.prog w base spare held 26 v d p) :
    ∃ (t : Wl.Trk) (A : Option Addr) (c : Nat), v = .agg (trV t A c) ∧ Prs w w.heap.size A t.ps ∧ t.ps.length ≤ maxLen := by
  obtain ⟨cs, rfl, hsz⟩ := okWide_struct Tryz.underlying26 hv
  obtain ⟨l⟩ := cs
  match l, hsz.trans (by kernel_rfl : Tryz.prog.cellsOf 26 = 4) with
  | [c0, c1, c2, c3], _ =>
    obtain ⟨fuel, hf⟩ := h
    obtain ⟨xs, n, _, hx, _, hlen, hg⟩ := DataW.trod_struct Tryz.underlying26 hf
    match xs, hlen with
    | [y0, y1, y2], _ =>
      have g0 := hg 0 _ rfl
      have g1 := hg 1 _ rfl
      have g2 := hg 2 _ rfl
      simp [Value.cells, cells_int5, cells_span5, cells_pts5] at g0 g1 g2
      obtain ⟨A, c, l, rfl, hC, hl⟩ := trod_pts5 g0
      obtain ⟨cl, e1, rfl, _⟩ := DataW.trod_int Tryz.underlying3 g1
      obtain ⟨lo, hi, rfl, rfl⟩ := trod_span_cells g2
      simp at e1
      subst e1
      exact ⟨⟨l, cl, lo, hi⟩, A, c, rfl, hC, hl⟩
end
end Go.Proofs.YtmjcdggmofohcaaGreat
namespace Go.Proofs.YtmjcdggmofohcaaGreat
open Go.RowKit
namespace Wl
def farB (t : Trk) (ws : List Pt) : Bool := decide (40 < t.ps.length) || decide (40 < ws.length) || (decide (chkV t ws = 0) && (decide (5 < t.ps.length) || decide (5 < ws.length)))
def readyB (t : Trk) (ws : List Pt) : Bool := !farB t ws && decide (chkV t ws = 0)
end Wl
set_option maxRecDepth 100000 in
set_option maxHeartbeats 8000000 in
theorem Far5_any (t : Wl.Trk) (ws : List Wl.Pt) (A Aw : Option Addr) (c cw : Nat) (w : World) (hP : Prs w w.heap.size A t.ps) (hQ : Prs w w.heap.size Aw ws) :
    Calls Tryz.prog 5 #[.agg (trV t A c), .slice Aw ws.length cw] w fun e w' => e = .returned (.bool (Wl.farB t ws)) ∧ Below w.heap.size w w' := by
  by_cases h1 : 40 < t.ps.length
  · have HR : Wl.farB t ws = true := by unfold Wl.farB; simp [h1]
    rw [HR]
    clear HR hP hQ
    obtain ⟨ps, cl, lo, hi⟩ := t
    unfold trV
    dsimp only at *
    have d1 : decide (40 < (ps.length : Int)) = true := decide_eq_true (by omega)
    have d2 : decide (40 < ps.length) = true := decide_eq_true h1
    go_enter Tryz.func5, Tryz.ntmps5
    go_wp2_with fail
    go_returns
    exact ⟨rfl, by (repeat' (first | (with_reducible exact Below.refl _ _) | (with_reducible assumption) | (with_reducible refine Below.alloc ?_ ?_ _) | (with_reducible refine Below.drew ?_) | (with_reducible refine Below.setCell ?_ ?_ _) | go_size | (exact (by simp)) | omega))⟩
  · by_cases h2 : 40 < ws.length
    · have HR : Wl.farB t ws = true := by unfold Wl.farB; simp [h2]
      rw [HR]
      clear HR hP hQ
      obtain ⟨ps, cl, lo, hi⟩ := t
      unfold trV
      dsimp only at *
      have d1 : decide (40 < (ps.length : Int)) = false := decide_eq_false (by omega)
      have d2 : decide (40 < ps.length) = false := decide_eq_false h1
      have d3 : decide (40 < (ws.length : Int)) = true := decide_eq_true (by omega)
      have d4 : decide (40 < ws.length) = true := decide_eq_true h2
      go_enter Tryz.func5, Tryz.ntmps5
      go_wp2_with fail
      go_returns
      exact ⟨rfl, by (repeat' (first | (with_reducible exact Below.refl _ _) | (with_reducible assumption) | (with_reducible refine Below.alloc ?_ ?_ _) | (with_reducible refine Below.drew ?_) | (with_reducible refine Below.setCell ?_ ?_ _) | go_size | (exact (by simp)) | omega))⟩
    · have HC : Hid (∀ W, Below w.heap.size w W → Calls Tryz.prog 6 #[.agg (trV t A c), .slice Aw ws.length cw] W (ErrPost (Wl.chkV t ws) W)) := fun W hW => Check5_any t ws A Aw c cw (by omega) (by omega) W (prs_keep hP hW) (prs_keep hQ hW)
      have HR : Hid (Wl.farB t ws = (decide (Wl.chkV t ws = 0) && (decide (5 < t.ps.length) || decide (5 < ws.length)))) := by
        unfold Hid Wl.farB
        simp [h1, h2]
      clear hP hQ
      unfold ErrPost at HC
      generalize Wl.farB t ws = FB at *
      generalize Wl.chkV t ws = CE at *
      obtain ⟨ps, cl, lo, hi⟩ := t
      unfold trV at *
      dsimp only at *
      have d1 : decide (40 < (ps.length : Int)) = false := decide_eq_false (by omega)
      have d2 : decide (40 < ps.length) = false := decide_eq_false h1
      have d3 : decide (40 < (ws.length : Int)) = false := decide_eq_false (by omega)
      have d4 : decide (40 < ws.length) = false := decide_eq_false h2
      by_cases h0 : CE = 0
      · subst h0
        by_cases h5 : 5 < ps.length
        · have HF : Hid (FB = true) := by unfold Hid; rw [HR.out]; simp [h5]
          have e1 : decide (5 < (ps.length : Int)) = true := decide_eq_true (by omega)
          have e2 : decide (5 < ps.length) = true := decide_eq_true h5
          clear HR
          go_enter Tryz.func5, Tryz.ntmps5
          go_wp2_with fail
          have bT := BoxS.new w 26 #[.slice A ps.length c, .int .i64 cl, .int .i64 lo, .int .i64 hi]
          have hB1 : Below w.heap.size w (w.alloc (.cells #[.slice A ps.length c, .int .i64 cl, .int .i64 lo, .int .i64 hi] 26)) := by (repeat' (first | (with_reducible exact Below.refl _ _) | (with_reducible assumption) | (with_reducible refine Below.alloc ?_ ?_ _) | (with_reducible refine Below.drew ?_) | (with_reducible refine Below.setCell ?_ ?_ _) | go_size | (exact (by simp)) | omega))
          generalize World.alloc w _ = w1 at *
          have t0 := bT.cell 0 rfl
          have t1 := bT.cell 1 rfl
          have t2 := bT.cell 2 rfl
          have t3 := bT.cell 3 rfl
          have lT := bT.lt
          try go_wp2_with fail
          refine (HC.out _ hB1).mono ?_
          rintro e w2 ⟨rfl, hb2⟩
          have hB2 := hB1.trans (hb2.mono hB1.size)
          have bT2 := bT.below hb2
          clear t0 t1 t2 t3 lT
          have t0 := bT2.cell 0 rfl
          have lT := bT2.lt
          go_wp2_with fail
          go_returns
          exact ⟨by rw [HF.out]; rfl, hB2⟩
        · have e1 : decide (5 < (ps.length : Int)) = false := decide_eq_false (by omega)
          have e2 : decide (5 < ps.length) = false := decide_eq_false h5
          by_cases h6 : 5 < ws.length
          · have HF : Hid (FB = true) := by unfold Hid; rw [HR.out]; simp [h6]
            have e3 : decide (5 < (ws.length : Int)) = true := decide_eq_true (by omega)
            have e4 : decide (5 < ws.length) = true := decide_eq_true h6
            clear HR
            go_enter Tryz.func5, Tryz.ntmps5
            go_wp2_with fail
            have bT := BoxS.new w 26 #[.slice A ps.length c, .int .i64 cl, .int .i64 lo, .int .i64 hi]
            have hB1 : Below w.heap.size w (w.alloc (.cells #[.slice A ps.length c, .int .i64 cl, .int .i64 lo, .int .i64 hi] 26)) := by (repeat' (first | (with_reducible exact Below.refl _ _) | (with_reducible assumption) | (with_reducible refine Below.alloc ?_ ?_ _) | (with_reducible refine Below.drew ?_) | (with_reducible refine Below.setCell ?_ ?_ _) | go_size | (exact (by simp)) | omega))
            generalize World.alloc w _ = w1 at *
            have t0 := bT.cell 0 rfl
            have t1 := bT.cell 1 rfl
            have t2 := bT.cell 2 rfl
            have t3 := bT.cell 3 rfl
            have lT := bT.lt
            try go_wp2_with fail
            refine (HC.out _ hB1).mono ?_
            rintro e w2 ⟨rfl, hb2⟩
            have hB2 := hB1.trans (hb2.mono hB1.size)
            have bT2 := bT.below hb2
            clear t0 t1 t2 t3 lT
            have t0 := bT2.cell 0 rfl
            have lT := bT2.lt
            go_wp2_with fail
            go_returns
            exact ⟨by rw [HF.out]; rfl, hB2⟩
          · have HF : Hid (FB = false) := by unfold Hid; rw [HR.out]; simp [h5, h6]
            have e3 : decide (5 < (ws.length : Int)) = false := decide_eq_false (by omega)
            have e4 : decide (5 < ws.length) = false := decide_eq_false h6
            clear HR
            go_enter Tryz.func5, Tryz.ntmps5
            go_wp2_with fail
            have bT := BoxS.new w 26 #[.slice A ps.length c, .int .i64 cl, .int .i64 lo, .int .i64 hi]
            have hB1 : Below w.heap.size w (w.alloc (.cells #[.slice A ps.length c, .int .i64 cl, .int .i64 lo, .int .i64 hi] 26)) := by (repeat' (first | (with_reducible exact Below.refl _ _) | (with_reducible assumption) | (with_reducible refine Below.alloc ?_ ?_ _) | (with_reducible refine Below.drew ?_) | (with_reducible refine Below.setCell ?_ ?_ _) | go_size | (exact (by simp)) | omega))
            generalize World.alloc w _ = w1 at *
            have t0 := bT.cell 0 rfl
            have t1 := bT.cell 1 rfl
            have t2 := bT.cell 2 rfl
            have t3 := bT.cell 3 rfl
            have lT := bT.lt
            try go_wp2_with fail
            refine (HC.out _ hB1).mono ?_
            rintro e w2 ⟨rfl, hb2⟩
            have hB2 := hB1.trans (hb2.mono hB1.size)
            have bT2 := bT.below hb2
            clear t0 t1 t2 t3 lT
            have t0 := bT2.cell 0 rfl
            have lT := bT2.lt
            go_wp2_with fail
            go_returns
            exact ⟨by rw [HF.out]; rfl, hB2⟩
      · have HF : Hid (FB = false) := by unfold Hid; rw [HR.out]; simp [h0]
        have hce : (CE == 0) = false := by simpa using h0
        clear HR
        go_enter Tryz.func5, Tryz.ntmps5
        go_wp2_with fail
        have bT := BoxS.new w 26 #[.slice A ps.length c, .int .i64 cl, .int .i64 lo, .int .i64 hi]
        have hB1 : Below w.heap.size w (w.alloc (.cells #[.slice A ps.length c, .int .i64 cl, .int .i64 lo, .int .i64 hi] 26)) := by (repeat' (first | (with_reducible exact Below.refl _ _) | (with_reducible assumption) | (with_reducible refine Below.alloc ?_ ?_ _) | (with_reducible refine Below.drew ?_) | (with_reducible refine Below.setCell ?_ ?_ _) | go_size | (exact (by simp)) | omega))
        generalize World.alloc w _ = w1 at *
        have t0 := bT.cell 0 rfl
        have t1 := bT.cell 1 rfl
        have t2 := bT.cell 2 rfl
        have t3 := bT.cell 3 rfl
        have lT := bT.lt
        try go_wp2_with fail
        refine (HC.out _ hB1).mono ?_
        rintro e w2 ⟨rfl, hb2⟩
        have hB2 := hB1.trans (hb2.mono hB1.size)
        have bT2 := bT.below hb2
        clear t0 t1 t2 t3 lT
        have t0 := bT2.cell 0 rfl
        have lT := bT2.lt
        go_wp2_with fail
        go_returns
        exact ⟨by rw [HF.out]; rfl, hB2⟩
end Go.Proofs.YtmjcdggmofohcaaGreat
