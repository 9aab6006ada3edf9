/- Wheels: the law WheelsAreas (P3.1 to P3.6). -/
import Derived.Test.YtecmlakcpgkfbaaFws3
import Derived.Test.YtecmlakcpgkfbaaSke3
import Derived.Test.YtecmlakcpgkfbaaStq3
import Derived.Test.YtecmlakcpgkfbaaWkF
namespace Go.Proofs.Ytecmlakcpgkfbaa
open Go.RowKit
def YesPost (b : Bool) (w : World) (e : Ending) (w' : World) : Prop := e = .returned (.bool b) ∧ Below w.heap.size w w'
set_option maxRecDepth 100000 in
set_option maxHeartbeats 2000000 in
theorem sameWalks_own (A A2 : Option Addr) (c c2 : Nat) (ws : List Wh.Wk) (hl : ws.length ≤ 100) (w : World) (hP : Wks w w.heap.size A ws) (hP2 : Wks w w.heap.size A2 ws) :
    Calls Try.prog 29 #[.slice A ws.length c, .slice A2 ws.length c2] w fun e w' => e = .returned (.bool true) ∧ Below w.heap.size w w' := by
  have H1 := Lib.hid hP
  have H2 := Lib.hid hP2
  have hll : (ws.length : Int) ≤ 100 := by omega
  clear hP hP2
  go_enter Try.func29, Try.ntmps29
  go_wp2_with fail
  go_loopw [5] (fun x wr => ∃ k : Nat, (k : Int) ≤ ws.length ∧ x = .int .i64 k ∧ Below w.heap.size w wr) (fun x _ => (ws.length - intOf x).toNat)
  case atStart => exact ⟨0, by omega, rfl, Below.refl _ _⟩
  case round =>
    obtain ⟨k, hk, rfl, hB⟩ := hrel
    have hk0 := Int.natCast_nonneg k
    by_cases hlt : (k : Int) < ws.length
    · have hkl : k < ws.length := by omega
      obtain ⟨b, off, rfl, hb, hc⟩ := H1.out (by omega)
      obtain ⟨b2, off2, rfl, hb2, hc2⟩ := H2.out (by omega)
      obtain ⟨d0, d1, d2, d3, d4⟩ := hc k hkl
      obtain ⟨f0, f1, f2, f3, f4⟩ := hc2 k hkl
      have d0 := (hB.cell (p := ⟨b, _, none⟩) hb).trans d0
      have d1 := (hB.cell (p := ⟨b, _, none⟩) hb).trans d1
      have d2 := (hB.cell (p := ⟨b, _, none⟩) hb).trans d2
      have d3 := (hB.cell (p := ⟨b, _, none⟩) hb).trans d3
      have d4 := (hB.cell (p := ⟨b, _, none⟩) hb).trans d4
      have f0 := (hB.cell (p := ⟨b2, _, none⟩) hb2).trans f0
      have f1 := (hB.cell (p := ⟨b2, _, none⟩) hb2).trans f1
      have f2 := (hB.cell (p := ⟨b2, _, none⟩) hb2).trans f2
      have f3 := (hB.cell (p := ⟨b2, _, none⟩) hb2).trans f3
      have f4 := (hB.cell (p := ⟨b2, _, none⟩) hb2).trans f4
      clear hc hc2 H1 H2
      generalize Wh.wkAt ws k = p at *
      obtain ⟨x, y, z, u, v⟩ := p
      dsimp only at d0 d1 d2 d3 d4 f0 f1 f2 f3 f4
      go_wp2_with fail
      go_quiet (fail)
      go_wp2_with fail
      go_roundw
      case rel => exact ⟨k + 1, by omega, by go_num, by (repeat' (first | (with_reducible exact Below.refl _ _) | (with_reducible assumption) | (with_reducible refine Below.alloc ?_ ?_ _) | (with_reducible refine below_drewN ?_ _) | (with_reducible refine Below.drew ?_) | (with_reducible refine Below.setCell ?_ ?_ _) | go_size))⟩
      case measure => simp [intOf]; omega
    · go_wp2_with fail
      go_returns
      exact ⟨rfl, hB⟩
namespace Wh
theorem cases_fit {d : Desk} (hf : farB d = false) (hok : okB d = true) : (casesL d).length ≤ 90000 := by
  unfold farB at hf
  rw [hok, Bool.true_and, Bool.or_eq_false_iff] at hf
  have h := hf.2
  unfold bigB at h
  simp only [Bool.or_eq_false_iff, decide_eq_false_iff_not] at h
  have hd := ok_of hok
  have e : (casesL d).length = na d * nb d := casesTo_len d _
  have h1 : na d ≤ 26 := by unfold na; omega
  have h2 : nb d ≤ 5 := by unfold nb; omega
  rw [e]
  exact Nat.le_trans (Nat.mul_le_mul h1 h2) (by decide)
theorem far_few {d : Desk} (hf : farB d = false) : d.ws.length ≤ 40 := by
  unfold farB at hf
  rw [Bool.or_eq_false_iff] at hf
  have := of_decide_eq_false hf.1
  omega
end Wh
set_option maxRecDepth 100000 in
set_option maxHeartbeats 16000000 in
theorem AreasL_core (full read slip skew circ glo ghi wrn : Int) (ws : List Wh.Wk) (A : Option Addr) (c : Nat) (w : World) (CE FV MV E : Int) (LA LK LS : List Int) (sb : Int × Int) (hl8 : ws.length ≤ 1000000) (HG : Hid (Wks w w.heap.size A ws))
    (HWK : Hid (∀ W, Calls Try.prog 13 #[] W (YesPost true W)))
    (HF : Hid (∀ W, Below w.heap.size w W → Calls Try.prog 12 #[.agg #[.int .i64 full, .int .i64 read, .int .i64 slip, .int .i64 skew, .int .i64 circ, .int .i64 glo, .int .i64 ghi, .int .i64 wrn], .slice A ws.length c] W (YesPost false W)))
    (HCheck1 : Hid (∀ A' c' W, Wks W W.heap.size A' ws → Calls Try.prog 14 #[.agg #[.int .i64 full, .int .i64 read, .int .i64 slip, .int .i64 skew, .int .i64 circ, .int .i64 glo, .int .i64 ghi, .int .i64 wrn], .slice A' ws.length c'] W (ErrPost CE W))) (HCheck2 : Hid (∀ W, Below w.heap.size w W → Calls Try.prog 15 #[.agg #[.int .i64 full, .int .i64 read, .int .i64 slip, .int .i64 skew, .int .i64 circ, .int .i64 glo, .int .i64 ghi, .int .i64 wrn], .slice A ws.length c] W (ErrPost CE W)))
    (HFewest1 : Hid (∀ A' c' W, Wks W W.heap.size A' ws → Calls Try.prog 16 #[.agg #[.int .i64 full, .int .i64 read, .int .i64 slip, .int .i64 skew, .int .i64 circ, .int .i64 glo, .int .i64 ghi, .int .i64 wrn], .slice A' ws.length c'] W (TwoPost FV CE W))) (HFewest2 : Hid (∀ W, Below w.heap.size w W → Calls Try.prog 17 #[.agg #[.int .i64 full, .int .i64 read, .int .i64 slip, .int .i64 skew, .int .i64 circ, .int .i64 glo, .int .i64 ghi, .int .i64 wrn], .slice A ws.length c] W (TwoPost FV CE W)))
    (HMany1 : Hid (∀ A' c' W, Wks W W.heap.size A' ws → Calls Try.prog 18 #[.agg #[.int .i64 full, .int .i64 read, .int .i64 slip, .int .i64 skew, .int .i64 circ, .int .i64 glo, .int .i64 ghi, .int .i64 wrn], .slice A' ws.length c'] W (TwoPost MV E W))) (HMany2 : Hid (∀ W, Below w.heap.size w W → Calls Try.prog 19 #[.agg #[.int .i64 full, .int .i64 read, .int .i64 slip, .int .i64 skew, .int .i64 circ, .int .i64 glo, .int .i64 ghi, .int .i64 wrn], .slice A ws.length c] W (TwoPost MV E W)))
    (HAreas1 : Hid (∀ A' c' W, Wks W W.heap.size A' ws → Calls Try.prog 20 #[.agg #[.int .i64 full, .int .i64 read, .int .i64 slip, .int .i64 skew, .int .i64 circ, .int .i64 glo, .int .i64 ghi, .int .i64 wrn], .slice A' ws.length c'] W (IntsEPost LA E W))) (HAreas2 : Hid (∀ W, Below w.heap.size w W → Calls Try.prog 21 #[.agg #[.int .i64 full, .int .i64 read, .int .i64 slip, .int .i64 skew, .int .i64 circ, .int .i64 glo, .int .i64 ghi, .int .i64 wrn], .slice A ws.length c] W (IntsEPost LA E W)))
    (HBound1 : Hid (∀ A' c' W, Wks W W.heap.size A' ws → Calls Try.prog 23 #[.agg #[.int .i64 full, .int .i64 read, .int .i64 slip, .int .i64 skew, .int .i64 circ, .int .i64 glo, .int .i64 ghi, .int .i64 wrn], .slice A' ws.length c'] W (BoundPost sb E W))) (HBound2 : Hid (∀ W, Below w.heap.size w W → Calls Try.prog 24 #[.agg #[.int .i64 full, .int .i64 read, .int .i64 slip, .int .i64 skew, .int .i64 circ, .int .i64 glo, .int .i64 ghi, .int .i64 wrn], .slice A ws.length c] W (BoundPost sb E W)))
    (HSkews1 : Hid (∀ A' c' W, Wks W W.heap.size A' ws → Calls Try.prog 25 #[.agg #[.int .i64 full, .int .i64 read, .int .i64 slip, .int .i64 skew, .int .i64 circ, .int .i64 glo, .int .i64 ghi, .int .i64 wrn], .slice A' ws.length c'] W (IntsEPost LK E W))) (HSkews2 : Hid (∀ W, Below w.heap.size w W → Calls Try.prog 26 #[.agg #[.int .i64 full, .int .i64 read, .int .i64 slip, .int .i64 skew, .int .i64 circ, .int .i64 glo, .int .i64 ghi, .int .i64 wrn], .slice A ws.length c] W (IntsEPost LK E W)))
    (HStrange1 : Hid (∀ A' c' W, Wks W W.heap.size A' ws → Calls Try.prog 27 #[.agg #[.int .i64 full, .int .i64 read, .int .i64 slip, .int .i64 skew, .int .i64 circ, .int .i64 glo, .int .i64 ghi, .int .i64 wrn], .slice A' ws.length c'] W (IntsEPost LS E W))) (HStrange2 : Hid (∀ W, Below w.heap.size w W → Calls Try.prog 28 #[.agg #[.int .i64 full, .int .i64 read, .int .i64 slip, .int .i64 skew, .int .i64 circ, .int .i64 glo, .int .i64 ghi, .int .i64 wrn], .slice A ws.length c] W (IntsEPost LS E W)))
    (HSIA : Hid (∀ v v' W, Ints W W.heap.size v LA → Ints W W.heap.size v' LA → Calls Try.prog 22 #[v, v'] W (YesPost true W)))
    (HSIK : Hid (∀ v v' W, Ints W W.heap.size v LK → Ints W W.heap.size v' LK → Calls Try.prog 22 #[v, v'] W (YesPost true W)))
    (HSIS : Hid (∀ v v' W, Ints W W.heap.size v LS → Ints W W.heap.size v' LS → Calls Try.prog 22 #[v, v'] W (YesPost true W)))
    (HSW : Hid (∀ A' c' W, Below w.heap.size w W → Wks W W.heap.size A' ws → Calls Try.prog 29 #[.slice A' ws.length c', .slice A ws.length c] W (YesPost true W))) :
    Calls Try.prog 3 #[.agg #[.int .i64 full, .int .i64 read, .int .i64 slip, .int .i64 skew, .int .i64 circ, .int .i64 glo, .int .i64 ghi, .int .i64 wrn], .slice A ws.length c] w (YesPost true w) := by
  go_enter Try.func3, Try.ntmps3
  go_wp2_with fail
  have bS1 := BoxS.new w 25 #[.int .i64 full, .int .i64 read, .int .i64 slip, .int .i64 skew, .int .i64 circ, .int .i64 glo, .int .i64 ghi, .int .i64 wrn]
  have hB1 : Below w.heap.size w (w.alloc (.cells #[.int .i64 full, .int .i64 read, .int .i64 slip, .int .i64 skew, .int .i64 circ, .int .i64 glo, .int .i64 ghi, .int .i64 wrn] 25)) := by (repeat' (first | (with_reducible exact Below.refl _ _) | (with_reducible assumption) | (with_reducible refine Below.alloc ?_ ?_ _) | (with_reducible refine Below.drew ?_) | (with_reducible refine Below.setCell ?_ ?_ _) | go_size | (exact (by simp)) | omega))
  generalize World.alloc w _ = w1 at *
  refine (HF.out _ hB1).mono ?_
  rintro e w2 ⟨rfl, hb2⟩
  have bS2 := bS1.below hb2
  have hB2 := hB1.trans (hb2.mono hB1.size)
  clear bS1 hB1 hb2
  have cs0 : w2.cell? ⟨w.heap.size, 0, none⟩ = some (.int .i64 full) := bS2.cell 0 rfl
  have cs1 : w2.cell? ⟨w.heap.size, 1, none⟩ = some (.int .i64 read) := bS2.cell 1 rfl
  have cs2 : w2.cell? ⟨w.heap.size, 2, none⟩ = some (.int .i64 slip) := bS2.cell 2 rfl
  have cs3 : w2.cell? ⟨w.heap.size, 3, none⟩ = some (.int .i64 skew) := bS2.cell 3 rfl
  have cs4 : w2.cell? ⟨w.heap.size, 4, none⟩ = some (.int .i64 circ) := bS2.cell 4 rfl
  have cs5 : w2.cell? ⟨w.heap.size, 5, none⟩ = some (.int .i64 glo) := bS2.cell 5 rfl
  have cs6 : w2.cell? ⟨w.heap.size, 6, none⟩ = some (.int .i64 ghi) := bS2.cell 6 rfl
  have cs7 : w2.cell? ⟨w.heap.size, 7, none⟩ = some (.int .i64 wrn) := bS2.cell 7 rfl
  have lS2 := bS2.lt
  go_upto_region 3 with fail
  have HWl2 : Hid (Wks w2 w2.heap.size A ws) := (HG.out.keep hB2).wider hB2.size
  go_upto_region 4 with (at_builtin; go_must (refine wpList_copyw rfl (.tmp 28) (.tmp 29) rfl A c ws w2.heap.size rfl rfl rfl HWl2.out (by omega) ?_; intro Ao co w3 hown3 hb3))
  have bS3 := bS2.below hb3
  have hB3 := hB2.trans (hb3.mono hB2.size)
  clear cs0 cs1 cs2 cs3 cs4 cs5 cs6 cs7 lS2 bS2 hB2 hb3 HWl2
  have WO3 : Hid (Wks w3 w3.heap.size Ao ws) := wks_of_own hown3
  clear hown3
  have cs0 : w3.cell? ⟨w.heap.size, 0, none⟩ = some (.int .i64 full) := bS3.cell 0 rfl
  have cs1 : w3.cell? ⟨w.heap.size, 1, none⟩ = some (.int .i64 read) := bS3.cell 1 rfl
  have cs2 : w3.cell? ⟨w.heap.size, 2, none⟩ = some (.int .i64 slip) := bS3.cell 2 rfl
  have cs3 : w3.cell? ⟨w.heap.size, 3, none⟩ = some (.int .i64 skew) := bS3.cell 3 rfl
  have cs4 : w3.cell? ⟨w.heap.size, 4, none⟩ = some (.int .i64 circ) := bS3.cell 4 rfl
  have cs5 : w3.cell? ⟨w.heap.size, 5, none⟩ = some (.int .i64 glo) := bS3.cell 5 rfl
  have cs6 : w3.cell? ⟨w.heap.size, 6, none⟩ = some (.int .i64 ghi) := bS3.cell 6 rfl
  have cs7 : w3.cell? ⟨w.heap.size, 7, none⟩ = some (.int .i64 wrn) := bS3.cell 7 rfl
  have lS3 := bS3.lt
  go_wp2_with fail
  have hmo : Try.prog.follows .mixedOrders = true := by kernel_rfl
  have q0 : Below w3.heap.size w3 w3.drew := (Below.refl _ _).drew
  have KC : Hid (∀ W', Below w3.heap.size w3 W' → (((W'.cell? ⟨w.heap.size, 0, none⟩ = some (.int .i64 full) ∧ W'.cell? ⟨w.heap.size, 1, none⟩ = some (.int .i64 read) ∧ W'.cell? ⟨w.heap.size, 2, none⟩ = some (.int .i64 slip)) ∧ W'.cell? ⟨w.heap.size, 3, none⟩ = some (.int .i64 skew) ∧ W'.cell? ⟨w.heap.size, 4, none⟩ = some (.int .i64 circ) ∧ W'.cell? ⟨w.heap.size, 5, none⟩ = some (.int .i64 glo)) ∧ W'.cell? ⟨w.heap.size, 6, none⟩ = some (.int .i64 ghi) ∧ W'.cell? ⟨w.heap.size, 7, none⟩ = some (.int .i64 wrn))) := fun W' h => boxS8 (bS3.below h)
  have WOq : Hid (Wks w3.drew w3.drew.heap.size Ao ws) := (WO3.out.keep q0).wider q0.size
  refine (wpIn_wide (n := 4)).1 ?_
  refine wpIn_region_held (fun W' => Below w3.heap.size w3 W') 30 hmo ?_
  refine wpHeldIn_take (i := 0) (v := ?_) (plain_of (by kernel_rfl)) rfl (by kernel_rfl) (fun _ _ _ h => h) (yieldsSoIn_of (by kernel_rfl) ?_ (fun _ => rfl)) q0 ?_; rotate_left; focus (intro wq hw; have kq := KC.out wq hw; clear hw; go_simp; try (with_reducible rfl))
  refine wpHeldIn_take (i := 1) (v := ?_) (plain_of (by kernel_rfl)) rfl (by kernel_rfl) (fun _ _ _ h => h) (yieldsSoIn_of (by kernel_rfl) ?_ (fun _ => rfl)) q0 ?_; rotate_left; focus (intro wq hw; clear hw; go_simp; try (with_reducible rfl))
  refine wpHeldIn_take (i := 3) (v := ?_) (plain_of (by kernel_rfl)) rfl (by kernel_rfl) (fun _ _ _ h => h) (yieldsSoIn_of (by kernel_rfl) ?_ (fun _ => rfl)) q0 ?_; rotate_left; focus (intro wq hw; have kq := KC.out wq hw; clear hw; go_simp; try (with_reducible rfl))
  refine wpHeldIn_take (i := 4) (v := ?_) (plain_of (by kernel_rfl)) rfl (by kernel_rfl) (fun _ _ _ h => h) (yieldsSoIn_of (by kernel_rfl) ?_ (fun _ => rfl)) q0 ?_; rotate_left; focus (intro wq hw; clear hw; go_simp; try (with_reducible rfl))
  refine wpHeldIn_one (i := 2) (by kernel_rfl) (by kernel_rfl) rfl (by kernel_rfl) (fun K1 hK1 => ?_)
  go_simp
  refine ⟨trivial, (callsIn_wide.2 (HCheck1.out _ _ _ WOq.out)).mono ?_⟩
  rintro e wa ⟨rfl, hba⟩
  have q1 := q0.trans (hba.mono q0.size)
  refine hK1 _ _ q1 ?_
  refine wpHeldIn_one (i := 5) (by kernel_rfl) (by kernel_rfl) rfl (by kernel_rfl) (fun K2 hK2 => ?_)
  go_simp
  refine ⟨trivial, (callsIn_wide.2 (HCheck2.out _ (hB3.trans (q1.mono hB3.size)))).mono ?_⟩
  rintro e w4 ⟨rfl, hbb⟩
  have q2 := q1.trans (hbb.mono q1.size)
  refine hK2 _ _ q2 ?_
  refine wpHeldIn_take (i := 6) (v := ?_) (plain_of (by kernel_rfl)) rfl (by kernel_rfl) (fun _ _ _ h => h) (yieldsSoIn_of (by kernel_rfl) ?_ (fun _ => rfl)) q2 ?_; rotate_left; focus (intro wq hw; clear hw; go_simp; try (with_reducible rfl))
  refine wpHeldIn_done (by kernel_rfl) ?_ _
  go_simp
  have bS4 := bS3.below q2
  have hB4 := hB3.trans (q2.mono hB3.size)
  have WO4 : Hid (Wks w4 w4.heap.size Ao ws) := (WO3.out.keep q2).wider q2.size
  clear cs0 cs1 cs2 cs3 cs4 cs5 cs6 cs7 lS3 bS3 WO3 hB3 q0 q1 q2 hba hbb KC WOq hmo
  have cs0 : w4.cell? ⟨w.heap.size, 0, none⟩ = some (.int .i64 full) := bS4.cell 0 rfl
  have cs1 : w4.cell? ⟨w.heap.size, 1, none⟩ = some (.int .i64 read) := bS4.cell 1 rfl
  have cs2 : w4.cell? ⟨w.heap.size, 2, none⟩ = some (.int .i64 slip) := bS4.cell 2 rfl
  have cs3 : w4.cell? ⟨w.heap.size, 3, none⟩ = some (.int .i64 skew) := bS4.cell 3 rfl
  have cs4 : w4.cell? ⟨w.heap.size, 4, none⟩ = some (.int .i64 circ) := bS4.cell 4 rfl
  have cs5 : w4.cell? ⟨w.heap.size, 5, none⟩ = some (.int .i64 glo) := bS4.cell 5 rfl
  have cs6 : w4.cell? ⟨w.heap.size, 6, none⟩ = some (.int .i64 ghi) := bS4.cell 6 rfl
  have cs7 : w4.cell? ⟨w.heap.size, 7, none⟩ = some (.int .i64 wrn) := bS4.cell 7 rfl
  have lS4 := bS4.lt
  go_wp2_with fail
  refine (HFewest1.out _ _ _ WO4.out).mono ?_
  rintro e w5 ⟨rfl, hb5⟩
  have bS5 := bS4.below hb5
  have hB5 := hB4.trans (hb5.mono hB4.size)
  have WO5 : Hid (Wks w5 w5.heap.size Ao ws) := (WO4.out.keep hb5).wider hb5.size
  clear cs0 cs1 cs2 cs3 cs4 cs5 cs6 cs7 lS4 bS4 WO4 hB4 hb5
  have cs0 : w5.cell? ⟨w.heap.size, 0, none⟩ = some (.int .i64 full) := bS5.cell 0 rfl
  have cs1 : w5.cell? ⟨w.heap.size, 1, none⟩ = some (.int .i64 read) := bS5.cell 1 rfl
  have cs2 : w5.cell? ⟨w.heap.size, 2, none⟩ = some (.int .i64 slip) := bS5.cell 2 rfl
  have cs3 : w5.cell? ⟨w.heap.size, 3, none⟩ = some (.int .i64 skew) := bS5.cell 3 rfl
  have cs4 : w5.cell? ⟨w.heap.size, 4, none⟩ = some (.int .i64 circ) := bS5.cell 4 rfl
  have cs5 : w5.cell? ⟨w.heap.size, 5, none⟩ = some (.int .i64 glo) := bS5.cell 5 rfl
  have cs6 : w5.cell? ⟨w.heap.size, 6, none⟩ = some (.int .i64 ghi) := bS5.cell 6 rfl
  have cs7 : w5.cell? ⟨w.heap.size, 7, none⟩ = some (.int .i64 wrn) := bS5.cell 7 rfl
  have lS5 := bS5.lt
  go_wp2_with fail
  refine (HFewest2.out _ hB5).mono ?_
  rintro e w6 ⟨rfl, hb6⟩
  have bS6 := bS5.below hb6
  have hB6 := hB5.trans (hb6.mono hB5.size)
  have WO6 : Hid (Wks w6 w6.heap.size Ao ws) := (WO5.out.keep hb6).wider hb6.size
  clear cs0 cs1 cs2 cs3 cs4 cs5 cs6 cs7 lS5 bS5 WO5 hB5 hb6
  have cs0 : w6.cell? ⟨w.heap.size, 0, none⟩ = some (.int .i64 full) := bS6.cell 0 rfl
  have cs1 : w6.cell? ⟨w.heap.size, 1, none⟩ = some (.int .i64 read) := bS6.cell 1 rfl
  have cs2 : w6.cell? ⟨w.heap.size, 2, none⟩ = some (.int .i64 slip) := bS6.cell 2 rfl
  have cs3 : w6.cell? ⟨w.heap.size, 3, none⟩ = some (.int .i64 skew) := bS6.cell 3 rfl
  have cs4 : w6.cell? ⟨w.heap.size, 4, none⟩ = some (.int .i64 circ) := bS6.cell 4 rfl
  have cs5 : w6.cell? ⟨w.heap.size, 5, none⟩ = some (.int .i64 glo) := bS6.cell 5 rfl
  have cs6 : w6.cell? ⟨w.heap.size, 6, none⟩ = some (.int .i64 ghi) := bS6.cell 6 rfl
  have cs7 : w6.cell? ⟨w.heap.size, 7, none⟩ = some (.int .i64 wrn) := bS6.cell 7 rfl
  have lS6 := bS6.lt
  go_wp2_with fail
  refine (HMany1.out _ _ _ WO6.out).mono ?_
  rintro e w7 ⟨rfl, hb7⟩
  have bS7 := bS6.below hb7
  have hB7 := hB6.trans (hb7.mono hB6.size)
  have WO7 : Hid (Wks w7 w7.heap.size Ao ws) := (WO6.out.keep hb7).wider hb7.size
  clear cs0 cs1 cs2 cs3 cs4 cs5 cs6 cs7 lS6 bS6 WO6 hB6 hb7
  have cs0 : w7.cell? ⟨w.heap.size, 0, none⟩ = some (.int .i64 full) := bS7.cell 0 rfl
  have cs1 : w7.cell? ⟨w.heap.size, 1, none⟩ = some (.int .i64 read) := bS7.cell 1 rfl
  have cs2 : w7.cell? ⟨w.heap.size, 2, none⟩ = some (.int .i64 slip) := bS7.cell 2 rfl
  have cs3 : w7.cell? ⟨w.heap.size, 3, none⟩ = some (.int .i64 skew) := bS7.cell 3 rfl
  have cs4 : w7.cell? ⟨w.heap.size, 4, none⟩ = some (.int .i64 circ) := bS7.cell 4 rfl
  have cs5 : w7.cell? ⟨w.heap.size, 5, none⟩ = some (.int .i64 glo) := bS7.cell 5 rfl
  have cs6 : w7.cell? ⟨w.heap.size, 6, none⟩ = some (.int .i64 ghi) := bS7.cell 6 rfl
  have cs7 : w7.cell? ⟨w.heap.size, 7, none⟩ = some (.int .i64 wrn) := bS7.cell 7 rfl
  have lS7 := bS7.lt
  go_wp2_with fail
  refine (HMany2.out _ hB7).mono ?_
  rintro e w8 ⟨rfl, hb8⟩
  have bS8 := bS7.below hb8
  have hB8 := hB7.trans (hb8.mono hB7.size)
  have WO8 : Hid (Wks w8 w8.heap.size Ao ws) := (WO7.out.keep hb8).wider hb8.size
  clear cs0 cs1 cs2 cs3 cs4 cs5 cs6 cs7 lS7 bS7 WO7 hB7 hb8
  have cs0 : w8.cell? ⟨w.heap.size, 0, none⟩ = some (.int .i64 full) := bS8.cell 0 rfl
  have cs1 : w8.cell? ⟨w.heap.size, 1, none⟩ = some (.int .i64 read) := bS8.cell 1 rfl
  have cs2 : w8.cell? ⟨w.heap.size, 2, none⟩ = some (.int .i64 slip) := bS8.cell 2 rfl
  have cs3 : w8.cell? ⟨w.heap.size, 3, none⟩ = some (.int .i64 skew) := bS8.cell 3 rfl
  have cs4 : w8.cell? ⟨w.heap.size, 4, none⟩ = some (.int .i64 circ) := bS8.cell 4 rfl
  have cs5 : w8.cell? ⟨w.heap.size, 5, none⟩ = some (.int .i64 glo) := bS8.cell 5 rfl
  have cs6 : w8.cell? ⟨w.heap.size, 6, none⟩ = some (.int .i64 ghi) := bS8.cell 6 rfl
  have cs7 : w8.cell? ⟨w.heap.size, 7, none⟩ = some (.int .i64 wrn) := bS8.cell 7 rfl
  have lS8 := bS8.lt
  go_wp2_with fail
  refine (HAreas1.out _ _ _ WO8.out).mono ?_
  rintro e w9 ⟨v9, rfl, hv9, hb9⟩
  obtain ⟨ALX, cLX, rfl⟩ := ints_form hv9.out
  have bS9 := bS8.below hb9
  have hB9 := hB8.trans (hb9.mono hB8.size)
  have WO9 : Hid (Wks w9 w9.heap.size Ao ws) := (WO8.out.keep hb9).wider hb9.size
  clear cs0 cs1 cs2 cs3 cs4 cs5 cs6 cs7 lS8 bS8 WO8 hB8 hb9
  have LX9 : Hid (Ints w9 w9.heap.size (.slice ALX LA.length cLX) LA) := hv9
  clear hv9
  have cs0 : w9.cell? ⟨w.heap.size, 0, none⟩ = some (.int .i64 full) := bS9.cell 0 rfl
  have cs1 : w9.cell? ⟨w.heap.size, 1, none⟩ = some (.int .i64 read) := bS9.cell 1 rfl
  have cs2 : w9.cell? ⟨w.heap.size, 2, none⟩ = some (.int .i64 slip) := bS9.cell 2 rfl
  have cs3 : w9.cell? ⟨w.heap.size, 3, none⟩ = some (.int .i64 skew) := bS9.cell 3 rfl
  have cs4 : w9.cell? ⟨w.heap.size, 4, none⟩ = some (.int .i64 circ) := bS9.cell 4 rfl
  have cs5 : w9.cell? ⟨w.heap.size, 5, none⟩ = some (.int .i64 glo) := bS9.cell 5 rfl
  have cs6 : w9.cell? ⟨w.heap.size, 6, none⟩ = some (.int .i64 ghi) := bS9.cell 6 rfl
  have cs7 : w9.cell? ⟨w.heap.size, 7, none⟩ = some (.int .i64 wrn) := bS9.cell 7 rfl
  have lS9 := bS9.lt
  go_wp2_with fail
  refine (HAreas2.out _ hB9).mono ?_
  rintro e w10 ⟨v10, rfl, hv10, hb10⟩
  obtain ⟨ALY, cLY, rfl⟩ := ints_form hv10.out
  have bS10 := bS9.below hb10
  have hB10 := hB9.trans (hb10.mono hB9.size)
  have WO10 : Hid (Wks w10 w10.heap.size Ao ws) := (WO9.out.keep hb10).wider hb10.size
  have LX10 : Hid (Ints w10 w10.heap.size (.slice ALX LA.length cLX) LA) := (LX9.out.keep hb10).more hb10.size
  clear cs0 cs1 cs2 cs3 cs4 cs5 cs6 cs7 lS9 bS9 WO9 LX9 hB9 hb10
  have LY10 : Hid (Ints w10 w10.heap.size (.slice ALY LA.length cLY) LA) := hv10
  clear hv10
  have cs0 : w10.cell? ⟨w.heap.size, 0, none⟩ = some (.int .i64 full) := bS10.cell 0 rfl
  have cs1 : w10.cell? ⟨w.heap.size, 1, none⟩ = some (.int .i64 read) := bS10.cell 1 rfl
  have cs2 : w10.cell? ⟨w.heap.size, 2, none⟩ = some (.int .i64 slip) := bS10.cell 2 rfl
  have cs3 : w10.cell? ⟨w.heap.size, 3, none⟩ = some (.int .i64 skew) := bS10.cell 3 rfl
  have cs4 : w10.cell? ⟨w.heap.size, 4, none⟩ = some (.int .i64 circ) := bS10.cell 4 rfl
  have cs5 : w10.cell? ⟨w.heap.size, 5, none⟩ = some (.int .i64 glo) := bS10.cell 5 rfl
  have cs6 : w10.cell? ⟨w.heap.size, 6, none⟩ = some (.int .i64 ghi) := bS10.cell 6 rfl
  have cs7 : w10.cell? ⟨w.heap.size, 7, none⟩ = some (.int .i64 wrn) := bS10.cell 7 rfl
  have lS10 := bS10.lt
  go_wp2_with fail
  refine (HSIA.out _ _ _ LX10.out LY10.out).mono ?_
  rintro e w11 ⟨rfl, hb11⟩
  have bS11 := bS10.below hb11
  have hB11 := hB10.trans (hb11.mono hB10.size)
  have WO11 : Hid (Wks w11 w11.heap.size Ao ws) := (WO10.out.keep hb11).wider hb11.size
  have LX11 : Hid (Ints w11 w11.heap.size (.slice ALX LA.length cLX) LA) := (LX10.out.keep hb11).more hb11.size
  have LY11 : Hid (Ints w11 w11.heap.size (.slice ALY LA.length cLY) LA) := (LY10.out.keep hb11).more hb11.size
  clear cs0 cs1 cs2 cs3 cs4 cs5 cs6 cs7 lS10 bS10 WO10 LX10 LY10 hB10 hb11
  have cs0 : w11.cell? ⟨w.heap.size, 0, none⟩ = some (.int .i64 full) := bS11.cell 0 rfl
  have cs1 : w11.cell? ⟨w.heap.size, 1, none⟩ = some (.int .i64 read) := bS11.cell 1 rfl
  have cs2 : w11.cell? ⟨w.heap.size, 2, none⟩ = some (.int .i64 slip) := bS11.cell 2 rfl
  have cs3 : w11.cell? ⟨w.heap.size, 3, none⟩ = some (.int .i64 skew) := bS11.cell 3 rfl
  have cs4 : w11.cell? ⟨w.heap.size, 4, none⟩ = some (.int .i64 circ) := bS11.cell 4 rfl
  have cs5 : w11.cell? ⟨w.heap.size, 5, none⟩ = some (.int .i64 glo) := bS11.cell 5 rfl
  have cs6 : w11.cell? ⟨w.heap.size, 6, none⟩ = some (.int .i64 ghi) := bS11.cell 6 rfl
  have cs7 : w11.cell? ⟨w.heap.size, 7, none⟩ = some (.int .i64 wrn) := bS11.cell 7 rfl
  have lS11 := bS11.lt
  go_wp2_with fail
  refine (HBound1.out _ _ _ WO11.out).mono ?_
  rintro e w12 ⟨rfl, hb12⟩
  have bS12 := bS11.below hb12
  have hB12 := hB11.trans (hb12.mono hB11.size)
  have WO12 : Hid (Wks w12 w12.heap.size Ao ws) := (WO11.out.keep hb12).wider hb12.size
  clear cs0 cs1 cs2 cs3 cs4 cs5 cs6 cs7 lS11 bS11 WO11 hB11 hb12
  have cs0 : w12.cell? ⟨w.heap.size, 0, none⟩ = some (.int .i64 full) := bS12.cell 0 rfl
  have cs1 : w12.cell? ⟨w.heap.size, 1, none⟩ = some (.int .i64 read) := bS12.cell 1 rfl
  have cs2 : w12.cell? ⟨w.heap.size, 2, none⟩ = some (.int .i64 slip) := bS12.cell 2 rfl
  have cs3 : w12.cell? ⟨w.heap.size, 3, none⟩ = some (.int .i64 skew) := bS12.cell 3 rfl
  have cs4 : w12.cell? ⟨w.heap.size, 4, none⟩ = some (.int .i64 circ) := bS12.cell 4 rfl
  have cs5 : w12.cell? ⟨w.heap.size, 5, none⟩ = some (.int .i64 glo) := bS12.cell 5 rfl
  have cs6 : w12.cell? ⟨w.heap.size, 6, none⟩ = some (.int .i64 ghi) := bS12.cell 6 rfl
  have cs7 : w12.cell? ⟨w.heap.size, 7, none⟩ = some (.int .i64 wrn) := bS12.cell 7 rfl
  have lS12 := bS12.lt
  go_wp2_with fail
  have bV13n := BoxS.new w12 23 #[.int .i64 sb.1, .int .i64 sb.2]
  have hbx : Below w12.heap.size w12 (w12.alloc (.cells #[.int .i64 sb.1, .int .i64 sb.2] 23)) := (Below.refl _ _).alloc (Nat.le_refl _) _
  have bS13 := bS12.below hbx
  have hB13 := hB12.trans (hbx.mono hB12.size)
  have WO13 : Hid (Wks (w12.alloc (.cells #[.int .i64 sb.1, .int .i64 sb.2] 23)) (w12.alloc (.cells #[.int .i64 sb.1, .int .i64 sb.2] 23)).heap.size Ao ws) := (WO12.out.keep hbx).wider hbx.size
  obtain ⟨BV, hBe⟩ : ∃ B, B = w12.heap.size := ⟨_, rfl⟩
  have kV : w.heap.size < BV := by have := bS12.lt; omega
  rw [← hBe] at bV13n ⊢
  have bV13 := bV13n
  clear cs0 cs1 cs2 cs3 cs4 cs5 cs6 cs7 lS12 bS12 WO12 hB12 hbx hBe bV13n
  generalize World.alloc w12 _ = w13 at *
  refine (HBound2.out _ hB13).mono ?_
  rintro e w14 ⟨rfl, hb14⟩
  have bS14 := bS13.below hb14
  have bV14 := bV13.below hb14
  have hB14 := hB13.trans (hb14.mono hB13.size)
  have WO14 : Hid (Wks w14 w14.heap.size Ao ws) := (WO13.out.keep hb14).wider hb14.size
  clear bS13 bV13 WO13 hB13 hb14
  have cs0 : w14.cell? ⟨w.heap.size, 0, none⟩ = some (.int .i64 full) := bS14.cell 0 rfl
  have cs1 : w14.cell? ⟨w.heap.size, 1, none⟩ = some (.int .i64 read) := bS14.cell 1 rfl
  have cs2 : w14.cell? ⟨w.heap.size, 2, none⟩ = some (.int .i64 slip) := bS14.cell 2 rfl
  have cs3 : w14.cell? ⟨w.heap.size, 3, none⟩ = some (.int .i64 skew) := bS14.cell 3 rfl
  have cs4 : w14.cell? ⟨w.heap.size, 4, none⟩ = some (.int .i64 circ) := bS14.cell 4 rfl
  have cs5 : w14.cell? ⟨w.heap.size, 5, none⟩ = some (.int .i64 glo) := bS14.cell 5 rfl
  have cs6 : w14.cell? ⟨w.heap.size, 6, none⟩ = some (.int .i64 ghi) := bS14.cell 6 rfl
  have cs7 : w14.cell? ⟨w.heap.size, 7, none⟩ = some (.int .i64 wrn) := bS14.cell 7 rfl
  have lS14 := bS14.lt
  have cv0 : w14.cell? ⟨BV, 0, none⟩ = some (.int .i64 sb.1) := bV14.cell 0 rfl
  have cv1 : w14.cell? ⟨BV, 1, none⟩ = some (.int .i64 sb.2) := bV14.cell 1 rfl
  have lV14 := bV14.lt
  go_wp2_with fail
  have bU15n := BoxS.new w14 23 #[.int .i64 sb.1, .int .i64 sb.2]
  have hbx : Below w14.heap.size w14 (w14.alloc (.cells #[.int .i64 sb.1, .int .i64 sb.2] 23)) := (Below.refl _ _).alloc (Nat.le_refl _) _
  have bS15 := bS14.below hbx
  have bV15 := bV14.below hbx
  have hB15 := hB14.trans (hbx.mono hB14.size)
  have WO15 : Hid (Wks (w14.alloc (.cells #[.int .i64 sb.1, .int .i64 sb.2] 23)) (w14.alloc (.cells #[.int .i64 sb.1, .int .i64 sb.2] 23)).heap.size Ao ws) := (WO14.out.keep hbx).wider hbx.size
  obtain ⟨BU, hBe⟩ : ∃ B, B = w14.heap.size := ⟨_, rfl⟩
  have kU : BV < BU := by have := bV14.lt; omega
  rw [← hBe] at bU15n ⊢
  have bU15 := bU15n
  clear cs0 cs1 cs2 cs3 cs4 cs5 cs6 cs7 lS14 cv0 cv1 lV14 bS14 bV14 WO14 hB14 hbx hBe bU15n
  generalize World.alloc w14 _ = w15 at *
  refine (HSkews1.out _ _ _ WO15.out).mono ?_
  rintro e w16 ⟨v16, rfl, hv16, hb16⟩
  obtain ⟨ALZ, cLZ, rfl⟩ := ints_form hv16.out
  have bS16 := bS15.below hb16
  have bV16 := bV15.below hb16
  have bU16 := bU15.below hb16
  have hB16 := hB15.trans (hb16.mono hB15.size)
  have WO16 : Hid (Wks w16 w16.heap.size Ao ws) := (WO15.out.keep hb16).wider hb16.size
  clear bS15 bV15 bU15 WO15 hB15 hb16
  have LZ16 : Hid (Ints w16 w16.heap.size (.slice ALZ LK.length cLZ) LK) := hv16
  clear hv16
  have cs0 : w16.cell? ⟨w.heap.size, 0, none⟩ = some (.int .i64 full) := bS16.cell 0 rfl
  have cs1 : w16.cell? ⟨w.heap.size, 1, none⟩ = some (.int .i64 read) := bS16.cell 1 rfl
  have cs2 : w16.cell? ⟨w.heap.size, 2, none⟩ = some (.int .i64 slip) := bS16.cell 2 rfl
  have cs3 : w16.cell? ⟨w.heap.size, 3, none⟩ = some (.int .i64 skew) := bS16.cell 3 rfl
  have cs4 : w16.cell? ⟨w.heap.size, 4, none⟩ = some (.int .i64 circ) := bS16.cell 4 rfl
  have cs5 : w16.cell? ⟨w.heap.size, 5, none⟩ = some (.int .i64 glo) := bS16.cell 5 rfl
  have cs6 : w16.cell? ⟨w.heap.size, 6, none⟩ = some (.int .i64 ghi) := bS16.cell 6 rfl
  have cs7 : w16.cell? ⟨w.heap.size, 7, none⟩ = some (.int .i64 wrn) := bS16.cell 7 rfl
  have lS16 := bS16.lt
  have cv0 : w16.cell? ⟨BV, 0, none⟩ = some (.int .i64 sb.1) := bV16.cell 0 rfl
  have cv1 : w16.cell? ⟨BV, 1, none⟩ = some (.int .i64 sb.2) := bV16.cell 1 rfl
  have lV16 := bV16.lt
  have cu0 : w16.cell? ⟨BU, 0, none⟩ = some (.int .i64 sb.1) := bU16.cell 0 rfl
  have cu1 : w16.cell? ⟨BU, 1, none⟩ = some (.int .i64 sb.2) := bU16.cell 1 rfl
  have lU16 := bU16.lt
  go_wp2_with fail
  refine (HSkews2.out _ hB16).mono ?_
  rintro e w17 ⟨v17, rfl, hv17, hb17⟩
  obtain ⟨ALU, cLU, rfl⟩ := ints_form hv17.out
  have bS17 := bS16.below hb17
  have bV17 := bV16.below hb17
  have bU17 := bU16.below hb17
  have hB17 := hB16.trans (hb17.mono hB16.size)
  have WO17 : Hid (Wks w17 w17.heap.size Ao ws) := (WO16.out.keep hb17).wider hb17.size
  have LZ17 : Hid (Ints w17 w17.heap.size (.slice ALZ LK.length cLZ) LK) := (LZ16.out.keep hb17).more hb17.size
  clear cs0 cs1 cs2 cs3 cs4 cs5 cs6 cs7 lS16 cv0 cv1 lV16 cu0 cu1 lU16 bS16 bV16 bU16 WO16 LZ16 hB16 hb17
  have LU17 : Hid (Ints w17 w17.heap.size (.slice ALU LK.length cLU) LK) := hv17
  clear hv17
  have cs0 : w17.cell? ⟨w.heap.size, 0, none⟩ = some (.int .i64 full) := bS17.cell 0 rfl
  have cs1 : w17.cell? ⟨w.heap.size, 1, none⟩ = some (.int .i64 read) := bS17.cell 1 rfl
  have cs2 : w17.cell? ⟨w.heap.size, 2, none⟩ = some (.int .i64 slip) := bS17.cell 2 rfl
  have cs3 : w17.cell? ⟨w.heap.size, 3, none⟩ = some (.int .i64 skew) := bS17.cell 3 rfl
  have cs4 : w17.cell? ⟨w.heap.size, 4, none⟩ = some (.int .i64 circ) := bS17.cell 4 rfl
  have cs5 : w17.cell? ⟨w.heap.size, 5, none⟩ = some (.int .i64 glo) := bS17.cell 5 rfl
  have cs6 : w17.cell? ⟨w.heap.size, 6, none⟩ = some (.int .i64 ghi) := bS17.cell 6 rfl
  have cs7 : w17.cell? ⟨w.heap.size, 7, none⟩ = some (.int .i64 wrn) := bS17.cell 7 rfl
  have lS17 := bS17.lt
  have cv0 : w17.cell? ⟨BV, 0, none⟩ = some (.int .i64 sb.1) := bV17.cell 0 rfl
  have cv1 : w17.cell? ⟨BV, 1, none⟩ = some (.int .i64 sb.2) := bV17.cell 1 rfl
  have lV17 := bV17.lt
  have cu0 : w17.cell? ⟨BU, 0, none⟩ = some (.int .i64 sb.1) := bU17.cell 0 rfl
  have cu1 : w17.cell? ⟨BU, 1, none⟩ = some (.int .i64 sb.2) := bU17.cell 1 rfl
  have lU17 := bU17.lt
  go_wp2_with fail
  refine (HStrange1.out _ _ _ WO17.out).mono ?_
  rintro e w18 ⟨v18, rfl, hv18, hb18⟩
  obtain ⟨ALV, cLV, rfl⟩ := ints_form hv18.out
  have bS18 := bS17.below hb18
  have bV18 := bV17.below hb18
  have bU18 := bU17.below hb18
  have hB18 := hB17.trans (hb18.mono hB17.size)
  have WO18 : Hid (Wks w18 w18.heap.size Ao ws) := (WO17.out.keep hb18).wider hb18.size
  have LZ18 : Hid (Ints w18 w18.heap.size (.slice ALZ LK.length cLZ) LK) := (LZ17.out.keep hb18).more hb18.size
  have LU18 : Hid (Ints w18 w18.heap.size (.slice ALU LK.length cLU) LK) := (LU17.out.keep hb18).more hb18.size
  clear cs0 cs1 cs2 cs3 cs4 cs5 cs6 cs7 lS17 cv0 cv1 lV17 cu0 cu1 lU17 bS17 bV17 bU17 WO17 LZ17 LU17 hB17 hb18
  have LV18 : Hid (Ints w18 w18.heap.size (.slice ALV LS.length cLV) LS) := hv18
  clear hv18
  have cs0 : w18.cell? ⟨w.heap.size, 0, none⟩ = some (.int .i64 full) := bS18.cell 0 rfl
  have cs1 : w18.cell? ⟨w.heap.size, 1, none⟩ = some (.int .i64 read) := bS18.cell 1 rfl
  have cs2 : w18.cell? ⟨w.heap.size, 2, none⟩ = some (.int .i64 slip) := bS18.cell 2 rfl
  have cs3 : w18.cell? ⟨w.heap.size, 3, none⟩ = some (.int .i64 skew) := bS18.cell 3 rfl
  have cs4 : w18.cell? ⟨w.heap.size, 4, none⟩ = some (.int .i64 circ) := bS18.cell 4 rfl
  have cs5 : w18.cell? ⟨w.heap.size, 5, none⟩ = some (.int .i64 glo) := bS18.cell 5 rfl
  have cs6 : w18.cell? ⟨w.heap.size, 6, none⟩ = some (.int .i64 ghi) := bS18.cell 6 rfl
  have cs7 : w18.cell? ⟨w.heap.size, 7, none⟩ = some (.int .i64 wrn) := bS18.cell 7 rfl
  have lS18 := bS18.lt
  have cv0 : w18.cell? ⟨BV, 0, none⟩ = some (.int .i64 sb.1) := bV18.cell 0 rfl
  have cv1 : w18.cell? ⟨BV, 1, none⟩ = some (.int .i64 sb.2) := bV18.cell 1 rfl
  have lV18 := bV18.lt
  have cu0 : w18.cell? ⟨BU, 0, none⟩ = some (.int .i64 sb.1) := bU18.cell 0 rfl
  have cu1 : w18.cell? ⟨BU, 1, none⟩ = some (.int .i64 sb.2) := bU18.cell 1 rfl
  have lU18 := bU18.lt
  go_wp2_with fail
  refine (HStrange2.out _ hB18).mono ?_
  rintro e w19 ⟨v19, rfl, hv19, hb19⟩
  obtain ⟨ALW, cLW, rfl⟩ := ints_form hv19.out
  have bS19 := bS18.below hb19
  have bV19 := bV18.below hb19
  have bU19 := bU18.below hb19
  have hB19 := hB18.trans (hb19.mono hB18.size)
  have WO19 : Hid (Wks w19 w19.heap.size Ao ws) := (WO18.out.keep hb19).wider hb19.size
  have LZ19 : Hid (Ints w19 w19.heap.size (.slice ALZ LK.length cLZ) LK) := (LZ18.out.keep hb19).more hb19.size
  have LU19 : Hid (Ints w19 w19.heap.size (.slice ALU LK.length cLU) LK) := (LU18.out.keep hb19).more hb19.size
  have LV19 : Hid (Ints w19 w19.heap.size (.slice ALV LS.length cLV) LS) := (LV18.out.keep hb19).more hb19.size
  clear cs0 cs1 cs2 cs3 cs4 cs5 cs6 cs7 lS18 cv0 cv1 lV18 cu0 cu1 lU18 bS18 bV18 bU18 WO18 LZ18 LU18 LV18 hB18 hb19
  have LW19 : Hid (Ints w19 w19.heap.size (.slice ALW LS.length cLW) LS) := hv19
  clear hv19
  have cs0 : w19.cell? ⟨w.heap.size, 0, none⟩ = some (.int .i64 full) := bS19.cell 0 rfl
  have cs1 : w19.cell? ⟨w.heap.size, 1, none⟩ = some (.int .i64 read) := bS19.cell 1 rfl
  have cs2 : w19.cell? ⟨w.heap.size, 2, none⟩ = some (.int .i64 slip) := bS19.cell 2 rfl
  have cs3 : w19.cell? ⟨w.heap.size, 3, none⟩ = some (.int .i64 skew) := bS19.cell 3 rfl
  have cs4 : w19.cell? ⟨w.heap.size, 4, none⟩ = some (.int .i64 circ) := bS19.cell 4 rfl
  have cs5 : w19.cell? ⟨w.heap.size, 5, none⟩ = some (.int .i64 glo) := bS19.cell 5 rfl
  have cs6 : w19.cell? ⟨w.heap.size, 6, none⟩ = some (.int .i64 ghi) := bS19.cell 6 rfl
  have cs7 : w19.cell? ⟨w.heap.size, 7, none⟩ = some (.int .i64 wrn) := bS19.cell 7 rfl
  have lS19 := bS19.lt
  have cv0 : w19.cell? ⟨BV, 0, none⟩ = some (.int .i64 sb.1) := bV19.cell 0 rfl
  have cv1 : w19.cell? ⟨BV, 1, none⟩ = some (.int .i64 sb.2) := bV19.cell 1 rfl
  have lV19 := bV19.lt
  have cu0 : w19.cell? ⟨BU, 0, none⟩ = some (.int .i64 sb.1) := bU19.cell 0 rfl
  have cu1 : w19.cell? ⟨BU, 1, none⟩ = some (.int .i64 sb.2) := bU19.cell 1 rfl
  have lU19 := bU19.lt
  go_wp2_with fail
  refine (HSIK.out _ _ _ LZ19.out LU19.out).mono ?_
  rintro e w20 ⟨rfl, hb20⟩
  have bS20 := bS19.below hb20
  have bV20 := bV19.below hb20
  have bU20 := bU19.below hb20
  have hB20 := hB19.trans (hb20.mono hB19.size)
  have WO20 : Hid (Wks w20 w20.heap.size Ao ws) := (WO19.out.keep hb20).wider hb20.size
  have LZ20 : Hid (Ints w20 w20.heap.size (.slice ALZ LK.length cLZ) LK) := (LZ19.out.keep hb20).more hb20.size
  have LU20 : Hid (Ints w20 w20.heap.size (.slice ALU LK.length cLU) LK) := (LU19.out.keep hb20).more hb20.size
  have LV20 : Hid (Ints w20 w20.heap.size (.slice ALV LS.length cLV) LS) := (LV19.out.keep hb20).more hb20.size
  have LW20 : Hid (Ints w20 w20.heap.size (.slice ALW LS.length cLW) LS) := (LW19.out.keep hb20).more hb20.size
  clear cs0 cs1 cs2 cs3 cs4 cs5 cs6 cs7 lS19 cv0 cv1 lV19 cu0 cu1 lU19 bS19 bV19 bU19 WO19 LZ19 LU19 LV19 LW19 hB19 hb20
  have cs0 : w20.cell? ⟨w.heap.size, 0, none⟩ = some (.int .i64 full) := bS20.cell 0 rfl
  have cs1 : w20.cell? ⟨w.heap.size, 1, none⟩ = some (.int .i64 read) := bS20.cell 1 rfl
  have cs2 : w20.cell? ⟨w.heap.size, 2, none⟩ = some (.int .i64 slip) := bS20.cell 2 rfl
  have cs3 : w20.cell? ⟨w.heap.size, 3, none⟩ = some (.int .i64 skew) := bS20.cell 3 rfl
  have cs4 : w20.cell? ⟨w.heap.size, 4, none⟩ = some (.int .i64 circ) := bS20.cell 4 rfl
  have cs5 : w20.cell? ⟨w.heap.size, 5, none⟩ = some (.int .i64 glo) := bS20.cell 5 rfl
  have cs6 : w20.cell? ⟨w.heap.size, 6, none⟩ = some (.int .i64 ghi) := bS20.cell 6 rfl
  have cs7 : w20.cell? ⟨w.heap.size, 7, none⟩ = some (.int .i64 wrn) := bS20.cell 7 rfl
  have lS20 := bS20.lt
  have cv0 : w20.cell? ⟨BV, 0, none⟩ = some (.int .i64 sb.1) := bV20.cell 0 rfl
  have cv1 : w20.cell? ⟨BV, 1, none⟩ = some (.int .i64 sb.2) := bV20.cell 1 rfl
  have lV20 := bV20.lt
  have cu0 : w20.cell? ⟨BU, 0, none⟩ = some (.int .i64 sb.1) := bU20.cell 0 rfl
  have cu1 : w20.cell? ⟨BU, 1, none⟩ = some (.int .i64 sb.2) := bU20.cell 1 rfl
  have lU20 := bU20.lt
  go_wp2_with fail
  refine (HSIS.out _ _ _ LV20.out LW20.out).mono ?_
  rintro e w21 ⟨rfl, hb21⟩
  have bS21 := bS20.below hb21
  have bV21 := bV20.below hb21
  have bU21 := bU20.below hb21
  have hB21 := hB20.trans (hb21.mono hB20.size)
  have WO21 : Hid (Wks w21 w21.heap.size Ao ws) := (WO20.out.keep hb21).wider hb21.size
  have LZ21 : Hid (Ints w21 w21.heap.size (.slice ALZ LK.length cLZ) LK) := (LZ20.out.keep hb21).more hb21.size
  have LU21 : Hid (Ints w21 w21.heap.size (.slice ALU LK.length cLU) LK) := (LU20.out.keep hb21).more hb21.size
  have LV21 : Hid (Ints w21 w21.heap.size (.slice ALV LS.length cLV) LS) := (LV20.out.keep hb21).more hb21.size
  have LW21 : Hid (Ints w21 w21.heap.size (.slice ALW LS.length cLW) LS) := (LW20.out.keep hb21).more hb21.size
  clear cs0 cs1 cs2 cs3 cs4 cs5 cs6 cs7 lS20 cv0 cv1 lV20 cu0 cu1 lU20 bS20 bV20 bU20 WO20 LZ20 LU20 LV20 LW20 hB20 hb21
  have cs0 : w21.cell? ⟨w.heap.size, 0, none⟩ = some (.int .i64 full) := bS21.cell 0 rfl
  have cs1 : w21.cell? ⟨w.heap.size, 1, none⟩ = some (.int .i64 read) := bS21.cell 1 rfl
  have cs2 : w21.cell? ⟨w.heap.size, 2, none⟩ = some (.int .i64 slip) := bS21.cell 2 rfl
  have cs3 : w21.cell? ⟨w.heap.size, 3, none⟩ = some (.int .i64 skew) := bS21.cell 3 rfl
  have cs4 : w21.cell? ⟨w.heap.size, 4, none⟩ = some (.int .i64 circ) := bS21.cell 4 rfl
  have cs5 : w21.cell? ⟨w.heap.size, 5, none⟩ = some (.int .i64 glo) := bS21.cell 5 rfl
  have cs6 : w21.cell? ⟨w.heap.size, 6, none⟩ = some (.int .i64 ghi) := bS21.cell 6 rfl
  have cs7 : w21.cell? ⟨w.heap.size, 7, none⟩ = some (.int .i64 wrn) := bS21.cell 7 rfl
  have lS21 := bS21.lt
  have cv0 : w21.cell? ⟨BV, 0, none⟩ = some (.int .i64 sb.1) := bV21.cell 0 rfl
  have cv1 : w21.cell? ⟨BV, 1, none⟩ = some (.int .i64 sb.2) := bV21.cell 1 rfl
  have lV21 := bV21.lt
  have cu0 : w21.cell? ⟨BU, 0, none⟩ = some (.int .i64 sb.1) := bU21.cell 0 rfl
  have cu1 : w21.cell? ⟨BU, 1, none⟩ = some (.int .i64 sb.2) := bU21.cell 1 rfl
  have lU21 := bU21.lt
  go_wp2_with fail
  refine (HSW.out _ _ _ hB21 WO21.out).mono ?_
  rintro e w22 ⟨rfl, hb22⟩
  have bS22 := bS21.below hb22
  have bV22 := bV21.below hb22
  have bU22 := bU21.below hb22
  have hB22 := hB21.trans (hb22.mono hB21.size)
  have WO22 : Hid (Wks w22 w22.heap.size Ao ws) := (WO21.out.keep hb22).wider hb22.size
  have LZ22 : Hid (Ints w22 w22.heap.size (.slice ALZ LK.length cLZ) LK) := (LZ21.out.keep hb22).more hb22.size
  have LU22 : Hid (Ints w22 w22.heap.size (.slice ALU LK.length cLU) LK) := (LU21.out.keep hb22).more hb22.size
  have LV22 : Hid (Ints w22 w22.heap.size (.slice ALV LS.length cLV) LS) := (LV21.out.keep hb22).more hb22.size
  have LW22 : Hid (Ints w22 w22.heap.size (.slice ALW LS.length cLW) LS) := (LW21.out.keep hb22).more hb22.size
  clear cs0 cs1 cs2 cs3 cs4 cs5 cs6 cs7 lS21 cv0 cv1 lV21 cu0 cu1 lU21 bS21 bV21 bU21 WO21 LZ21 LU21 LV21 LW21 hB21 hb22
  have cs0 : w22.cell? ⟨w.heap.size, 0, none⟩ = some (.int .i64 full) := bS22.cell 0 rfl
  have cs1 : w22.cell? ⟨w.heap.size, 1, none⟩ = some (.int .i64 read) := bS22.cell 1 rfl
  have cs2 : w22.cell? ⟨w.heap.size, 2, none⟩ = some (.int .i64 slip) := bS22.cell 2 rfl
  have cs3 : w22.cell? ⟨w.heap.size, 3, none⟩ = some (.int .i64 skew) := bS22.cell 3 rfl
  have cs4 : w22.cell? ⟨w.heap.size, 4, none⟩ = some (.int .i64 circ) := bS22.cell 4 rfl
  have cs5 : w22.cell? ⟨w.heap.size, 5, none⟩ = some (.int .i64 glo) := bS22.cell 5 rfl
  have cs6 : w22.cell? ⟨w.heap.size, 6, none⟩ = some (.int .i64 ghi) := bS22.cell 6 rfl
  have cs7 : w22.cell? ⟨w.heap.size, 7, none⟩ = some (.int .i64 wrn) := bS22.cell 7 rfl
  have lS22 := bS22.lt
  have cv0 : w22.cell? ⟨BV, 0, none⟩ = some (.int .i64 sb.1) := bV22.cell 0 rfl
  have cv1 : w22.cell? ⟨BV, 1, none⟩ = some (.int .i64 sb.2) := bV22.cell 1 rfl
  have lV22 := bV22.lt
  have cu0 : w22.cell? ⟨BU, 0, none⟩ = some (.int .i64 sb.1) := bU22.cell 0 rfl
  have cu1 : w22.cell? ⟨BU, 1, none⟩ = some (.int .i64 sb.2) := bU22.cell 1 rfl
  have lU22 := bU22.lt
  go_wp2_with fail
  refine (HWK.out _).mono ?_
  rintro e wz ⟨rfl, hbz⟩
  have hBz := hB22.trans (hbz.mono hB22.size)
  go_wp2_with fail
  go_returns
  exact ⟨rfl, hBz⟩
set_option maxRecDepth 100000 in
set_option maxHeartbeats 16000000 in
theorem AreasL_far (full read slip skew circ glo ghi wrn : Int) (n : Nat) (A : Option Addr) (c : Nat) (w : World)
    (HWK : Hid (∀ W, Calls Try.prog 13 #[] W (YesPost true W)))
    (HF : Hid (∀ W, Below w.heap.size w W → Calls Try.prog 12 #[.agg #[.int .i64 full, .int .i64 read, .int .i64 slip, .int .i64 skew, .int .i64 circ, .int .i64 glo, .int .i64 ghi, .int .i64 wrn], .slice A n c] W (YesPost true W))) :
    Calls Try.prog 3 #[.agg #[.int .i64 full, .int .i64 read, .int .i64 slip, .int .i64 skew, .int .i64 circ, .int .i64 glo, .int .i64 ghi, .int .i64 wrn], .slice A n c] w (YesPost true w) := by
  go_enter Try.func3, Try.ntmps3
  go_wp2_with fail
  have bS1 := BoxS.new w 25 #[.int .i64 full, .int .i64 read, .int .i64 slip, .int .i64 skew, .int .i64 circ, .int .i64 glo, .int .i64 ghi, .int .i64 wrn]
  have hB1 : Below w.heap.size w (w.alloc (.cells #[.int .i64 full, .int .i64 read, .int .i64 slip, .int .i64 skew, .int .i64 circ, .int .i64 glo, .int .i64 ghi, .int .i64 wrn] 25)) := by (repeat' (first | (with_reducible exact Below.refl _ _) | (with_reducible assumption) | (with_reducible refine Below.alloc ?_ ?_ _) | (with_reducible refine Below.drew ?_) | (with_reducible refine Below.setCell ?_ ?_ _) | go_size | (exact (by simp)) | omega))
  generalize World.alloc w _ = w1 at *
  refine (HF.out _ hB1).mono ?_
  rintro e w2 ⟨rfl, hb2⟩
  have bS2 := bS1.below hb2
  have hB2 := hB1.trans (hb2.mono hB1.size)
  clear bS1 hB1 hb2
  have cs0 : w2.cell? ⟨w.heap.size, 0, none⟩ = some (.int .i64 full) := bS2.cell 0 rfl
  have cs1 : w2.cell? ⟨w.heap.size, 1, none⟩ = some (.int .i64 read) := bS2.cell 1 rfl
  have cs2 : w2.cell? ⟨w.heap.size, 2, none⟩ = some (.int .i64 slip) := bS2.cell 2 rfl
  have cs3 : w2.cell? ⟨w.heap.size, 3, none⟩ = some (.int .i64 skew) := bS2.cell 3 rfl
  have cs4 : w2.cell? ⟨w.heap.size, 4, none⟩ = some (.int .i64 circ) := bS2.cell 4 rfl
  have cs5 : w2.cell? ⟨w.heap.size, 5, none⟩ = some (.int .i64 glo) := bS2.cell 5 rfl
  have cs6 : w2.cell? ⟨w.heap.size, 6, none⟩ = some (.int .i64 ghi) := bS2.cell 6 rfl
  have cs7 : w2.cell? ⟨w.heap.size, 7, none⟩ = some (.int .i64 wrn) := bS2.cell 7 rfl
  have lS2 := bS2.lt
  go_wp2_with fail
  refine (HWK.out _).mono ?_
  rintro e wz ⟨rfl, hbz⟩
  have hBz := hB2.trans (hbz.mono hB2.size)
  go_wp2_with fail
  go_returns
  exact ⟨rfl, hBz⟩
theorem AreasL_all (d : Wh.Desk) (A : Option Addr) (c : Nat) (w : World) (hg : Wks w w.heap.size A d.ws) :
    Calls Try.prog 3 #[.agg (whV d), .slice A d.ws.length c] w (YesPost true w) := by
  have HWK : Hid (∀ W, Calls Try.prog 13 #[] W (YesPost true W)) := works_any
  by_cases h40 : 40 < d.ws.length
  · exact AreasL_far d.full d.read d.slip d.skew d.circ d.glo d.ghi d.wr d.ws.length A c w HWK (fun W _ => Far3_long d A c W h40)
  · have hl : d.ws.length ≤ 1000000000 := by omega
    have g1 := fun W (hW : Below w.heap.size w W) => (hg.keep hW).wider hW.size
    cases hf : Wh.farB d
    · have hz := fun h => Wh.cases_fit hf h
      have hsi : ∀ L : List Int, L.length ≤ 1000000000 → ∀ v v' W, Ints W W.heap.size v L → Ints W W.heap.size v' L → Calls Try.prog 22 #[v, v'] W (YesPost true W) := fun L hL v v' W h1 h2 => by
        have := SameInts_any v v' L L W h1 h2 hL hL
        rw [decide_eq_true (rfl : L = L)] at this
        exact this
      have hs := Wh.kn_small hz
      have l1 : (Wh.areasV d).length ≤ 1000000000 := by
        rw [Wh.areas_kn]
        have := Wh.arL_len (Wh.knL d true)
        omega
      have l2 : (Wh.skewsV d).length ≤ 1000000000 := by
        by_cases h0 : Wh.spE d = 0
        · rw [Wh.skews_kn h0]
          have := Wh.skTo_len (Wh.knL d true) (-d.skew) (Wh.nb d)
          have hd := Wh.ok_of (Wh.sp_ok h0).1
          have k2 := hd.k2
          have : Wh.nb d ≤ 1000000000 := by unfold Wh.nb; omega
          omega
        · unfold Wh.skewsV
          rw [if_neg h0]
          simp
      have l3 : (Wh.strV d).length ≤ 1000000000 := by
        by_cases h0 : Wh.spE d = 0
        · unfold Wh.strV
          rw [if_pos h0]
          have := Wh.stTo_len d d.ws.length
          omega
        · unfold Wh.strV
          rw [if_neg h0]
          simp
      refine AreasL_core d.full d.read d.slip d.skew d.circ d.glo d.ghi d.wr d.ws A c w (Wh.chkE d) (Wh.fewV d) (Wh.manyV d) (Wh.spE d) (Wh.areasV d) (Wh.skewsV d) (Wh.strV d) (Wh.boundV d) (by omega) (Lib.hid hg) HWK (fun W hW => ?_) (fun A' c' W hW => wCheck_any d A' c' W hl hW) (fun W hW => Check3_any d A c W hl (g1 W hW)) (fun A' c' W hW => Fewest_any d A' c' W hl hW) (fun W hW => Fewest3_any d A c W hl hz (g1 W hW)) (fun A' c' W hW => Many_any d A' c' W hl hW) (fun W hW => Many3_any d A c W hl hz (g1 W hW)) (fun A' c' W hW => Areas_any d A' c' W hl hW) (fun W hW => Areas3_any d A c W hl hz (g1 W hW)) (fun A' c' W hW => Bound_any d A' c' W hl hW) (fun W hW => Bound3_any d A c W hl hz (g1 W hW)) (fun A' c' W hW => Skews_any d A' c' W hl hW) (fun W hW => Skews3_any d A c W hl hz (g1 W hW)) (fun A' c' W hW => Strange_any d A' c' W hl hW) (fun W hW => Strange3_any d A c W hl hz (g1 W hW)) (hsi _ l1) (hsi _ l2) (hsi _ l3) (fun A' c' W hW hP => sameWalks_own A' A c' c d.ws (by omega) W hP (g1 W hW))
      have := Far3_any d A c W hl (g1 W hW)
      rw [hf] at this
      exact this
    · refine AreasL_far d.full d.read d.slip d.skew d.circ d.glo d.ghi d.wr d.ws.length A c w HWK (fun W hW => ?_)
      have := Far3_any d A c W hl (g1 W hW)
      rw [hf] at this
      exact this
theorem lawAreas_walk (f1 f2 f3 f4 f5 f6 f7 f8 : Int) (A : Option Addr) (c : Nat) (ws : List Wh.Wk) (w : World) (_hl : ws.length ≤ maxLen) (hg : Wks w w.heap.size A ws) :
    Calls Try.prog 3 #[.agg #[.int .i64 f1, .int .i64 f2, .int .i64 f3, .int .i64 f4, .int .i64 f5, .int .i64 f6, .int .i64 f7, .int .i64 f8], .slice A ws.length c] w fun e w' => e = .returned (.bool true) ∧ Below w.heap.size w w' := AreasL_all ⟨f1, f2, f3, f4, f5, f6, f7, f8, ws⟩ A c w hg

open Go.ChangeShapes Go.WideShapes Go.ChangeAt Go.RowKit Go.Joins

set_option maxRecDepth 100000 in
theorem areas3_lifted (os : Os) (started : os.Started) (H : Type) (enc : TypeId × Value → H) :
    ReturnsInHanded {} Try.checked os 3 .any (Rows.wheelsAreasSpec.pre6 enc Try.prog Try.f3 Rows.wheelsAreasRow.domain false) (Rows.wheelsAreasSpec.post enc Try.prog Try.f3 false true false false) := by
  refine returnsInHanded_of_change (C := Try.checked) own started (by kernel_rfl) Try.func3
    (ChangeSpec.witness6 (enc := enc) (C := Try.checked) false ⟨#[], #[.agg #[.int .i64 0, .int .i64 0, .int .i64 0, .int .i64 0, .int .i64 0, .int .i64 0, .int .i64 0, .int .i64 0], .slice none 0 0], []⟩ 8 (by kernel_rfl) (by kernel_rfl) (by kernel_rfl) (by kernel_rfl)) ?_
  intro W base args ds gs before hval0 hW hcnd _
  have hval : ∀ (j : Nat) t v, Try.f3.params[j]? = some t → args[j]? = some v → Value.okWide Try.prog W .any base t v := hval0
  have hW' := hW
  obtain ⟨p, q, hA0, hV, rfl, hfz, hnd⟩ := hW
  have hA : DataW.TrodAll enc Try.prog W 0 (fun _ => true) true Try.f3.params.toList args.toList ds p := hA0
  rw [Try.params3] at hA hval
  obtain ⟨v0, v1, d0, d1, p0, p1, rfl, rfl, rfl, h0, h1⟩ := trodAll_two hA
  obtain ⟨rfl, rfl⟩ := trodVars_none hV
  obtain ⟨f1, f2, f3, f4, f5, f6, f7, f8, rfl⟩ := open_Wheel (hval 0 25 v0 rfl rfl) h0
  obtain ⟨A, c, ws, rfl, hg_ws, hl_ws, hc_ws⟩ := open_Walks (hval 1 26 v1 rfl rfl) h1
  refine (lawAreas_walk f1 f2 f3 f4 f5 f6 f7 f8 A c ws W hl_ws hg_ws).mono fun e W' ⟨he, hb⟩ => ?_
  subst he
  exact ⟨_, rfl, law_post hW' rfl rfl (by intro t ht; have : t = 25 ∨ t = 26 := (by rw [Try.params3] at ht; simpa using ht); rcases this with rfl | rfl <;> exact ⟨by kernel_rfl, of_decide_eq_true (by kernel_rfl)⟩) rfl rfl rfl hb⟩

theorem areas3_holds : Rows.WheelsAreasSaid :=
  OpenClaim.holds_of_wide 3 Try.f3 rfl rfl rfl rfl rfl rfl rfl ⟨rfl, rfl, rfl, rfl, rfl⟩ rfl rfl rfl rfl rfl (by kernel_rfl) Try.func3 (by kernel_rfl)
    (of_decide_eq_true (by kernel_rfl)) (by unfold Func.isWrapper; rw [if_neg (of_decide_eq_false (by kernel_rfl))]; exact ⟨rfl, rfl⟩)
    (fun os started H enc _ => areas3_lifted os started H enc)
end Go.Proofs.Ytecmlakcpgkfbaa
