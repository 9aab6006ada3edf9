/- Wheels: the reference's Strange. -/
import Derived.Test.YtecmlakcpgkfbaaAre3
import Derived.Test.YtecmlakcpgkfbaaStr3
namespace Go.Proofs.Ytecmlakcpgkfbaa
open Go.RowKit
set_option maxRecDepth 100000 in
set_option maxHeartbeats 8000000 in
theorem Strange3_no (full read slip skew circ glo ghi wrn : Int) (ws : List Wh.Wk) (A : Option Addr) (c : Nat) (w : World) (P : List Wh.Tr) (E : Int) (hE : E ≠ 0) (HKN : Hid (∀ W, Below w.heap.size w W → Calls Try.prog 57 #[.agg #[.int .i64 full, .int .i64 read, .int .i64 slip, .int .i64 skew, .int .i64 circ, .int .i64 glo, .int .i64 ghi, .int .i64 wrn], .slice A ws.length c, .bool true] W (PrsEPost P E W))) : Calls Try.prog 28 #[.agg #[.int .i64 full, .int .i64 read, .int .i64 slip, .int .i64 skew, .int .i64 circ, .int .i64 glo, .int .i64 ghi, .int .i64 wrn], .slice A ws.length c] w (IntsEPost [] E w) := by
  have hcb : (E == 0) = false := by simpa using hE
  unfold PrsEPost at HKN
  go_enter Try.func28, Try.ntmps28
  go_wp2_with fail
  have hB1 : Below w.heap.size w (w.alloc (.cells #[.int .i64 full, .int .i64 read, .int .i64 slip, .int .i64 skew, .int .i64 circ, .int .i64 glo, .int .i64 ghi, .int .i64 wrn] 25)) := by (repeat' (first | (with_reducible exact Below.refl _ _) | (with_reducible assumption) | (with_reducible refine Below.alloc ?_ ?_ _) | (with_reducible refine Below.drew ?_) | (with_reducible refine Below.setCell ?_ ?_ _) | go_size | (exact (by simp)) | omega))
  have bS1 := BoxS.new w 25 #[.int .i64 full, .int .i64 read, .int .i64 slip, .int .i64 skew, .int .i64 circ, .int .i64 glo, .int .i64 ghi, .int .i64 wrn]
  generalize World.alloc w _ = w1 at *
  refine (HKN.out _ hB1).mono ?_
  rintro e w3 ⟨A3, c3, rfl, hP3, hb3⟩
  have bS3 := bS1.below hb3
  have hB3 := hB1.trans (hb3.mono hB1.size)
  clear bS1 hb3 hB1 HKN
  obtain ⟨⟨⟨s0, s1, s2⟩, s3, s4, s5⟩, s6, s7⟩ := boxS8 bS3
  have lS := bS3.lt
  go_wp2_with fail
  go_returns
  exact ⟨_, rfl, .inl ⟨rfl, rfl⟩, hB3⟩
set_option maxRecDepth 100000 in
set_option maxHeartbeats 8000000 in
theorem Strange3_yes (full read slip skew circ glo ghi wrn : Int) (ws : List Wh.Wk) (A : Option Addr) (c : Nat) (w : World) (P : List Wh.Tr) (ST : Nat → List Int) (RB : Nat → Nat → Bool) (RT : Nat → Nat → Bool) (hl : P.length ≤ 90000) (hl8 : ws.length ≤ 8) (HG : Hid (Wks w w.heap.size A ws)) (HKN : Hid (∀ W, Below w.heap.size w W → Calls Try.prog 57 #[.agg #[.int .i64 full, .int .i64 read, .int .i64 slip, .int .i64 skew, .int .i64 circ, .int .i64 glo, .int .i64 ghi, .int .i64 wrn], .slice A ws.length c, .bool true] W (PrsEPost P 0 W))) (HS0 : Hid (ST 0 = [])) (HLN : Hid (∀ j, (ST j).length ≤ j))
    (HR0 : Hid (∀ n, RT n 0 = false)) (HRS : Hid (∀ n i, n < ws.length → i < P.length → RT n (i + 1) = (RT n i || RB n i))) (HSS : Hid (∀ n, n < ws.length → ST (n + 1) = if RT n P.length then ST n else ST n ++ [(n : Int)]))
    (HIR : Hid (∀ n i, n < ws.length → i < P.length → ∀ W, Calls Try.prog 39 #[.agg #[.int .i64 full, .int .i64 read, .int .i64 slip, .int .i64 skew, .int .i64 circ, .int .i64 glo, .int .i64 ghi, .int .i64 wrn], .agg #[.int .i64 (Wh.wkAt ws n).1, .int .i64 (Wh.wkAt ws n).2.1, .int .i64 (Wh.wkAt ws n).2.2.1, .int .i64 (Wh.wkAt ws n).2.2.2.1, .int .i64 (Wh.wkAt ws n).2.2.2.2], .agg #[.int .i64 (Wh.trAt P i).1, .int .i64 (Wh.trAt P i).2]] W fun e w' => e = .returned (.bool (RB n i)) ∧ Below W.heap.size W w')) :
    Calls Try.prog 28 #[.agg #[.int .i64 full, .int .i64 read, .int .i64 slip, .int .i64 skew, .int .i64 circ, .int .i64 glo, .int .i64 ghi, .int .i64 wrn], .slice A ws.length c] w (IntsEPost (ST ws.length) 0 w) := by
  unfold PrsEPost at HKN
  go_enter Try.func28, Try.ntmps28
  go_wp2_with fail
  have hB1 : Below w.heap.size w (w.alloc (.cells #[.int .i64 full, .int .i64 read, .int .i64 slip, .int .i64 skew, .int .i64 circ, .int .i64 glo, .int .i64 ghi, .int .i64 wrn] 25)) := by (repeat' (first | (with_reducible exact Below.refl _ _) | (with_reducible assumption) | (with_reducible refine Below.alloc ?_ ?_ _) | (with_reducible refine Below.drew ?_) | (with_reducible refine Below.setCell ?_ ?_ _) | go_size | (exact (by simp)) | omega))
  have bS1 := BoxS.new w 25 #[.int .i64 full, .int .i64 read, .int .i64 slip, .int .i64 skew, .int .i64 circ, .int .i64 glo, .int .i64 ghi, .int .i64 wrn]
  generalize World.alloc w _ = w1 at *
  refine (HKN.out _ hB1).mono ?_
  rintro e w3 ⟨A3, c3, rfl, hP3, hb3⟩
  have bS3 := bS1.below hb3
  have hB3 := hB1.trans (hb3.mono hB1.size)
  clear bS1 hb3 hB1 HKN
  obtain ⟨⟨⟨s0, s1, s2⟩, s3, s4, s5⟩, s6, s7⟩ := boxS8 bS3
  have lS := bS3.lt
  go_wp2_with fail
  obtain ⟨wb, hwb⟩ : ∃ wb, wb = w3 := ⟨_, rfl⟩
  have hbb : Below wb.heap.size wb w3 := by rw [hwb]; exact Below.refl _ _
  have hPb : Hid (Prs wb wb.heap.size A3 P) := by rw [hwb]; exact hP3
  have hBb : Below w.heap.size w wb := by rw [hwb]; exact hB3
  have bSb : BoxS wb w.heap.size 25 #[.int .i64 full, .int .i64 read, .int .i64 slip, .int .i64 skew, .int .i64 circ, .int .i64 glo, .int .i64 ghi, .int .i64 wrn] := by rw [hwb]; exact bS3
  have lb := bSb.lt
  have hown0 : w3.ownsRow wb.heap.size 3 1 (.slice none 0 0) (ST 0).length ((ST 0).map (Value.int .i64)) := by rw [HS0.out]; exact owni_nil _ _
  clear hwb hP3 s0 s1 s2 s3 s4 s5 s6 s7 lS
  go_loopg [8, 9, 10, 11] ws.length (fun g x8 x9 x10 x11 wx => ∃ n : Nat, Hid (n + g = ws.length) ∧ (n : Int) ≤ ws.length ∧ x9 = .int .i64 (n : Int) ∧ Below wb.heap.size wb wx ∧ wx.ownsRow wb.heap.size 3 1 x8 (ST n).length ((ST n).map (Value.int .i64)))
  case atStart => exact ⟨0, by simp [Hid], by omega, by simp, hbb, hown0⟩
  case round =>
    clear hB3 hbb bS3 hown0
    obtain ⟨n, hn, hn1, rfl, hbb, hown⟩ := hrel
    have hn0 := Int.natCast_nonneg n
    have bS := bSb.below hbb
    have lS := bS.lt
    by_cases hlt : (n : Int) < ws.length
    · have hnn : n < ws.length := by omega
      have HO := Lib.hid hown
      have hln := HLN.out n
      have HR1 := Lib.hid (fun i => HRS.out n i hnn)
      have HR2 := Lib.hid (HR0.out n)
      have HS1 := Lib.hid (HSS.out n hnn)
      have HI1 := Lib.hid (fun i => HIR.out n i hnn)
      obtain ⟨bk, ok, rfl, hbk, hck⟩ := HG.out (by omega)
      obtain ⟨k0, k1, k2, k3, k4⟩ := hck n hnn
      have hw9 : IntKind.i64.wrap ((n : Int) + 1) = (n : Int) + 1 := IntWalk.i64_in _ (by omega)
      have hlbk : bk < wb.heap.size := by have := hBb.size; omega
      have hbW := hBb.trans (hbb.mono hBb.size)
      have KW : Hid (∀ W', Below wr.heap.size wr W' → W'.cell? ⟨bk, ok + n * 5, none⟩ = some (.int .i64 (Wh.wkAt ws n).1) ∧ W'.cell? ⟨bk, ok + n * 5 + 1, none⟩ = some (.int .i64 (Wh.wkAt ws n).2.1) ∧ W'.cell? ⟨bk, ok + n * 5 + 2, none⟩ = some (.int .i64 (Wh.wkAt ws n).2.2.1) ∧ W'.cell? ⟨bk, ok + n * 5 + 3, none⟩ = some (.int .i64 (Wh.wkAt ws n).2.2.2.1) ∧ W'.cell? ⟨bk, ok + n * 5 + 4, none⟩ = some (.int .i64 (Wh.wkAt ws n).2.2.2.2)) := fun W' h => by
        have h2 := hbW.trans (h.mono hbW.size)
        exact ⟨(h2.cell (p := ⟨bk, _, none⟩) hbk).trans k0, (h2.cell (p := ⟨bk, _, none⟩) hbk).trans k1, (h2.cell (p := ⟨bk, _, none⟩) hbk).trans k2, (h2.cell (p := ⟨bk, _, none⟩) hbk).trans k3, (h2.cell (p := ⟨bk, _, none⟩) hbk).trans k4⟩
      have KB : Hid (∀ W', Below wr.heap.size wr W' → (((W'.cell? ⟨w.heap.size, 0, none⟩ = some (.int .i64 full) ∧ W'.cell? ⟨w.heap.size, 1, none⟩ = some (.int .i64 read) ∧ W'.cell? ⟨w.heap.size, 2, none⟩ = some (.int .i64 slip)) ∧ W'.cell? ⟨w.heap.size, 3, none⟩ = some (.int .i64 skew) ∧ W'.cell? ⟨w.heap.size, 4, none⟩ = some (.int .i64 circ) ∧ W'.cell? ⟨w.heap.size, 5, none⟩ = some (.int .i64 glo)) ∧ W'.cell? ⟨w.heap.size, 6, none⟩ = some (.int .i64 ghi) ∧ W'.cell? ⟨w.heap.size, 7, none⟩ = some (.int .i64 wrn))) := fun W' h => boxS8 (bS.below h)
      clear hown hlt HRS HR0 HSS HIR hck k0 k1 k2 k3 k4
      generalize Wh.wkAt ws n = wk at *
      obtain ⟨x1, x2, x3, x4, x5⟩ := wk
      dsimp only at KW HI1
      go_wp2_with fail
      obtain ⟨gko, rfl⟩ : ∃ gko, gko = gk := ⟨_, rfl⟩
      obtain ⟨wq, hwq⟩ : ∃ wq, wq = wr := ⟨_, rfl⟩
      have hqq : Below wq.heap.size wq wr := by rw [hwq]; exact Below.refl _ _
      rw [← hwq] at KW KB HO hbb
      have hq0 := hbb.size
      clear hwq lS bS hbW
      go_loopg [10, 11] P.length (fun g x10 x11 wx => ∃ i : Nat, Hid (i + g = P.length) ∧ (i : Int) ≤ P.length ∧ x11 = .int .i64 (i : Int) ∧ x10 = .bool (RT n i) ∧ Below wq.heap.size wq wx)
      case atStart => exact ⟨0, by simp [Hid], by omega, rfl, by rw [HR2.out], hqq⟩
      case round =>
        clear hqq
        obtain ⟨i, hi, hi1, rfl, rfl, hqb⟩ := hrel
        have hi0 := Int.natCast_nonneg i
        by_cases hlt : (i : Int) < P.length
        · have hin : i < P.length := by omega
          have hPk : P[i]? = some (Wh.trAt P i) := by unfold Wh.trAt; rw [List.getElem?_eq_getElem hin]; rfl
          obtain ⟨bp, op, rfl, hbp, hcp⟩ := hPb.out (by omega)
          obtain ⟨h0, h1⟩ := hcp i _ hPk
          have HRn := Lib.hid (HR1.out i hin)
          have HI2 := Lib.hid (HI1.out i hin)
          have hw1 : IntKind.i64.wrap ((i : Int) + 1) = (i : Int) + 1 := IntWalk.i64_in _ (by omega)
          have KC : Hid (∀ W', Below wr.heap.size wr W' → (((W'.cell? ⟨w.heap.size, 0, none⟩ = some (.int .i64 full) ∧ W'.cell? ⟨w.heap.size, 1, none⟩ = some (.int .i64 read) ∧ W'.cell? ⟨w.heap.size, 2, none⟩ = some (.int .i64 slip)) ∧ W'.cell? ⟨w.heap.size, 3, none⟩ = some (.int .i64 skew) ∧ W'.cell? ⟨w.heap.size, 4, none⟩ = some (.int .i64 circ) ∧ W'.cell? ⟨w.heap.size, 5, none⟩ = some (.int .i64 glo)) ∧ W'.cell? ⟨w.heap.size, 6, none⟩ = some (.int .i64 ghi) ∧ W'.cell? ⟨w.heap.size, 7, none⟩ = some (.int .i64 wrn)) ∧ (W'.cell? ⟨bk, ok + n * 5, none⟩ = some (.int .i64 x1) ∧ W'.cell? ⟨bk, ok + n * 5 + 1, none⟩ = some (.int .i64 x2) ∧ W'.cell? ⟨bk, ok + n * 5 + 2, none⟩ = some (.int .i64 x3) ∧ W'.cell? ⟨bk, ok + n * 5 + 3, none⟩ = some (.int .i64 x4) ∧ W'.cell? ⟨bk, ok + n * 5 + 4, none⟩ = some (.int .i64 x5)) ∧ W'.cell? ⟨bp, op + i * 2, none⟩ = some (.int .i64 (Wh.trAt P i).1) ∧ W'.cell? ⟨bp, op + i * 2 + 1, none⟩ = some (.int .i64 (Wh.trAt P i).2)) := fun W' h => by
            have h2 := hqb.trans (h.mono hqb.size)
            have h3 := hbb.trans (h2.mono hbb.size)
            exact ⟨KB.out _ h2, KW.out _ h2, (h3.cell (p := ⟨bp, _, none⟩) hbp).trans h0, (h3.cell (p := ⟨bp, _, none⟩) hbp).trans h1⟩
          obtain ⟨rt, hrt⟩ : ∃ v, v = RT n i := ⟨_, rfl⟩
          obtain ⟨rb, hrb⟩ : ∃ v, v = RB n i := ⟨_, rfl⟩
          rw [← hrt, ← hrb] at HRn
          rw [← hrt]
          rw [← hrb] at HI2
          clear hrt hrb hcp hPk h0 h1
          generalize Wh.trAt P i = q at *
          obtain ⟨q1, q2⟩ := q
          dsimp only at KC HI2
          have hmo : Try.prog.follows .mixedOrders = true := by kernel_rfl
          have q0 : Below wr.heap.size wr wr.drew := (Below.refl _ _).drew
          cases rt
          · rw [Bool.false_or] at HRn
            go_wp2_with fail
            refine (wpIn_wide (n := 4)).1 ?_
            refine wpIn_region_held (fun W' => Below wr.heap.size wr W') 30 hmo ?_
            refine wpHeldIn_take (i := 0) (v := ?_) (plain_of (by kernel_rfl)) rfl (by kernel_rfl) (fun _ _ _ h => h) (yieldsSoIn_of (by kernel_rfl) ?_ (fun _ => rfl)) q0 ?_; rotate_left; focus (intro wq hw; clear hw; go_simp; try (with_reducible rfl))
            refine wpHeldIn_take (i := 1) (v := ?_) (plain_of (by kernel_rfl)) rfl (by kernel_rfl) (fun _ _ _ h => h) (yieldsSoIn_of (by kernel_rfl) ?_ (fun _ => rfl)) q0 ?_; rotate_left; focus (intro wq hw; clear hw; go_simp; try (with_reducible rfl))
            refine wpHeldIn_take (i := 2) (v := ?_) (plain_of (by kernel_rfl)) rfl (by kernel_rfl) (fun _ _ _ h => h) (yieldsSoIn_of (by kernel_rfl) ?_ (fun _ => rfl)) q0 ?_; rotate_left; focus (intro wq hw; have kq := KC.out wq hw; clear hw; go_simp; try (with_reducible rfl))
            refine wpHeldIn_take (i := 3) (v := ?_) (plain_of (by kernel_rfl)) rfl (by kernel_rfl) (fun _ _ _ h => h) (yieldsSoIn_of (by kernel_rfl) ?_ (fun _ => rfl)) q0 ?_; rotate_left; focus (intro wq hw; clear hw; go_simp; try (with_reducible rfl))
            refine wpHeldIn_take (i := 4) (v := ?_) (plain_of (by kernel_rfl)) rfl (by kernel_rfl) (fun _ _ _ h => h) (yieldsSoIn_of (by kernel_rfl) ?_ (fun _ => rfl)) q0 ?_; rotate_left; focus (intro wq hw; clear hw; go_simp; try (with_reducible rfl))
            refine wpHeldIn_take (i := 5) (v := ?_) (plain_of (by kernel_rfl)) rfl (by kernel_rfl) (fun _ _ _ h => h) (yieldsSoIn_of (by kernel_rfl) ?_ (fun _ => rfl)) q0 ?_; rotate_left; focus (intro wq hw; clear hw; go_simp; try (with_reducible rfl))
            refine wpHeldIn_take (i := 6) (v := ?_) (plain_of (by kernel_rfl)) rfl (by kernel_rfl) (fun _ _ _ h => h) (yieldsSoIn_of (by kernel_rfl) ?_ (fun _ => rfl)) q0 ?_; rotate_left; focus (intro wq hw; have kq := KC.out wq hw; clear hw; go_simp; try (with_reducible rfl))
            refine wpHeldIn_take (i := 7) (v := ?_) (plain_of (by kernel_rfl)) rfl (by kernel_rfl) (fun _ _ _ h => h) (yieldsSoIn_of (by kernel_rfl) ?_ (fun _ => rfl)) q0 ?_; rotate_left; focus (intro wq hw; clear hw; go_simp; try (with_reducible rfl))
            refine wpHeldIn_take (i := 8) (v := ?_) (plain_of (by kernel_rfl)) rfl (by kernel_rfl) (fun _ _ _ h => h) (yieldsSoIn_of (by kernel_rfl) ?_ (fun _ => rfl)) q0 ?_; rotate_left; focus (intro wq hw; clear hw; go_simp; try (with_reducible rfl))
            refine wpHeldIn_take (i := 9) (v := ?_) (plain_of (by kernel_rfl)) rfl (by kernel_rfl) (fun _ _ _ h => h) (yieldsSoIn_of (by kernel_rfl) ?_ (fun _ => rfl)) q0 ?_; rotate_left; focus (intro wq hw; clear hw; go_simp; try (with_reducible rfl))
            refine wpHeldIn_take (i := 10) (v := ?_) (plain_of (by kernel_rfl)) rfl (by kernel_rfl) (fun _ _ _ h => h) (yieldsSoIn_of (by kernel_rfl) ?_ (fun _ => rfl)) q0 ?_; rotate_left; focus (intro wq hw; have kq := KC.out wq hw; clear hw; go_simp; try (with_reducible rfl))
            refine wpHeldIn_one (i := 11) (by kernel_rfl) (by kernel_rfl) rfl (by kernel_rfl) (fun K1 hK1 => ?_)
            go_simp
            refine ⟨trivial, (callsIn_wide.2 (HI2.out _)).mono ?_⟩
            rintro e w5 ⟨rfl, hb5⟩
            have q1 := q0.trans (hb5.mono q0.size)
            refine hK1 _ _ q1 ?_
            refine wpHeldIn_take (i := 12) (v := ?_) (plain_of (by kernel_rfl)) rfl (by kernel_rfl) (fun _ _ _ h => h) (yieldsSoIn_of (by kernel_rfl) ?_ (fun _ => rfl)) q1 ?_; rotate_left; focus (intro wq hw; clear hw; go_simp; try (with_reducible rfl))
            refine wpHeldIn_take (i := 13) (v := ?_) (plain_of (by kernel_rfl)) rfl (by kernel_rfl) (fun _ _ _ h => h) (yieldsSoIn_of (by kernel_rfl) ?_ (fun _ => rfl)) q1 ?_; rotate_left; focus (intro wq hw; clear hw; go_simp; try (with_reducible rfl))
            refine wpHeldIn_done (by kernel_rfl) ?_ _
            go_simp
            have hqb5 := hqb.trans (q1.mono hqb.size)
            clear KC
            go_wp2_with fail
            obtain ⟨g', hg'⟩ : ∃ g', gk = g' + 1 := ⟨gk - 1, by have := hi.out; omega⟩
            go_roundg g'
            case measure => omega
            case rel => exact ⟨i + 1, by have := hi.out; simp only [Hid]; omega, by omega, by go_num, by rw [HRn.out], hqb5⟩
          · rw [Bool.true_or] at HRn
            go_wp2_with fail
            refine (wpIn_wide (n := 4)).1 ?_
            refine wpIn_region_held (fun W' => Below wr.heap.size wr W') 30 hmo ?_
            refine wpHeldIn_take (i := 0) (v := ?_) (plain_of (by kernel_rfl)) rfl (by kernel_rfl) (fun _ _ _ h => h) (yieldsSoIn_of (by kernel_rfl) ?_ (fun _ => rfl)) q0 ?_; rotate_left; focus (intro wq hw; clear hw; go_simp; try (with_reducible rfl))
            refine wpHeldIn_take (i := 1) (v := ?_) (plain_of (by kernel_rfl)) rfl (by kernel_rfl) (fun _ _ _ h => h) (yieldsSoIn_of (by kernel_rfl) ?_ (fun _ => rfl)) q0 ?_; rotate_left; focus (intro wq hw; clear hw; go_simp; try (with_reducible rfl))
            refine wpHeldIn_take (i := 2) (plain_of (by kernel_rfl)) rfl (by kernel_rfl) (fun _ _ _ h => h) (yieldsSoIn_skip (by kernel_rfl) (fun _ => trivial)) q0 ?_
            refine wpHeldIn_take (i := 3) (plain_of (by kernel_rfl)) rfl (by kernel_rfl) (fun _ _ _ h => h) (yieldsSoIn_skip (by kernel_rfl) (fun _ => trivial)) q0 ?_
            refine wpHeldIn_take (i := 4) (plain_of (by kernel_rfl)) rfl (by kernel_rfl) (fun _ _ _ h => h) (yieldsSoIn_skip (by kernel_rfl) (fun _ => trivial)) q0 ?_
            refine wpHeldIn_take (i := 5) (plain_of (by kernel_rfl)) rfl (by kernel_rfl) (fun _ _ _ h => h) (yieldsSoIn_skip (by kernel_rfl) (fun _ => trivial)) q0 ?_
            refine wpHeldIn_take (i := 6) (plain_of (by kernel_rfl)) rfl (by kernel_rfl) (fun _ _ _ h => h) (yieldsSoIn_skip (by kernel_rfl) (fun _ => trivial)) q0 ?_
            refine wpHeldIn_take (i := 7) (plain_of (by kernel_rfl)) rfl (by kernel_rfl) (fun _ _ _ h => h) (yieldsSoIn_skip (by kernel_rfl) (fun _ => trivial)) q0 ?_
            refine wpHeldIn_take (i := 8) (plain_of (by kernel_rfl)) rfl (by kernel_rfl) (fun _ _ _ h => h) (yieldsSoIn_skip (by kernel_rfl) (fun _ => trivial)) q0 ?_
            refine wpHeldIn_take (i := 9) (plain_of (by kernel_rfl)) rfl (by kernel_rfl) (fun _ _ _ h => h) (yieldsSoIn_skip (by kernel_rfl) (fun _ => trivial)) q0 ?_
            refine wpHeldIn_take (i := 10) (plain_of (by kernel_rfl)) rfl (by kernel_rfl) (fun _ _ _ h => h) (yieldsSoIn_skip (by kernel_rfl) (fun _ => trivial)) q0 ?_
            refine wpHeldIn_take (i := 11) (plain_of (by kernel_rfl)) rfl (by kernel_rfl) (fun _ _ _ h => h) (yieldsSoIn_skip (by kernel_rfl) (fun _ => trivial)) q0 ?_
            refine wpHeldIn_take (i := 12) (v := ?_) (plain_of (by kernel_rfl)) rfl (by kernel_rfl) (fun _ _ _ h => h) (yieldsSoIn_of (by kernel_rfl) ?_ (fun _ => rfl)) q0 ?_; rotate_left; focus (intro wq hw; clear hw; go_simp; try (with_reducible rfl))
            refine wpHeldIn_take (i := 13) (v := ?_) (plain_of (by kernel_rfl)) rfl (by kernel_rfl) (fun _ _ _ h => h) (yieldsSoIn_of (by kernel_rfl) ?_ (fun _ => rfl)) q0 ?_; rotate_left; focus (intro wq hw; clear hw; go_simp; try (with_reducible rfl))
            refine wpHeldIn_done (by kernel_rfl) ?_ _
            go_simp
            have hqb5 := hqb.trans (q0.mono hqb.size)
            clear KC
            go_wp2_with fail
            obtain ⟨g', hg'⟩ : ∃ g', gk = g' + 1 := ⟨gk - 1, by have := hi.out; omega⟩
            go_roundg g'
            case measure => omega
            case rel => exact ⟨i + 1, by have := hi.out; simp only [Hid]; omega, by omega, by go_num, by rw [HRn.out], hqb5⟩
        · have e : i = P.length := by omega
          subst e
          have HO2 := Lib.hid (owni_below HO.out hqb)
          have hb2 := hbb.trans (hqb.mono hbb.size)
          have hlb := hb2.size
          obtain ⟨rt, hrt⟩ : ∃ v, v = RT n P.length := ⟨_, rfl⟩
          rw [← hrt] at HS1 ⊢
          clear hrt
          cases rt
          · have HS2 : Hid (ST (n + 1) = ST n ++ [(n : Int)]) := by have := HS1.out; simpa [Hid] using this
            clear HS1
            go_wp2_with (at_builtin; refine wpList_pushi rfl (.tmp 48) (.tmp 50) rfl (n : Int) wb.heap.size _ _ _ rfl rfl HO2.out (by omega) (by omega) ?_; intro v' w5 hown5 hb5; have HO5 := Lib.hid hown5; clear hown5)
            obtain ⟨g', hg'⟩ : ∃ g', gko = g' + 1 := ⟨gko - 1, by have := hn.out; omega⟩
            go_roundg g'
            case measure => omega
            case rel =>
              refine ⟨n + 1, by have := hn.out; simp only [Hid]; omega, by omega, by go_num, hb2.trans hb5, ?_⟩
              rw [HS2.out, List.length_append, List.map_append]
              exact HO5.out
          · have HS2 : Hid (ST (n + 1) = ST n) := by have := HS1.out; simpa [Hid] using this
            clear HS1
            go_wp2_with fail
            obtain ⟨g', hg'⟩ : ∃ g', gko = g' + 1 := ⟨gko - 1, by have := hn.out; omega⟩
            go_roundg g'
            case measure => omega
            case rel => exact ⟨n + 1, by have := hn.out; simp only [Hid]; omega, by omega, by go_num, hb2, by rw [HS2.out]; exact HO2.out⟩
    · have e : n = ws.length := by omega
      have hI := Lib.hid (Ints.of_own hown)
      rw [e] at hI
      have hBr := hBb.trans (hbb.mono hBb.size)
      clear hown e
      go_wp2_with fail
      go_returns
      exact ⟨_, rfl, hI, hBr⟩
namespace Wh
theorem trAt_sm2 {d : Desk} {i : Nat} (hi : i < (vals (truthsL d)).length) : tsm (trAt (vals (truthsL d)) i) := by
  rw [vals_len] at hi
  rw [vals_at hi]
  exact ((truthsL d)[i]).2
end Wh
theorem Strange3_any (d : Wh.Desk) (A : Option Addr) (c : Nat) (w : World) (hl : d.ws.length ≤ 1000000000) (hz : Wh.okB d = true → (Wh.casesL d).length ≤ 90000) (hg : Wks w w.heap.size A d.ws) : Calls Try.prog 28 #[.agg (whV d), .slice A d.ws.length c] w (IntsEPost (Wh.strV d) (Wh.spE d) w) := by
  have HK := kn3_any d A c w hl hz hg
  by_cases h0 : Wh.spE d = 0
  · have hok := (Wh.sp_ok h0).1
    have hd := Wh.ok_of hok
    have hln := Wh.ok_len hok
    have hsm := Wh.kn_small hz
    rw [h0] at HK ⊢
    have e : Wh.strV d = Wh.stTo d d.ws.length := by unfold Wh.strV; rw [if_pos h0]
    rw [e]
    have hkn := Wh.kn_yes h0
    rw [hkn] at HK hsm
    refine Strange3_yes d.full d.read d.slip d.skew d.circ d.glo d.ghi d.wr d.ws A c w _ (Wh.stTo d) (fun n i => Wh.rightB d (Wh.wkAt d.ws n) (Wh.trAt (Wh.vals (Wh.truthsL d)) i)) (fun n i => ((Wh.vals (Wh.truthsL d)).take i).any (fun t => Wh.rightB d (Wh.wkAt d.ws n) t)) hsm (by omega) (Lib.hid hg) HK rfl (Wh.stTo_len d) (fun n => by simp) (fun n i _ hi => ?_) (fun n hn => ?_) (fun n i hn hi W => ?_)
    · rw [List.take_succ_eq_append_getElem hi, List.any_append]
      unfold Wh.trAt
      rw [List.getElem?_eq_getElem hi]
      simp
    · rw [List.take_length]
      have e2 : ((Wh.vals (Wh.truthsL d)).any fun t => Wh.rightB d (Wh.wkAt d.ws n) t) = Wh.anyR d n := by
        unfold Wh.vals Wh.anyR
        rw [List.any_map]
        rfl
      rw [e2]
      rfl
    · have hwk := Wh.ok_wk hok n hn
      refine IsRight3_any d hd (Wh.wkAt d.ws n) ?_ (Wh.ok_sm hok n hn) _ (Wh.trAt_sm2 hi) W
      unfold Wh.wkB at hwk
      simp only [Bool.and_eq_true, Wh.signB_iff] at hwk
      exact hwk.1.1.1.1
  · have := Strange3_no d.full d.read d.slip d.skew d.circ d.glo d.ghi d.wr d.ws A c w _ _ h0 HK
    have e : Wh.strV d = [] := by unfold Wh.strV; rw [if_neg h0]
    rw [e]
    exact this
end Go.Proofs.Ytecmlakcpgkfbaa
