/- Wheels: the reference's Fewest. -/
import Derived.Test.YtecmlakcpgkfbaaAre3
import Derived.Test.YtecmlakcpgkfbaaFew3
namespace Go.Proofs.Ytecmlakcpgkfbaa
open Go.RowKit
set_option maxRecDepth 100000 in
set_option maxHeartbeats 8000000 in
theorem Fewest3_no (full read slip skew circ glo ghi wrn : Int) (ws : List Wh.Wk) (A : Option Addr) (c : Nat) (w : World) (E : Int) (hE : E ≠ 0) (HC : Hid (∀ W, Below w.heap.size w W → Calls Try.prog 15 #[.agg #[.int .i64 full, .int .i64 read, .int .i64 slip, .int .i64 skew, .int .i64 circ, .int .i64 glo, .int .i64 ghi, .int .i64 wrn], .slice A ws.length c] W (ErrPost E W))) : Calls Try.prog 17 #[.agg #[.int .i64 full, .int .i64 read, .int .i64 slip, .int .i64 skew, .int .i64 circ, .int .i64 glo, .int .i64 ghi, .int .i64 wrn], .slice A ws.length c] w (TwoPost 0 E w) := by
  have hb : (E == 0) = false := by simpa using hE
  have hcb : (E != 0) = true := by simpa using hE
  go_enter Try.func17, Try.ntmps17
  go_wp2_with fail
  have hB1 : Below w.heap.size w (w.alloc (.cells #[.int .i64 full, .int .i64 read, .int .i64 slip, .int .i64 skew, .int .i64 circ, .int .i64 glo, .int .i64 ghi, .int .i64 wrn] 25)) := by (repeat' (first | (with_reducible exact Below.refl _ _) | (with_reducible assumption) | (with_reducible refine Below.alloc ?_ ?_ _) | (with_reducible refine Below.drew ?_) | (with_reducible refine Below.setCell ?_ ?_ _) | go_size | (exact (by simp)) | omega))
  have bS1 := BoxS.new w 25 #[.int .i64 full, .int .i64 read, .int .i64 slip, .int .i64 skew, .int .i64 circ, .int .i64 glo, .int .i64 ghi, .int .i64 wrn]
  generalize World.alloc w _ = w1 at *
  refine (HC.out _ hB1).mono ?_
  rintro e2 w2 ⟨rfl, hb2⟩
  have hB2 := hB1.trans (hb2.mono hB1.size)
  clear hb2 hB1 HC
  go_wp2_with fail
  go_returns
  exact ⟨rfl, hB2⟩
set_option maxRecDepth 100000 in
set_option maxHeartbeats 8000000 in
theorem Fewest3_yes (full read slip skew circ glo ghi wrn : Int) (ws : List Wh.Wk) (A : Option Addr) (c : Nat) (w : World) (P : List Wh.Tr) (FW WN : Nat → Int) (hl : P.length ≤ 90000) (HG : Hid (Wks w w.heap.size A ws)) (HC : Hid (∀ W, Below w.heap.size w W → Calls Try.prog 15 #[.agg #[.int .i64 full, .int .i64 read, .int .i64 slip, .int .i64 skew, .int .i64 circ, .int .i64 glo, .int .i64 ghi, .int .i64 wrn], .slice A ws.length c] W (ErrPost 0 W)))
    (HP : Hid (∀ W, Calls Try.prog 54 #[.agg #[.int .i64 full, .int .i64 read, .int .i64 slip, .int .i64 skew, .int .i64 circ, .int .i64 glo, .int .i64 ghi, .int .i64 wrn]] W (PrsPost P W)))
    (HWR : Hid (∀ k, k < P.length → ∀ W, Below w.heap.size w W → Calls Try.prog 38 #[.agg #[.int .i64 full, .int .i64 read, .int .i64 slip, .int .i64 skew, .int .i64 circ, .int .i64 glo, .int .i64 ghi, .int .i64 wrn], .slice A ws.length c, .agg #[.int .i64 (Wh.trAt P k).1, .int .i64 (Wh.trAt P k).2]] W fun e w' => e = .returned (.int .i64 (WN k)) ∧ Below W.heap.size W w'))
    (HF0 : Hid (FW 0 = (ws.length : Nat))) (HFS : Hid (∀ k, k < P.length → FW (k + 1) = Wh.lowS (FW k) (WN k))) : Calls Try.prog 17 #[.agg #[.int .i64 full, .int .i64 read, .int .i64 slip, .int .i64 skew, .int .i64 circ, .int .i64 glo, .int .i64 ghi, .int .i64 wrn], .slice A ws.length c] w (TwoPost (FW P.length) 0 w) := by
  go_enter Try.func17, Try.ntmps17
  go_wp2_with fail
  have hB1 : Below w.heap.size w (w.alloc (.cells #[.int .i64 full, .int .i64 read, .int .i64 slip, .int .i64 skew, .int .i64 circ, .int .i64 glo, .int .i64 ghi, .int .i64 wrn] 25)) := by (repeat' (first | (with_reducible exact Below.refl _ _) | (with_reducible assumption) | (with_reducible refine Below.alloc ?_ ?_ _) | (with_reducible refine Below.drew ?_) | (with_reducible refine Below.setCell ?_ ?_ _) | go_size | (exact (by simp)) | omega))
  have bS1 := BoxS.new w 25 #[.int .i64 full, .int .i64 read, .int .i64 slip, .int .i64 skew, .int .i64 circ, .int .i64 glo, .int .i64 ghi, .int .i64 wrn]
  generalize World.alloc w _ = w1 at *
  refine (HC.out _ hB1).mono ?_
  rintro e2 w2 ⟨rfl, hb2⟩
  have bS2 := bS1.below hb2
  have hB2 := hB1.trans (hb2.mono hB1.size)
  clear bS1 hb2 hB1 HC
  obtain ⟨⟨⟨s0, s1, s2⟩, s3, s4, s5⟩, s6, s7⟩ := boxS8 bS2
  have lS := bS2.lt
  go_wp2_with fail
  refine (HP.out _).mono ?_
  rintro e3 w3 ⟨A3, c3, rfl, hP3, hb3⟩
  have bS3 := bS2.below hb3
  have hB3 := hB2.trans (hb3.mono hB2.size)
  clear s0 s1 s2 s3 s4 s5 s6 s7 lS bS2 hb3 hB2 HP
  go_wp2_with fail
  obtain ⟨wb, hwb⟩ : ∃ wb, wb = w3 := ⟨_, rfl⟩
  have hbb : Below wb.heap.size wb w3 := by rw [hwb]; exact Below.refl _ _
  have hPb : Hid (Prs wb wb.heap.size A3 P) := by rw [hwb]; exact hP3
  have hzb : w.heap.size < wb.heap.size := by rw [hwb]; exact bS3.lt
  clear hwb hP3
  go_loopg [7, 9] P.length (fun g x7 x9 wx => ∃ k : Nat, Hid (k + g = P.length) ∧ (k : Int) ≤ P.length ∧ x9 = .int .i64 (k : Int) ∧ x7 = .int .i64 (FW k) ∧ Below w.heap.size w wx ∧ Below wb.heap.size wb wx ∧ BoxS wx w.heap.size 25 #[.int .i64 full, .int .i64 read, .int .i64 slip, .int .i64 skew, .int .i64 circ, .int .i64 glo, .int .i64 ghi, .int .i64 wrn])
  case atStart => exact ⟨0, by simp [Hid], by omega, rfl, by rw [HF0.out], hB3, hbb, bS3⟩
  case round =>
    clear hB3 hbb bS3
    obtain ⟨k, hk, hk1, rfl, rfl, hB, hbb, bS⟩ := hrel
    have hk0 := Int.natCast_nonneg k
    by_cases hlt : (k : Int) < P.length
    · have hkn : k < P.length := by omega
      have hPk : P[k]? = some (Wh.trAt P k) := by unfold Wh.trAt; rw [List.getElem?_eq_getElem hkn]; rfl
      obtain ⟨bp, op, rfl, hbp, hcp⟩ := hPb.out (by omega)
      obtain ⟨h0, h1⟩ := hcp k _ hPk
      have HW1 := Lib.hid (HWR.out k hkn)
      have HS := Lib.hid (HFS.out k hkn)
      have hlb := hbb.size
      have hw1 : IntKind.i64.wrap ((k : Int) + 1) = (k : Int) + 1 := IntWalk.i64_in _ (by omega)
      have KC : Hid (∀ W', Below wr.heap.size wr W' → (((W'.cell? ⟨w.heap.size, 0, none⟩ = some (.int .i64 full) ∧ W'.cell? ⟨w.heap.size, 1, none⟩ = some (.int .i64 read) ∧ W'.cell? ⟨w.heap.size, 2, none⟩ = some (.int .i64 slip)) ∧ W'.cell? ⟨w.heap.size, 3, none⟩ = some (.int .i64 skew) ∧ W'.cell? ⟨w.heap.size, 4, none⟩ = some (.int .i64 circ) ∧ W'.cell? ⟨w.heap.size, 5, none⟩ = some (.int .i64 glo)) ∧ W'.cell? ⟨w.heap.size, 6, none⟩ = some (.int .i64 ghi) ∧ W'.cell? ⟨w.heap.size, 7, none⟩ = some (.int .i64 wrn)) ∧ W'.cell? ⟨bp, op + k * 2, none⟩ = some (.int .i64 (Wh.trAt P k).1) ∧ W'.cell? ⟨bp, op + k * 2 + 1, none⟩ = some (.int .i64 (Wh.trAt P k).2)) := fun W' hW => by
        have hBW := hbb.trans (hW.mono hbb.size)
        exact ⟨boxS8 (bS.below hW), (hBW.cell (p := ⟨bp, _, none⟩) hbp).trans h0, (hBW.cell (p := ⟨bp, _, none⟩) hbp).trans h1⟩
      clear h0 h1 hcp hPk HFS HWR
      obtain ⟨lo, hlo⟩ : ∃ v, v = FW k := ⟨_, rfl⟩
      obtain ⟨wn, hwn⟩ : ∃ v, v = WN k := ⟨_, rfl⟩
      rw [← hlo, ← hwn] at HS
      rw [← hlo]
      rw [← hwn] at HW1
      clear hlo hwn
      generalize Wh.trAt P k = q at *
      obtain ⟨q1, q2⟩ := q
      dsimp only at KC HW1
      have hmo : Try.prog.follows .mixedOrders = true := by kernel_rfl
      have q0 : Below wr.heap.size wr wr.drew := (Below.refl _ _).drew
      go_wp2_with fail
      refine (wpIn_wide (n := 4)).1 ?_
      refine wpIn_region_held (fun W' => Below wr.heap.size wr W') 30 hmo ?_
      refine wpHeldIn_take (i := 0) (v := ?_) (plain_of (by kernel_rfl)) rfl (by kernel_rfl) (fun _ _ _ h => h) (yieldsSoIn_of (by kernel_rfl) ?_ (fun _ => rfl)) q0 ?_; rotate_left; focus (intro wq hw; clear hw; go_simp; try (with_reducible rfl))
      refine wpHeldIn_take (i := 1) (v := ?_) (plain_of (by kernel_rfl)) rfl (by kernel_rfl) (fun _ _ _ h => h) (yieldsSoIn_of (by kernel_rfl) ?_ (fun _ => rfl)) q0 ?_; rotate_left; focus (intro wq hw; have kq := KC.out wq hw; clear hw; go_simp; try (with_reducible rfl))
      refine wpHeldIn_take (i := 2) (v := ?_) (plain_of (by kernel_rfl)) rfl (by kernel_rfl) (fun _ _ _ h => h) (yieldsSoIn_of (by kernel_rfl) ?_ (fun _ => rfl)) q0 ?_; rotate_left; focus (intro wq hw; clear hw; go_simp; try (with_reducible rfl))
      refine wpHeldIn_take (i := 3) (v := ?_) (plain_of (by kernel_rfl)) rfl (by kernel_rfl) (fun _ _ _ h => h) (yieldsSoIn_of (by kernel_rfl) ?_ (fun _ => rfl)) q0 ?_; rotate_left; focus (intro wq hw; clear hw; go_simp; try (with_reducible rfl))
      refine wpHeldIn_take (i := 4) (v := ?_) (plain_of (by kernel_rfl)) rfl (by kernel_rfl) (fun _ _ _ h => h) (yieldsSoIn_of (by kernel_rfl) ?_ (fun _ => rfl)) q0 ?_; rotate_left; focus (intro wq hw; clear hw; go_simp; try (with_reducible rfl))
      refine wpHeldIn_take (i := 5) (v := ?_) (plain_of (by kernel_rfl)) rfl (by kernel_rfl) (fun _ _ _ h => h) (yieldsSoIn_of (by kernel_rfl) ?_ (fun _ => rfl)) q0 ?_; rotate_left; focus (intro wq hw; clear hw; go_simp; try (with_reducible rfl))
      refine wpHeldIn_take (i := 6) (v := ?_) (plain_of (by kernel_rfl)) rfl (by kernel_rfl) (fun _ _ _ h => h) (yieldsSoIn_of (by kernel_rfl) ?_ (fun _ => rfl)) q0 ?_; rotate_left; focus (intro wq hw; have kq := KC.out wq hw; clear hw; go_simp; try (with_reducible rfl))
      refine wpHeldIn_one (i := 7) (by kernel_rfl) (by kernel_rfl) rfl (by kernel_rfl) (fun K1 hK1 => ?_)
      go_simp
      refine ⟨trivial, (callsIn_wide.2 (HW1.out _ (hB.trans (q0.mono hB.size)))).mono ?_⟩
      rintro e w5 ⟨rfl, hb5⟩
      have q1 := q0.trans (hb5.mono q0.size)
      refine hK1 _ _ q1 ?_
      refine wpHeldIn_take (i := 8) (v := ?_) (plain_of (by kernel_rfl)) rfl (by kernel_rfl) (fun _ _ _ h => h) (yieldsSoIn_of (by kernel_rfl) ?_ (fun _ => rfl)) q1 ?_; rotate_left; focus (intro wq hw; clear hw; go_simp; try (with_reducible rfl))
      refine wpHeldIn_take (i := 9) (v := ?_) (plain_of (by kernel_rfl)) rfl (by kernel_rfl) (fun _ _ _ h => h) (yieldsSoIn_of (by kernel_rfl) ?_ (fun _ => rfl)) q1 ?_; rotate_left; focus (intro wq hw; clear hw; go_simp; try (with_reducible rfl))
      refine wpHeldIn_done (by kernel_rfl) ?_ _
      go_simp
      have hB5 := hB.trans (q1.mono hB.size)
      have hbb5 := hbb.trans (q1.mono hbb.size)
      have bS5 := bS.below q1
      clear KC q0 q1 hb5 hB hbb bS
      go_wp2_with fail
      obtain ⟨g', hg'⟩ : ∃ g', gk = g' + 1 := ⟨gk - 1, by have := hk.out; omega⟩
      go_roundg g'
      case measure => omega
      case rel => exact ⟨k + 1, by have := hk.out; simp only [Hid]; omega, by omega, by go_num, by rw [HS.out, ← Wh.low_min], hB5, hbb5, bS5⟩
    · obtain rfl : k = P.length := by omega
      go_wp2_with fail
      go_returns
      exact ⟨rfl, hB⟩
theorem Fewest3_any (d : Wh.Desk) (A : Option Addr) (c : Nat) (w : World) (hl : d.ws.length ≤ 1000000000) (hz : Wh.okB d = true → (Wh.casesL d).length ≤ 90000) (hg : Wks w w.heap.size A d.ws) : Calls Try.prog 17 #[.agg (whV d), .slice A d.ws.length c] w (TwoPost (Wh.fewV d) (Wh.chkE d) w) := by
  have HC : Hid (∀ W, Below w.heap.size w W → Calls Try.prog 15 #[.agg (whV d), .slice A d.ws.length c] W (ErrPost (Wh.chkE d) W)) := fun W hW => Check3_any d A c W hl ((hg.keep hW).wider hW.size)
  unfold Wh.fewV
  cases hok : Wh.okB d
  · have := Fewest3_no d.full d.read d.slip d.skew d.circ d.glo d.ghi d.wr d.ws A c w (Wh.chkE d) (Wh.chkE_no hok) HC
    simpa using this
  · rw [Wh.chkE_yes hok] at HC ⊢
    have hd := Wh.ok_of hok
    have hzz := hz hok
    have hvl := Wh.vals_len (Wh.casesL d)
    have := Fewest3_yes d.full d.read d.slip d.skew d.circ d.glo d.ghi d.wr d.ws A c w (Wh.vals (Wh.casesL d)) (fun k => Wh.fewF d ((Wh.casesL d).take k)) (fun k => (Wh.wrongN d (Wh.trAt (Wh.vals (Wh.casesL d)) k) : Nat)) (by omega) (Lib.hid hg) HC (fun W => all3_any d hd hzz W) (fun k hk W hW => Wrongs3_any d hok A c _ W (by
      rw [Wh.vals_at (by omega)]
      exact ((Wh.casesL d)[k]'(by omega)).2) ((hg.keep hW).wider hW.size)) (by simp [Hid, Wh.fewF]) (fun k hk => by
      have hk' : k < (Wh.casesL d).length := by omega
      rw [List.take_succ_eq_append_getElem hk', Wh.few_snoc, Wh.vals_at hk'])
    rw [hvl, List.take_length] at this
    exact this
end Go.Proofs.Ytecmlakcpgkfbaa
