/- Trials: the theorem of the figure without area (P9.16): the walk. -/
import Derived.Test.YtkmacpkjobdffaaTzB
namespace Go.Proofs.Ytkmacpkjobdffaa
open Go.RowKit
set_option maxRecDepth 100000 in
set_option maxHeartbeats 16000000 in
theorem lawZero_walk (t : Ti.Tri) (le mr : Int) (A : Option Addr) (c : Nat) (w : World) (hl : t.ts.length ≤ 1000000000) (hg : Tsts w w.heap.size A t.ts) :
    Calls Try.prog 7 #[.agg (tiV t A c), .agg #[.int .i64 le, .int .i64 mr]] w fun e w' => e = .returned (.bool true) ∧ Below w.heap.size w w' := by
  have HWK : Hid (∀ W, Calls Try.prog 10 #[] W fun e w' => e = .returned (.bool true) ∧ Below W.heap.size W w') := works9_any
  have HRD : Hid (∀ W, Below w.heap.size w W → Calls Try.prog 8 #[.agg (tiV t A c)] W fun e w' => e = .returned (.bool (Ti.readyB t)) ∧ Below W.heap.size W w') := fun W hW => ready9_any t A c W hl ((hg.keep hW).wider hW.size)
  cases hr : Ti.readyB t
  · rw [hr] at HRD
    clear hg hr
    obtain ⟨d, gain, ts⟩ := t
    obtain ⟨full, read, slip, skew, circ, glo, ghi, wrn, dws⟩ := d
    unfold tiV at *
    dsimp only at *
    go_enter Try.func7, Try.ntmps7
    go_wp2_with fail
    have bT1 := ((BoxS.new w 28 #[.int .i64 full, .int .i64 read, .int .i64 slip, .int .i64 skew, .int .i64 circ, .int .i64 glo, .int .i64 ghi, .int .i64 wrn, .int .i64 gain, .slice A ts.length c]).alloc (.cells #[.int .i64 le, .int .i64 mr] 62))
    have bX1 := (BoxS.new (World.alloc w (.cells #[.int .i64 full, .int .i64 read, .int .i64 slip, .int .i64 skew, .int .i64 circ, .int .i64 glo, .int .i64 ghi, .int .i64 wrn, .int .i64 gain, .slice A ts.length c] 28)) 62 #[.int .i64 le, .int .i64 mr])
    have hB1 : Below w.heap.size w (World.alloc (World.alloc w (.cells #[.int .i64 full, .int .i64 read, .int .i64 slip, .int .i64 skew, .int .i64 circ, .int .i64 glo, .int .i64 ghi, .int .i64 wrn, .int .i64 gain, .slice A ts.length c] 28)) (.cells #[.int .i64 le, .int .i64 mr] 62)) := by (repeat' (first | (with_reducible exact Below.refl _ _) | (with_reducible assumption) | (with_reducible refine Below.alloc ?_ ?_ _) | (with_reducible refine Below.drew ?_) | (with_reducible refine Below.setCell ?_ ?_ _) | go_size | (exact (by simp)) | omega))
    simp only [World.size_alloc] at bX1
    generalize World.alloc (World.alloc w _) _ = w1 at *
    refine (HRD.out _ hB1).mono ?_
    rintro e w2 ⟨rfl, hb2⟩
    have bT2 := bT1.below hb2
    have bX2 := bX1.below hb2
    have hB2 := hB1.trans (hb2.mono hB1.size)
    clear bT1 bX1 hB1
    have kT0 := bT2.cell 0 rfl
    have kT1 := bT2.cell 1 rfl
    have kT2 := bT2.cell 2 rfl
    have kT3 := bT2.cell 3 rfl
    have kT4 := bT2.cell 4 rfl
    have kT5 := bT2.cell 5 rfl
    have kT6 := bT2.cell 6 rfl
    have kT7 := bT2.cell 7 rfl
    have kT8 := bT2.cell 8 rfl
    have kT9 := bT2.cell 9 rfl
    have lT := bT2.lt
    have kX0 := bX2.cell 0 rfl
    have kX1 := bX2.cell 1 rfl
    have lX := bX2.lt
    go_wp2_with fail
    clear kT0 kT1 kT2 kT3 kT4 kT5 kT6 kT7 kT8 kT9 lT kX0 kX1 lX
    refine (HWK.out _).mono ?_
    rintro e w3 ⟨rfl, hb3⟩
    have bT3 := bT2.below hb3
    have bX3 := bX2.below hb3
    have hB3 := hB2.trans (hb3.mono hB2.size)
    clear bT2 bX2 hB2
    go_wp2_with fail
    go_returns
    exact ⟨rfl, hB3⟩
  rw [hr] at HRD
  have hck : Ti.chkV t = 0 := by unfold Ti.readyB at hr; rw [Bool.and_eq_true, decide_eq_true_eq] at hr; exact hr.2
  obtain ⟨hga, hsk, hn6, _⟩ := Ti.chk_ok hck
  have HER : Hid (∀ W, Below w.heap.size w W → Calls Try.prog 12 #[.agg (tiV t A c), .int .i64 0] W (SpanPost (Ti.lowE (fun x => Ti.errV x 0) (Ti.opE t true) t) (Ti.highE (fun x => Ti.errV x 0) (Ti.opE t true) t) (Ti.opE t true) W)) := fun W hW => Errs_any t 0 A c W hl ((hg.keep hW).wider hW.size)
  have HSK : Hid (∀ W, Below w.heap.size w W → Calls Try.prog 17 #[.agg (tiV t A c)] W (IntsEPost (Ti.allE (fun x => x.2) (Ti.opE t true) t) (Ti.opE t true) W)) := fun W hW => SkewsT_any t A c W hl ((hg.keep hW).wider hW.size)
  have HSN : Hid (∀ a, 0 ≤ a → a ≤ 9000 → ∀ W, Below w.heap.size w W → Calls Try.prog 26 #[.agg (tiV t A c), .int .i64 a] W (SpanPost (Ti.lowE (fun x => Ti.seenV x.1 a) (Ti.opE t true) t) (Ti.highE (fun x => Ti.seenV x.1 a) (Ti.opE t true) t) (Ti.opE t true) W)) := fun a h1 h2 W hW => by
    have := Seen_any t a A c W hl ((hg.keep hW).wider hW.size)
    rwa [inB_true.2 ⟨h1, h2⟩] at this
  have HSM : Hid (Ti.opE t true = 0 → ∀ a b, 0 ≤ a → a ≤ b → b ≤ 9000 → Ti.lowE (fun x => Ti.seenV x.1 a) (Ti.opE t true) t ≤ Ti.lowE (fun x => Ti.seenV x.1 b) (Ti.opE t true) t ∧ Ti.highE (fun x => Ti.seenV x.1 a) (Ti.opE t true) t ≤ Ti.highE (fun x => Ti.seenV x.1 b) (Ti.opE t true) t) := fun h0 a b h1 h2 h3 => by
    unfold Ti.lowE Ti.highE
    rw [if_pos h0, if_pos h0, if_pos h0, if_pos h0]
    exact Ti.seen_ends (Ti.op_ok h0).2.2 h1 h2 h3
  have HZE : Hid (Ti.opE t true = 0 → Ti.zLo (Ti.allE (fun x => x.2) (Ti.opE t true) t) (Ti.allE (fun x => x.2) (Ti.opE t true) t).length = Ti.lowE (fun x => Ti.errV x 0) (Ti.opE t true) t ∧ Ti.zHi (Ti.allE (fun x => x.2) (Ti.opE t true) t) (Ti.allE (fun x => x.2) (Ti.opE t true) t).length = Ti.highE (fun x => Ti.errV x 0) (Ti.opE t true) t ∧ Ti.allE (fun x => x.2) (Ti.opE t true) t ≠ []) := fun h0 => by
    unfold Ti.lowE Ti.highE Ti.allE
    rw [if_pos h0, if_pos h0, if_pos h0, Ti.tskews_eq]
    exact Ti.zero_errs (Ti.op_ok h0).2.2
  have HSB : Hid (∀ s ∈ Ti.allE (fun x => x.2) (Ti.opE t true) t, -20 ≤ s ∧ s ≤ 20) := fun s hs => by
    unfold Ti.allE at hs
    split at hs
    · rw [Ti.tskews_eq] at hs
      obtain ⟨f, hf, rfl⟩ := Ti.mem_skewF.1 hs
      have := f.2
      unfold Ti.gsm at this
      exact this.2
    · cases hs
  have hSL : (Ti.allE (fun x => x.2) (Ti.opE t true) t).length ≤ 41 := by
    unfold Ti.allE
    split
    · rw [Ti.tskews_eq]
      unfold Ti.skewF
      exact Nat.le_trans (List.length_filter_le _ _) (by simp)
    · simp
  have HZL0 : Hid (Ti.zLo (Ti.allE (fun x => x.2) (Ti.opE t true) t) 0 = Ti.sizeV ((Ti.allE (fun x => x.2) (Ti.opE t true) t).headD 0)) := rfl
  have HZH0 : Hid (Ti.zHi (Ti.allE (fun x => x.2) (Ti.opE t true) t) 0 = Ti.sizeV ((Ti.allE (fun x => x.2) (Ti.opE t true) t).headD 0)) := rfl
  have HZLS : Hid (∀ k s, (Ti.allE (fun x => x.2) (Ti.opE t true) t)[k]? = some s → Ti.zLo (Ti.allE (fun x => x.2) (Ti.opE t true) t) (k + 1) = min (Ti.zLo (Ti.allE (fun x => x.2) (Ti.opE t true) t) k) (Ti.sizeV s)) := fun k s h => by
    show min _ (Ti.sizeV (((Ti.allE (fun x => x.2) (Ti.opE t true) t)[k]?).getD 0)) = _
    rw [h]; rfl
  have HZHS : Hid (∀ k s, (Ti.allE (fun x => x.2) (Ti.opE t true) t)[k]? = some s → Ti.zHi (Ti.allE (fun x => x.2) (Ti.opE t true) t) (k + 1) = max (Ti.zHi (Ti.allE (fun x => x.2) (Ti.opE t true) t) k) (Ti.sizeV s)) := fun k s h => by
    show max _ (Ti.sizeV (((Ti.allE (fun x => x.2) (Ti.opE t true) t)[k]?).getD 0)) = _
    rw [h]; rfl
  have HHD : Hid (Ti.allE (fun x => x.2) (Ti.opE t true) t ≠ [] → (Ti.allE (fun x => x.2) (Ti.opE t true) t)[0]? = some ((Ti.allE (fun x => x.2) (Ti.opE t true) t).headD 0)) := fun h => by
    cases hs : Ti.allE (fun x => x.2) (Ti.opE t true) t with
    | nil => exact absurd hs h
    | cons a b => rfl
  have HSZ : Hid (∀ n : Int, -20 ≤ n ∧ n ≤ 20 → ∀ W, Calls Try.prog 25 #[.int .i64 n] W fun e w' => e = .returned (.int .i64 (Ti.sizeV n)) ∧ w' = W) := fun n hn W => Size9_any n (by omega) W
  have HKN : Hid (∀ W, Calls Try.prog 14 #[.int .i64 (Ti.opE t true)] W fun e w' => e = .returned (.bool (decide (Ti.opE t true = 0 ∨ Ti.opE t true = 3))) ∧ w' = W) := fun W => isKnown0_any _ W
  have HOC := Ti.op_cases0 hck true rfl
  have HTS : Hid (0 < t.ts.length → ∃ b off, A = some ⟨b, off, none⟩ ∧ b < w.heap.size ∧ ∃ AW cW, w.cell? ⟨b, off + 1, none⟩ = some (.slice AW (Ti.tstAt t.ts 0).2.length cW) ∧ Hid (Wks w w.heap.size AW (Ti.tstAt t.ts 0).2) ∧ (Ti.tstAt t.ts 0).2.length ≤ 1000000000) := fun hn => by
    obtain ⟨b, off, e, hb, hc⟩ := hg hn
    obtain ⟨A', c', x0, x1, h3, h4⟩ := hc 0 _ (tst_at hn)
    exact ⟨b, off, e, hb, A', c', by simpa using x1, h3, h4⟩
  have hKL : (Wh.skewsV (Ti.dsk t 0 (Ti.tstAt t.ts 0).2)).length ≤ 41 := Ti.skews_len _
  have HNP : Hid (0 < t.ts.length → ((∀ A c W, Wks W W.heap.size A (Ti.tstAt t.ts 0).2 → Calls Try.prog 27 #[.agg #[.int .i64 t.d.full, .int .i64 t.d.read, .int .i64 t.d.slip, .int .i64 t.d.skew, .int .i64 t.d.circ, .int .i64 0, .int .i64 0, .int .i64 t.d.wr], .slice A (Ti.tstAt t.ts 0).2.length c] W fun e w' => ∃ v : Value, e = .returned (.tuple #[v, .int .i64 (Wh.spE (Ti.dsk t 0 (Ti.tstAt t.ts 0).2))]) ∧ Hid (Ints w' w'.heap.size v (Wh.skewsV (Ti.dsk t 0 (Ti.tstAt t.ts 0).2))) ∧ Below W.heap.size W w') ∧
      (∀ A c W, Tsts W W.heap.size A [(0, (Ti.tstAt t.ts 0).2)] → Calls Try.prog 17 #[.agg #[.int .i64 t.d.full, .int .i64 t.d.read, .int .i64 t.d.slip, .int .i64 t.d.skew, .int .i64 t.d.circ, .int .i64 t.d.glo, .int .i64 t.d.ghi, .int .i64 t.d.wr, .int .i64 t.gain, .slice A 1 c]] W fun e w' => ∃ v : Value, e = .returned (.tuple #[v, .int .i64 (Wh.spE (Ti.dsk t 0 (Ti.tstAt t.ts 0).2))]) ∧ Hid (Ints w' w'.heap.size v (Wh.skewsV (Ti.dsk t 0 (Ti.tstAt t.ts 0).2))) ∧ Below W.heap.size W w') ∧
      (∀ A c W, Tsts W W.heap.size A [(0, (Ti.tstAt t.ts 0).2)] → Calls Try.prog 11 #[.agg #[.int .i64 t.d.full, .int .i64 t.d.read, .int .i64 t.d.slip, .int .i64 t.d.skew, .int .i64 t.d.circ, .int .i64 t.d.glo, .int .i64 t.d.ghi, .int .i64 t.d.wr, .int .i64 t.gain, .slice A 1 c]] W fun e w' => e = .returned (.tuple #[.int .i64 (((Wh.skewsV (Ti.dsk t 0 (Ti.tstAt t.ts 0).2)).length : Int) * (2 * t.gain + 1)), .int .i64 (Wh.spE (Ti.dsk t 0 (Ti.tstAt t.ts 0).2))]) ∧ Below W.heap.size W w') ∧
      (∀ W, Calls Try.prog 14 #[.int .i64 (Wh.spE (Ti.dsk t 0 (Ti.tstAt t.ts 0).2))] W fun e w' => e = .returned (.bool true) ∧ w' = W))) := fun hn => by
    refine ⟨fun A c W h => ?_, fun A c W h => ?_, fun A c W h => ?_, fun W => ?_⟩
    · have h8 := Wh.ok_len (Ti.zD_ok hck hn)
      exact Skews_any (Ti.dsk t 0 (Ti.tstAt t.ts 0).2) A c W (Nat.le_trans h8 (by decide)) h
    · have := SkewsT_any (Ti.zT t (Ti.tstAt t.ts 0).2) A c W (show 1 ≤ 1000000000 by decide) h
      rw [Ti.zD_err hck hn, Ti.zT_skews hck hn] at this
      exact this
    · have := ManyT_any (Ti.zT t (Ti.tstAt t.ts 0).2) A c W (show 1 ≤ 1000000000 by decide) h
      rw [Ti.zD_err hck hn, Ti.zT_many hck hn] at this
      exact this
    · have := isKnown0_any (Wh.spE (Ti.dsk t 0 (Ti.tstAt t.ts 0).2)) W
      rwa [decide_eq_true (Ti.spE_cases hck hn)] at this
  have HSI : Hid (∀ v v' W, Ints W W.heap.size v (Wh.skewsV (Ti.dsk t 0 (Ti.tstAt t.ts 0).2)) → Ints W W.heap.size v' (Wh.skewsV (Ti.dsk t 0 (Ti.tstAt t.ts 0).2)) → Calls Try.prog 28 #[v, v'] W fun e w' => e = .returned (.bool true) ∧ Below W.heap.size W w') := fun v v' W h1 h2 => by
    have := SameInts_any v v' _ _ W h1 h2 (by omega) (by omega)
    rwa [decide_eq_true rfl] at this
  unfold SpanPost at HER HSN
  unfold IntsEPost at HSK
  generalize Wh.spE (Ti.dsk t 0 (Ti.tstAt t.ts 0).2) = G at *
  generalize Wh.skewsV (Ti.dsk t 0 (Ti.tstAt t.ts 0).2) = K at *
  generalize (Ti.tstAt t.ts 0).2 = ws at *
  generalize Ti.lowE (fun x => Ti.errV x 0) (Ti.opE t true) t = LO at *
  generalize Ti.highE (fun x => Ti.errV x 0) (Ti.opE t true) t = HI at *
  obtain ⟨SL, hSLd⟩ : ∃ SL : Int → Int, SL = fun a => Ti.lowE (fun x => Ti.seenV x.1 a) (Ti.opE t true) t := ⟨_, rfl⟩
  obtain ⟨SH, hSHd⟩ : ∃ SH : Int → Int, SH = fun a => Ti.highE (fun x => Ti.seenV x.1 a) (Ti.opE t true) t := ⟨_, rfl⟩
  have e1 : ∀ a, Ti.lowE (fun x => Ti.seenV x.1 a) (Ti.opE t true) t = SL a := fun a => by rw [hSLd]
  have e2 : ∀ a, Ti.highE (fun x => Ti.seenV x.1 a) (Ti.opE t true) t = SH a := fun a => by rw [hSHd]
  simp only [e1, e2] at HSN HSM
  clear e1 e2 hSLd hSHd
  generalize Ti.allE (fun x => x.2) (Ti.opE t true) t = SK at *
  generalize Ti.zLo SK = ZL at *
  generalize Ti.zHi SK = ZH at *
  generalize Ti.sizeV = SZ at *
  generalize Ti.opE t true = E at *
  clear hg hr hck hsk
  obtain ⟨d, gain, ts⟩ := t
  obtain ⟨full, read, slip, skew, circ, glo, ghi, wrn, dws⟩ := d
  unfold tiV at *
  dsimp only at *
  have hwa : IntKind.i64.wrap (2 * gain) = 2 * gain := IntWalk.i64_in _ (by omega)
  have hwb : IntKind.i64.wrap (2 * gain + 1) = 2 * gain + 1 := IntWalk.i64_in _ (by omega)
  have hwc : IntKind.i64.wrap ((K.length : Int) * (2 * gain + 1)) = (K.length : Int) * (2 * gain + 1) := by
    have h1 : 0 ≤ (K.length : Int) * (2 * gain + 1) := Int.mul_nonneg (by omega) (by omega)
    have h2 : (K.length : Int) * (2 * gain + 1) ≤ 41 * 101 := Int.mul_le_mul (by omega) (by omega) (by omega) (by omega)
    exact IntWalk.i64_in _ (by omega)
  have hl2 : decide ((200 : Int) < (SK.length : Int)) = false := decide_eq_false (by omega)
  rcases HOC with hE | hE
  · rw [hE] at HKN
    rw [decide_eq_true (show (0 : Int) = 0 ∨ (0 : Int) = 3 from .inl rfl)] at HKN
    obtain ⟨hz1, hz2, hne⟩ := HZE.out hE
    have hhd := HHD.out hne
    have hb0 := HSB.out _ (List.mem_of_getElem? hhd)
    replace HSM := Lib.hid (HSM.out hE)
    subst hE
    have hln : 0 < SK.length := List.length_pos_iff.2 hne
    have hlni : (0 : Int) < (SK.length : Int) := by omega
    have hl0 : ((SK.length : Int) == 0) = false := by rw [beq_eq_false_iff_ne]; omega
    clear HZE HHD
    generalize SK.headD 0 = s00 at *
    go_enter Try.func7, Try.ntmps7
    go_wp2_with fail
    have bT1 := ((BoxS.new w 28 #[.int .i64 full, .int .i64 read, .int .i64 slip, .int .i64 skew, .int .i64 circ, .int .i64 glo, .int .i64 ghi, .int .i64 wrn, .int .i64 gain, .slice A ts.length c]).alloc (.cells #[.int .i64 le, .int .i64 mr] 62))
    have bX1 := (BoxS.new (World.alloc w (.cells #[.int .i64 full, .int .i64 read, .int .i64 slip, .int .i64 skew, .int .i64 circ, .int .i64 glo, .int .i64 ghi, .int .i64 wrn, .int .i64 gain, .slice A ts.length c] 28)) 62 #[.int .i64 le, .int .i64 mr])
    have hB1 : Below w.heap.size w (World.alloc (World.alloc w (.cells #[.int .i64 full, .int .i64 read, .int .i64 slip, .int .i64 skew, .int .i64 circ, .int .i64 glo, .int .i64 ghi, .int .i64 wrn, .int .i64 gain, .slice A ts.length c] 28)) (.cells #[.int .i64 le, .int .i64 mr] 62)) := by (repeat' (first | (with_reducible exact Below.refl _ _) | (with_reducible assumption) | (with_reducible refine Below.alloc ?_ ?_ _) | (with_reducible refine Below.drew ?_) | (with_reducible refine Below.setCell ?_ ?_ _) | go_size | (exact (by simp)) | omega))
    simp only [World.size_alloc] at bX1
    generalize World.alloc (World.alloc w _) _ = w1 at *
    refine (HRD.out _ hB1).mono ?_
    rintro e w2 ⟨rfl, hb2⟩
    have bT2 := bT1.below hb2
    have bX2 := bX1.below hb2
    have hB2 := hB1.trans (hb2.mono hB1.size)
    clear bT1 bX1 hB1
    have kT0 := bT2.cell 0 rfl
    have kT1 := bT2.cell 1 rfl
    have kT2 := bT2.cell 2 rfl
    have kT3 := bT2.cell 3 rfl
    have kT4 := bT2.cell 4 rfl
    have kT5 := bT2.cell 5 rfl
    have kT6 := bT2.cell 6 rfl
    have kT7 := bT2.cell 7 rfl
    have kT8 := bT2.cell 8 rfl
    have kT9 := bT2.cell 9 rfl
    have lT := bT2.lt
    have kX0 := bX2.cell 0 rfl
    have kX1 := bX2.cell 1 rfl
    have lX := bX2.lt
    go_wp2_with fail
    clear kT0 kT1 kT2 kT3 kT4 kT5 kT6 kT7 kT8 kT9 lT kX0 kX1 lX
    refine (HER.out _ hB2).mono ?_
    rintro e w3 ⟨rfl, hb3⟩
    have bT3 := bT2.below hb3
    have bX3 := bX2.below hb3
    have hB3 := hB2.trans (hb3.mono hB2.size)
    clear bT2 bX2 hB2
    have kT0 := bT3.cell 0 rfl
    have kT1 := bT3.cell 1 rfl
    have kT2 := bT3.cell 2 rfl
    have kT3 := bT3.cell 3 rfl
    have kT4 := bT3.cell 4 rfl
    have kT5 := bT3.cell 5 rfl
    have kT6 := bT3.cell 6 rfl
    have kT7 := bT3.cell 7 rfl
    have kT8 := bT3.cell 8 rfl
    have kT9 := bT3.cell 9 rfl
    have lT := bT3.lt
    have kX0 := bX3.cell 0 rfl
    have kX1 := bX3.cell 1 rfl
    have lX := bX3.lt
    go_wp2_with fail
    clear kT0 kT1 kT2 kT3 kT4 kT5 kT6 kT7 kT8 kT9 lT kX0 kX1 lX
    have bT4 := (bT3.alloc (.cells #[.int .i64 LO, .int .i64 HI] 23))
    have bX4 := (bX3.alloc (.cells #[.int .i64 LO, .int .i64 HI] 23))
    have bS4 := (BoxS.new w3 23 #[.int .i64 LO, .int .i64 HI])
    have hB4 : Below w.heap.size w (World.alloc w3 (.cells #[.int .i64 LO, .int .i64 HI] 23)) := (hB3.alloc hB3.size _)
    obtain ⟨BS, hBS⟩ : ∃ B, B = w3.heap.size := ⟨_, rfl⟩
    clear bT3 bX3 hB3
    generalize World.alloc w3 _ = w4 at *
    rw [← hBS]
    rw [← hBS] at bS4
    clear hBS
    refine (HSK.out _ hB4).mono ?_
    rintro e w5 ⟨v5, rfl, hv5, hb5⟩
    have bT5 := bT4.below hb5
    have bX5 := bX4.below hb5
    have bS5 := bS4.below hb5
    have hB5 := hB4.trans (hb5.mono hB4.size)
    clear bT4 bX4 bS4 hB4
    obtain ⟨AK, cK, rfl⟩ := ints_form hv5.out
    have HV5 := Lib.hid hv5.out
    clear hv5
    have kT0 := bT5.cell 0 rfl
    have kT1 := bT5.cell 1 rfl
    have kT2 := bT5.cell 2 rfl
    have kT3 := bT5.cell 3 rfl
    have kT4 := bT5.cell 4 rfl
    have kT5 := bT5.cell 5 rfl
    have kT6 := bT5.cell 6 rfl
    have kT7 := bT5.cell 7 rfl
    have kT8 := bT5.cell 8 rfl
    have kT9 := bT5.cell 9 rfl
    have lT := bT5.lt
    have kX0 := bX5.cell 0 rfl
    have kX1 := bX5.cell 1 rfl
    have lX := bX5.lt
    have kS0 := bS5.cell 0 rfl
    have kS1 := bS5.cell 1 rfl
    have lS := bS5.lt
    go_wp2_with fail
    clear kT0 kT1 kT2 kT3 kT4 kT5 kT6 kT7 kT8 kT9 lT kX0 kX1 lX kS0 kS1 lS
    refine (HKN.out _).mono ?_
    rintro e wq ⟨rfl, hq⟩
    have hq := hq.symm
    subst hq
    obtain ⟨bk, ok, rfl, hbk, hck⟩ := ints_some HV5.out hne
    have s0 := hck 0 _ hhd
    rw [Nat.add_zero] at s0
    have kT0 := bT5.cell 0 rfl
    have kT1 := bT5.cell 1 rfl
    have kT2 := bT5.cell 2 rfl
    have kT3 := bT5.cell 3 rfl
    have kT4 := bT5.cell 4 rfl
    have kT5 := bT5.cell 5 rfl
    have kT6 := bT5.cell 6 rfl
    have kT7 := bT5.cell 7 rfl
    have kT8 := bT5.cell 8 rfl
    have kT9 := bT5.cell 9 rfl
    have lT := bT5.lt
    have kX0 := bX5.cell 0 rfl
    have kX1 := bX5.cell 1 rfl
    have lX := bX5.lt
    have kS0 := bS5.cell 0 rfl
    have kS1 := bS5.cell 1 rfl
    have lS := bS5.lt
    go_wp2_with fail
    clear kT0 kT1 kT2 kT3 kT4 kT5 kT6 kT7 kT8 kT9 lT kX0 kX1 lX kS0 kS1 lS
    have hmo : Try.prog.follows .mixedOrders = true := by kernel_rfl
    have q0 : Below w5.heap.size w5.drew w5.drew := Below.refl _ _
    have KC : Hid (∀ V', Below w5.heap.size w5.drew V' → (V'.cell? ⟨bk, ok, none⟩ = some (.int .i64 (s00)) ∧ True)) := fun V' h => ⟨(h.cell (p := ⟨bk, ok, none⟩) hbk).trans s0, trivial⟩
    refine (wpIn_wide (n := 4)).1 ?_
    refine wpIn_mono (Q := noPanic _) ?_ noPanic_le
    refine wpIn_region_held (fun V' => Below w5.heap.size w5.drew V') 30 hmo ?_
    refine wpHeldIn_take (i := 0) (v := ?_) (plain_of (by kernel_rfl)) rfl (by kernel_rfl) (fun _ _ _ h => h) (yieldsSoIn_of (by kernel_rfl) ?_ (fun _ => rfl)) q0 ?_; rotate_left; focus (intro wq hw; clear hw; go_simp; try (with_reducible rfl))
    refine wpHeldIn_take (i := 1) (v := ?_) (plain_of (by kernel_rfl)) rfl (by kernel_rfl) (fun _ _ _ h => h) (yieldsSoIn_of (by kernel_rfl) ?_ (fun _ => rfl)) q0 ?_; rotate_left; focus (intro wq hw; clear hw; go_simp; try (with_reducible rfl))
    refine wpHeldIn_take (i := 2) (v := ?_) (plain_of (by kernel_rfl)) rfl (by kernel_rfl) (fun _ _ _ h => h) (yieldsSoIn_of (by kernel_rfl) ?_ (fun _ => rfl)) q0 ?_; rotate_left; focus (intro wq hw; have kq := KC.out wq hw; clear hw; go_simp; try (with_reducible rfl))
    refine wpHeldIn_take (i := 3) (v := .int .i64 (SZ (s00))) (plain_of (by kernel_rfl)) rfl (by kernel_rfl) (fun _ _ _ h => h) (yieldsSoIn_call (by kernel_rfl) ?_ rfl (fun _ => trivial) (fun m wq hw => callsIn_wide.2 ((HSZ.out (s00) hb0 _).mono (fun e w' h => ⟨h.1, h.2⟩)))) q0 ?_; focus (intro wq hw; clear hw; go_simp; try (with_reducible rfl))
    refine wpHeldIn_take (i := 4) (v := ?_) (plain_of (by kernel_rfl)) rfl (by kernel_rfl) (fun _ _ _ h => h) (yieldsSoIn_of (by kernel_rfl) ?_ (fun _ => rfl)) q0 ?_; rotate_left; focus (intro wq hw; clear hw; go_simp; try (with_reducible rfl))
    refine wpHeldIn_take (i := 5) (v := ?_) (plain_of (by kernel_rfl)) rfl (by kernel_rfl) (fun _ _ _ h => h) (yieldsSoIn_of (by kernel_rfl) ?_ (fun _ => rfl)) q0 ?_; rotate_left; focus (intro wq hw; clear hw; go_simp; try (with_reducible rfl))
    refine wpHeldIn_take (i := 6) (v := ?_) (plain_of (by kernel_rfl)) rfl (by kernel_rfl) (fun _ _ _ h => h) (yieldsSoIn_of (by kernel_rfl) ?_ (fun _ => rfl)) q0 ?_; rotate_left; focus (intro wq hw; have kq := KC.out wq hw; clear hw; go_simp; try (with_reducible rfl))
    refine wpHeldIn_take (i := 7) (v := .int .i64 (SZ (s00))) (plain_of (by kernel_rfl)) rfl (by kernel_rfl) (fun _ _ _ h => h) (yieldsSoIn_call (by kernel_rfl) ?_ rfl (fun _ => trivial) (fun m wq hw => callsIn_wide.2 ((HSZ.out (s00) hb0 _).mono (fun e w' h => ⟨h.1, h.2⟩)))) q0 ?_; focus (intro wq hw; clear hw; go_simp; try (with_reducible rfl))
    refine wpHeldIn_take (i := 8) (v := ?_) (plain_of (by kernel_rfl)) rfl (by kernel_rfl) (fun _ _ _ h => h) (yieldsSoIn_of (by kernel_rfl) ?_ (fun _ => rfl)) q0 ?_; rotate_left; focus (intro wq hw; clear hw; go_simp; try (with_reducible rfl))
    refine wpHeldIn_take (i := 9) (v := ?_) (plain_of (by kernel_rfl)) rfl (by kernel_rfl) (fun _ _ _ h => h) (yieldsSoIn_of (by kernel_rfl) ?_ (fun _ => rfl)) q0 ?_; rotate_left; focus (intro wq hw; clear hw; go_simp; try (with_reducible rfl))
    refine wpHeldIn_done (by kernel_rfl) ?_ _
    go_simp
    refine noPanic_of ?_
    clear KC q0
    go_wp2_with fail
    skip
    clear s0 HV5
    have HCK : Hid (∀ V, Below w5.heap.size w5 V → ∀ k y, SK[k]? = some y → V.cell? ⟨bk, ok + k, none⟩ = some (.int .i64 y)) := fun V hV k y h => (hV.cell (p := ⟨bk, ok + k, none⟩) hbk).trans (hck k y h)
    clear hck
    go_loopw [9, 10, 11] (fun x9 x10 x11 wr => ∃ k : Nat, (k : Int) ≤ SK.length ∧ x9 = .int .i64 (ZL k) ∧ x10 = .int .i64 (ZH k) ∧ x11 = .int .i64 (k : Int) ∧ Below w5.heap.size w5 wr ∧ Below w.heap.size w wr ∧ BoxS wr (w.heap.size) 28 #[.int .i64 full, .int .i64 read, .int .i64 slip, .int .i64 skew, .int .i64 circ, .int .i64 glo, .int .i64 ghi, .int .i64 wrn, .int .i64 gain, .slice A ts.length c] ∧ BoxS wr (w.heap.size + 1) 62 #[.int .i64 le, .int .i64 mr] ∧ BoxS wr (BS) 23 #[.int .i64 LO, .int .i64 HI]) (fun _ _ x11 _ => (SK.length - intOf x11).toNat)
    case atStart => exact ⟨0, by omega, by rw [HZL0.out], by rw [HZH0.out], rfl, (Below.refl _ _).drew, hB5.drew, bT5.drew, bX5.drew, bS5.drew⟩
    case round =>
      clear hB5 bT5 bX5 bS5
      obtain ⟨k, hk, rfl, rfl, rfl, hbw, hB6, bT6, bX6, bS6⟩ := hrel
      obtain ⟨w6, rfl⟩ : ∃ z, z = wr := ⟨_, rfl⟩
      have hk0 := Int.natCast_nonneg k
      by_cases hlt : (k : Int) < SK.length
      · have hkn : k < SK.length := by omega
        obtain ⟨sk, hsk⟩ : ∃ sk, SK[k]? = some sk := ⟨_, List.getElem?_eq_getElem hkn⟩
        have hskb := HSB.out _ (List.mem_of_getElem? hsk)
        have y := HCK.out _ hbw k sk hsk
        have hw1 : IntKind.i64.wrap ((k : Int) + 1) = (k : Int) + 1 := IntWalk.i64_in _ (by omega)
        have hbk1 : bk < w6.heap.size := by have := hbw.size; omega
        go_wp2_with fail
        have q0 : Below w6.heap.size w6.drew w6.drew := Below.refl _ _
        have KC : Hid (∀ V', Below w6.heap.size w6.drew V' → (V'.cell? ⟨bk, ok + k, none⟩ = some (.int .i64 sk) ∧ True)) := fun V' h => ⟨(h.cell (p := ⟨bk, ok + k, none⟩) hbk1).trans y, trivial⟩
        refine (wpIn_wide (n := 4)).1 ?_
        refine wpIn_mono (Q := noPanic _) ?_ noPanic_le
        refine wpIn_region_held (fun V' => Below w6.heap.size w6.drew V') 30 hmo ?_
        refine wpHeldIn_take (i := 0) (v := ?_) (plain_of (by kernel_rfl)) rfl (by kernel_rfl) (fun _ _ _ h => h) (yieldsSoIn_of (by kernel_rfl) ?_ (fun _ => rfl)) q0 ?_; rotate_left; focus (intro wq hw; clear hw; go_simp; try (with_reducible rfl))
        refine wpHeldIn_take (i := 1) (v := ?_) (plain_of (by kernel_rfl)) rfl (by kernel_rfl) (fun _ _ _ h => h) (yieldsSoIn_of (by kernel_rfl) ?_ (fun _ => rfl)) q0 ?_; rotate_left; focus (intro wq hw; clear hw; go_simp; try (with_reducible rfl))
        refine wpHeldIn_take (i := 2) (v := ?_) (plain_of (by kernel_rfl)) rfl (by kernel_rfl) (fun _ _ _ h => h) (yieldsSoIn_of (by kernel_rfl) ?_ (fun _ => rfl)) q0 ?_; rotate_left; focus (intro wq hw; clear hw; go_simp; try (with_reducible rfl))
        refine wpHeldIn_take (i := 3) (v := ?_) (plain_of (by kernel_rfl)) rfl (by kernel_rfl) (fun _ _ _ h => h) (yieldsSoIn_of (by kernel_rfl) ?_ (fun _ => rfl)) q0 ?_; rotate_left; focus (intro wq hw; clear hw; go_simp; try (with_reducible rfl))
        refine wpHeldIn_take (i := 4) (v := ?_) (plain_of (by kernel_rfl)) rfl (by kernel_rfl) (fun _ _ _ h => h) (yieldsSoIn_of (by kernel_rfl) ?_ (fun _ => rfl)) q0 ?_; rotate_left; focus (intro wq hw; have kq := KC.out wq hw; clear hw; go_simp; try (with_reducible rfl))
        refine wpHeldIn_take (i := 5) (v := .int .i64 (SZ sk)) (plain_of (by kernel_rfl)) rfl (by kernel_rfl) (fun _ _ _ h => h) (yieldsSoIn_call (by kernel_rfl) ?_ rfl (fun _ => trivial) (fun m wq hw => callsIn_wide.2 ((HSZ.out sk hskb _).mono (fun e w' h => ⟨h.1, h.2⟩)))) q0 ?_; focus (intro wq hw; clear hw; go_simp; try (with_reducible rfl))
        refine wpHeldIn_take (i := 6) (v := ?_) (plain_of (by kernel_rfl)) rfl (by kernel_rfl) (fun _ _ _ h => h) (yieldsSoIn_of (by kernel_rfl) ?_ (fun _ => rfl)) q0 ?_; rotate_left; focus (intro wq hw; clear hw; go_simp; try (with_reducible rfl))
        refine wpHeldIn_take (i := 7) (v := ?_) (plain_of (by kernel_rfl)) rfl (by kernel_rfl) (fun _ _ _ h => h) (yieldsSoIn_of (by kernel_rfl) ?_ (fun _ => rfl)) q0 ?_; rotate_left; focus (intro wq hw; clear hw; go_simp; try (with_reducible rfl))
        refine wpHeldIn_take (i := 8) (v := ?_) (plain_of (by kernel_rfl)) rfl (by kernel_rfl) (fun _ _ _ h => h) (yieldsSoIn_of (by kernel_rfl) ?_ (fun _ => rfl)) q0 ?_; rotate_left; focus (intro wq hw; clear hw; go_simp; try (with_reducible rfl))
        refine wpHeldIn_take (i := 9) (v := ?_) (plain_of (by kernel_rfl)) rfl (by kernel_rfl) (fun _ _ _ h => h) (yieldsSoIn_of (by kernel_rfl) ?_ (fun _ => rfl)) q0 ?_; rotate_left; focus (intro wq hw; clear hw; go_simp; try (with_reducible rfl))
        refine wpHeldIn_take (i := 10) (v := ?_) (plain_of (by kernel_rfl)) rfl (by kernel_rfl) (fun _ _ _ h => h) (yieldsSoIn_of (by kernel_rfl) ?_ (fun _ => rfl)) q0 ?_; rotate_left; focus (intro wq hw; clear hw; go_simp; try (with_reducible rfl))
        refine wpHeldIn_take (i := 11) (v := ?_) (plain_of (by kernel_rfl)) rfl (by kernel_rfl) (fun _ _ _ h => h) (yieldsSoIn_of (by kernel_rfl) ?_ (fun _ => rfl)) q0 ?_; rotate_left; focus (intro wq hw; have kq := KC.out wq hw; clear hw; go_simp; try (with_reducible rfl))
        refine wpHeldIn_take (i := 12) (v := .int .i64 (SZ sk)) (plain_of (by kernel_rfl)) rfl (by kernel_rfl) (fun _ _ _ h => h) (yieldsSoIn_call (by kernel_rfl) ?_ rfl (fun _ => trivial) (fun m wq hw => callsIn_wide.2 ((HSZ.out sk hskb _).mono (fun e w' h => ⟨h.1, h.2⟩)))) q0 ?_; focus (intro wq hw; clear hw; go_simp; try (with_reducible rfl))
        refine wpHeldIn_take (i := 13) (v := ?_) (plain_of (by kernel_rfl)) rfl (by kernel_rfl) (fun _ _ _ h => h) (yieldsSoIn_of (by kernel_rfl) ?_ (fun _ => rfl)) q0 ?_; rotate_left; focus (intro wq hw; clear hw; go_simp; try (with_reducible rfl))
        refine wpHeldIn_take (i := 14) (v := ?_) (plain_of (by kernel_rfl)) rfl (by kernel_rfl) (fun _ _ _ h => h) (yieldsSoIn_of (by kernel_rfl) ?_ (fun _ => rfl)) q0 ?_; rotate_left; focus (intro wq hw; clear hw; go_simp; try (with_reducible rfl))
        refine wpHeldIn_take (i := 15) (v := ?_) (plain_of (by kernel_rfl)) rfl (by kernel_rfl) (fun _ _ _ h => h) (yieldsSoIn_of (by kernel_rfl) ?_ (fun _ => rfl)) q0 ?_; rotate_left; focus (intro wq hw; clear hw; go_simp; try (with_reducible rfl))
        refine wpHeldIn_done (by kernel_rfl) ?_ _
        go_simp
        refine noPanic_of ?_
        have e9 := HZLS.out k sk hsk
        have e10 := HZHS.out k sk hsk
        go_wp2_with fail
        go_roundw
        case rel => exact ⟨k + 1, by omega, by rw [e9], by rw [e10], by go_num, hbw.drew, hB6.drew, bT6.drew, bX6.drew, bS6.drew⟩
        case measure => simp [intOf]; omega
      · have ek : k = SK.length := by omega
        subst ek
        rw [hz1, hz2]
        clear hz1 hz2 HZLS HZHS HZL0 HZH0 HCK hbw hhd hb0 HSB
        by_cases g0 : le < 0
        · skip
          have c1 : decide (0 ≤ le) = false := decide_eq_false (by omega)
          by_cases hnp : 0 < ts.length
          · have hn0 : ((ts.length : Int) == 0) = false := by rw [beq_eq_false_iff_ne]; omega
            have hnpi : (0 : Int) < (ts.length : Int) := by omega
            obtain ⟨b, off, rfl, hbt, AW, cW, y1, HWK0, hwl⟩ := HTS.out hnp
            have HN := HNP.out hnp
            obtain ⟨HWS, HS2, HM2, HKG⟩ := HN
            replace HWS := Lib.hid HWS
            replace HS2 := Lib.hid HS2
            replace HM2 := Lib.hid HM2
            replace HKG := Lib.hid HKG
            have kT0 := bT6.cell 0 rfl
            have kT1 := bT6.cell 1 rfl
            have kT2 := bT6.cell 2 rfl
            have kT3 := bT6.cell 3 rfl
            have kT4 := bT6.cell 4 rfl
            have kT5 := bT6.cell 5 rfl
            have kT6 := bT6.cell 6 rfl
            have kT7 := bT6.cell 7 rfl
            have kT8 := bT6.cell 8 rfl
            have kT9 := bT6.cell 9 rfl
            have lT := bT6.lt
            have kX0 := bX6.cell 0 rfl
            have kX1 := bX6.cell 1 rfl
            have lX := bX6.lt
            have kS0 := bS6.cell 0 rfl
            have kS1 := bS6.cell 1 rfl
            have lS := bS6.lt
            go_wp2_with fail
            clear kT0 kT1 kT2 kT3 kT4 kT5 kT6 kT7 kT8 kT9 lT kX0 kX1 lX kS0 kS1 lS
            have hmo : Try.prog.follows .mixedOrders = true := by kernel_rfl
            have hbr : b < w6.heap.size := by have := hB6.size; omega
            have y1w : w6.cell? ⟨b, off + 1, none⟩ = some (.slice AW ws.length cW) := (hB6.cell (p := ⟨b, off + 1, none⟩) hbt).trans y1
            obtain ⟨NN, hNN⟩ : ∃ N, N = w6.heap.size := ⟨_, rfl⟩
            have q0 : Below NN w6.drew w6.drew := Below.refl _ _
            have KC : Hid (∀ V', Below NN w6.drew V' → (V'.cell? ⟨w.heap.size, 0, none⟩ = some (.int .i64 full) ∧ V'.cell? ⟨w.heap.size, 1, none⟩ = some (.int .i64 read) ∧ V'.cell? ⟨w.heap.size, 2, none⟩ = some (.int .i64 slip) ∧ V'.cell? ⟨w.heap.size, 3, none⟩ = some (.int .i64 skew) ∧ V'.cell? ⟨w.heap.size, 4, none⟩ = some (.int .i64 circ) ∧ V'.cell? ⟨w.heap.size, 5, none⟩ = some (.int .i64 glo) ∧ V'.cell? ⟨w.heap.size, 6, none⟩ = some (.int .i64 ghi) ∧ V'.cell? ⟨w.heap.size, 7, none⟩ = some (.int .i64 wrn) ∧ V'.cell? ⟨w.heap.size, 8, none⟩ = some (.int .i64 gain) ∧ V'.cell? ⟨w.heap.size, 9, none⟩ = some (.slice (some ⟨b, off, none⟩) ts.length c) ∧ V'.cell? ⟨b, off + 1, none⟩ = some (.slice AW ws.length cW))) := fun V' h =>
              have hk : ∀ (bb o : Nat) (u : Value), bb < w6.heap.size → w6.cell? ⟨bb, o, none⟩ = some u → V'.cell? ⟨bb, o, none⟩ = some u := fun bb o u h1 h2 => (h.cell (p := ⟨bb, o, none⟩) (by rw [hNN]; exact h1)).trans h2
              ⟨hk _ _ _ bT6.lt (bT6.cell 0 rfl), hk _ _ _ bT6.lt (bT6.cell 1 rfl), hk _ _ _ bT6.lt (bT6.cell 2 rfl), hk _ _ _ bT6.lt (bT6.cell 3 rfl), hk _ _ _ bT6.lt (bT6.cell 4 rfl), hk _ _ _ bT6.lt (bT6.cell 5 rfl), hk _ _ _ bT6.lt (bT6.cell 6 rfl), hk _ _ _ bT6.lt (bT6.cell 7 rfl), hk _ _ _ bT6.lt (bT6.cell 8 rfl), hk _ _ _ bT6.lt (bT6.cell 9 rfl), hk _ _ _ hbr y1w⟩
            refine (wpIn_wide (n := 4)).1 ?_
            refine wpIn_mono (Q := noPanic _) ?_ noPanic_le
            refine wpIn_region_held (fun V' => Below NN w6.drew V') 30 hmo ?_
            refine wpHeldIn_take (i := 0) (v := ?_) (plain_of (by kernel_rfl)) rfl (by kernel_rfl) (fun _ _ _ h => h) (yieldsSoIn_of (by kernel_rfl) ?_ (fun _ => rfl)) q0 ?_; rotate_left; focus (intro wq hw; clear hw; go_simp; try (with_reducible rfl))
            refine wpHeldIn_take (i := 1) (v := ?_) (plain_of (by kernel_rfl)) rfl (by kernel_rfl) (fun _ _ _ h => h) (yieldsSoIn_of (by kernel_rfl) ?_ (fun _ => rfl)) q0 ?_; rotate_left; focus (intro wq hw; have kq := KC.out wq hw; clear hw; go_simp; try (with_reducible rfl))
            refine wpHeldIn_take (i := 2) (v := ?_) (plain_of (by kernel_rfl)) rfl (by kernel_rfl) (fun _ _ _ h => h) (yieldsSoIn_of (by kernel_rfl) ?_ (fun _ => rfl)) q0 ?_; rotate_left; focus (intro wq hw; clear hw; go_simp; try (with_reducible rfl))
            refine wpHeldIn_take (i := 3) (v := ?_) (plain_of (by kernel_rfl)) rfl (by kernel_rfl) (fun _ _ _ h => h) (yieldsSoIn_of (by kernel_rfl) ?_ (fun _ => rfl)) q0 ?_; rotate_left; focus (intro wq hw; have kq := KC.out wq hw; clear hw; go_simp; try (with_reducible rfl))
            refine wpHeldIn_take (i := 4) (v := ?_) (plain_of (by kernel_rfl)) rfl (by kernel_rfl) (fun _ _ _ h => h) (yieldsSoIn_of (by kernel_rfl) ?_ (fun _ => rfl)) q0 ?_; rotate_left; focus (intro wq hw; clear hw; go_simp; try (with_reducible rfl))
            refine wpHeldIn_take (i := 5) (v := ?_) (plain_of (by kernel_rfl)) rfl (by kernel_rfl) (fun _ _ _ h => h) (yieldsSoIn_of (by kernel_rfl) ?_ (fun _ => rfl)) q0 ?_; rotate_left; focus (intro wq hw; have kq := KC.out wq hw; clear hw; go_simp; try (with_reducible rfl))
            refine wpHeldIn_take (i := 6) (v := ?_) (plain_of (by kernel_rfl)) rfl (by kernel_rfl) (fun _ _ _ h => h) (yieldsSoIn_of (by kernel_rfl) ?_ (fun _ => rfl)) q0 ?_; rotate_left; focus (intro wq hw; clear hw; go_simp; try (with_reducible rfl))
            refine wpHeldIn_take (i := 7) (v := ?_) (plain_of (by kernel_rfl)) rfl (by kernel_rfl) (fun _ _ _ h => h) (yieldsSoIn_of (by kernel_rfl) ?_ (fun _ => rfl)) q0 ?_; rotate_left; focus (intro wq hw; clear hw; go_simp; try (with_reducible rfl))
            refine wpHeldIn_take (i := 8) (v := ?_) (plain_of (by kernel_rfl)) rfl (by kernel_rfl) (fun _ _ _ h => h) (yieldsSoIn_of (by kernel_rfl) ?_ (fun _ => rfl)) q0 ?_; rotate_left; focus (intro wq hw; have kq := KC.out wq hw; clear hw; go_simp; try (with_reducible rfl))
            refine wpHeldIn_take (i := 9) (v := ?_) (plain_of (by kernel_rfl)) rfl (by kernel_rfl) (fun _ _ _ h => h) (yieldsSoIn_of (by kernel_rfl) ?_ (fun _ => rfl)) q0 ?_; rotate_left; focus (intro wq hw; clear hw; go_simp; try (with_reducible rfl))
            refine wpHeldIn_two (i := 10) (j := 12) (by kernel_rfl) (by kernel_rfl) (by kernel_rfl) rfl rfl (by kernel_rfl) (by kernel_rfl) (fun K2 hK2 => ?_) (fun K7 hK7 => ?_)
            · go_simp
              have r1 : Below NN w6.drew (w6.alloc (.cells #[.int .i64 0, .slice AW ws.length cW] 31)).drew := (show Below NN w6.drew (w6.drew.alloc (.cells #[.int .i64 0, .slice AW ws.length cW] 31)) from q0.alloc (by rw [hNN]; exact Nat.le_refl _) _)
              refine hK2 _ _ r1 ?_
              refine wpHeldIn_take (i := 11) (v := ?_) (plain_of (by kernel_rfl)) rfl (by kernel_rfl) (fun _ _ _ h => h) (yieldsSoIn_of (by kernel_rfl) ?_ (fun _ => rfl)) r1 ?_; rotate_left; focus (intro wq hw; clear hw; go_simp; try (with_reducible rfl))
              refine wpHeldIn_one (i := 12) (by kernel_rfl) (by kernel_rfl) rfl (by kernel_rfl) (fun K3 hK3 => ?_)
              go_simp
              have r2 : Below NN w6.drew ((w6.alloc (.cells #[.int .i64 0, .slice AW ws.length cW] 31)).alloc (.cells #[.int .i64 0, .int .i64 0, .int .i64 0, .int .i64 0, .int .i64 0, .int .i64 0, .int .i64 0, .int .i64 0, .int .i64 0, .slice none 0 0] 28)).drew := (show Below NN w6.drew ((w6.drew.alloc (.cells #[.int .i64 0, .slice AW ws.length cW] 31)).alloc (.cells #[.int .i64 0, .int .i64 0, .int .i64 0, .int .i64 0, .int .i64 0, .int .i64 0, .int .i64 0, .int .i64 0, .int .i64 0, .slice none 0 0] 28)) from (show Below NN w6.drew (w6.drew.alloc (.cells #[.int .i64 0, .slice AW ws.length cW] 31)) from r1).alloc (by rw [hNN]; exact r1.size) _)
              refine hK3 _ _ r2 ?_
              have bF1 : BoxS ((w6.alloc (.cells #[.int .i64 0, .slice AW ws.length cW] 31)).alloc (.cells #[.int .i64 0, .int .i64 0, .int .i64 0, .int .i64 0, .int .i64 0, .int .i64 0, .int .i64 0, .int .i64 0, .int .i64 0, .slice none 0 0] 28)).drew w6.drew.heap.size _ _ := ((BoxS.new w6.drew 31 #[.int .i64 0, .slice AW ws.length cW]).alloc (.cells #[.int .i64 0, .int .i64 0, .int .i64 0, .int .i64 0, .int .i64 0, .int .i64 0, .int .i64 0, .int .i64 0, .int .i64 0, .slice none 0 0] 28))
              have bF2 : BoxS ((w6.alloc (.cells #[.int .i64 0, .slice AW ws.length cW] 31)).alloc (.cells #[.int .i64 0, .int .i64 0, .int .i64 0, .int .i64 0, .int .i64 0, .int .i64 0, .int .i64 0, .int .i64 0, .int .i64 0, .slice none 0 0] 28)).drew (w6.drew.alloc (.cells #[.int .i64 0, .slice AW ws.length cW] 31)).heap.size _ _ := (BoxS.new (w6.drew.alloc (.cells #[.int .i64 0, .slice AW ws.length cW] 31)) 28 #[.int .i64 0, .int .i64 0, .int .i64 0, .int .i64 0, .int .i64 0, .int .i64 0, .int .i64 0, .int .i64 0, .int .i64 0, .slice none 0 0])
              have hzd : w6.drew.heap.size = w6.heap.size := rfl
              simp only [World.size_alloc, hzd] at bF1 bF2
              clear hzd
              have bTB := bF1
              have bO := bF2
              clear bF1 bF2
              obtain ⟨BB, hBB⟩ : ∃ B, B = w6.heap.size := ⟨_, rfl⟩
              obtain ⟨BO, hBO⟩ : ∃ B, B = w6.heap.size + 1 := ⟨_, rfl⟩
              have hBne : BB ≠ BO := by omega
              have hBBge : NN ≤ BB := by omega
              have hBOge : NN ≤ BO := by omega
              try rw [← hBO]
              try rw [← hBO] at bTB
              try rw [← hBO] at bO
              try rw [← hBB]
              try rw [← hBB] at bTB
              try rw [← hBB] at bO
              clear hBB hBO r1
              generalize World.drew (World.alloc (World.alloc w6 _) _) = wz at *
              have z0 := bO.cell 0 rfl
              have f0 := bO.frozen 0
              have z1 := bO.cell 1 rfl
              have f1 := bO.frozen 1
              have z2 := bO.cell 2 rfl
              have f2 := bO.frozen 2
              have z3 := bO.cell 3 rfl
              have f3 := bO.frozen 3
              have z4 := bO.cell 4 rfl
              have f4 := bO.frozen 4
              have z5 := bO.cell 5 rfl
              have f5 := bO.frozen 5
              have z6 := bO.cell 6 rfl
              have f6 := bO.frozen 6
              have z7 := bO.cell 7 rfl
              have f7 := bO.frozen 7
              have z8 := bO.cell 8 rfl
              have f8 := bO.frozen 8
              have z9 := bO.cell 9 rfl
              have f9 := bO.frozen 9
              refine wpHeldIn_one (i := 13) (by kernel_rfl) (by kernel_rfl) rfl (by kernel_rfl) (fun K4 hK4 => ?_)
              go_simp
              have bO7 := ten_put bO (.int .i64 full) (.int .i64 read) (.int .i64 slip) (.int .i64 skew) (.int .i64 circ) (.int .i64 glo) (.int .i64 ghi) (.int .i64 wrn) (.int .i64 gain) (.slice (some ⟨BB, 0, none⟩) 1 1)
              have bB7 := ten_other bTB hBne (.int .i64 full) (.int .i64 read) (.int .i64 slip) (.int .i64 skew) (.int .i64 circ) (.int .i64 glo) (.int .i64 ghi) (.int .i64 wrn) (.int .i64 gain) (.slice (some ⟨BB, 0, none⟩) 1 1)
              have r3 := ten_below r2 hBOge (.int .i64 full) (.int .i64 read) (.int .i64 slip) (.int .i64 skew) (.int .i64 circ) (.int .i64 glo) (.int .i64 ghi) (.int .i64 wrn) (.int .i64 gain) (.slice (some ⟨BB, 0, none⟩) 1 1)
              refine hK4 _ _ r3 ?_
              clear z0 f0 z1 f1 z2 f2 z3 f3 z4 f4 z5 f5 z6 f6 z7 f7 z8 f8 z9 f9 bTB bO r2
              generalize World.setCell (World.setCell (World.setCell (World.setCell (World.setCell (World.setCell (World.setCell (World.setCell (World.setCell (World.setCell wz _ _) _ _) _ _) _ _) _ _) _ _) _ _) _ _) _ _) _ _ = w7 at *
              refine wpHeldIn_done (by kernel_rfl) ?_ _
              go_simp
              refine noPanic_of ?_
              have bT7 : BoxS w7 (w.heap.size) _ _ := (r3.block (w.heap.size) (by rw [hNN]; exact bT6.lt)).trans bT6.drew
              have bX7 : BoxS w7 (w.heap.size + 1) _ _ := (r3.block (w.heap.size + 1) (by rw [hNN]; exact bX6.lt)).trans bX6.drew
              have bS7 : BoxS w7 (BS) _ _ := (r3.block (BS) (by rw [hNN]; exact bS6.lt)).trans bS6.drew
              have hB7 : Below w.heap.size w w7 := (hB6.drew).trans (r3.mono (by rw [hNN]; exact hB6.size))
              clear bT6 bX6 bS6 KC q0 y1w r3 hBBge hBOge hNN
              have kT0 := bT7.cell 0 rfl
              have kT1 := bT7.cell 1 rfl
              have kT2 := bT7.cell 2 rfl
              have kT3 := bT7.cell 3 rfl
              have kT4 := bT7.cell 4 rfl
              have kT5 := bT7.cell 5 rfl
              have kT6 := bT7.cell 6 rfl
              have kT7 := bT7.cell 7 rfl
              have kT8 := bT7.cell 8 rfl
              have kT9 := bT7.cell 9 rfl
              have lT := bT7.lt
              have kO0 := bO7.cell 0 rfl
              have kO1 := bO7.cell 1 rfl
              have kO2 := bO7.cell 2 rfl
              have kO3 := bO7.cell 3 rfl
              have kO4 := bO7.cell 4 rfl
              have kO5 := bO7.cell 5 rfl
              have kO6 := bO7.cell 6 rfl
              have kO7 := bO7.cell 7 rfl
              have kO8 := bO7.cell 8 rfl
              have kO9 := bO7.cell 9 rfl
              have lO := bO7.lt
              go_wp2_with fail
              clear kT0 kT1 kT2 kT3 kT4 kT5 kT6 kT7 kT8 kT9 lT kO0 kO1 kO2 kO3 kO4 kO5 kO6 kO7 kO8 kO9 lO
              have bT8 := (bT7.alloc (.cells #[.int .i64 full, .int .i64 read, .int .i64 slip, .int .i64 skew, .int .i64 circ, .int .i64 0, .int .i64 0, .int .i64 wrn] 25))
              have bX8 := (bX7.alloc (.cells #[.int .i64 full, .int .i64 read, .int .i64 slip, .int .i64 skew, .int .i64 circ, .int .i64 0, .int .i64 0, .int .i64 wrn] 25))
              have bS8 := (bS7.alloc (.cells #[.int .i64 full, .int .i64 read, .int .i64 slip, .int .i64 skew, .int .i64 circ, .int .i64 0, .int .i64 0, .int .i64 wrn] 25))
              have bO8 := (bO7.alloc (.cells #[.int .i64 full, .int .i64 read, .int .i64 slip, .int .i64 skew, .int .i64 circ, .int .i64 0, .int .i64 0, .int .i64 wrn] 25))
              have bB8 := (bB7.alloc (.cells #[.int .i64 full, .int .i64 read, .int .i64 slip, .int .i64 skew, .int .i64 circ, .int .i64 0, .int .i64 0, .int .i64 wrn] 25))
              have bD8 := (BoxS.new w7 25 #[.int .i64 full, .int .i64 read, .int .i64 slip, .int .i64 skew, .int .i64 circ, .int .i64 0, .int .i64 0, .int .i64 wrn])
              have hB8 : Below w.heap.size w (World.alloc w7 (.cells #[.int .i64 full, .int .i64 read, .int .i64 slip, .int .i64 skew, .int .i64 circ, .int .i64 0, .int .i64 0, .int .i64 wrn] 25)) := (hB7.alloc hB7.size _)
              obtain ⟨BD, hBD⟩ : ∃ B, B = w7.heap.size := ⟨_, rfl⟩
              clear bT7 bX7 bS7 bO7 bB7 hB7
              generalize World.alloc w7 _ = w8 at *
              rw [← hBD]
              rw [← hBD] at bD8
              clear hBD
              have hbr2 : b < w8.heap.size := by have := hB8.size; omega
              have y1w : w8.cell? ⟨b, off + 1, none⟩ = some (.slice AW ws.length cW) := (hB8.cell (p := ⟨b, off + 1, none⟩) hbt).trans y1
              have q0 : Below w8.heap.size w8.drew w8.drew := Below.refl _ _
              have KC : Hid (∀ V', Below w8.heap.size w8.drew V' → (V'.cell? ⟨w.heap.size, 9, none⟩ = some (.slice (some ⟨b, off, none⟩) ts.length c) ∧ V'.cell? ⟨b, off + 1, none⟩ = some (.slice AW ws.length cW) ∧ V'.cell? ⟨BD, 0, none⟩ = some (.int .i64 full) ∧ V'.cell? ⟨BD, 1, none⟩ = some (.int .i64 read) ∧ V'.cell? ⟨BD, 2, none⟩ = some (.int .i64 slip) ∧ V'.cell? ⟨BD, 3, none⟩ = some (.int .i64 skew) ∧ V'.cell? ⟨BD, 4, none⟩ = some (.int .i64 circ) ∧ V'.cell? ⟨BD, 5, none⟩ = some (.int .i64 0) ∧ V'.cell? ⟨BD, 6, none⟩ = some (.int .i64 0) ∧ V'.cell? ⟨BD, 7, none⟩ = some (.int .i64 wrn))) := fun V' h =>
                have hk : ∀ (bb o : Nat) (u : Value), bb < w8.heap.size → w8.cell? ⟨bb, o, none⟩ = some u → V'.cell? ⟨bb, o, none⟩ = some u := fun bb o u h1 h2 => (h.cell (p := ⟨bb, o, none⟩) h1).trans h2
                ⟨hk _ _ _ bT8.lt (bT8.cell 9 rfl), hk _ _ _ hbr2 y1w, hk _ _ _ bD8.lt (bD8.cell 0 rfl), hk _ _ _ bD8.lt (bD8.cell 1 rfl), hk _ _ _ bD8.lt (bD8.cell 2 rfl), hk _ _ _ bD8.lt (bD8.cell 3 rfl), hk _ _ _ bD8.lt (bD8.cell 4 rfl), hk _ _ _ bD8.lt (bD8.cell 5 rfl), hk _ _ _ bD8.lt (bD8.cell 6 rfl), hk _ _ _ bD8.lt (bD8.cell 7 rfl)⟩
              refine (wpIn_wide (n := 4)).1 ?_
              refine wpIn_mono (Q := noPanic _) ?_ noPanic_le
              refine wpIn_region_held (fun V' => Below w8.heap.size w8.drew V') 30 hmo ?_
              refine wpHeldIn_take (i := 0) (v := ?_) (plain_of (by kernel_rfl)) rfl (by kernel_rfl) (fun _ _ _ h => h) (yieldsSoIn_of (by kernel_rfl) ?_ (fun _ => rfl)) q0 ?_; rotate_left; focus (intro wq hw; have kq := KC.out wq hw; clear hw; go_simp; try (with_reducible rfl))
              refine wpHeldIn_take (i := 1) (v := ?_) (plain_of (by kernel_rfl)) rfl (by kernel_rfl) (fun _ _ _ h => h) (yieldsSoIn_of (by kernel_rfl) ?_ (fun _ => rfl)) q0 ?_; rotate_left; focus (intro wq hw; clear hw; go_simp; try (with_reducible rfl))
              refine wpHeldIn_take (i := 2) (v := ?_) (plain_of (by kernel_rfl)) rfl (by kernel_rfl) (fun _ _ _ h => h) (yieldsSoIn_of (by kernel_rfl) ?_ (fun _ => rfl)) q0 ?_; rotate_left; focus (intro wq hw; have kq := KC.out wq hw; clear hw; go_simp; try (with_reducible rfl))
              refine wpHeldIn_take (i := 3) (v := ?_) (plain_of (by kernel_rfl)) rfl (by kernel_rfl) (fun _ _ _ h => h) (yieldsSoIn_of (by kernel_rfl) ?_ (fun _ => rfl)) q0 ?_; rotate_left; focus (intro wq hw; clear hw; go_simp; try (with_reducible rfl))
              refine wpHeldIn_take (i := 4) (v := ?_) (plain_of (by kernel_rfl)) rfl (by kernel_rfl) (fun _ _ _ h => h) (yieldsSoIn_of (by kernel_rfl) ?_ (fun _ => rfl)) q0 ?_; rotate_left; focus (intro wq hw; clear hw; go_simp; try (with_reducible rfl))
              refine wpHeldIn_take (i := 5) (v := ?_) (plain_of (by kernel_rfl)) rfl (by kernel_rfl) (fun _ _ _ h => h) (yieldsSoIn_of (by kernel_rfl) ?_ (fun _ => rfl)) q0 ?_; rotate_left; focus (intro wq hw; have kq := KC.out wq hw; clear hw; go_simp; try (with_reducible rfl))
              refine wpHeldIn_one (i := 6) (by kernel_rfl) (by kernel_rfl) rfl (by kernel_rfl) (fun K5 hK5 => ?_)
              go_simp
              refine ⟨trivial, (callsIn_wide.2 (HWS.out AW cW _ ((HWK0.out.keep (hB8.drew)).wider (by have := hB8.size; show w.heap.size ≤ w8.heap.size; exact this)))).mono ?_⟩
              rintro e w9 ⟨vk, rfl, hvk, hbk⟩
              have q1 : Below w8.heap.size w8.drew w9 := hbk
              have HVK9 := Lib.hid hvk.out
              clear hvk
              obtain ⟨AQ, cQ, rfl⟩ := ints_form HVK9.out
              refine hK5 _ _ q1 ?_
              refine wpHeldIn_take (i := 7) (v := ?_) (plain_of (by kernel_rfl)) rfl (by kernel_rfl) (fun _ _ _ h => h) (yieldsSoIn_of (by kernel_rfl) ?_ (fun _ => rfl)) q1 ?_; rotate_left; focus (intro wq hw; clear hw; go_simp; try (with_reducible rfl))
              refine wpHeldIn_take (i := 8) (v := ?_) (plain_of (by kernel_rfl)) rfl (by kernel_rfl) (fun _ _ _ h => h) (yieldsSoIn_of (by kernel_rfl) ?_ (fun _ => rfl)) q1 ?_; rotate_left; focus (intro wq hw; clear hw; go_simp; try (with_reducible rfl))
              refine wpHeldIn_take (i := 9) (v := ?_) (plain_of (by kernel_rfl)) rfl (by kernel_rfl) (fun _ _ _ h => h) (yieldsSoIn_of (by kernel_rfl) ?_ (fun _ => rfl)) q1 ?_; rotate_left; focus (intro wq hw; clear hw; go_simp; try (with_reducible rfl))
              refine wpHeldIn_take (i := 10) (v := ?_) (plain_of (by kernel_rfl)) rfl (by kernel_rfl) (fun _ _ _ h => h) (yieldsSoIn_of (by kernel_rfl) ?_ (fun _ => rfl)) q1 ?_; rotate_left; focus (intro wq hw; clear hw; go_simp; try (with_reducible rfl))
              refine wpHeldIn_take (i := 11) (v := ?_) (plain_of (by kernel_rfl)) rfl (by kernel_rfl) (fun _ _ _ h => h) (yieldsSoIn_of (by kernel_rfl) ?_ (fun _ => rfl)) q1 ?_; rotate_left; focus (intro wq hw; clear hw; go_simp; try (with_reducible rfl))
              refine wpHeldIn_done (by kernel_rfl) ?_ _
              go_simp
              refine noPanic_of ?_
              have bT9 : BoxS w9 (w.heap.size) _ _ := (q1.block (w.heap.size) bT8.lt).trans bT8.drew
              have bX9 : BoxS w9 (w.heap.size + 1) _ _ := (q1.block (w.heap.size + 1) bX8.lt).trans bX8.drew
              have bS9 : BoxS w9 (BS) _ _ := (q1.block (BS) bS8.lt).trans bS8.drew
              have bO9 : BoxS w9 (BO) _ _ := (q1.block (BO) bO8.lt).trans bO8.drew
              have bB9 : BoxS w9 (BB) _ _ := (q1.block (BB) bB8.lt).trans bB8.drew
              have bD9 : BoxS w9 (BD) _ _ := (q1.block (BD) bD8.lt).trans bD8.drew
              have hB9 : Below w.heap.size w w9 := (hB8.drew).trans (q1.mono hB8.size)
              clear bT8 bX8 bS8 bO8 bB8 bD8 hB8 KC q0 q1 hbk y1w
              have kO0 := bO9.cell 0 rfl
              have kO1 := bO9.cell 1 rfl
              have kO2 := bO9.cell 2 rfl
              have kO3 := bO9.cell 3 rfl
              have kO4 := bO9.cell 4 rfl
              have kO5 := bO9.cell 5 rfl
              have kO6 := bO9.cell 6 rfl
              have kO7 := bO9.cell 7 rfl
              have kO8 := bO9.cell 8 rfl
              have kO9 := bO9.cell 9 rfl
              have lO := bO9.lt
              go_wp2_with fail
              clear kO0 kO1 kO2 kO3 kO4 kO5 kO6 kO7 kO8 kO9 lO
              have hTS : Tsts w9 w9.heap.size (some ⟨BB, 0, none⟩) [(0, ws)] := tsts_one bB9 ((HWK0.out.keep hB9).wider hB9.size) hwl
              refine (HS2.out _ _ _ hTS).mono ?_
              rintro e w10 ⟨vm, rfl, hvm, hb10⟩
              have bT10 := bT9.below hb10
              have bX10 := bX9.below hb10
              have bS10 := bS9.below hb10
              have bO10 := bO9.below hb10
              have bB10 := bB9.below hb10
              have bD10 := bD9.below hb10
              have hB10 := hB9.trans (hb10.mono hB9.size)
              clear bT9 bX9 bS9 bO9 bB9 bD9 hB9
              have HVK10 := Lib.hid ((HVK9.out.keep hb10).more hb10.size)
              have HVM10 := Lib.hid hvm.out
              clear hvm hTS HVK9
              obtain ⟨AM, cM, rfl⟩ := ints_form HVM10.out
              have kO0 := bO10.cell 0 rfl
              have kO1 := bO10.cell 1 rfl
              have kO2 := bO10.cell 2 rfl
              have kO3 := bO10.cell 3 rfl
              have kO4 := bO10.cell 4 rfl
              have kO5 := bO10.cell 5 rfl
              have kO6 := bO10.cell 6 rfl
              have kO7 := bO10.cell 7 rfl
              have kO8 := bO10.cell 8 rfl
              have kO9 := bO10.cell 9 rfl
              have lO := bO10.lt
              go_wp2_with fail
              clear kO0 kO1 kO2 kO3 kO4 kO5 kO6 kO7 kO8 kO9 lO
              have hTS : Tsts w10 w10.heap.size (some ⟨BB, 0, none⟩) [(0, ws)] := tsts_one bB10 ((HWK0.out.keep hB10).wider hB10.size) hwl
              refine (HM2.out _ _ _ hTS).mono ?_
              rintro e w11 ⟨rfl, hb11⟩
              have bT11 := bT10.below hb11
              have bX11 := bX10.below hb11
              have bS11 := bS10.below hb11
              have bO11 := bO10.below hb11
              have bB11 := bB10.below hb11
              have bD11 := bD10.below hb11
              have hB11 := hB10.trans (hb11.mono hB10.size)
              clear bT10 bX10 bS10 bO10 bB10 bD10 hB10
              have HVK11 := Lib.hid ((HVK10.out.keep hb11).more hb11.size)
              have HVM11 := Lib.hid ((HVM10.out.keep hb11).more hb11.size)
              clear hTS HVK10 HVM10
              have kT0 := bT11.cell 0 rfl
              have kT1 := bT11.cell 1 rfl
              have kT2 := bT11.cell 2 rfl
              have kT3 := bT11.cell 3 rfl
              have kT4 := bT11.cell 4 rfl
              have kT5 := bT11.cell 5 rfl
              have kT6 := bT11.cell 6 rfl
              have kT7 := bT11.cell 7 rfl
              have kT8 := bT11.cell 8 rfl
              have kT9 := bT11.cell 9 rfl
              have lT := bT11.lt
              go_wp2_with fail
              clear kT0 kT1 kT2 kT3 kT4 kT5 kT6 kT7 kT8 kT9 lT
              refine (HKG.out _).mono ?_
              rintro e wq ⟨rfl, hq⟩
              have hq := hq.symm
              subst hq
              have kT0 := bT11.cell 0 rfl
              have kT1 := bT11.cell 1 rfl
              have kT2 := bT11.cell 2 rfl
              have kT3 := bT11.cell 3 rfl
              have kT4 := bT11.cell 4 rfl
              have kT5 := bT11.cell 5 rfl
              have kT6 := bT11.cell 6 rfl
              have kT7 := bT11.cell 7 rfl
              have kT8 := bT11.cell 8 rfl
              have kT9 := bT11.cell 9 rfl
              have lT := bT11.lt
              go_wp2_with fail
              clear kT0 kT1 kT2 kT3 kT4 kT5 kT6 kT7 kT8 kT9 lT
              refine (HSI.out _ _ _ HVK11.out HVM11.out).mono ?_
              rintro e w12 ⟨rfl, hb12⟩
              have bT12 := bT11.below hb12
              have bX12 := bX11.below hb12
              have bS12 := bS11.below hb12
              have bO12 := bO11.below hb12
              have bB12 := bB11.below hb12
              have bD12 := bD11.below hb12
              have hB12 := hB11.trans (hb12.mono hB11.size)
              clear bT11 bX11 bS11 bO11 bB11 bD11 hB11
              have kT0 := bT12.cell 0 rfl
              have kT1 := bT12.cell 1 rfl
              have kT2 := bT12.cell 2 rfl
              have kT3 := bT12.cell 3 rfl
              have kT4 := bT12.cell 4 rfl
              have kT5 := bT12.cell 5 rfl
              have kT6 := bT12.cell 6 rfl
              have kT7 := bT12.cell 7 rfl
              have kT8 := bT12.cell 8 rfl
              have kT9 := bT12.cell 9 rfl
              have lT := bT12.lt
              go_wp2_with fail
              clear kT0 kT1 kT2 kT3 kT4 kT5 kT6 kT7 kT8 kT9 lT
              refine (HWK.out _).mono ?_
              rintro e w13 ⟨rfl, hb13⟩
              have bT13 := bT12.below hb13
              have bX13 := bX12.below hb13
              have bS13 := bS12.below hb13
              have bO13 := bO12.below hb13
              have bB13 := bB12.below hb13
              have bD13 := bD12.below hb13
              have hB13 := hB12.trans (hb13.mono hB12.size)
              clear bT12 bX12 bS12 bO12 bB12 bD12 hB12
              go_wp2_with fail
              go_returns
              exact ⟨rfl, hB13⟩
            · go_simp
              have r1 : Below NN w6.drew (w6.alloc (.cells #[.int .i64 0, .int .i64 0, .int .i64 0, .int .i64 0, .int .i64 0, .int .i64 0, .int .i64 0, .int .i64 0, .int .i64 0, .slice none 0 0] 28)).drew := (show Below NN w6.drew (w6.drew.alloc (.cells #[.int .i64 0, .int .i64 0, .int .i64 0, .int .i64 0, .int .i64 0, .int .i64 0, .int .i64 0, .int .i64 0, .int .i64 0, .slice none 0 0] 28)) from q0.alloc (by rw [hNN]; exact Nat.le_refl _) _)
              refine hK7 _ _ r1 ?_
              refine wpHeldIn_one (i := 10) (by kernel_rfl) (by kernel_rfl) rfl (by kernel_rfl) (fun K3 hK3 => ?_)
              go_simp
              have r2 : Below NN w6.drew ((w6.alloc (.cells #[.int .i64 0, .int .i64 0, .int .i64 0, .int .i64 0, .int .i64 0, .int .i64 0, .int .i64 0, .int .i64 0, .int .i64 0, .slice none 0 0] 28)).alloc (.cells #[.int .i64 0, .slice AW ws.length cW] 31)).drew := (show Below NN w6.drew ((w6.drew.alloc (.cells #[.int .i64 0, .int .i64 0, .int .i64 0, .int .i64 0, .int .i64 0, .int .i64 0, .int .i64 0, .int .i64 0, .int .i64 0, .slice none 0 0] 28)).alloc (.cells #[.int .i64 0, .slice AW ws.length cW] 31)) from (show Below NN w6.drew (w6.drew.alloc (.cells #[.int .i64 0, .int .i64 0, .int .i64 0, .int .i64 0, .int .i64 0, .int .i64 0, .int .i64 0, .int .i64 0, .int .i64 0, .slice none 0 0] 28)) from r1).alloc (by rw [hNN]; exact r1.size) _)
              refine hK3 _ _ r2 ?_
              have bF1 : BoxS ((w6.alloc (.cells #[.int .i64 0, .int .i64 0, .int .i64 0, .int .i64 0, .int .i64 0, .int .i64 0, .int .i64 0, .int .i64 0, .int .i64 0, .slice none 0 0] 28)).alloc (.cells #[.int .i64 0, .slice AW ws.length cW] 31)).drew w6.drew.heap.size _ _ := ((BoxS.new w6.drew 28 #[.int .i64 0, .int .i64 0, .int .i64 0, .int .i64 0, .int .i64 0, .int .i64 0, .int .i64 0, .int .i64 0, .int .i64 0, .slice none 0 0]).alloc (.cells #[.int .i64 0, .slice AW ws.length cW] 31))
              have bF2 : BoxS ((w6.alloc (.cells #[.int .i64 0, .int .i64 0, .int .i64 0, .int .i64 0, .int .i64 0, .int .i64 0, .int .i64 0, .int .i64 0, .int .i64 0, .slice none 0 0] 28)).alloc (.cells #[.int .i64 0, .slice AW ws.length cW] 31)).drew (w6.drew.alloc (.cells #[.int .i64 0, .int .i64 0, .int .i64 0, .int .i64 0, .int .i64 0, .int .i64 0, .int .i64 0, .int .i64 0, .int .i64 0, .slice none 0 0] 28)).heap.size _ _ := (BoxS.new (w6.drew.alloc (.cells #[.int .i64 0, .int .i64 0, .int .i64 0, .int .i64 0, .int .i64 0, .int .i64 0, .int .i64 0, .int .i64 0, .int .i64 0, .slice none 0 0] 28)) 31 #[.int .i64 0, .slice AW ws.length cW])
              have hzd : w6.drew.heap.size = w6.heap.size := rfl
              simp only [World.size_alloc, hzd] at bF1 bF2
              clear hzd
              have bTB := bF2
              have bO := bF1
              clear bF1 bF2
              obtain ⟨BB, hBB⟩ : ∃ B, B = w6.heap.size + 1 := ⟨_, rfl⟩
              obtain ⟨BO, hBO⟩ : ∃ B, B = w6.heap.size := ⟨_, rfl⟩
              have hBne : BB ≠ BO := by omega
              have hBBge : NN ≤ BB := by omega
              have hBOge : NN ≤ BO := by omega
              try rw [← hBB]
              try rw [← hBB] at bTB
              try rw [← hBB] at bO
              try rw [← hBO]
              try rw [← hBO] at bTB
              try rw [← hBO] at bO
              clear hBB hBO r1
              generalize World.drew (World.alloc (World.alloc w6 _) _) = wz at *
              refine wpHeldIn_take (i := 11) (v := ?_) (plain_of (by kernel_rfl)) rfl (by kernel_rfl) (fun _ _ _ h => h) (yieldsSoIn_of (by kernel_rfl) ?_ (fun _ => rfl)) r2 ?_; rotate_left; focus (intro wq hw; clear hw; go_simp; try (with_reducible rfl))
              have z0 := bO.cell 0 rfl
              have f0 := bO.frozen 0
              have z1 := bO.cell 1 rfl
              have f1 := bO.frozen 1
              have z2 := bO.cell 2 rfl
              have f2 := bO.frozen 2
              have z3 := bO.cell 3 rfl
              have f3 := bO.frozen 3
              have z4 := bO.cell 4 rfl
              have f4 := bO.frozen 4
              have z5 := bO.cell 5 rfl
              have f5 := bO.frozen 5
              have z6 := bO.cell 6 rfl
              have f6 := bO.frozen 6
              have z7 := bO.cell 7 rfl
              have f7 := bO.frozen 7
              have z8 := bO.cell 8 rfl
              have f8 := bO.frozen 8
              have z9 := bO.cell 9 rfl
              have f9 := bO.frozen 9
              refine wpHeldIn_one (i := 13) (by kernel_rfl) (by kernel_rfl) rfl (by kernel_rfl) (fun K4 hK4 => ?_)
              go_simp
              have bO7 := ten_put bO (.int .i64 full) (.int .i64 read) (.int .i64 slip) (.int .i64 skew) (.int .i64 circ) (.int .i64 glo) (.int .i64 ghi) (.int .i64 wrn) (.int .i64 gain) (.slice (some ⟨BB, 0, none⟩) 1 1)
              have bB7 := ten_other bTB hBne (.int .i64 full) (.int .i64 read) (.int .i64 slip) (.int .i64 skew) (.int .i64 circ) (.int .i64 glo) (.int .i64 ghi) (.int .i64 wrn) (.int .i64 gain) (.slice (some ⟨BB, 0, none⟩) 1 1)
              have r3 := ten_below r2 hBOge (.int .i64 full) (.int .i64 read) (.int .i64 slip) (.int .i64 skew) (.int .i64 circ) (.int .i64 glo) (.int .i64 ghi) (.int .i64 wrn) (.int .i64 gain) (.slice (some ⟨BB, 0, none⟩) 1 1)
              refine hK4 _ _ r3 ?_
              clear z0 f0 z1 f1 z2 f2 z3 f3 z4 f4 z5 f5 z6 f6 z7 f7 z8 f8 z9 f9 bTB bO r2
              generalize World.setCell (World.setCell (World.setCell (World.setCell (World.setCell (World.setCell (World.setCell (World.setCell (World.setCell (World.setCell wz _ _) _ _) _ _) _ _) _ _) _ _) _ _) _ _) _ _) _ _ = w7 at *
              refine wpHeldIn_done (by kernel_rfl) ?_ _
              go_simp
              refine noPanic_of ?_
              have bT7 : BoxS w7 (w.heap.size) _ _ := (r3.block (w.heap.size) (by rw [hNN]; exact bT6.lt)).trans bT6.drew
              have bX7 : BoxS w7 (w.heap.size + 1) _ _ := (r3.block (w.heap.size + 1) (by rw [hNN]; exact bX6.lt)).trans bX6.drew
              have bS7 : BoxS w7 (BS) _ _ := (r3.block (BS) (by rw [hNN]; exact bS6.lt)).trans bS6.drew
              have hB7 : Below w.heap.size w w7 := (hB6.drew).trans (r3.mono (by rw [hNN]; exact hB6.size))
              clear bT6 bX6 bS6 KC q0 y1w r3 hBBge hBOge hNN
              have kT0 := bT7.cell 0 rfl
              have kT1 := bT7.cell 1 rfl
              have kT2 := bT7.cell 2 rfl
              have kT3 := bT7.cell 3 rfl
              have kT4 := bT7.cell 4 rfl
              have kT5 := bT7.cell 5 rfl
              have kT6 := bT7.cell 6 rfl
              have kT7 := bT7.cell 7 rfl
              have kT8 := bT7.cell 8 rfl
              have kT9 := bT7.cell 9 rfl
              have lT := bT7.lt
              have kO0 := bO7.cell 0 rfl
              have kO1 := bO7.cell 1 rfl
              have kO2 := bO7.cell 2 rfl
              have kO3 := bO7.cell 3 rfl
              have kO4 := bO7.cell 4 rfl
              have kO5 := bO7.cell 5 rfl
              have kO6 := bO7.cell 6 rfl
              have kO7 := bO7.cell 7 rfl
              have kO8 := bO7.cell 8 rfl
              have kO9 := bO7.cell 9 rfl
              have lO := bO7.lt
              go_wp2_with fail
              clear kT0 kT1 kT2 kT3 kT4 kT5 kT6 kT7 kT8 kT9 lT kO0 kO1 kO2 kO3 kO4 kO5 kO6 kO7 kO8 kO9 lO
              have bT8 := (bT7.alloc (.cells #[.int .i64 full, .int .i64 read, .int .i64 slip, .int .i64 skew, .int .i64 circ, .int .i64 0, .int .i64 0, .int .i64 wrn] 25))
              have bX8 := (bX7.alloc (.cells #[.int .i64 full, .int .i64 read, .int .i64 slip, .int .i64 skew, .int .i64 circ, .int .i64 0, .int .i64 0, .int .i64 wrn] 25))
              have bS8 := (bS7.alloc (.cells #[.int .i64 full, .int .i64 read, .int .i64 slip, .int .i64 skew, .int .i64 circ, .int .i64 0, .int .i64 0, .int .i64 wrn] 25))
              have bO8 := (bO7.alloc (.cells #[.int .i64 full, .int .i64 read, .int .i64 slip, .int .i64 skew, .int .i64 circ, .int .i64 0, .int .i64 0, .int .i64 wrn] 25))
              have bB8 := (bB7.alloc (.cells #[.int .i64 full, .int .i64 read, .int .i64 slip, .int .i64 skew, .int .i64 circ, .int .i64 0, .int .i64 0, .int .i64 wrn] 25))
              have bD8 := (BoxS.new w7 25 #[.int .i64 full, .int .i64 read, .int .i64 slip, .int .i64 skew, .int .i64 circ, .int .i64 0, .int .i64 0, .int .i64 wrn])
              have hB8 : Below w.heap.size w (World.alloc w7 (.cells #[.int .i64 full, .int .i64 read, .int .i64 slip, .int .i64 skew, .int .i64 circ, .int .i64 0, .int .i64 0, .int .i64 wrn] 25)) := (hB7.alloc hB7.size _)
              obtain ⟨BD, hBD⟩ : ∃ B, B = w7.heap.size := ⟨_, rfl⟩
              clear bT7 bX7 bS7 bO7 bB7 hB7
              generalize World.alloc w7 _ = w8 at *
              rw [← hBD]
              rw [← hBD] at bD8
              clear hBD
              have hbr2 : b < w8.heap.size := by have := hB8.size; omega
              have y1w : w8.cell? ⟨b, off + 1, none⟩ = some (.slice AW ws.length cW) := (hB8.cell (p := ⟨b, off + 1, none⟩) hbt).trans y1
              have q0 : Below w8.heap.size w8.drew w8.drew := Below.refl _ _
              have KC : Hid (∀ V', Below w8.heap.size w8.drew V' → (V'.cell? ⟨w.heap.size, 9, none⟩ = some (.slice (some ⟨b, off, none⟩) ts.length c) ∧ V'.cell? ⟨b, off + 1, none⟩ = some (.slice AW ws.length cW) ∧ V'.cell? ⟨BD, 0, none⟩ = some (.int .i64 full) ∧ V'.cell? ⟨BD, 1, none⟩ = some (.int .i64 read) ∧ V'.cell? ⟨BD, 2, none⟩ = some (.int .i64 slip) ∧ V'.cell? ⟨BD, 3, none⟩ = some (.int .i64 skew) ∧ V'.cell? ⟨BD, 4, none⟩ = some (.int .i64 circ) ∧ V'.cell? ⟨BD, 5, none⟩ = some (.int .i64 0) ∧ V'.cell? ⟨BD, 6, none⟩ = some (.int .i64 0) ∧ V'.cell? ⟨BD, 7, none⟩ = some (.int .i64 wrn))) := fun V' h =>
                have hk : ∀ (bb o : Nat) (u : Value), bb < w8.heap.size → w8.cell? ⟨bb, o, none⟩ = some u → V'.cell? ⟨bb, o, none⟩ = some u := fun bb o u h1 h2 => (h.cell (p := ⟨bb, o, none⟩) h1).trans h2
                ⟨hk _ _ _ bT8.lt (bT8.cell 9 rfl), hk _ _ _ hbr2 y1w, hk _ _ _ bD8.lt (bD8.cell 0 rfl), hk _ _ _ bD8.lt (bD8.cell 1 rfl), hk _ _ _ bD8.lt (bD8.cell 2 rfl), hk _ _ _ bD8.lt (bD8.cell 3 rfl), hk _ _ _ bD8.lt (bD8.cell 4 rfl), hk _ _ _ bD8.lt (bD8.cell 5 rfl), hk _ _ _ bD8.lt (bD8.cell 6 rfl), hk _ _ _ bD8.lt (bD8.cell 7 rfl)⟩
              refine (wpIn_wide (n := 4)).1 ?_
              refine wpIn_mono (Q := noPanic _) ?_ noPanic_le
              refine wpIn_region_held (fun V' => Below w8.heap.size w8.drew V') 30 hmo ?_
              refine wpHeldIn_take (i := 0) (v := ?_) (plain_of (by kernel_rfl)) rfl (by kernel_rfl) (fun _ _ _ h => h) (yieldsSoIn_of (by kernel_rfl) ?_ (fun _ => rfl)) q0 ?_; rotate_left; focus (intro wq hw; have kq := KC.out wq hw; clear hw; go_simp; try (with_reducible rfl))
              refine wpHeldIn_take (i := 1) (v := ?_) (plain_of (by kernel_rfl)) rfl (by kernel_rfl) (fun _ _ _ h => h) (yieldsSoIn_of (by kernel_rfl) ?_ (fun _ => rfl)) q0 ?_; rotate_left; focus (intro wq hw; clear hw; go_simp; try (with_reducible rfl))
              refine wpHeldIn_take (i := 2) (v := ?_) (plain_of (by kernel_rfl)) rfl (by kernel_rfl) (fun _ _ _ h => h) (yieldsSoIn_of (by kernel_rfl) ?_ (fun _ => rfl)) q0 ?_; rotate_left; focus (intro wq hw; have kq := KC.out wq hw; clear hw; go_simp; try (with_reducible rfl))
              refine wpHeldIn_take (i := 3) (v := ?_) (plain_of (by kernel_rfl)) rfl (by kernel_rfl) (fun _ _ _ h => h) (yieldsSoIn_of (by kernel_rfl) ?_ (fun _ => rfl)) q0 ?_; rotate_left; focus (intro wq hw; clear hw; go_simp; try (with_reducible rfl))
              refine wpHeldIn_take (i := 4) (v := ?_) (plain_of (by kernel_rfl)) rfl (by kernel_rfl) (fun _ _ _ h => h) (yieldsSoIn_of (by kernel_rfl) ?_ (fun _ => rfl)) q0 ?_; rotate_left; focus (intro wq hw; clear hw; go_simp; try (with_reducible rfl))
              refine wpHeldIn_take (i := 5) (v := ?_) (plain_of (by kernel_rfl)) rfl (by kernel_rfl) (fun _ _ _ h => h) (yieldsSoIn_of (by kernel_rfl) ?_ (fun _ => rfl)) q0 ?_; rotate_left; focus (intro wq hw; have kq := KC.out wq hw; clear hw; go_simp; try (with_reducible rfl))
              refine wpHeldIn_one (i := 6) (by kernel_rfl) (by kernel_rfl) rfl (by kernel_rfl) (fun K5 hK5 => ?_)
              go_simp
              refine ⟨trivial, (callsIn_wide.2 (HWS.out AW cW _ ((HWK0.out.keep (hB8.drew)).wider (by have := hB8.size; show w.heap.size ≤ w8.heap.size; exact this)))).mono ?_⟩
              rintro e w9 ⟨vk, rfl, hvk, hbk⟩
              have q1 : Below w8.heap.size w8.drew w9 := hbk
              have HVK9 := Lib.hid hvk.out
              clear hvk
              obtain ⟨AQ, cQ, rfl⟩ := ints_form HVK9.out
              refine hK5 _ _ q1 ?_
              refine wpHeldIn_take (i := 7) (v := ?_) (plain_of (by kernel_rfl)) rfl (by kernel_rfl) (fun _ _ _ h => h) (yieldsSoIn_of (by kernel_rfl) ?_ (fun _ => rfl)) q1 ?_; rotate_left; focus (intro wq hw; clear hw; go_simp; try (with_reducible rfl))
              refine wpHeldIn_take (i := 8) (v := ?_) (plain_of (by kernel_rfl)) rfl (by kernel_rfl) (fun _ _ _ h => h) (yieldsSoIn_of (by kernel_rfl) ?_ (fun _ => rfl)) q1 ?_; rotate_left; focus (intro wq hw; clear hw; go_simp; try (with_reducible rfl))
              refine wpHeldIn_take (i := 9) (v := ?_) (plain_of (by kernel_rfl)) rfl (by kernel_rfl) (fun _ _ _ h => h) (yieldsSoIn_of (by kernel_rfl) ?_ (fun _ => rfl)) q1 ?_; rotate_left; focus (intro wq hw; clear hw; go_simp; try (with_reducible rfl))
              refine wpHeldIn_take (i := 10) (v := ?_) (plain_of (by kernel_rfl)) rfl (by kernel_rfl) (fun _ _ _ h => h) (yieldsSoIn_of (by kernel_rfl) ?_ (fun _ => rfl)) q1 ?_; rotate_left; focus (intro wq hw; clear hw; go_simp; try (with_reducible rfl))
              refine wpHeldIn_take (i := 11) (v := ?_) (plain_of (by kernel_rfl)) rfl (by kernel_rfl) (fun _ _ _ h => h) (yieldsSoIn_of (by kernel_rfl) ?_ (fun _ => rfl)) q1 ?_; rotate_left; focus (intro wq hw; clear hw; go_simp; try (with_reducible rfl))
              refine wpHeldIn_done (by kernel_rfl) ?_ _
              go_simp
              refine noPanic_of ?_
              have bT9 : BoxS w9 (w.heap.size) _ _ := (q1.block (w.heap.size) bT8.lt).trans bT8.drew
              have bX9 : BoxS w9 (w.heap.size + 1) _ _ := (q1.block (w.heap.size + 1) bX8.lt).trans bX8.drew
              have bS9 : BoxS w9 (BS) _ _ := (q1.block (BS) bS8.lt).trans bS8.drew
              have bO9 : BoxS w9 (BO) _ _ := (q1.block (BO) bO8.lt).trans bO8.drew
              have bB9 : BoxS w9 (BB) _ _ := (q1.block (BB) bB8.lt).trans bB8.drew
              have bD9 : BoxS w9 (BD) _ _ := (q1.block (BD) bD8.lt).trans bD8.drew
              have hB9 : Below w.heap.size w w9 := (hB8.drew).trans (q1.mono hB8.size)
              clear bT8 bX8 bS8 bO8 bB8 bD8 hB8 KC q0 q1 hbk y1w
              have kO0 := bO9.cell 0 rfl
              have kO1 := bO9.cell 1 rfl
              have kO2 := bO9.cell 2 rfl
              have kO3 := bO9.cell 3 rfl
              have kO4 := bO9.cell 4 rfl
              have kO5 := bO9.cell 5 rfl
              have kO6 := bO9.cell 6 rfl
              have kO7 := bO9.cell 7 rfl
              have kO8 := bO9.cell 8 rfl
              have kO9 := bO9.cell 9 rfl
              have lO := bO9.lt
              go_wp2_with fail
              clear kO0 kO1 kO2 kO3 kO4 kO5 kO6 kO7 kO8 kO9 lO
              have hTS : Tsts w9 w9.heap.size (some ⟨BB, 0, none⟩) [(0, ws)] := tsts_one bB9 ((HWK0.out.keep hB9).wider hB9.size) hwl
              refine (HS2.out _ _ _ hTS).mono ?_
              rintro e w10 ⟨vm, rfl, hvm, hb10⟩
              have bT10 := bT9.below hb10
              have bX10 := bX9.below hb10
              have bS10 := bS9.below hb10
              have bO10 := bO9.below hb10
              have bB10 := bB9.below hb10
              have bD10 := bD9.below hb10
              have hB10 := hB9.trans (hb10.mono hB9.size)
              clear bT9 bX9 bS9 bO9 bB9 bD9 hB9
              have HVK10 := Lib.hid ((HVK9.out.keep hb10).more hb10.size)
              have HVM10 := Lib.hid hvm.out
              clear hvm hTS HVK9
              obtain ⟨AM, cM, rfl⟩ := ints_form HVM10.out
              have kO0 := bO10.cell 0 rfl
              have kO1 := bO10.cell 1 rfl
              have kO2 := bO10.cell 2 rfl
              have kO3 := bO10.cell 3 rfl
              have kO4 := bO10.cell 4 rfl
              have kO5 := bO10.cell 5 rfl
              have kO6 := bO10.cell 6 rfl
              have kO7 := bO10.cell 7 rfl
              have kO8 := bO10.cell 8 rfl
              have kO9 := bO10.cell 9 rfl
              have lO := bO10.lt
              go_wp2_with fail
              clear kO0 kO1 kO2 kO3 kO4 kO5 kO6 kO7 kO8 kO9 lO
              have hTS : Tsts w10 w10.heap.size (some ⟨BB, 0, none⟩) [(0, ws)] := tsts_one bB10 ((HWK0.out.keep hB10).wider hB10.size) hwl
              refine (HM2.out _ _ _ hTS).mono ?_
              rintro e w11 ⟨rfl, hb11⟩
              have bT11 := bT10.below hb11
              have bX11 := bX10.below hb11
              have bS11 := bS10.below hb11
              have bO11 := bO10.below hb11
              have bB11 := bB10.below hb11
              have bD11 := bD10.below hb11
              have hB11 := hB10.trans (hb11.mono hB10.size)
              clear bT10 bX10 bS10 bO10 bB10 bD10 hB10
              have HVK11 := Lib.hid ((HVK10.out.keep hb11).more hb11.size)
              have HVM11 := Lib.hid ((HVM10.out.keep hb11).more hb11.size)
              clear hTS HVK10 HVM10
              have kT0 := bT11.cell 0 rfl
              have kT1 := bT11.cell 1 rfl
              have kT2 := bT11.cell 2 rfl
              have kT3 := bT11.cell 3 rfl
              have kT4 := bT11.cell 4 rfl
              have kT5 := bT11.cell 5 rfl
              have kT6 := bT11.cell 6 rfl
              have kT7 := bT11.cell 7 rfl
              have kT8 := bT11.cell 8 rfl
              have kT9 := bT11.cell 9 rfl
              have lT := bT11.lt
              go_wp2_with fail
              clear kT0 kT1 kT2 kT3 kT4 kT5 kT6 kT7 kT8 kT9 lT
              refine (HKG.out _).mono ?_
              rintro e wq ⟨rfl, hq⟩
              have hq := hq.symm
              subst hq
              have kT0 := bT11.cell 0 rfl
              have kT1 := bT11.cell 1 rfl
              have kT2 := bT11.cell 2 rfl
              have kT3 := bT11.cell 3 rfl
              have kT4 := bT11.cell 4 rfl
              have kT5 := bT11.cell 5 rfl
              have kT6 := bT11.cell 6 rfl
              have kT7 := bT11.cell 7 rfl
              have kT8 := bT11.cell 8 rfl
              have kT9 := bT11.cell 9 rfl
              have lT := bT11.lt
              go_wp2_with fail
              clear kT0 kT1 kT2 kT3 kT4 kT5 kT6 kT7 kT8 kT9 lT
              refine (HSI.out _ _ _ HVK11.out HVM11.out).mono ?_
              rintro e w12 ⟨rfl, hb12⟩
              have bT12 := bT11.below hb12
              have bX12 := bX11.below hb12
              have bS12 := bS11.below hb12
              have bO12 := bO11.below hb12
              have bB12 := bB11.below hb12
              have bD12 := bD11.below hb12
              have hB12 := hB11.trans (hb12.mono hB11.size)
              clear bT11 bX11 bS11 bO11 bB11 bD11 hB11
              have kT0 := bT12.cell 0 rfl
              have kT1 := bT12.cell 1 rfl
              have kT2 := bT12.cell 2 rfl
              have kT3 := bT12.cell 3 rfl
              have kT4 := bT12.cell 4 rfl
              have kT5 := bT12.cell 5 rfl
              have kT6 := bT12.cell 6 rfl
              have kT7 := bT12.cell 7 rfl
              have kT8 := bT12.cell 8 rfl
              have kT9 := bT12.cell 9 rfl
              have lT := bT12.lt
              go_wp2_with fail
              clear kT0 kT1 kT2 kT3 kT4 kT5 kT6 kT7 kT8 kT9 lT
              refine (HWK.out _).mono ?_
              rintro e w13 ⟨rfl, hb13⟩
              have bT13 := bT12.below hb13
              have bX13 := bX12.below hb13
              have bS13 := bS12.below hb13
              have bO13 := bO12.below hb13
              have bB13 := bB12.below hb13
              have bD13 := bD12.below hb13
              have hB13 := hB12.trans (hb13.mono hB12.size)
              clear bT12 bX12 bS12 bO12 bB12 bD12 hB12
              go_wp2_with fail
              go_returns
              exact ⟨rfl, hB13⟩
          · have hn0 : ((ts.length : Int) == 0) = true := by rw [beq_iff_eq]; omega
            have kT0 := bT6.cell 0 rfl
            have kT1 := bT6.cell 1 rfl
            have kT2 := bT6.cell 2 rfl
            have kT3 := bT6.cell 3 rfl
            have kT4 := bT6.cell 4 rfl
            have kT5 := bT6.cell 5 rfl
            have kT6 := bT6.cell 6 rfl
            have kT7 := bT6.cell 7 rfl
            have kT8 := bT6.cell 8 rfl
            have kT9 := bT6.cell 9 rfl
            have lT := bT6.lt
            have kX0 := bX6.cell 0 rfl
            have kX1 := bX6.cell 1 rfl
            have lX := bX6.lt
            have kS0 := bS6.cell 0 rfl
            have kS1 := bS6.cell 1 rfl
            have lS := bS6.lt
            go_wp2_with fail
            clear kT0 kT1 kT2 kT3 kT4 kT5 kT6 kT7 kT8 kT9 lT kX0 kX1 lX kS0 kS1 lS
            refine (HWK.out _).mono ?_
            rintro e w7 ⟨rfl, hb7⟩
            have bT7 := bT6.below hb7
            have bX7 := bX6.below hb7
            have bS7 := bS6.below hb7
            have hB7 := hB6.trans (hb7.mono hB6.size)
            clear bT6 bX6 bS6 hB6
            go_wp2_with fail
            go_returns
            exact ⟨rfl, hB7⟩
        by_cases g1 : mr < le
        · skip
          have c1 : decide (0 ≤ le) = true := decide_eq_true (by omega)
          have c2 : decide (le ≤ mr) = false := decide_eq_false (by omega)
          by_cases hnp : 0 < ts.length
          · have hn0 : ((ts.length : Int) == 0) = false := by rw [beq_eq_false_iff_ne]; omega
            have hnpi : (0 : Int) < (ts.length : Int) := by omega
            obtain ⟨b, off, rfl, hbt, AW, cW, y1, HWK0, hwl⟩ := HTS.out hnp
            have HN := HNP.out hnp
            obtain ⟨HWS, HS2, HM2, HKG⟩ := HN
            replace HWS := Lib.hid HWS
            replace HS2 := Lib.hid HS2
            replace HM2 := Lib.hid HM2
            replace HKG := Lib.hid HKG
            have kT0 := bT6.cell 0 rfl
            have kT1 := bT6.cell 1 rfl
            have kT2 := bT6.cell 2 rfl
            have kT3 := bT6.cell 3 rfl
            have kT4 := bT6.cell 4 rfl
            have kT5 := bT6.cell 5 rfl
            have kT6 := bT6.cell 6 rfl
            have kT7 := bT6.cell 7 rfl
            have kT8 := bT6.cell 8 rfl
            have kT9 := bT6.cell 9 rfl
            have lT := bT6.lt
            have kX0 := bX6.cell 0 rfl
            have kX1 := bX6.cell 1 rfl
            have lX := bX6.lt
            have kS0 := bS6.cell 0 rfl
            have kS1 := bS6.cell 1 rfl
            have lS := bS6.lt
            go_wp2_with fail
            clear kT0 kT1 kT2 kT3 kT4 kT5 kT6 kT7 kT8 kT9 lT kX0 kX1 lX kS0 kS1 lS
            have hmo : Try.prog.follows .mixedOrders = true := by kernel_rfl
            have hbr : b < w6.heap.size := by have := hB6.size; omega
            have y1w : w6.cell? ⟨b, off + 1, none⟩ = some (.slice AW ws.length cW) := (hB6.cell (p := ⟨b, off + 1, none⟩) hbt).trans y1
            obtain ⟨NN, hNN⟩ : ∃ N, N = w6.heap.size := ⟨_, rfl⟩
            have q0 : Below NN w6.drew w6.drew := Below.refl _ _
            have KC : Hid (∀ V', Below NN w6.drew V' → (V'.cell? ⟨w.heap.size, 0, none⟩ = some (.int .i64 full) ∧ V'.cell? ⟨w.heap.size, 1, none⟩ = some (.int .i64 read) ∧ V'.cell? ⟨w.heap.size, 2, none⟩ = some (.int .i64 slip) ∧ V'.cell? ⟨w.heap.size, 3, none⟩ = some (.int .i64 skew) ∧ V'.cell? ⟨w.heap.size, 4, none⟩ = some (.int .i64 circ) ∧ V'.cell? ⟨w.heap.size, 5, none⟩ = some (.int .i64 glo) ∧ V'.cell? ⟨w.heap.size, 6, none⟩ = some (.int .i64 ghi) ∧ V'.cell? ⟨w.heap.size, 7, none⟩ = some (.int .i64 wrn) ∧ V'.cell? ⟨w.heap.size, 8, none⟩ = some (.int .i64 gain) ∧ V'.cell? ⟨w.heap.size, 9, none⟩ = some (.slice (some ⟨b, off, none⟩) ts.length c) ∧ V'.cell? ⟨b, off + 1, none⟩ = some (.slice AW ws.length cW))) := fun V' h =>
              have hk : ∀ (bb o : Nat) (u : Value), bb < w6.heap.size → w6.cell? ⟨bb, o, none⟩ = some u → V'.cell? ⟨bb, o, none⟩ = some u := fun bb o u h1 h2 => (h.cell (p := ⟨bb, o, none⟩) (by rw [hNN]; exact h1)).trans h2
              ⟨hk _ _ _ bT6.lt (bT6.cell 0 rfl), hk _ _ _ bT6.lt (bT6.cell 1 rfl), hk _ _ _ bT6.lt (bT6.cell 2 rfl), hk _ _ _ bT6.lt (bT6.cell 3 rfl), hk _ _ _ bT6.lt (bT6.cell 4 rfl), hk _ _ _ bT6.lt (bT6.cell 5 rfl), hk _ _ _ bT6.lt (bT6.cell 6 rfl), hk _ _ _ bT6.lt (bT6.cell 7 rfl), hk _ _ _ bT6.lt (bT6.cell 8 rfl), hk _ _ _ bT6.lt (bT6.cell 9 rfl), hk _ _ _ hbr y1w⟩
            refine (wpIn_wide (n := 4)).1 ?_
            refine wpIn_mono (Q := noPanic _) ?_ noPanic_le
            refine wpIn_region_held (fun V' => Below NN w6.drew V') 30 hmo ?_
            refine wpHeldIn_take (i := 0) (v := ?_) (plain_of (by kernel_rfl)) rfl (by kernel_rfl) (fun _ _ _ h => h) (yieldsSoIn_of (by kernel_rfl) ?_ (fun _ => rfl)) q0 ?_; rotate_left; focus (intro wq hw; clear hw; go_simp; try (with_reducible rfl))
            refine wpHeldIn_take (i := 1) (v := ?_) (plain_of (by kernel_rfl)) rfl (by kernel_rfl) (fun _ _ _ h => h) (yieldsSoIn_of (by kernel_rfl) ?_ (fun _ => rfl)) q0 ?_; rotate_left; focus (intro wq hw; have kq := KC.out wq hw; clear hw; go_simp; try (with_reducible rfl))
            refine wpHeldIn_take (i := 2) (v := ?_) (plain_of (by kernel_rfl)) rfl (by kernel_rfl) (fun _ _ _ h => h) (yieldsSoIn_of (by kernel_rfl) ?_ (fun _ => rfl)) q0 ?_; rotate_left; focus (intro wq hw; clear hw; go_simp; try (with_reducible rfl))
            refine wpHeldIn_take (i := 3) (v := ?_) (plain_of (by kernel_rfl)) rfl (by kernel_rfl) (fun _ _ _ h => h) (yieldsSoIn_of (by kernel_rfl) ?_ (fun _ => rfl)) q0 ?_; rotate_left; focus (intro wq hw; have kq := KC.out wq hw; clear hw; go_simp; try (with_reducible rfl))
            refine wpHeldIn_take (i := 4) (v := ?_) (plain_of (by kernel_rfl)) rfl (by kernel_rfl) (fun _ _ _ h => h) (yieldsSoIn_of (by kernel_rfl) ?_ (fun _ => rfl)) q0 ?_; rotate_left; focus (intro wq hw; clear hw; go_simp; try (with_reducible rfl))
            refine wpHeldIn_take (i := 5) (v := ?_) (plain_of (by kernel_rfl)) rfl (by kernel_rfl) (fun _ _ _ h => h) (yieldsSoIn_of (by kernel_rfl) ?_ (fun _ => rfl)) q0 ?_; rotate_left; focus (intro wq hw; have kq := KC.out wq hw; clear hw; go_simp; try (with_reducible rfl))
            refine wpHeldIn_take (i := 6) (v := ?_) (plain_of (by kernel_rfl)) rfl (by kernel_rfl) (fun _ _ _ h => h) (yieldsSoIn_of (by kernel_rfl) ?_ (fun _ => rfl)) q0 ?_; rotate_left; focus (intro wq hw; clear hw; go_simp; try (with_reducible rfl))
            refine wpHeldIn_take (i := 7) (v := ?_) (plain_of (by kernel_rfl)) rfl (by kernel_rfl) (fun _ _ _ h => h) (yieldsSoIn_of (by kernel_rfl) ?_ (fun _ => rfl)) q0 ?_; rotate_left; focus (intro wq hw; clear hw; go_simp; try (with_reducible rfl))
            refine wpHeldIn_take (i := 8) (v := ?_) (plain_of (by kernel_rfl)) rfl (by kernel_rfl) (fun _ _ _ h => h) (yieldsSoIn_of (by kernel_rfl) ?_ (fun _ => rfl)) q0 ?_; rotate_left; focus (intro wq hw; have kq := KC.out wq hw; clear hw; go_simp; try (with_reducible rfl))
            refine wpHeldIn_take (i := 9) (v := ?_) (plain_of (by kernel_rfl)) rfl (by kernel_rfl) (fun _ _ _ h => h) (yieldsSoIn_of (by kernel_rfl) ?_ (fun _ => rfl)) q0 ?_; rotate_left; focus (intro wq hw; clear hw; go_simp; try (with_reducible rfl))
            refine wpHeldIn_two (i := 10) (j := 12) (by kernel_rfl) (by kernel_rfl) (by kernel_rfl) rfl rfl (by kernel_rfl) (by kernel_rfl) (fun K2 hK2 => ?_) (fun K7 hK7 => ?_)
            · go_simp
              have r1 : Below NN w6.drew (w6.alloc (.cells #[.int .i64 0, .slice AW ws.length cW] 31)).drew := (show Below NN w6.drew (w6.drew.alloc (.cells #[.int .i64 0, .slice AW ws.length cW] 31)) from q0.alloc (by rw [hNN]; exact Nat.le_refl _) _)
              refine hK2 _ _ r1 ?_
              refine wpHeldIn_take (i := 11) (v := ?_) (plain_of (by kernel_rfl)) rfl (by kernel_rfl) (fun _ _ _ h => h) (yieldsSoIn_of (by kernel_rfl) ?_ (fun _ => rfl)) r1 ?_; rotate_left; focus (intro wq hw; clear hw; go_simp; try (with_reducible rfl))
              refine wpHeldIn_one (i := 12) (by kernel_rfl) (by kernel_rfl) rfl (by kernel_rfl) (fun K3 hK3 => ?_)
              go_simp
              have r2 : Below NN w6.drew ((w6.alloc (.cells #[.int .i64 0, .slice AW ws.length cW] 31)).alloc (.cells #[.int .i64 0, .int .i64 0, .int .i64 0, .int .i64 0, .int .i64 0, .int .i64 0, .int .i64 0, .int .i64 0, .int .i64 0, .slice none 0 0] 28)).drew := (show Below NN w6.drew ((w6.drew.alloc (.cells #[.int .i64 0, .slice AW ws.length cW] 31)).alloc (.cells #[.int .i64 0, .int .i64 0, .int .i64 0, .int .i64 0, .int .i64 0, .int .i64 0, .int .i64 0, .int .i64 0, .int .i64 0, .slice none 0 0] 28)) from (show Below NN w6.drew (w6.drew.alloc (.cells #[.int .i64 0, .slice AW ws.length cW] 31)) from r1).alloc (by rw [hNN]; exact r1.size) _)
              refine hK3 _ _ r2 ?_
              have bF1 : BoxS ((w6.alloc (.cells #[.int .i64 0, .slice AW ws.length cW] 31)).alloc (.cells #[.int .i64 0, .int .i64 0, .int .i64 0, .int .i64 0, .int .i64 0, .int .i64 0, .int .i64 0, .int .i64 0, .int .i64 0, .slice none 0 0] 28)).drew w6.drew.heap.size _ _ := ((BoxS.new w6.drew 31 #[.int .i64 0, .slice AW ws.length cW]).alloc (.cells #[.int .i64 0, .int .i64 0, .int .i64 0, .int .i64 0, .int .i64 0, .int .i64 0, .int .i64 0, .int .i64 0, .int .i64 0, .slice none 0 0] 28))
              have bF2 : BoxS ((w6.alloc (.cells #[.int .i64 0, .slice AW ws.length cW] 31)).alloc (.cells #[.int .i64 0, .int .i64 0, .int .i64 0, .int .i64 0, .int .i64 0, .int .i64 0, .int .i64 0, .int .i64 0, .int .i64 0, .slice none 0 0] 28)).drew (w6.drew.alloc (.cells #[.int .i64 0, .slice AW ws.length cW] 31)).heap.size _ _ := (BoxS.new (w6.drew.alloc (.cells #[.int .i64 0, .slice AW ws.length cW] 31)) 28 #[.int .i64 0, .int .i64 0, .int .i64 0, .int .i64 0, .int .i64 0, .int .i64 0, .int .i64 0, .int .i64 0, .int .i64 0, .slice none 0 0])
              have hzd : w6.drew.heap.size = w6.heap.size := rfl
              simp only [World.size_alloc, hzd] at bF1 bF2
              clear hzd
              have bTB := bF1
              have bO := bF2
              clear bF1 bF2
              obtain ⟨BB, hBB⟩ : ∃ B, B = w6.heap.size := ⟨_, rfl⟩
              obtain ⟨BO, hBO⟩ : ∃ B, B = w6.heap.size + 1 := ⟨_, rfl⟩
              have hBne : BB ≠ BO := by omega
              have hBBge : NN ≤ BB := by omega
              have hBOge : NN ≤ BO := by omega
              try rw [← hBO]
              try rw [← hBO] at bTB
              try rw [← hBO] at bO
              try rw [← hBB]
              try rw [← hBB] at bTB
              try rw [← hBB] at bO
              clear hBB hBO r1
              generalize World.drew (World.alloc (World.alloc w6 _) _) = wz at *
              have z0 := bO.cell 0 rfl
              have f0 := bO.frozen 0
              have z1 := bO.cell 1 rfl
              have f1 := bO.frozen 1
              have z2 := bO.cell 2 rfl
              have f2 := bO.frozen 2
              have z3 := bO.cell 3 rfl
              have f3 := bO.frozen 3
              have z4 := bO.cell 4 rfl
              have f4 := bO.frozen 4
              have z5 := bO.cell 5 rfl
              have f5 := bO.frozen 5
              have z6 := bO.cell 6 rfl
              have f6 := bO.frozen 6
              have z7 := bO.cell 7 rfl
              have f7 := bO.frozen 7
              have z8 := bO.cell 8 rfl
              have f8 := bO.frozen 8
              have z9 := bO.cell 9 rfl
              have f9 := bO.frozen 9
              refine wpHeldIn_one (i := 13) (by kernel_rfl) (by kernel_rfl) rfl (by kernel_rfl) (fun K4 hK4 => ?_)
              go_simp
              have bO7 := ten_put bO (.int .i64 full) (.int .i64 read) (.int .i64 slip) (.int .i64 skew) (.int .i64 circ) (.int .i64 glo) (.int .i64 ghi) (.int .i64 wrn) (.int .i64 gain) (.slice (some ⟨BB, 0, none⟩) 1 1)
              have bB7 := ten_other bTB hBne (.int .i64 full) (.int .i64 read) (.int .i64 slip) (.int .i64 skew) (.int .i64 circ) (.int .i64 glo) (.int .i64 ghi) (.int .i64 wrn) (.int .i64 gain) (.slice (some ⟨BB, 0, none⟩) 1 1)
              have r3 := ten_below r2 hBOge (.int .i64 full) (.int .i64 read) (.int .i64 slip) (.int .i64 skew) (.int .i64 circ) (.int .i64 glo) (.int .i64 ghi) (.int .i64 wrn) (.int .i64 gain) (.slice (some ⟨BB, 0, none⟩) 1 1)
              refine hK4 _ _ r3 ?_
              clear z0 f0 z1 f1 z2 f2 z3 f3 z4 f4 z5 f5 z6 f6 z7 f7 z8 f8 z9 f9 bTB bO r2
              generalize World.setCell (World.setCell (World.setCell (World.setCell (World.setCell (World.setCell (World.setCell (World.setCell (World.setCell (World.setCell wz _ _) _ _) _ _) _ _) _ _) _ _) _ _) _ _) _ _) _ _ = w7 at *
              refine wpHeldIn_done (by kernel_rfl) ?_ _
              go_simp
              refine noPanic_of ?_
              have bT7 : BoxS w7 (w.heap.size) _ _ := (r3.block (w.heap.size) (by rw [hNN]; exact bT6.lt)).trans bT6.drew
              have bX7 : BoxS w7 (w.heap.size + 1) _ _ := (r3.block (w.heap.size + 1) (by rw [hNN]; exact bX6.lt)).trans bX6.drew
              have bS7 : BoxS w7 (BS) _ _ := (r3.block (BS) (by rw [hNN]; exact bS6.lt)).trans bS6.drew
              have hB7 : Below w.heap.size w w7 := (hB6.drew).trans (r3.mono (by rw [hNN]; exact hB6.size))
              clear bT6 bX6 bS6 KC q0 y1w r3 hBBge hBOge hNN
              have kT0 := bT7.cell 0 rfl
              have kT1 := bT7.cell 1 rfl
              have kT2 := bT7.cell 2 rfl
              have kT3 := bT7.cell 3 rfl
              have kT4 := bT7.cell 4 rfl
              have kT5 := bT7.cell 5 rfl
              have kT6 := bT7.cell 6 rfl
              have kT7 := bT7.cell 7 rfl
              have kT8 := bT7.cell 8 rfl
              have kT9 := bT7.cell 9 rfl
              have lT := bT7.lt
              have kO0 := bO7.cell 0 rfl
              have kO1 := bO7.cell 1 rfl
              have kO2 := bO7.cell 2 rfl
              have kO3 := bO7.cell 3 rfl
              have kO4 := bO7.cell 4 rfl
              have kO5 := bO7.cell 5 rfl
              have kO6 := bO7.cell 6 rfl
              have kO7 := bO7.cell 7 rfl
              have kO8 := bO7.cell 8 rfl
              have kO9 := bO7.cell 9 rfl
              have lO := bO7.lt
              go_wp2_with fail
              clear kT0 kT1 kT2 kT3 kT4 kT5 kT6 kT7 kT8 kT9 lT kO0 kO1 kO2 kO3 kO4 kO5 kO6 kO7 kO8 kO9 lO
              have bT8 := (bT7.alloc (.cells #[.int .i64 full, .int .i64 read, .int .i64 slip, .int .i64 skew, .int .i64 circ, .int .i64 0, .int .i64 0, .int .i64 wrn] 25))
              have bX8 := (bX7.alloc (.cells #[.int .i64 full, .int .i64 read, .int .i64 slip, .int .i64 skew, .int .i64 circ, .int .i64 0, .int .i64 0, .int .i64 wrn] 25))
              have bS8 := (bS7.alloc (.cells #[.int .i64 full, .int .i64 read, .int .i64 slip, .int .i64 skew, .int .i64 circ, .int .i64 0, .int .i64 0, .int .i64 wrn] 25))
              have bO8 := (bO7.alloc (.cells #[.int .i64 full, .int .i64 read, .int .i64 slip, .int .i64 skew, .int .i64 circ, .int .i64 0, .int .i64 0, .int .i64 wrn] 25))
              have bB8 := (bB7.alloc (.cells #[.int .i64 full, .int .i64 read, .int .i64 slip, .int .i64 skew, .int .i64 circ, .int .i64 0, .int .i64 0, .int .i64 wrn] 25))
              have bD8 := (BoxS.new w7 25 #[.int .i64 full, .int .i64 read, .int .i64 slip, .int .i64 skew, .int .i64 circ, .int .i64 0, .int .i64 0, .int .i64 wrn])
              have hB8 : Below w.heap.size w (World.alloc w7 (.cells #[.int .i64 full, .int .i64 read, .int .i64 slip, .int .i64 skew, .int .i64 circ, .int .i64 0, .int .i64 0, .int .i64 wrn] 25)) := (hB7.alloc hB7.size _)
              obtain ⟨BD, hBD⟩ : ∃ B, B = w7.heap.size := ⟨_, rfl⟩
              clear bT7 bX7 bS7 bO7 bB7 hB7
              generalize World.alloc w7 _ = w8 at *
              rw [← hBD]
              rw [← hBD] at bD8
              clear hBD
              have hbr2 : b < w8.heap.size := by have := hB8.size; omega
              have y1w : w8.cell? ⟨b, off + 1, none⟩ = some (.slice AW ws.length cW) := (hB8.cell (p := ⟨b, off + 1, none⟩) hbt).trans y1
              have q0 : Below w8.heap.size w8.drew w8.drew := Below.refl _ _
              have KC : Hid (∀ V', Below w8.heap.size w8.drew V' → (V'.cell? ⟨w.heap.size, 9, none⟩ = some (.slice (some ⟨b, off, none⟩) ts.length c) ∧ V'.cell? ⟨b, off + 1, none⟩ = some (.slice AW ws.length cW) ∧ V'.cell? ⟨BD, 0, none⟩ = some (.int .i64 full) ∧ V'.cell? ⟨BD, 1, none⟩ = some (.int .i64 read) ∧ V'.cell? ⟨BD, 2, none⟩ = some (.int .i64 slip) ∧ V'.cell? ⟨BD, 3, none⟩ = some (.int .i64 skew) ∧ V'.cell? ⟨BD, 4, none⟩ = some (.int .i64 circ) ∧ V'.cell? ⟨BD, 5, none⟩ = some (.int .i64 0) ∧ V'.cell? ⟨BD, 6, none⟩ = some (.int .i64 0) ∧ V'.cell? ⟨BD, 7, none⟩ = some (.int .i64 wrn))) := fun V' h =>
                have hk : ∀ (bb o : Nat) (u : Value), bb < w8.heap.size → w8.cell? ⟨bb, o, none⟩ = some u → V'.cell? ⟨bb, o, none⟩ = some u := fun bb o u h1 h2 => (h.cell (p := ⟨bb, o, none⟩) h1).trans h2
                ⟨hk _ _ _ bT8.lt (bT8.cell 9 rfl), hk _ _ _ hbr2 y1w, hk _ _ _ bD8.lt (bD8.cell 0 rfl), hk _ _ _ bD8.lt (bD8.cell 1 rfl), hk _ _ _ bD8.lt (bD8.cell 2 rfl), hk _ _ _ bD8.lt (bD8.cell 3 rfl), hk _ _ _ bD8.lt (bD8.cell 4 rfl), hk _ _ _ bD8.lt (bD8.cell 5 rfl), hk _ _ _ bD8.lt (bD8.cell 6 rfl), hk _ _ _ bD8.lt (bD8.cell 7 rfl)⟩
              refine (wpIn_wide (n := 4)).1 ?_
              refine wpIn_mono (Q := noPanic _) ?_ noPanic_le
              refine wpIn_region_held (fun V' => Below w8.heap.size w8.drew V') 30 hmo ?_
              refine wpHeldIn_take (i := 0) (v := ?_) (plain_of (by kernel_rfl)) rfl (by kernel_rfl) (fun _ _ _ h => h) (yieldsSoIn_of (by kernel_rfl) ?_ (fun _ => rfl)) q0 ?_; rotate_left; focus (intro wq hw; have kq := KC.out wq hw; clear hw; go_simp; try (with_reducible rfl))
              refine wpHeldIn_take (i := 1) (v := ?_) (plain_of (by kernel_rfl)) rfl (by kernel_rfl) (fun _ _ _ h => h) (yieldsSoIn_of (by kernel_rfl) ?_ (fun _ => rfl)) q0 ?_; rotate_left; focus (intro wq hw; clear hw; go_simp; try (with_reducible rfl))
              refine wpHeldIn_take (i := 2) (v := ?_) (plain_of (by kernel_rfl)) rfl (by kernel_rfl) (fun _ _ _ h => h) (yieldsSoIn_of (by kernel_rfl) ?_ (fun _ => rfl)) q0 ?_; rotate_left; focus (intro wq hw; have kq := KC.out wq hw; clear hw; go_simp; try (with_reducible rfl))
              refine wpHeldIn_take (i := 3) (v := ?_) (plain_of (by kernel_rfl)) rfl (by kernel_rfl) (fun _ _ _ h => h) (yieldsSoIn_of (by kernel_rfl) ?_ (fun _ => rfl)) q0 ?_; rotate_left; focus (intro wq hw; clear hw; go_simp; try (with_reducible rfl))
              refine wpHeldIn_take (i := 4) (v := ?_) (plain_of (by kernel_rfl)) rfl (by kernel_rfl) (fun _ _ _ h => h) (yieldsSoIn_of (by kernel_rfl) ?_ (fun _ => rfl)) q0 ?_; rotate_left; focus (intro wq hw; clear hw; go_simp; try (with_reducible rfl))
              refine wpHeldIn_take (i := 5) (v := ?_) (plain_of (by kernel_rfl)) rfl (by kernel_rfl) (fun _ _ _ h => h) (yieldsSoIn_of (by kernel_rfl) ?_ (fun _ => rfl)) q0 ?_; rotate_left; focus (intro wq hw; have kq := KC.out wq hw; clear hw; go_simp; try (with_reducible rfl))
              refine wpHeldIn_one (i := 6) (by kernel_rfl) (by kernel_rfl) rfl (by kernel_rfl) (fun K5 hK5 => ?_)
              go_simp
              refine ⟨trivial, (callsIn_wide.2 (HWS.out AW cW _ ((HWK0.out.keep (hB8.drew)).wider (by have := hB8.size; show w.heap.size ≤ w8.heap.size; exact this)))).mono ?_⟩
              rintro e w9 ⟨vk, rfl, hvk, hbk⟩
              have q1 : Below w8.heap.size w8.drew w9 := hbk
              have HVK9 := Lib.hid hvk.out
              clear hvk
              obtain ⟨AQ, cQ, rfl⟩ := ints_form HVK9.out
              refine hK5 _ _ q1 ?_
              refine wpHeldIn_take (i := 7) (v := ?_) (plain_of (by kernel_rfl)) rfl (by kernel_rfl) (fun _ _ _ h => h) (yieldsSoIn_of (by kernel_rfl) ?_ (fun _ => rfl)) q1 ?_; rotate_left; focus (intro wq hw; clear hw; go_simp; try (with_reducible rfl))
              refine wpHeldIn_take (i := 8) (v := ?_) (plain_of (by kernel_rfl)) rfl (by kernel_rfl) (fun _ _ _ h => h) (yieldsSoIn_of (by kernel_rfl) ?_ (fun _ => rfl)) q1 ?_; rotate_left; focus (intro wq hw; clear hw; go_simp; try (with_reducible rfl))
              refine wpHeldIn_take (i := 9) (v := ?_) (plain_of (by kernel_rfl)) rfl (by kernel_rfl) (fun _ _ _ h => h) (yieldsSoIn_of (by kernel_rfl) ?_ (fun _ => rfl)) q1 ?_; rotate_left; focus (intro wq hw; clear hw; go_simp; try (with_reducible rfl))
              refine wpHeldIn_take (i := 10) (v := ?_) (plain_of (by kernel_rfl)) rfl (by kernel_rfl) (fun _ _ _ h => h) (yieldsSoIn_of (by kernel_rfl) ?_ (fun _ => rfl)) q1 ?_; rotate_left; focus (intro wq hw; clear hw; go_simp; try (with_reducible rfl))
              refine wpHeldIn_take (i := 11) (v := ?_) (plain_of (by kernel_rfl)) rfl (by kernel_rfl) (fun _ _ _ h => h) (yieldsSoIn_of (by kernel_rfl) ?_ (fun _ => rfl)) q1 ?_; rotate_left; focus (intro wq hw; clear hw; go_simp; try (with_reducible rfl))
              refine wpHeldIn_done (by kernel_rfl) ?_ _
              go_simp
              refine noPanic_of ?_
              have bT9 : BoxS w9 (w.heap.size) _ _ := (q1.block (w.heap.size) bT8.lt).trans bT8.drew
              have bX9 : BoxS w9 (w.heap.size + 1) _ _ := (q1.block (w.heap.size + 1) bX8.lt).trans bX8.drew
              have bS9 : BoxS w9 (BS) _ _ := (q1.block (BS) bS8.lt).trans bS8.drew
              have bO9 : BoxS w9 (BO) _ _ := (q1.block (BO) bO8.lt).trans bO8.drew
              have bB9 : BoxS w9 (BB) _ _ := (q1.block (BB) bB8.lt).trans bB8.drew
              have bD9 : BoxS w9 (BD) _ _ := (q1.block (BD) bD8.lt).trans bD8.drew
              have hB9 : Below w.heap.size w w9 := (hB8.drew).trans (q1.mono hB8.size)
              clear bT8 bX8 bS8 bO8 bB8 bD8 hB8 KC q0 q1 hbk y1w
              have kO0 := bO9.cell 0 rfl
              have kO1 := bO9.cell 1 rfl
              have kO2 := bO9.cell 2 rfl
              have kO3 := bO9.cell 3 rfl
              have kO4 := bO9.cell 4 rfl
              have kO5 := bO9.cell 5 rfl
              have kO6 := bO9.cell 6 rfl
              have kO7 := bO9.cell 7 rfl
              have kO8 := bO9.cell 8 rfl
              have kO9 := bO9.cell 9 rfl
              have lO := bO9.lt
              go_wp2_with fail
              clear kO0 kO1 kO2 kO3 kO4 kO5 kO6 kO7 kO8 kO9 lO
              have hTS : Tsts w9 w9.heap.size (some ⟨BB, 0, none⟩) [(0, ws)] := tsts_one bB9 ((HWK0.out.keep hB9).wider hB9.size) hwl
              refine (HS2.out _ _ _ hTS).mono ?_
              rintro e w10 ⟨vm, rfl, hvm, hb10⟩
              have bT10 := bT9.below hb10
              have bX10 := bX9.below hb10
              have bS10 := bS9.below hb10
              have bO10 := bO9.below hb10
              have bB10 := bB9.below hb10
              have bD10 := bD9.below hb10
              have hB10 := hB9.trans (hb10.mono hB9.size)
              clear bT9 bX9 bS9 bO9 bB9 bD9 hB9
              have HVK10 := Lib.hid ((HVK9.out.keep hb10).more hb10.size)
              have HVM10 := Lib.hid hvm.out
              clear hvm hTS HVK9
              obtain ⟨AM, cM, rfl⟩ := ints_form HVM10.out
              have kO0 := bO10.cell 0 rfl
              have kO1 := bO10.cell 1 rfl
              have kO2 := bO10.cell 2 rfl
              have kO3 := bO10.cell 3 rfl
              have kO4 := bO10.cell 4 rfl
              have kO5 := bO10.cell 5 rfl
              have kO6 := bO10.cell 6 rfl
              have kO7 := bO10.cell 7 rfl
              have kO8 := bO10.cell 8 rfl
              have kO9 := bO10.cell 9 rfl
              have lO := bO10.lt
              go_wp2_with fail
              clear kO0 kO1 kO2 kO3 kO4 kO5 kO6 kO7 kO8 kO9 lO
              have hTS : Tsts w10 w10.heap.size (some ⟨BB, 0, none⟩) [(0, ws)] := tsts_one bB10 ((HWK0.out.keep hB10).wider hB10.size) hwl
              refine (HM2.out _ _ _ hTS).mono ?_
              rintro e w11 ⟨rfl, hb11⟩
              have bT11 := bT10.below hb11
              have bX11 := bX10.below hb11
              have bS11 := bS10.below hb11
              have bO11 := bO10.below hb11
              have bB11 := bB10.below hb11
              have bD11 := bD10.below hb11
              have hB11 := hB10.trans (hb11.mono hB10.size)
              clear bT10 bX10 bS10 bO10 bB10 bD10 hB10
              have HVK11 := Lib.hid ((HVK10.out.keep hb11).more hb11.size)
              have HVM11 := Lib.hid ((HVM10.out.keep hb11).more hb11.size)
              clear hTS HVK10 HVM10
              have kT0 := bT11.cell 0 rfl
              have kT1 := bT11.cell 1 rfl
              have kT2 := bT11.cell 2 rfl
              have kT3 := bT11.cell 3 rfl
              have kT4 := bT11.cell 4 rfl
              have kT5 := bT11.cell 5 rfl
              have kT6 := bT11.cell 6 rfl
              have kT7 := bT11.cell 7 rfl
              have kT8 := bT11.cell 8 rfl
              have kT9 := bT11.cell 9 rfl
              have lT := bT11.lt
              go_wp2_with fail
              clear kT0 kT1 kT2 kT3 kT4 kT5 kT6 kT7 kT8 kT9 lT
              refine (HKG.out _).mono ?_
              rintro e wq ⟨rfl, hq⟩
              have hq := hq.symm
              subst hq
              have kT0 := bT11.cell 0 rfl
              have kT1 := bT11.cell 1 rfl
              have kT2 := bT11.cell 2 rfl
              have kT3 := bT11.cell 3 rfl
              have kT4 := bT11.cell 4 rfl
              have kT5 := bT11.cell 5 rfl
              have kT6 := bT11.cell 6 rfl
              have kT7 := bT11.cell 7 rfl
              have kT8 := bT11.cell 8 rfl
              have kT9 := bT11.cell 9 rfl
              have lT := bT11.lt
              go_wp2_with fail
              clear kT0 kT1 kT2 kT3 kT4 kT5 kT6 kT7 kT8 kT9 lT
              refine (HSI.out _ _ _ HVK11.out HVM11.out).mono ?_
              rintro e w12 ⟨rfl, hb12⟩
              have bT12 := bT11.below hb12
              have bX12 := bX11.below hb12
              have bS12 := bS11.below hb12
              have bO12 := bO11.below hb12
              have bB12 := bB11.below hb12
              have bD12 := bD11.below hb12
              have hB12 := hB11.trans (hb12.mono hB11.size)
              clear bT11 bX11 bS11 bO11 bB11 bD11 hB11
              have kT0 := bT12.cell 0 rfl
              have kT1 := bT12.cell 1 rfl
              have kT2 := bT12.cell 2 rfl
              have kT3 := bT12.cell 3 rfl
              have kT4 := bT12.cell 4 rfl
              have kT5 := bT12.cell 5 rfl
              have kT6 := bT12.cell 6 rfl
              have kT7 := bT12.cell 7 rfl
              have kT8 := bT12.cell 8 rfl
              have kT9 := bT12.cell 9 rfl
              have lT := bT12.lt
              go_wp2_with fail
              clear kT0 kT1 kT2 kT3 kT4 kT5 kT6 kT7 kT8 kT9 lT
              refine (HWK.out _).mono ?_
              rintro e w13 ⟨rfl, hb13⟩
              have bT13 := bT12.below hb13
              have bX13 := bX12.below hb13
              have bS13 := bS12.below hb13
              have bO13 := bO12.below hb13
              have bB13 := bB12.below hb13
              have bD13 := bD12.below hb13
              have hB13 := hB12.trans (hb13.mono hB12.size)
              clear bT12 bX12 bS12 bO12 bB12 bD12 hB12
              go_wp2_with fail
              go_returns
              exact ⟨rfl, hB13⟩
            · go_simp
              have r1 : Below NN w6.drew (w6.alloc (.cells #[.int .i64 0, .int .i64 0, .int .i64 0, .int .i64 0, .int .i64 0, .int .i64 0, .int .i64 0, .int .i64 0, .int .i64 0, .slice none 0 0] 28)).drew := (show Below NN w6.drew (w6.drew.alloc (.cells #[.int .i64 0, .int .i64 0, .int .i64 0, .int .i64 0, .int .i64 0, .int .i64 0, .int .i64 0, .int .i64 0, .int .i64 0, .slice none 0 0] 28)) from q0.alloc (by rw [hNN]; exact Nat.le_refl _) _)
              refine hK7 _ _ r1 ?_
              refine wpHeldIn_one (i := 10) (by kernel_rfl) (by kernel_rfl) rfl (by kernel_rfl) (fun K3 hK3 => ?_)
              go_simp
              have r2 : Below NN w6.drew ((w6.alloc (.cells #[.int .i64 0, .int .i64 0, .int .i64 0, .int .i64 0, .int .i64 0, .int .i64 0, .int .i64 0, .int .i64 0, .int .i64 0, .slice none 0 0] 28)).alloc (.cells #[.int .i64 0, .slice AW ws.length cW] 31)).drew := (show Below NN w6.drew ((w6.drew.alloc (.cells #[.int .i64 0, .int .i64 0, .int .i64 0, .int .i64 0, .int .i64 0, .int .i64 0, .int .i64 0, .int .i64 0, .int .i64 0, .slice none 0 0] 28)).alloc (.cells #[.int .i64 0, .slice AW ws.length cW] 31)) from (show Below NN w6.drew (w6.drew.alloc (.cells #[.int .i64 0, .int .i64 0, .int .i64 0, .int .i64 0, .int .i64 0, .int .i64 0, .int .i64 0, .int .i64 0, .int .i64 0, .slice none 0 0] 28)) from r1).alloc (by rw [hNN]; exact r1.size) _)
              refine hK3 _ _ r2 ?_
              have bF1 : BoxS ((w6.alloc (.cells #[.int .i64 0, .int .i64 0, .int .i64 0, .int .i64 0, .int .i64 0, .int .i64 0, .int .i64 0, .int .i64 0, .int .i64 0, .slice none 0 0] 28)).alloc (.cells #[.int .i64 0, .slice AW ws.length cW] 31)).drew w6.drew.heap.size _ _ := ((BoxS.new w6.drew 28 #[.int .i64 0, .int .i64 0, .int .i64 0, .int .i64 0, .int .i64 0, .int .i64 0, .int .i64 0, .int .i64 0, .int .i64 0, .slice none 0 0]).alloc (.cells #[.int .i64 0, .slice AW ws.length cW] 31))
              have bF2 : BoxS ((w6.alloc (.cells #[.int .i64 0, .int .i64 0, .int .i64 0, .int .i64 0, .int .i64 0, .int .i64 0, .int .i64 0, .int .i64 0, .int .i64 0, .slice none 0 0] 28)).alloc (.cells #[.int .i64 0, .slice AW ws.length cW] 31)).drew (w6.drew.alloc (.cells #[.int .i64 0, .int .i64 0, .int .i64 0, .int .i64 0, .int .i64 0, .int .i64 0, .int .i64 0, .int .i64 0, .int .i64 0, .slice none 0 0] 28)).heap.size _ _ := (BoxS.new (w6.drew.alloc (.cells #[.int .i64 0, .int .i64 0, .int .i64 0, .int .i64 0, .int .i64 0, .int .i64 0, .int .i64 0, .int .i64 0, .int .i64 0, .slice none 0 0] 28)) 31 #[.int .i64 0, .slice AW ws.length cW])
              have hzd : w6.drew.heap.size = w6.heap.size := rfl
              simp only [World.size_alloc, hzd] at bF1 bF2
              clear hzd
              have bTB := bF2
              have bO := bF1
              clear bF1 bF2
              obtain ⟨BB, hBB⟩ : ∃ B, B = w6.heap.size + 1 := ⟨_, rfl⟩
              obtain ⟨BO, hBO⟩ : ∃ B, B = w6.heap.size := ⟨_, rfl⟩
              have hBne : BB ≠ BO := by omega
              have hBBge : NN ≤ BB := by omega
              have hBOge : NN ≤ BO := by omega
              try rw [← hBB]
              try rw [← hBB] at bTB
              try rw [← hBB] at bO
              try rw [← hBO]
              try rw [← hBO] at bTB
              try rw [← hBO] at bO
              clear hBB hBO r1
              generalize World.drew (World.alloc (World.alloc w6 _) _) = wz at *
              refine wpHeldIn_take (i := 11) (v := ?_) (plain_of (by kernel_rfl)) rfl (by kernel_rfl) (fun _ _ _ h => h) (yieldsSoIn_of (by kernel_rfl) ?_ (fun _ => rfl)) r2 ?_; rotate_left; focus (intro wq hw; clear hw; go_simp; try (with_reducible rfl))
              have z0 := bO.cell 0 rfl
              have f0 := bO.frozen 0
              have z1 := bO.cell 1 rfl
              have f1 := bO.frozen 1
              have z2 := bO.cell 2 rfl
              have f2 := bO.frozen 2
              have z3 := bO.cell 3 rfl
              have f3 := bO.frozen 3
              have z4 := bO.cell 4 rfl
              have f4 := bO.frozen 4
              have z5 := bO.cell 5 rfl
              have f5 := bO.frozen 5
              have z6 := bO.cell 6 rfl
              have f6 := bO.frozen 6
              have z7 := bO.cell 7 rfl
              have f7 := bO.frozen 7
              have z8 := bO.cell 8 rfl
              have f8 := bO.frozen 8
              have z9 := bO.cell 9 rfl
              have f9 := bO.frozen 9
              refine wpHeldIn_one (i := 13) (by kernel_rfl) (by kernel_rfl) rfl (by kernel_rfl) (fun K4 hK4 => ?_)
              go_simp
              have bO7 := ten_put bO (.int .i64 full) (.int .i64 read) (.int .i64 slip) (.int .i64 skew) (.int .i64 circ) (.int .i64 glo) (.int .i64 ghi) (.int .i64 wrn) (.int .i64 gain) (.slice (some ⟨BB, 0, none⟩) 1 1)
              have bB7 := ten_other bTB hBne (.int .i64 full) (.int .i64 read) (.int .i64 slip) (.int .i64 skew) (.int .i64 circ) (.int .i64 glo) (.int .i64 ghi) (.int .i64 wrn) (.int .i64 gain) (.slice (some ⟨BB, 0, none⟩) 1 1)
              have r3 := ten_below r2 hBOge (.int .i64 full) (.int .i64 read) (.int .i64 slip) (.int .i64 skew) (.int .i64 circ) (.int .i64 glo) (.int .i64 ghi) (.int .i64 wrn) (.int .i64 gain) (.slice (some ⟨BB, 0, none⟩) 1 1)
              refine hK4 _ _ r3 ?_
              clear z0 f0 z1 f1 z2 f2 z3 f3 z4 f4 z5 f5 z6 f6 z7 f7 z8 f8 z9 f9 bTB bO r2
              generalize World.setCell (World.setCell (World.setCell (World.setCell (World.setCell (World.setCell (World.setCell (World.setCell (World.setCell (World.setCell wz _ _) _ _) _ _) _ _) _ _) _ _) _ _) _ _) _ _) _ _ = w7 at *
              refine wpHeldIn_done (by kernel_rfl) ?_ _
              go_simp
              refine noPanic_of ?_
              have bT7 : BoxS w7 (w.heap.size) _ _ := (r3.block (w.heap.size) (by rw [hNN]; exact bT6.lt)).trans bT6.drew
              have bX7 : BoxS w7 (w.heap.size + 1) _ _ := (r3.block (w.heap.size + 1) (by rw [hNN]; exact bX6.lt)).trans bX6.drew
              have bS7 : BoxS w7 (BS) _ _ := (r3.block (BS) (by rw [hNN]; exact bS6.lt)).trans bS6.drew
              have hB7 : Below w.heap.size w w7 := (hB6.drew).trans (r3.mono (by rw [hNN]; exact hB6.size))
              clear bT6 bX6 bS6 KC q0 y1w r3 hBBge hBOge hNN
              have kT0 := bT7.cell 0 rfl
              have kT1 := bT7.cell 1 rfl
              have kT2 := bT7.cell 2 rfl
              have kT3 := bT7.cell 3 rfl
              have kT4 := bT7.cell 4 rfl
              have kT5 := bT7.cell 5 rfl
              have kT6 := bT7.cell 6 rfl
              have kT7 := bT7.cell 7 rfl
              have kT8 := bT7.cell 8 rfl
              have kT9 := bT7.cell 9 rfl
              have lT := bT7.lt
              have kO0 := bO7.cell 0 rfl
              have kO1 := bO7.cell 1 rfl
              have kO2 := bO7.cell 2 rfl
              have kO3 := bO7.cell 3 rfl
              have kO4 := bO7.cell 4 rfl
              have kO5 := bO7.cell 5 rfl
              have kO6 := bO7.cell 6 rfl
              have kO7 := bO7.cell 7 rfl
              have kO8 := bO7.cell 8 rfl
              have kO9 := bO7.cell 9 rfl
              have lO := bO7.lt
              go_wp2_with fail
              clear kT0 kT1 kT2 kT3 kT4 kT5 kT6 kT7 kT8 kT9 lT kO0 kO1 kO2 kO3 kO4 kO5 kO6 kO7 kO8 kO9 lO
              have bT8 := (bT7.alloc (.cells #[.int .i64 full, .int .i64 read, .int .i64 slip, .int .i64 skew, .int .i64 circ, .int .i64 0, .int .i64 0, .int .i64 wrn] 25))
              have bX8 := (bX7.alloc (.cells #[.int .i64 full, .int .i64 read, .int .i64 slip, .int .i64 skew, .int .i64 circ, .int .i64 0, .int .i64 0, .int .i64 wrn] 25))
              have bS8 := (bS7.alloc (.cells #[.int .i64 full, .int .i64 read, .int .i64 slip, .int .i64 skew, .int .i64 circ, .int .i64 0, .int .i64 0, .int .i64 wrn] 25))
              have bO8 := (bO7.alloc (.cells #[.int .i64 full, .int .i64 read, .int .i64 slip, .int .i64 skew, .int .i64 circ, .int .i64 0, .int .i64 0, .int .i64 wrn] 25))
              have bB8 := (bB7.alloc (.cells #[.int .i64 full, .int .i64 read, .int .i64 slip, .int .i64 skew, .int .i64 circ, .int .i64 0, .int .i64 0, .int .i64 wrn] 25))
              have bD8 := (BoxS.new w7 25 #[.int .i64 full, .int .i64 read, .int .i64 slip, .int .i64 skew, .int .i64 circ, .int .i64 0, .int .i64 0, .int .i64 wrn])
              have hB8 : Below w.heap.size w (World.alloc w7 (.cells #[.int .i64 full, .int .i64 read, .int .i64 slip, .int .i64 skew, .int .i64 circ, .int .i64 0, .int .i64 0, .int .i64 wrn] 25)) := (hB7.alloc hB7.size _)
              obtain ⟨BD, hBD⟩ : ∃ B, B = w7.heap.size := ⟨_, rfl⟩
              clear bT7 bX7 bS7 bO7 bB7 hB7
              generalize World.alloc w7 _ = w8 at *
              rw [← hBD]
              rw [← hBD] at bD8
              clear hBD
              have hbr2 : b < w8.heap.size := by have := hB8.size; omega
              have y1w : w8.cell? ⟨b, off + 1, none⟩ = some (.slice AW ws.length cW) := (hB8.cell (p := ⟨b, off + 1, none⟩) hbt).trans y1
              have q0 : Below w8.heap.size w8.drew w8.drew := Below.refl _ _
              have KC : Hid (∀ V', Below w8.heap.size w8.drew V' → (V'.cell? ⟨w.heap.size, 9, none⟩ = some (.slice (some ⟨b, off, none⟩) ts.length c) ∧ V'.cell? ⟨b, off + 1, none⟩ = some (.slice AW ws.length cW) ∧ V'.cell? ⟨BD, 0, none⟩ = some (.int .i64 full) ∧ V'.cell? ⟨BD, 1, none⟩ = some (.int .i64 read) ∧ V'.cell? ⟨BD, 2, none⟩ = some (.int .i64 slip) ∧ V'.cell? ⟨BD, 3, none⟩ = some (.int .i64 skew) ∧ V'.cell? ⟨BD, 4, none⟩ = some (.int .i64 circ) ∧ V'.cell? ⟨BD, 5, none⟩ = some (.int .i64 0) ∧ V'.cell? ⟨BD, 6, none⟩ = some (.int .i64 0) ∧ V'.cell? ⟨BD, 7, none⟩ = some (.int .i64 wrn))) := fun V' h =>
                have hk : ∀ (bb o : Nat) (u : Value), bb < w8.heap.size → w8.cell? ⟨bb, o, none⟩ = some u → V'.cell? ⟨bb, o, none⟩ = some u := fun bb o u h1 h2 => (h.cell (p := ⟨bb, o, none⟩) h1).trans h2
                ⟨hk _ _ _ bT8.lt (bT8.cell 9 rfl), hk _ _ _ hbr2 y1w, hk _ _ _ bD8.lt (bD8.cell 0 rfl), hk _ _ _ bD8.lt (bD8.cell 1 rfl), hk _ _ _ bD8.lt (bD8.cell 2 rfl), hk _ _ _ bD8.lt (bD8.cell 3 rfl), hk _ _ _ bD8.lt (bD8.cell 4 rfl), hk _ _ _ bD8.lt (bD8.cell 5 rfl), hk _ _ _ bD8.lt (bD8.cell 6 rfl), hk _ _ _ bD8.lt (bD8.cell 7 rfl)⟩
              refine (wpIn_wide (n := 4)).1 ?_
              refine wpIn_mono (Q := noPanic _) ?_ noPanic_le
              refine wpIn_region_held (fun V' => Below w8.heap.size w8.drew V') 30 hmo ?_
              refine wpHeldIn_take (i := 0) (v := ?_) (plain_of (by kernel_rfl)) rfl (by kernel_rfl) (fun _ _ _ h => h) (yieldsSoIn_of (by kernel_rfl) ?_ (fun _ => rfl)) q0 ?_; rotate_left; focus (intro wq hw; have kq := KC.out wq hw; clear hw; go_simp; try (with_reducible rfl))
              refine wpHeldIn_take (i := 1) (v := ?_) (plain_of (by kernel_rfl)) rfl (by kernel_rfl) (fun _ _ _ h => h) (yieldsSoIn_of (by kernel_rfl) ?_ (fun _ => rfl)) q0 ?_; rotate_left; focus (intro wq hw; clear hw; go_simp; try (with_reducible rfl))
              refine wpHeldIn_take (i := 2) (v := ?_) (plain_of (by kernel_rfl)) rfl (by kernel_rfl) (fun _ _ _ h => h) (yieldsSoIn_of (by kernel_rfl) ?_ (fun _ => rfl)) q0 ?_; rotate_left; focus (intro wq hw; have kq := KC.out wq hw; clear hw; go_simp; try (with_reducible rfl))
              refine wpHeldIn_take (i := 3) (v := ?_) (plain_of (by kernel_rfl)) rfl (by kernel_rfl) (fun _ _ _ h => h) (yieldsSoIn_of (by kernel_rfl) ?_ (fun _ => rfl)) q0 ?_; rotate_left; focus (intro wq hw; clear hw; go_simp; try (with_reducible rfl))
              refine wpHeldIn_take (i := 4) (v := ?_) (plain_of (by kernel_rfl)) rfl (by kernel_rfl) (fun _ _ _ h => h) (yieldsSoIn_of (by kernel_rfl) ?_ (fun _ => rfl)) q0 ?_; rotate_left; focus (intro wq hw; clear hw; go_simp; try (with_reducible rfl))
              refine wpHeldIn_take (i := 5) (v := ?_) (plain_of (by kernel_rfl)) rfl (by kernel_rfl) (fun _ _ _ h => h) (yieldsSoIn_of (by kernel_rfl) ?_ (fun _ => rfl)) q0 ?_; rotate_left; focus (intro wq hw; have kq := KC.out wq hw; clear hw; go_simp; try (with_reducible rfl))
              refine wpHeldIn_one (i := 6) (by kernel_rfl) (by kernel_rfl) rfl (by kernel_rfl) (fun K5 hK5 => ?_)
              go_simp
              refine ⟨trivial, (callsIn_wide.2 (HWS.out AW cW _ ((HWK0.out.keep (hB8.drew)).wider (by have := hB8.size; show w.heap.size ≤ w8.heap.size; exact this)))).mono ?_⟩
              rintro e w9 ⟨vk, rfl, hvk, hbk⟩
              have q1 : Below w8.heap.size w8.drew w9 := hbk
              have HVK9 := Lib.hid hvk.out
              clear hvk
              obtain ⟨AQ, cQ, rfl⟩ := ints_form HVK9.out
              refine hK5 _ _ q1 ?_
              refine wpHeldIn_take (i := 7) (v := ?_) (plain_of (by kernel_rfl)) rfl (by kernel_rfl) (fun _ _ _ h => h) (yieldsSoIn_of (by kernel_rfl) ?_ (fun _ => rfl)) q1 ?_; rotate_left; focus (intro wq hw; clear hw; go_simp; try (with_reducible rfl))
              refine wpHeldIn_take (i := 8) (v := ?_) (plain_of (by kernel_rfl)) rfl (by kernel_rfl) (fun _ _ _ h => h) (yieldsSoIn_of (by kernel_rfl) ?_ (fun _ => rfl)) q1 ?_; rotate_left; focus (intro wq hw; clear hw; go_simp; try (with_reducible rfl))
              refine wpHeldIn_take (i := 9) (v := ?_) (plain_of (by kernel_rfl)) rfl (by kernel_rfl) (fun _ _ _ h => h) (yieldsSoIn_of (by kernel_rfl) ?_ (fun _ => rfl)) q1 ?_; rotate_left; focus (intro wq hw; clear hw; go_simp; try (with_reducible rfl))
              refine wpHeldIn_take (i := 10) (v := ?_) (plain_of (by kernel_rfl)) rfl (by kernel_rfl) (fun _ _ _ h => h) (yieldsSoIn_of (by kernel_rfl) ?_ (fun _ => rfl)) q1 ?_; rotate_left; focus (intro wq hw; clear hw; go_simp; try (with_reducible rfl))
              refine wpHeldIn_take (i := 11) (v := ?_) (plain_of (by kernel_rfl)) rfl (by kernel_rfl) (fun _ _ _ h => h) (yieldsSoIn_of (by kernel_rfl) ?_ (fun _ => rfl)) q1 ?_; rotate_left; focus (intro wq hw; clear hw; go_simp; try (with_reducible rfl))
              refine wpHeldIn_done (by kernel_rfl) ?_ _
              go_simp
              refine noPanic_of ?_
              have bT9 : BoxS w9 (w.heap.size) _ _ := (q1.block (w.heap.size) bT8.lt).trans bT8.drew
              have bX9 : BoxS w9 (w.heap.size + 1) _ _ := (q1.block (w.heap.size + 1) bX8.lt).trans bX8.drew
              have bS9 : BoxS w9 (BS) _ _ := (q1.block (BS) bS8.lt).trans bS8.drew
              have bO9 : BoxS w9 (BO) _ _ := (q1.block (BO) bO8.lt).trans bO8.drew
              have bB9 : BoxS w9 (BB) _ _ := (q1.block (BB) bB8.lt).trans bB8.drew
              have bD9 : BoxS w9 (BD) _ _ := (q1.block (BD) bD8.lt).trans bD8.drew
              have hB9 : Below w.heap.size w w9 := (hB8.drew).trans (q1.mono hB8.size)
              clear bT8 bX8 bS8 bO8 bB8 bD8 hB8 KC q0 q1 hbk y1w
              have kO0 := bO9.cell 0 rfl
              have kO1 := bO9.cell 1 rfl
              have kO2 := bO9.cell 2 rfl
              have kO3 := bO9.cell 3 rfl
              have kO4 := bO9.cell 4 rfl
              have kO5 := bO9.cell 5 rfl
              have kO6 := bO9.cell 6 rfl
              have kO7 := bO9.cell 7 rfl
              have kO8 := bO9.cell 8 rfl
              have kO9 := bO9.cell 9 rfl
              have lO := bO9.lt
              go_wp2_with fail
              clear kO0 kO1 kO2 kO3 kO4 kO5 kO6 kO7 kO8 kO9 lO
              have hTS : Tsts w9 w9.heap.size (some ⟨BB, 0, none⟩) [(0, ws)] := tsts_one bB9 ((HWK0.out.keep hB9).wider hB9.size) hwl
              refine (HS2.out _ _ _ hTS).mono ?_
              rintro e w10 ⟨vm, rfl, hvm, hb10⟩
              have bT10 := bT9.below hb10
              have bX10 := bX9.below hb10
              have bS10 := bS9.below hb10
              have bO10 := bO9.below hb10
              have bB10 := bB9.below hb10
              have bD10 := bD9.below hb10
              have hB10 := hB9.trans (hb10.mono hB9.size)
              clear bT9 bX9 bS9 bO9 bB9 bD9 hB9
              have HVK10 := Lib.hid ((HVK9.out.keep hb10).more hb10.size)
              have HVM10 := Lib.hid hvm.out
              clear hvm hTS HVK9
              obtain ⟨AM, cM, rfl⟩ := ints_form HVM10.out
              have kO0 := bO10.cell 0 rfl
              have kO1 := bO10.cell 1 rfl
              have kO2 := bO10.cell 2 rfl
              have kO3 := bO10.cell 3 rfl
              have kO4 := bO10.cell 4 rfl
              have kO5 := bO10.cell 5 rfl
              have kO6 := bO10.cell 6 rfl
              have kO7 := bO10.cell 7 rfl
              have kO8 := bO10.cell 8 rfl
              have kO9 := bO10.cell 9 rfl
              have lO := bO10.lt
              go_wp2_with fail
              clear kO0 kO1 kO2 kO3 kO4 kO5 kO6 kO7 kO8 kO9 lO
              have hTS : Tsts w10 w10.heap.size (some ⟨BB, 0, none⟩) [(0, ws)] := tsts_one bB10 ((HWK0.out.keep hB10).wider hB10.size) hwl
              refine (HM2.out _ _ _ hTS).mono ?_
              rintro e w11 ⟨rfl, hb11⟩
              have bT11 := bT10.below hb11
              have bX11 := bX10.below hb11
              have bS11 := bS10.below hb11
              have bO11 := bO10.below hb11
              have bB11 := bB10.below hb11
              have bD11 := bD10.below hb11
              have hB11 := hB10.trans (hb11.mono hB10.size)
              clear bT10 bX10 bS10 bO10 bB10 bD10 hB10
              have HVK11 := Lib.hid ((HVK10.out.keep hb11).more hb11.size)
              have HVM11 := Lib.hid ((HVM10.out.keep hb11).more hb11.size)
              clear hTS HVK10 HVM10
              have kT0 := bT11.cell 0 rfl
              have kT1 := bT11.cell 1 rfl
              have kT2 := bT11.cell 2 rfl
              have kT3 := bT11.cell 3 rfl
              have kT4 := bT11.cell 4 rfl
              have kT5 := bT11.cell 5 rfl
              have kT6 := bT11.cell 6 rfl
              have kT7 := bT11.cell 7 rfl
              have kT8 := bT11.cell 8 rfl
              have kT9 := bT11.cell 9 rfl
              have lT := bT11.lt
              go_wp2_with fail
              clear kT0 kT1 kT2 kT3 kT4 kT5 kT6 kT7 kT8 kT9 lT
              refine (HKG.out _).mono ?_
              rintro e wq ⟨rfl, hq⟩
              have hq := hq.symm
              subst hq
              have kT0 := bT11.cell 0 rfl
              have kT1 := bT11.cell 1 rfl
              have kT2 := bT11.cell 2 rfl
              have kT3 := bT11.cell 3 rfl
              have kT4 := bT11.cell 4 rfl
              have kT5 := bT11.cell 5 rfl
              have kT6 := bT11.cell 6 rfl
              have kT7 := bT11.cell 7 rfl
              have kT8 := bT11.cell 8 rfl
              have kT9 := bT11.cell 9 rfl
              have lT := bT11.lt
              go_wp2_with fail
              clear kT0 kT1 kT2 kT3 kT4 kT5 kT6 kT7 kT8 kT9 lT
              refine (HSI.out _ _ _ HVK11.out HVM11.out).mono ?_
              rintro e w12 ⟨rfl, hb12⟩
              have bT12 := bT11.below hb12
              have bX12 := bX11.below hb12
              have bS12 := bS11.below hb12
              have bO12 := bO11.below hb12
              have bB12 := bB11.below hb12
              have bD12 := bD11.below hb12
              have hB12 := hB11.trans (hb12.mono hB11.size)
              clear bT11 bX11 bS11 bO11 bB11 bD11 hB11
              have kT0 := bT12.cell 0 rfl
              have kT1 := bT12.cell 1 rfl
              have kT2 := bT12.cell 2 rfl
              have kT3 := bT12.cell 3 rfl
              have kT4 := bT12.cell 4 rfl
              have kT5 := bT12.cell 5 rfl
              have kT6 := bT12.cell 6 rfl
              have kT7 := bT12.cell 7 rfl
              have kT8 := bT12.cell 8 rfl
              have kT9 := bT12.cell 9 rfl
              have lT := bT12.lt
              go_wp2_with fail
              clear kT0 kT1 kT2 kT3 kT4 kT5 kT6 kT7 kT8 kT9 lT
              refine (HWK.out _).mono ?_
              rintro e w13 ⟨rfl, hb13⟩
              have bT13 := bT12.below hb13
              have bX13 := bX12.below hb13
              have bS13 := bS12.below hb13
              have bO13 := bO12.below hb13
              have bB13 := bB12.below hb13
              have bD13 := bD12.below hb13
              have hB13 := hB12.trans (hb13.mono hB12.size)
              clear bT12 bX12 bS12 bO12 bB12 bD12 hB12
              go_wp2_with fail
              go_returns
              exact ⟨rfl, hB13⟩
          · have hn0 : ((ts.length : Int) == 0) = true := by rw [beq_iff_eq]; omega
            have kT0 := bT6.cell 0 rfl
            have kT1 := bT6.cell 1 rfl
            have kT2 := bT6.cell 2 rfl
            have kT3 := bT6.cell 3 rfl
            have kT4 := bT6.cell 4 rfl
            have kT5 := bT6.cell 5 rfl
            have kT6 := bT6.cell 6 rfl
            have kT7 := bT6.cell 7 rfl
            have kT8 := bT6.cell 8 rfl
            have kT9 := bT6.cell 9 rfl
            have lT := bT6.lt
            have kX0 := bX6.cell 0 rfl
            have kX1 := bX6.cell 1 rfl
            have lX := bX6.lt
            have kS0 := bS6.cell 0 rfl
            have kS1 := bS6.cell 1 rfl
            have lS := bS6.lt
            go_wp2_with fail
            clear kT0 kT1 kT2 kT3 kT4 kT5 kT6 kT7 kT8 kT9 lT kX0 kX1 lX kS0 kS1 lS
            refine (HWK.out _).mono ?_
            rintro e w7 ⟨rfl, hb7⟩
            have bT7 := bT6.below hb7
            have bX7 := bX6.below hb7
            have bS7 := bS6.below hb7
            have hB7 := hB6.trans (hb7.mono hB6.size)
            clear bT6 bX6 bS6 hB6
            go_wp2_with fail
            go_returns
            exact ⟨rfl, hB7⟩
        by_cases g2 : 9000 < mr
        · skip
          have c1 : decide (0 ≤ le) = true := decide_eq_true (by omega)
          have c2 : decide (le ≤ mr) = true := decide_eq_true (by omega)
          have c3 : decide (mr ≤ 9000) = false := decide_eq_false (by omega)
          by_cases hnp : 0 < ts.length
          · have hn0 : ((ts.length : Int) == 0) = false := by rw [beq_eq_false_iff_ne]; omega
            have hnpi : (0 : Int) < (ts.length : Int) := by omega
            obtain ⟨b, off, rfl, hbt, AW, cW, y1, HWK0, hwl⟩ := HTS.out hnp
            have HN := HNP.out hnp
            obtain ⟨HWS, HS2, HM2, HKG⟩ := HN
            replace HWS := Lib.hid HWS
            replace HS2 := Lib.hid HS2
            replace HM2 := Lib.hid HM2
            replace HKG := Lib.hid HKG
            have kT0 := bT6.cell 0 rfl
            have kT1 := bT6.cell 1 rfl
            have kT2 := bT6.cell 2 rfl
            have kT3 := bT6.cell 3 rfl
            have kT4 := bT6.cell 4 rfl
            have kT5 := bT6.cell 5 rfl
            have kT6 := bT6.cell 6 rfl
            have kT7 := bT6.cell 7 rfl
            have kT8 := bT6.cell 8 rfl
            have kT9 := bT6.cell 9 rfl
            have lT := bT6.lt
            have kX0 := bX6.cell 0 rfl
            have kX1 := bX6.cell 1 rfl
            have lX := bX6.lt
            have kS0 := bS6.cell 0 rfl
            have kS1 := bS6.cell 1 rfl
            have lS := bS6.lt
            go_wp2_with fail
            clear kT0 kT1 kT2 kT3 kT4 kT5 kT6 kT7 kT8 kT9 lT kX0 kX1 lX kS0 kS1 lS
            have hmo : Try.prog.follows .mixedOrders = true := by kernel_rfl
            have hbr : b < w6.heap.size := by have := hB6.size; omega
            have y1w : w6.cell? ⟨b, off + 1, none⟩ = some (.slice AW ws.length cW) := (hB6.cell (p := ⟨b, off + 1, none⟩) hbt).trans y1
            obtain ⟨NN, hNN⟩ : ∃ N, N = w6.heap.size := ⟨_, rfl⟩
            have q0 : Below NN w6.drew w6.drew := Below.refl _ _
            have KC : Hid (∀ V', Below NN w6.drew V' → (V'.cell? ⟨w.heap.size, 0, none⟩ = some (.int .i64 full) ∧ V'.cell? ⟨w.heap.size, 1, none⟩ = some (.int .i64 read) ∧ V'.cell? ⟨w.heap.size, 2, none⟩ = some (.int .i64 slip) ∧ V'.cell? ⟨w.heap.size, 3, none⟩ = some (.int .i64 skew) ∧ V'.cell? ⟨w.heap.size, 4, none⟩ = some (.int .i64 circ) ∧ V'.cell? ⟨w.heap.size, 5, none⟩ = some (.int .i64 glo) ∧ V'.cell? ⟨w.heap.size, 6, none⟩ = some (.int .i64 ghi) ∧ V'.cell? ⟨w.heap.size, 7, none⟩ = some (.int .i64 wrn) ∧ V'.cell? ⟨w.heap.size, 8, none⟩ = some (.int .i64 gain) ∧ V'.cell? ⟨w.heap.size, 9, none⟩ = some (.slice (some ⟨b, off, none⟩) ts.length c) ∧ V'.cell? ⟨b, off + 1, none⟩ = some (.slice AW ws.length cW))) := fun V' h =>
              have hk : ∀ (bb o : Nat) (u : Value), bb < w6.heap.size → w6.cell? ⟨bb, o, none⟩ = some u → V'.cell? ⟨bb, o, none⟩ = some u := fun bb o u h1 h2 => (h.cell (p := ⟨bb, o, none⟩) (by rw [hNN]; exact h1)).trans h2
              ⟨hk _ _ _ bT6.lt (bT6.cell 0 rfl), hk _ _ _ bT6.lt (bT6.cell 1 rfl), hk _ _ _ bT6.lt (bT6.cell 2 rfl), hk _ _ _ bT6.lt (bT6.cell 3 rfl), hk _ _ _ bT6.lt (bT6.cell 4 rfl), hk _ _ _ bT6.lt (bT6.cell 5 rfl), hk _ _ _ bT6.lt (bT6.cell 6 rfl), hk _ _ _ bT6.lt (bT6.cell 7 rfl), hk _ _ _ bT6.lt (bT6.cell 8 rfl), hk _ _ _ bT6.lt (bT6.cell 9 rfl), hk _ _ _ hbr y1w⟩
            refine (wpIn_wide (n := 4)).1 ?_
            refine wpIn_mono (Q := noPanic _) ?_ noPanic_le
            refine wpIn_region_held (fun V' => Below NN w6.drew V') 30 hmo ?_
            refine wpHeldIn_take (i := 0) (v := ?_) (plain_of (by kernel_rfl)) rfl (by kernel_rfl) (fun _ _ _ h => h) (yieldsSoIn_of (by kernel_rfl) ?_ (fun _ => rfl)) q0 ?_; rotate_left; focus (intro wq hw; clear hw; go_simp; try (with_reducible rfl))
            refine wpHeldIn_take (i := 1) (v := ?_) (plain_of (by kernel_rfl)) rfl (by kernel_rfl) (fun _ _ _ h => h) (yieldsSoIn_of (by kernel_rfl) ?_ (fun _ => rfl)) q0 ?_; rotate_left; focus (intro wq hw; have kq := KC.out wq hw; clear hw; go_simp; try (with_reducible rfl))
            refine wpHeldIn_take (i := 2) (v := ?_) (plain_of (by kernel_rfl)) rfl (by kernel_rfl) (fun _ _ _ h => h) (yieldsSoIn_of (by kernel_rfl) ?_ (fun _ => rfl)) q0 ?_; rotate_left; focus (intro wq hw; clear hw; go_simp; try (with_reducible rfl))
            refine wpHeldIn_take (i := 3) (v := ?_) (plain_of (by kernel_rfl)) rfl (by kernel_rfl) (fun _ _ _ h => h) (yieldsSoIn_of (by kernel_rfl) ?_ (fun _ => rfl)) q0 ?_; rotate_left; focus (intro wq hw; have kq := KC.out wq hw; clear hw; go_simp; try (with_reducible rfl))
            refine wpHeldIn_take (i := 4) (v := ?_) (plain_of (by kernel_rfl)) rfl (by kernel_rfl) (fun _ _ _ h => h) (yieldsSoIn_of (by kernel_rfl) ?_ (fun _ => rfl)) q0 ?_; rotate_left; focus (intro wq hw; clear hw; go_simp; try (with_reducible rfl))
            refine wpHeldIn_take (i := 5) (v := ?_) (plain_of (by kernel_rfl)) rfl (by kernel_rfl) (fun _ _ _ h => h) (yieldsSoIn_of (by kernel_rfl) ?_ (fun _ => rfl)) q0 ?_; rotate_left; focus (intro wq hw; have kq := KC.out wq hw; clear hw; go_simp; try (with_reducible rfl))
            refine wpHeldIn_take (i := 6) (v := ?_) (plain_of (by kernel_rfl)) rfl (by kernel_rfl) (fun _ _ _ h => h) (yieldsSoIn_of (by kernel_rfl) ?_ (fun _ => rfl)) q0 ?_; rotate_left; focus (intro wq hw; clear hw; go_simp; try (with_reducible rfl))
            refine wpHeldIn_take (i := 7) (v := ?_) (plain_of (by kernel_rfl)) rfl (by kernel_rfl) (fun _ _ _ h => h) (yieldsSoIn_of (by kernel_rfl) ?_ (fun _ => rfl)) q0 ?_; rotate_left; focus (intro wq hw; clear hw; go_simp; try (with_reducible rfl))
            refine wpHeldIn_take (i := 8) (v := ?_) (plain_of (by kernel_rfl)) rfl (by kernel_rfl) (fun _ _ _ h => h) (yieldsSoIn_of (by kernel_rfl) ?_ (fun _ => rfl)) q0 ?_; rotate_left; focus (intro wq hw; have kq := KC.out wq hw; clear hw; go_simp; try (with_reducible rfl))
            refine wpHeldIn_take (i := 9) (v := ?_) (plain_of (by kernel_rfl)) rfl (by kernel_rfl) (fun _ _ _ h => h) (yieldsSoIn_of (by kernel_rfl) ?_ (fun _ => rfl)) q0 ?_; rotate_left; focus (intro wq hw; clear hw; go_simp; try (with_reducible rfl))
            refine wpHeldIn_two (i := 10) (j := 12) (by kernel_rfl) (by kernel_rfl) (by kernel_rfl) rfl rfl (by kernel_rfl) (by kernel_rfl) (fun K2 hK2 => ?_) (fun K7 hK7 => ?_)
            · go_simp
              have r1 : Below NN w6.drew (w6.alloc (.cells #[.int .i64 0, .slice AW ws.length cW] 31)).drew := (show Below NN w6.drew (w6.drew.alloc (.cells #[.int .i64 0, .slice AW ws.length cW] 31)) from q0.alloc (by rw [hNN]; exact Nat.le_refl _) _)
              refine hK2 _ _ r1 ?_
              refine wpHeldIn_take (i := 11) (v := ?_) (plain_of (by kernel_rfl)) rfl (by kernel_rfl) (fun _ _ _ h => h) (yieldsSoIn_of (by kernel_rfl) ?_ (fun _ => rfl)) r1 ?_; rotate_left; focus (intro wq hw; clear hw; go_simp; try (with_reducible rfl))
              refine wpHeldIn_one (i := 12) (by kernel_rfl) (by kernel_rfl) rfl (by kernel_rfl) (fun K3 hK3 => ?_)
              go_simp
              have r2 : Below NN w6.drew ((w6.alloc (.cells #[.int .i64 0, .slice AW ws.length cW] 31)).alloc (.cells #[.int .i64 0, .int .i64 0, .int .i64 0, .int .i64 0, .int .i64 0, .int .i64 0, .int .i64 0, .int .i64 0, .int .i64 0, .slice none 0 0] 28)).drew := (show Below NN w6.drew ((w6.drew.alloc (.cells #[.int .i64 0, .slice AW ws.length cW] 31)).alloc (.cells #[.int .i64 0, .int .i64 0, .int .i64 0, .int .i64 0, .int .i64 0, .int .i64 0, .int .i64 0, .int .i64 0, .int .i64 0, .slice none 0 0] 28)) from (show Below NN w6.drew (w6.drew.alloc (.cells #[.int .i64 0, .slice AW ws.length cW] 31)) from r1).alloc (by rw [hNN]; exact r1.size) _)
              refine hK3 _ _ r2 ?_
              have bF1 : BoxS ((w6.alloc (.cells #[.int .i64 0, .slice AW ws.length cW] 31)).alloc (.cells #[.int .i64 0, .int .i64 0, .int .i64 0, .int .i64 0, .int .i64 0, .int .i64 0, .int .i64 0, .int .i64 0, .int .i64 0, .slice none 0 0] 28)).drew w6.drew.heap.size _ _ := ((BoxS.new w6.drew 31 #[.int .i64 0, .slice AW ws.length cW]).alloc (.cells #[.int .i64 0, .int .i64 0, .int .i64 0, .int .i64 0, .int .i64 0, .int .i64 0, .int .i64 0, .int .i64 0, .int .i64 0, .slice none 0 0] 28))
              have bF2 : BoxS ((w6.alloc (.cells #[.int .i64 0, .slice AW ws.length cW] 31)).alloc (.cells #[.int .i64 0, .int .i64 0, .int .i64 0, .int .i64 0, .int .i64 0, .int .i64 0, .int .i64 0, .int .i64 0, .int .i64 0, .slice none 0 0] 28)).drew (w6.drew.alloc (.cells #[.int .i64 0, .slice AW ws.length cW] 31)).heap.size _ _ := (BoxS.new (w6.drew.alloc (.cells #[.int .i64 0, .slice AW ws.length cW] 31)) 28 #[.int .i64 0, .int .i64 0, .int .i64 0, .int .i64 0, .int .i64 0, .int .i64 0, .int .i64 0, .int .i64 0, .int .i64 0, .slice none 0 0])
              have hzd : w6.drew.heap.size = w6.heap.size := rfl
              simp only [World.size_alloc, hzd] at bF1 bF2
              clear hzd
              have bTB := bF1
              have bO := bF2
              clear bF1 bF2
              obtain ⟨BB, hBB⟩ : ∃ B, B = w6.heap.size := ⟨_, rfl⟩
              obtain ⟨BO, hBO⟩ : ∃ B, B = w6.heap.size + 1 := ⟨_, rfl⟩
              have hBne : BB ≠ BO := by omega
              have hBBge : NN ≤ BB := by omega
              have hBOge : NN ≤ BO := by omega
              try rw [← hBO]
              try rw [← hBO] at bTB
              try rw [← hBO] at bO
              try rw [← hBB]
              try rw [← hBB] at bTB
              try rw [← hBB] at bO
              clear hBB hBO r1
              generalize World.drew (World.alloc (World.alloc w6 _) _) = wz at *
              have z0 := bO.cell 0 rfl
              have f0 := bO.frozen 0
              have z1 := bO.cell 1 rfl
              have f1 := bO.frozen 1
              have z2 := bO.cell 2 rfl
              have f2 := bO.frozen 2
              have z3 := bO.cell 3 rfl
              have f3 := bO.frozen 3
              have z4 := bO.cell 4 rfl
              have f4 := bO.frozen 4
              have z5 := bO.cell 5 rfl
              have f5 := bO.frozen 5
              have z6 := bO.cell 6 rfl
              have f6 := bO.frozen 6
              have z7 := bO.cell 7 rfl
              have f7 := bO.frozen 7
              have z8 := bO.cell 8 rfl
              have f8 := bO.frozen 8
              have z9 := bO.cell 9 rfl
              have f9 := bO.frozen 9
              refine wpHeldIn_one (i := 13) (by kernel_rfl) (by kernel_rfl) rfl (by kernel_rfl) (fun K4 hK4 => ?_)
              go_simp
              have bO7 := ten_put bO (.int .i64 full) (.int .i64 read) (.int .i64 slip) (.int .i64 skew) (.int .i64 circ) (.int .i64 glo) (.int .i64 ghi) (.int .i64 wrn) (.int .i64 gain) (.slice (some ⟨BB, 0, none⟩) 1 1)
              have bB7 := ten_other bTB hBne (.int .i64 full) (.int .i64 read) (.int .i64 slip) (.int .i64 skew) (.int .i64 circ) (.int .i64 glo) (.int .i64 ghi) (.int .i64 wrn) (.int .i64 gain) (.slice (some ⟨BB, 0, none⟩) 1 1)
              have r3 := ten_below r2 hBOge (.int .i64 full) (.int .i64 read) (.int .i64 slip) (.int .i64 skew) (.int .i64 circ) (.int .i64 glo) (.int .i64 ghi) (.int .i64 wrn) (.int .i64 gain) (.slice (some ⟨BB, 0, none⟩) 1 1)
              refine hK4 _ _ r3 ?_
              clear z0 f0 z1 f1 z2 f2 z3 f3 z4 f4 z5 f5 z6 f6 z7 f7 z8 f8 z9 f9 bTB bO r2
              generalize World.setCell (World.setCell (World.setCell (World.setCell (World.setCell (World.setCell (World.setCell (World.setCell (World.setCell (World.setCell wz _ _) _ _) _ _) _ _) _ _) _ _) _ _) _ _) _ _) _ _ = w7 at *
              refine wpHeldIn_done (by kernel_rfl) ?_ _
              go_simp
              refine noPanic_of ?_
              have bT7 : BoxS w7 (w.heap.size) _ _ := (r3.block (w.heap.size) (by rw [hNN]; exact bT6.lt)).trans bT6.drew
              have bX7 : BoxS w7 (w.heap.size + 1) _ _ := (r3.block (w.heap.size + 1) (by rw [hNN]; exact bX6.lt)).trans bX6.drew
              have bS7 : BoxS w7 (BS) _ _ := (r3.block (BS) (by rw [hNN]; exact bS6.lt)).trans bS6.drew
              have hB7 : Below w.heap.size w w7 := (hB6.drew).trans (r3.mono (by rw [hNN]; exact hB6.size))
              clear bT6 bX6 bS6 KC q0 y1w r3 hBBge hBOge hNN
              have kT0 := bT7.cell 0 rfl
              have kT1 := bT7.cell 1 rfl
              have kT2 := bT7.cell 2 rfl
              have kT3 := bT7.cell 3 rfl
              have kT4 := bT7.cell 4 rfl
              have kT5 := bT7.cell 5 rfl
              have kT6 := bT7.cell 6 rfl
              have kT7 := bT7.cell 7 rfl
              have kT8 := bT7.cell 8 rfl
              have kT9 := bT7.cell 9 rfl
              have lT := bT7.lt
              have kO0 := bO7.cell 0 rfl
              have kO1 := bO7.cell 1 rfl
              have kO2 := bO7.cell 2 rfl
              have kO3 := bO7.cell 3 rfl
              have kO4 := bO7.cell 4 rfl
              have kO5 := bO7.cell 5 rfl
              have kO6 := bO7.cell 6 rfl
              have kO7 := bO7.cell 7 rfl
              have kO8 := bO7.cell 8 rfl
              have kO9 := bO7.cell 9 rfl
              have lO := bO7.lt
              go_wp2_with fail
              clear kT0 kT1 kT2 kT3 kT4 kT5 kT6 kT7 kT8 kT9 lT kO0 kO1 kO2 kO3 kO4 kO5 kO6 kO7 kO8 kO9 lO
              have bT8 := (bT7.alloc (.cells #[.int .i64 full, .int .i64 read, .int .i64 slip, .int .i64 skew, .int .i64 circ, .int .i64 0, .int .i64 0, .int .i64 wrn] 25))
              have bX8 := (bX7.alloc (.cells #[.int .i64 full, .int .i64 read, .int .i64 slip, .int .i64 skew, .int .i64 circ, .int .i64 0, .int .i64 0, .int .i64 wrn] 25))
              have bS8 := (bS7.alloc (.cells #[.int .i64 full, .int .i64 read, .int .i64 slip, .int .i64 skew, .int .i64 circ, .int .i64 0, .int .i64 0, .int .i64 wrn] 25))
              have bO8 := (bO7.alloc (.cells #[.int .i64 full, .int .i64 read, .int .i64 slip, .int .i64 skew, .int .i64 circ, .int .i64 0, .int .i64 0, .int .i64 wrn] 25))
              have bB8 := (bB7.alloc (.cells #[.int .i64 full, .int .i64 read, .int .i64 slip, .int .i64 skew, .int .i64 circ, .int .i64 0, .int .i64 0, .int .i64 wrn] 25))
              have bD8 := (BoxS.new w7 25 #[.int .i64 full, .int .i64 read, .int .i64 slip, .int .i64 skew, .int .i64 circ, .int .i64 0, .int .i64 0, .int .i64 wrn])
              have hB8 : Below w.heap.size w (World.alloc w7 (.cells #[.int .i64 full, .int .i64 read, .int .i64 slip, .int .i64 skew, .int .i64 circ, .int .i64 0, .int .i64 0, .int .i64 wrn] 25)) := (hB7.alloc hB7.size _)
              obtain ⟨BD, hBD⟩ : ∃ B, B = w7.heap.size := ⟨_, rfl⟩
              clear bT7 bX7 bS7 bO7 bB7 hB7
              generalize World.alloc w7 _ = w8 at *
              rw [← hBD]
              rw [← hBD] at bD8
              clear hBD
              have hbr2 : b < w8.heap.size := by have := hB8.size; omega
              have y1w : w8.cell? ⟨b, off + 1, none⟩ = some (.slice AW ws.length cW) := (hB8.cell (p := ⟨b, off + 1, none⟩) hbt).trans y1
              have q0 : Below w8.heap.size w8.drew w8.drew := Below.refl _ _
              have KC : Hid (∀ V', Below w8.heap.size w8.drew V' → (V'.cell? ⟨w.heap.size, 9, none⟩ = some (.slice (some ⟨b, off, none⟩) ts.length c) ∧ V'.cell? ⟨b, off + 1, none⟩ = some (.slice AW ws.length cW) ∧ V'.cell? ⟨BD, 0, none⟩ = some (.int .i64 full) ∧ V'.cell? ⟨BD, 1, none⟩ = some (.int .i64 read) ∧ V'.cell? ⟨BD, 2, none⟩ = some (.int .i64 slip) ∧ V'.cell? ⟨BD, 3, none⟩ = some (.int .i64 skew) ∧ V'.cell? ⟨BD, 4, none⟩ = some (.int .i64 circ) ∧ V'.cell? ⟨BD, 5, none⟩ = some (.int .i64 0) ∧ V'.cell? ⟨BD, 6, none⟩ = some (.int .i64 0) ∧ V'.cell? ⟨BD, 7, none⟩ = some (.int .i64 wrn))) := fun V' h =>
                have hk : ∀ (bb o : Nat) (u : Value), bb < w8.heap.size → w8.cell? ⟨bb, o, none⟩ = some u → V'.cell? ⟨bb, o, none⟩ = some u := fun bb o u h1 h2 => (h.cell (p := ⟨bb, o, none⟩) h1).trans h2
                ⟨hk _ _ _ bT8.lt (bT8.cell 9 rfl), hk _ _ _ hbr2 y1w, hk _ _ _ bD8.lt (bD8.cell 0 rfl), hk _ _ _ bD8.lt (bD8.cell 1 rfl), hk _ _ _ bD8.lt (bD8.cell 2 rfl), hk _ _ _ bD8.lt (bD8.cell 3 rfl), hk _ _ _ bD8.lt (bD8.cell 4 rfl), hk _ _ _ bD8.lt (bD8.cell 5 rfl), hk _ _ _ bD8.lt (bD8.cell 6 rfl), hk _ _ _ bD8.lt (bD8.cell 7 rfl)⟩
              refine (wpIn_wide (n := 4)).1 ?_
              refine wpIn_mono (Q := noPanic _) ?_ noPanic_le
              refine wpIn_region_held (fun V' => Below w8.heap.size w8.drew V') 30 hmo ?_
              refine wpHeldIn_take (i := 0) (v := ?_) (plain_of (by kernel_rfl)) rfl (by kernel_rfl) (fun _ _ _ h => h) (yieldsSoIn_of (by kernel_rfl) ?_ (fun _ => rfl)) q0 ?_; rotate_left; focus (intro wq hw; have kq := KC.out wq hw; clear hw; go_simp; try (with_reducible rfl))
              refine wpHeldIn_take (i := 1) (v := ?_) (plain_of (by kernel_rfl)) rfl (by kernel_rfl) (fun _ _ _ h => h) (yieldsSoIn_of (by kernel_rfl) ?_ (fun _ => rfl)) q0 ?_; rotate_left; focus (intro wq hw; clear hw; go_simp; try (with_reducible rfl))
              refine wpHeldIn_take (i := 2) (v := ?_) (plain_of (by kernel_rfl)) rfl (by kernel_rfl) (fun _ _ _ h => h) (yieldsSoIn_of (by kernel_rfl) ?_ (fun _ => rfl)) q0 ?_; rotate_left; focus (intro wq hw; have kq := KC.out wq hw; clear hw; go_simp; try (with_reducible rfl))
              refine wpHeldIn_take (i := 3) (v := ?_) (plain_of (by kernel_rfl)) rfl (by kernel_rfl) (fun _ _ _ h => h) (yieldsSoIn_of (by kernel_rfl) ?_ (fun _ => rfl)) q0 ?_; rotate_left; focus (intro wq hw; clear hw; go_simp; try (with_reducible rfl))
              refine wpHeldIn_take (i := 4) (v := ?_) (plain_of (by kernel_rfl)) rfl (by kernel_rfl) (fun _ _ _ h => h) (yieldsSoIn_of (by kernel_rfl) ?_ (fun _ => rfl)) q0 ?_; rotate_left; focus (intro wq hw; clear hw; go_simp; try (with_reducible rfl))
              refine wpHeldIn_take (i := 5) (v := ?_) (plain_of (by kernel_rfl)) rfl (by kernel_rfl) (fun _ _ _ h => h) (yieldsSoIn_of (by kernel_rfl) ?_ (fun _ => rfl)) q0 ?_; rotate_left; focus (intro wq hw; have kq := KC.out wq hw; clear hw; go_simp; try (with_reducible rfl))
              refine wpHeldIn_one (i := 6) (by kernel_rfl) (by kernel_rfl) rfl (by kernel_rfl) (fun K5 hK5 => ?_)
              go_simp
              refine ⟨trivial, (callsIn_wide.2 (HWS.out AW cW _ ((HWK0.out.keep (hB8.drew)).wider (by have := hB8.size; show w.heap.size ≤ w8.heap.size; exact this)))).mono ?_⟩
              rintro e w9 ⟨vk, rfl, hvk, hbk⟩
              have q1 : Below w8.heap.size w8.drew w9 := hbk
              have HVK9 := Lib.hid hvk.out
              clear hvk
              obtain ⟨AQ, cQ, rfl⟩ := ints_form HVK9.out
              refine hK5 _ _ q1 ?_
              refine wpHeldIn_take (i := 7) (v := ?_) (plain_of (by kernel_rfl)) rfl (by kernel_rfl) (fun _ _ _ h => h) (yieldsSoIn_of (by kernel_rfl) ?_ (fun _ => rfl)) q1 ?_; rotate_left; focus (intro wq hw; clear hw; go_simp; try (with_reducible rfl))
              refine wpHeldIn_take (i := 8) (v := ?_) (plain_of (by kernel_rfl)) rfl (by kernel_rfl) (fun _ _ _ h => h) (yieldsSoIn_of (by kernel_rfl) ?_ (fun _ => rfl)) q1 ?_; rotate_left; focus (intro wq hw; clear hw; go_simp; try (with_reducible rfl))
              refine wpHeldIn_take (i := 9) (v := ?_) (plain_of (by kernel_rfl)) rfl (by kernel_rfl) (fun _ _ _ h => h) (yieldsSoIn_of (by kernel_rfl) ?_ (fun _ => rfl)) q1 ?_; rotate_left; focus (intro wq hw; clear hw; go_simp; try (with_reducible rfl))
              refine wpHeldIn_take (i := 10) (v := ?_) (plain_of (by kernel_rfl)) rfl (by kernel_rfl) (fun _ _ _ h => h) (yieldsSoIn_of (by kernel_rfl) ?_ (fun _ => rfl)) q1 ?_; rotate_left; focus (intro wq hw; clear hw; go_simp; try (with_reducible rfl))
              refine wpHeldIn_take (i := 11) (v := ?_) (plain_of (by kernel_rfl)) rfl (by kernel_rfl) (fun _ _ _ h => h) (yieldsSoIn_of (by kernel_rfl) ?_ (fun _ => rfl)) q1 ?_; rotate_left; focus (intro wq hw; clear hw; go_simp; try (with_reducible rfl))
              refine wpHeldIn_done (by kernel_rfl) ?_ _
              go_simp
              refine noPanic_of ?_
              have bT9 : BoxS w9 (w.heap.size) _ _ := (q1.block (w.heap.size) bT8.lt).trans bT8.drew
              have bX9 : BoxS w9 (w.heap.size + 1) _ _ := (q1.block (w.heap.size + 1) bX8.lt).trans bX8.drew
              have bS9 : BoxS w9 (BS) _ _ := (q1.block (BS) bS8.lt).trans bS8.drew
              have bO9 : BoxS w9 (BO) _ _ := (q1.block (BO) bO8.lt).trans bO8.drew
              have bB9 : BoxS w9 (BB) _ _ := (q1.block (BB) bB8.lt).trans bB8.drew
              have bD9 : BoxS w9 (BD) _ _ := (q1.block (BD) bD8.lt).trans bD8.drew
              have hB9 : Below w.heap.size w w9 := (hB8.drew).trans (q1.mono hB8.size)
              clear bT8 bX8 bS8 bO8 bB8 bD8 hB8 KC q0 q1 hbk y1w
              have kO0 := bO9.cell 0 rfl
              have kO1 := bO9.cell 1 rfl
              have kO2 := bO9.cell 2 rfl
              have kO3 := bO9.cell 3 rfl
              have kO4 := bO9.cell 4 rfl
              have kO5 := bO9.cell 5 rfl
              have kO6 := bO9.cell 6 rfl
              have kO7 := bO9.cell 7 rfl
              have kO8 := bO9.cell 8 rfl
              have kO9 := bO9.cell 9 rfl
              have lO := bO9.lt
              go_wp2_with fail
              clear kO0 kO1 kO2 kO3 kO4 kO5 kO6 kO7 kO8 kO9 lO
              have hTS : Tsts w9 w9.heap.size (some ⟨BB, 0, none⟩) [(0, ws)] := tsts_one bB9 ((HWK0.out.keep hB9).wider hB9.size) hwl
              refine (HS2.out _ _ _ hTS).mono ?_
              rintro e w10 ⟨vm, rfl, hvm, hb10⟩
              have bT10 := bT9.below hb10
              have bX10 := bX9.below hb10
              have bS10 := bS9.below hb10
              have bO10 := bO9.below hb10
              have bB10 := bB9.below hb10
              have bD10 := bD9.below hb10
              have hB10 := hB9.trans (hb10.mono hB9.size)
              clear bT9 bX9 bS9 bO9 bB9 bD9 hB9
              have HVK10 := Lib.hid ((HVK9.out.keep hb10).more hb10.size)
              have HVM10 := Lib.hid hvm.out
              clear hvm hTS HVK9
              obtain ⟨AM, cM, rfl⟩ := ints_form HVM10.out
              have kO0 := bO10.cell 0 rfl
              have kO1 := bO10.cell 1 rfl
              have kO2 := bO10.cell 2 rfl
              have kO3 := bO10.cell 3 rfl
              have kO4 := bO10.cell 4 rfl
              have kO5 := bO10.cell 5 rfl
              have kO6 := bO10.cell 6 rfl
              have kO7 := bO10.cell 7 rfl
              have kO8 := bO10.cell 8 rfl
              have kO9 := bO10.cell 9 rfl
              have lO := bO10.lt
              go_wp2_with fail
              clear kO0 kO1 kO2 kO3 kO4 kO5 kO6 kO7 kO8 kO9 lO
              have hTS : Tsts w10 w10.heap.size (some ⟨BB, 0, none⟩) [(0, ws)] := tsts_one bB10 ((HWK0.out.keep hB10).wider hB10.size) hwl
              refine (HM2.out _ _ _ hTS).mono ?_
              rintro e w11 ⟨rfl, hb11⟩
              have bT11 := bT10.below hb11
              have bX11 := bX10.below hb11
              have bS11 := bS10.below hb11
              have bO11 := bO10.below hb11
              have bB11 := bB10.below hb11
              have bD11 := bD10.below hb11
              have hB11 := hB10.trans (hb11.mono hB10.size)
              clear bT10 bX10 bS10 bO10 bB10 bD10 hB10
              have HVK11 := Lib.hid ((HVK10.out.keep hb11).more hb11.size)
              have HVM11 := Lib.hid ((HVM10.out.keep hb11).more hb11.size)
              clear hTS HVK10 HVM10
              have kT0 := bT11.cell 0 rfl
              have kT1 := bT11.cell 1 rfl
              have kT2 := bT11.cell 2 rfl
              have kT3 := bT11.cell 3 rfl
              have kT4 := bT11.cell 4 rfl
              have kT5 := bT11.cell 5 rfl
              have kT6 := bT11.cell 6 rfl
              have kT7 := bT11.cell 7 rfl
              have kT8 := bT11.cell 8 rfl
              have kT9 := bT11.cell 9 rfl
              have lT := bT11.lt
              go_wp2_with fail
              clear kT0 kT1 kT2 kT3 kT4 kT5 kT6 kT7 kT8 kT9 lT
              refine (HKG.out _).mono ?_
              rintro e wq ⟨rfl, hq⟩
              have hq := hq.symm
              subst hq
              have kT0 := bT11.cell 0 rfl
              have kT1 := bT11.cell 1 rfl
              have kT2 := bT11.cell 2 rfl
              have kT3 := bT11.cell 3 rfl
              have kT4 := bT11.cell 4 rfl
              have kT5 := bT11.cell 5 rfl
              have kT6 := bT11.cell 6 rfl
              have kT7 := bT11.cell 7 rfl
              have kT8 := bT11.cell 8 rfl
              have kT9 := bT11.cell 9 rfl
              have lT := bT11.lt
              go_wp2_with fail
              clear kT0 kT1 kT2 kT3 kT4 kT5 kT6 kT7 kT8 kT9 lT
              refine (HSI.out _ _ _ HVK11.out HVM11.out).mono ?_
              rintro e w12 ⟨rfl, hb12⟩
              have bT12 := bT11.below hb12
              have bX12 := bX11.below hb12
              have bS12 := bS11.below hb12
              have bO12 := bO11.below hb12
              have bB12 := bB11.below hb12
              have bD12 := bD11.below hb12
              have hB12 := hB11.trans (hb12.mono hB11.size)
              clear bT11 bX11 bS11 bO11 bB11 bD11 hB11
              have kT0 := bT12.cell 0 rfl
              have kT1 := bT12.cell 1 rfl
              have kT2 := bT12.cell 2 rfl
              have kT3 := bT12.cell 3 rfl
              have kT4 := bT12.cell 4 rfl
              have kT5 := bT12.cell 5 rfl
              have kT6 := bT12.cell 6 rfl
              have kT7 := bT12.cell 7 rfl
              have kT8 := bT12.cell 8 rfl
              have kT9 := bT12.cell 9 rfl
              have lT := bT12.lt
              go_wp2_with fail
              clear kT0 kT1 kT2 kT3 kT4 kT5 kT6 kT7 kT8 kT9 lT
              refine (HWK.out _).mono ?_
              rintro e w13 ⟨rfl, hb13⟩
              have bT13 := bT12.below hb13
              have bX13 := bX12.below hb13
              have bS13 := bS12.below hb13
              have bO13 := bO12.below hb13
              have bB13 := bB12.below hb13
              have bD13 := bD12.below hb13
              have hB13 := hB12.trans (hb13.mono hB12.size)
              clear bT12 bX12 bS12 bO12 bB12 bD12 hB12
              go_wp2_with fail
              go_returns
              exact ⟨rfl, hB13⟩
            · go_simp
              have r1 : Below NN w6.drew (w6.alloc (.cells #[.int .i64 0, .int .i64 0, .int .i64 0, .int .i64 0, .int .i64 0, .int .i64 0, .int .i64 0, .int .i64 0, .int .i64 0, .slice none 0 0] 28)).drew := (show Below NN w6.drew (w6.drew.alloc (.cells #[.int .i64 0, .int .i64 0, .int .i64 0, .int .i64 0, .int .i64 0, .int .i64 0, .int .i64 0, .int .i64 0, .int .i64 0, .slice none 0 0] 28)) from q0.alloc (by rw [hNN]; exact Nat.le_refl _) _)
              refine hK7 _ _ r1 ?_
              refine wpHeldIn_one (i := 10) (by kernel_rfl) (by kernel_rfl) rfl (by kernel_rfl) (fun K3 hK3 => ?_)
              go_simp
              have r2 : Below NN w6.drew ((w6.alloc (.cells #[.int .i64 0, .int .i64 0, .int .i64 0, .int .i64 0, .int .i64 0, .int .i64 0, .int .i64 0, .int .i64 0, .int .i64 0, .slice none 0 0] 28)).alloc (.cells #[.int .i64 0, .slice AW ws.length cW] 31)).drew := (show Below NN w6.drew ((w6.drew.alloc (.cells #[.int .i64 0, .int .i64 0, .int .i64 0, .int .i64 0, .int .i64 0, .int .i64 0, .int .i64 0, .int .i64 0, .int .i64 0, .slice none 0 0] 28)).alloc (.cells #[.int .i64 0, .slice AW ws.length cW] 31)) from (show Below NN w6.drew (w6.drew.alloc (.cells #[.int .i64 0, .int .i64 0, .int .i64 0, .int .i64 0, .int .i64 0, .int .i64 0, .int .i64 0, .int .i64 0, .int .i64 0, .slice none 0 0] 28)) from r1).alloc (by rw [hNN]; exact r1.size) _)
              refine hK3 _ _ r2 ?_
              have bF1 : BoxS ((w6.alloc (.cells #[.int .i64 0, .int .i64 0, .int .i64 0, .int .i64 0, .int .i64 0, .int .i64 0, .int .i64 0, .int .i64 0, .int .i64 0, .slice none 0 0] 28)).alloc (.cells #[.int .i64 0, .slice AW ws.length cW] 31)).drew w6.drew.heap.size _ _ := ((BoxS.new w6.drew 28 #[.int .i64 0, .int .i64 0, .int .i64 0, .int .i64 0, .int .i64 0, .int .i64 0, .int .i64 0, .int .i64 0, .int .i64 0, .slice none 0 0]).alloc (.cells #[.int .i64 0, .slice AW ws.length cW] 31))
              have bF2 : BoxS ((w6.alloc (.cells #[.int .i64 0, .int .i64 0, .int .i64 0, .int .i64 0, .int .i64 0, .int .i64 0, .int .i64 0, .int .i64 0, .int .i64 0, .slice none 0 0] 28)).alloc (.cells #[.int .i64 0, .slice AW ws.length cW] 31)).drew (w6.drew.alloc (.cells #[.int .i64 0, .int .i64 0, .int .i64 0, .int .i64 0, .int .i64 0, .int .i64 0, .int .i64 0, .int .i64 0, .int .i64 0, .slice none 0 0] 28)).heap.size _ _ := (BoxS.new (w6.drew.alloc (.cells #[.int .i64 0, .int .i64 0, .int .i64 0, .int .i64 0, .int .i64 0, .int .i64 0, .int .i64 0, .int .i64 0, .int .i64 0, .slice none 0 0] 28)) 31 #[.int .i64 0, .slice AW ws.length cW])
              have hzd : w6.drew.heap.size = w6.heap.size := rfl
              simp only [World.size_alloc, hzd] at bF1 bF2
              clear hzd
              have bTB := bF2
              have bO := bF1
              clear bF1 bF2
              obtain ⟨BB, hBB⟩ : ∃ B, B = w6.heap.size + 1 := ⟨_, rfl⟩
              obtain ⟨BO, hBO⟩ : ∃ B, B = w6.heap.size := ⟨_, rfl⟩
              have hBne : BB ≠ BO := by omega
              have hBBge : NN ≤ BB := by omega
              have hBOge : NN ≤ BO := by omega
              try rw [← hBB]
              try rw [← hBB] at bTB
              try rw [← hBB] at bO
              try rw [← hBO]
              try rw [← hBO] at bTB
              try rw [← hBO] at bO
              clear hBB hBO r1
              generalize World.drew (World.alloc (World.alloc w6 _) _) = wz at *
              refine wpHeldIn_take (i := 11) (v := ?_) (plain_of (by kernel_rfl)) rfl (by kernel_rfl) (fun _ _ _ h => h) (yieldsSoIn_of (by kernel_rfl) ?_ (fun _ => rfl)) r2 ?_; rotate_left; focus (intro wq hw; clear hw; go_simp; try (with_reducible rfl))
              have z0 := bO.cell 0 rfl
              have f0 := bO.frozen 0
              have z1 := bO.cell 1 rfl
              have f1 := bO.frozen 1
              have z2 := bO.cell 2 rfl
              have f2 := bO.frozen 2
              have z3 := bO.cell 3 rfl
              have f3 := bO.frozen 3
              have z4 := bO.cell 4 rfl
              have f4 := bO.frozen 4
              have z5 := bO.cell 5 rfl
              have f5 := bO.frozen 5
              have z6 := bO.cell 6 rfl
              have f6 := bO.frozen 6
              have z7 := bO.cell 7 rfl
              have f7 := bO.frozen 7
              have z8 := bO.cell 8 rfl
              have f8 := bO.frozen 8
              have z9 := bO.cell 9 rfl
              have f9 := bO.frozen 9
              refine wpHeldIn_one (i := 13) (by kernel_rfl) (by kernel_rfl) rfl (by kernel_rfl) (fun K4 hK4 => ?_)
              go_simp
              have bO7 := ten_put bO (.int .i64 full) (.int .i64 read) (.int .i64 slip) (.int .i64 skew) (.int .i64 circ) (.int .i64 glo) (.int .i64 ghi) (.int .i64 wrn) (.int .i64 gain) (.slice (some ⟨BB, 0, none⟩) 1 1)
              have bB7 := ten_other bTB hBne (.int .i64 full) (.int .i64 read) (.int .i64 slip) (.int .i64 skew) (.int .i64 circ) (.int .i64 glo) (.int .i64 ghi) (.int .i64 wrn) (.int .i64 gain) (.slice (some ⟨BB, 0, none⟩) 1 1)
              have r3 := ten_below r2 hBOge (.int .i64 full) (.int .i64 read) (.int .i64 slip) (.int .i64 skew) (.int .i64 circ) (.int .i64 glo) (.int .i64 ghi) (.int .i64 wrn) (.int .i64 gain) (.slice (some ⟨BB, 0, none⟩) 1 1)
              refine hK4 _ _ r3 ?_
              clear z0 f0 z1 f1 z2 f2 z3 f3 z4 f4 z5 f5 z6 f6 z7 f7 z8 f8 z9 f9 bTB bO r2
              generalize World.setCell (World.setCell (World.setCell (World.setCell (World.setCell (World.setCell (World.setCell (World.setCell (World.setCell (World.setCell wz _ _) _ _) _ _) _ _) _ _) _ _) _ _) _ _) _ _) _ _ = w7 at *
              refine wpHeldIn_done (by kernel_rfl) ?_ _
              go_simp
              refine noPanic_of ?_
              have bT7 : BoxS w7 (w.heap.size) _ _ := (r3.block (w.heap.size) (by rw [hNN]; exact bT6.lt)).trans bT6.drew
              have bX7 : BoxS w7 (w.heap.size + 1) _ _ := (r3.block (w.heap.size + 1) (by rw [hNN]; exact bX6.lt)).trans bX6.drew
              have bS7 : BoxS w7 (BS) _ _ := (r3.block (BS) (by rw [hNN]; exact bS6.lt)).trans bS6.drew
              have hB7 : Below w.heap.size w w7 := (hB6.drew).trans (r3.mono (by rw [hNN]; exact hB6.size))
              clear bT6 bX6 bS6 KC q0 y1w r3 hBBge hBOge hNN
              have kT0 := bT7.cell 0 rfl
              have kT1 := bT7.cell 1 rfl
              have kT2 := bT7.cell 2 rfl
              have kT3 := bT7.cell 3 rfl
              have kT4 := bT7.cell 4 rfl
              have kT5 := bT7.cell 5 rfl
              have kT6 := bT7.cell 6 rfl
              have kT7 := bT7.cell 7 rfl
              have kT8 := bT7.cell 8 rfl
              have kT9 := bT7.cell 9 rfl
              have lT := bT7.lt
              have kO0 := bO7.cell 0 rfl
              have kO1 := bO7.cell 1 rfl
              have kO2 := bO7.cell 2 rfl
              have kO3 := bO7.cell 3 rfl
              have kO4 := bO7.cell 4 rfl
              have kO5 := bO7.cell 5 rfl
              have kO6 := bO7.cell 6 rfl
              have kO7 := bO7.cell 7 rfl
              have kO8 := bO7.cell 8 rfl
              have kO9 := bO7.cell 9 rfl
              have lO := bO7.lt
              go_wp2_with fail
              clear kT0 kT1 kT2 kT3 kT4 kT5 kT6 kT7 kT8 kT9 lT kO0 kO1 kO2 kO3 kO4 kO5 kO6 kO7 kO8 kO9 lO
              have bT8 := (bT7.alloc (.cells #[.int .i64 full, .int .i64 read, .int .i64 slip, .int .i64 skew, .int .i64 circ, .int .i64 0, .int .i64 0, .int .i64 wrn] 25))
              have bX8 := (bX7.alloc (.cells #[.int .i64 full, .int .i64 read, .int .i64 slip, .int .i64 skew, .int .i64 circ, .int .i64 0, .int .i64 0, .int .i64 wrn] 25))
              have bS8 := (bS7.alloc (.cells #[.int .i64 full, .int .i64 read, .int .i64 slip, .int .i64 skew, .int .i64 circ, .int .i64 0, .int .i64 0, .int .i64 wrn] 25))
              have bO8 := (bO7.alloc (.cells #[.int .i64 full, .int .i64 read, .int .i64 slip, .int .i64 skew, .int .i64 circ, .int .i64 0, .int .i64 0, .int .i64 wrn] 25))
              have bB8 := (bB7.alloc (.cells #[.int .i64 full, .int .i64 read, .int .i64 slip, .int .i64 skew, .int .i64 circ, .int .i64 0, .int .i64 0, .int .i64 wrn] 25))
              have bD8 := (BoxS.new w7 25 #[.int .i64 full, .int .i64 read, .int .i64 slip, .int .i64 skew, .int .i64 circ, .int .i64 0, .int .i64 0, .int .i64 wrn])
              have hB8 : Below w.heap.size w (World.alloc w7 (.cells #[.int .i64 full, .int .i64 read, .int .i64 slip, .int .i64 skew, .int .i64 circ, .int .i64 0, .int .i64 0, .int .i64 wrn] 25)) := (hB7.alloc hB7.size _)
              obtain ⟨BD, hBD⟩ : ∃ B, B = w7.heap.size := ⟨_, rfl⟩
              clear bT7 bX7 bS7 bO7 bB7 hB7
              generalize World.alloc w7 _ = w8 at *
              rw [← hBD]
              rw [← hBD] at bD8
              clear hBD
              have hbr2 : b < w8.heap.size := by have := hB8.size; omega
              have y1w : w8.cell? ⟨b, off + 1, none⟩ = some (.slice AW ws.length cW) := (hB8.cell (p := ⟨b, off + 1, none⟩) hbt).trans y1
              have q0 : Below w8.heap.size w8.drew w8.drew := Below.refl _ _
              have KC : Hid (∀ V', Below w8.heap.size w8.drew V' → (V'.cell? ⟨w.heap.size, 9, none⟩ = some (.slice (some ⟨b, off, none⟩) ts.length c) ∧ V'.cell? ⟨b, off + 1, none⟩ = some (.slice AW ws.length cW) ∧ V'.cell? ⟨BD, 0, none⟩ = some (.int .i64 full) ∧ V'.cell? ⟨BD, 1, none⟩ = some (.int .i64 read) ∧ V'.cell? ⟨BD, 2, none⟩ = some (.int .i64 slip) ∧ V'.cell? ⟨BD, 3, none⟩ = some (.int .i64 skew) ∧ V'.cell? ⟨BD, 4, none⟩ = some (.int .i64 circ) ∧ V'.cell? ⟨BD, 5, none⟩ = some (.int .i64 0) ∧ V'.cell? ⟨BD, 6, none⟩ = some (.int .i64 0) ∧ V'.cell? ⟨BD, 7, none⟩ = some (.int .i64 wrn))) := fun V' h =>
                have hk : ∀ (bb o : Nat) (u : Value), bb < w8.heap.size → w8.cell? ⟨bb, o, none⟩ = some u → V'.cell? ⟨bb, o, none⟩ = some u := fun bb o u h1 h2 => (h.cell (p := ⟨bb, o, none⟩) h1).trans h2
                ⟨hk _ _ _ bT8.lt (bT8.cell 9 rfl), hk _ _ _ hbr2 y1w, hk _ _ _ bD8.lt (bD8.cell 0 rfl), hk _ _ _ bD8.lt (bD8.cell 1 rfl), hk _ _ _ bD8.lt (bD8.cell 2 rfl), hk _ _ _ bD8.lt (bD8.cell 3 rfl), hk _ _ _ bD8.lt (bD8.cell 4 rfl), hk _ _ _ bD8.lt (bD8.cell 5 rfl), hk _ _ _ bD8.lt (bD8.cell 6 rfl), hk _ _ _ bD8.lt (bD8.cell 7 rfl)⟩
              refine (wpIn_wide (n := 4)).1 ?_
              refine wpIn_mono (Q := noPanic _) ?_ noPanic_le
              refine wpIn_region_held (fun V' => Below w8.heap.size w8.drew V') 30 hmo ?_
              refine wpHeldIn_take (i := 0) (v := ?_) (plain_of (by kernel_rfl)) rfl (by kernel_rfl) (fun _ _ _ h => h) (yieldsSoIn_of (by kernel_rfl) ?_ (fun _ => rfl)) q0 ?_; rotate_left; focus (intro wq hw; have kq := KC.out wq hw; clear hw; go_simp; try (with_reducible rfl))
              refine wpHeldIn_take (i := 1) (v := ?_) (plain_of (by kernel_rfl)) rfl (by kernel_rfl) (fun _ _ _ h => h) (yieldsSoIn_of (by kernel_rfl) ?_ (fun _ => rfl)) q0 ?_; rotate_left; focus (intro wq hw; clear hw; go_simp; try (with_reducible rfl))
              refine wpHeldIn_take (i := 2) (v := ?_) (plain_of (by kernel_rfl)) rfl (by kernel_rfl) (fun _ _ _ h => h) (yieldsSoIn_of (by kernel_rfl) ?_ (fun _ => rfl)) q0 ?_; rotate_left; focus (intro wq hw; have kq := KC.out wq hw; clear hw; go_simp; try (with_reducible rfl))
              refine wpHeldIn_take (i := 3) (v := ?_) (plain_of (by kernel_rfl)) rfl (by kernel_rfl) (fun _ _ _ h => h) (yieldsSoIn_of (by kernel_rfl) ?_ (fun _ => rfl)) q0 ?_; rotate_left; focus (intro wq hw; clear hw; go_simp; try (with_reducible rfl))
              refine wpHeldIn_take (i := 4) (v := ?_) (plain_of (by kernel_rfl)) rfl (by kernel_rfl) (fun _ _ _ h => h) (yieldsSoIn_of (by kernel_rfl) ?_ (fun _ => rfl)) q0 ?_; rotate_left; focus (intro wq hw; clear hw; go_simp; try (with_reducible rfl))
              refine wpHeldIn_take (i := 5) (v := ?_) (plain_of (by kernel_rfl)) rfl (by kernel_rfl) (fun _ _ _ h => h) (yieldsSoIn_of (by kernel_rfl) ?_ (fun _ => rfl)) q0 ?_; rotate_left; focus (intro wq hw; have kq := KC.out wq hw; clear hw; go_simp; try (with_reducible rfl))
              refine wpHeldIn_one (i := 6) (by kernel_rfl) (by kernel_rfl) rfl (by kernel_rfl) (fun K5 hK5 => ?_)
              go_simp
              refine ⟨trivial, (callsIn_wide.2 (HWS.out AW cW _ ((HWK0.out.keep (hB8.drew)).wider (by have := hB8.size; show w.heap.size ≤ w8.heap.size; exact this)))).mono ?_⟩
              rintro e w9 ⟨vk, rfl, hvk, hbk⟩
              have q1 : Below w8.heap.size w8.drew w9 := hbk
              have HVK9 := Lib.hid hvk.out
              clear hvk
              obtain ⟨AQ, cQ, rfl⟩ := ints_form HVK9.out
              refine hK5 _ _ q1 ?_
              refine wpHeldIn_take (i := 7) (v := ?_) (plain_of (by kernel_rfl)) rfl (by kernel_rfl) (fun _ _ _ h => h) (yieldsSoIn_of (by kernel_rfl) ?_ (fun _ => rfl)) q1 ?_; rotate_left; focus (intro wq hw; clear hw; go_simp; try (with_reducible rfl))
              refine wpHeldIn_take (i := 8) (v := ?_) (plain_of (by kernel_rfl)) rfl (by kernel_rfl) (fun _ _ _ h => h) (yieldsSoIn_of (by kernel_rfl) ?_ (fun _ => rfl)) q1 ?_; rotate_left; focus (intro wq hw; clear hw; go_simp; try (with_reducible rfl))
              refine wpHeldIn_take (i := 9) (v := ?_) (plain_of (by kernel_rfl)) rfl (by kernel_rfl) (fun _ _ _ h => h) (yieldsSoIn_of (by kernel_rfl) ?_ (fun _ => rfl)) q1 ?_; rotate_left; focus (intro wq hw; clear hw; go_simp; try (with_reducible rfl))
              refine wpHeldIn_take (i := 10) (v := ?_) (plain_of (by kernel_rfl)) rfl (by kernel_rfl) (fun _ _ _ h => h) (yieldsSoIn_of (by kernel_rfl) ?_ (fun _ => rfl)) q1 ?_; rotate_left; focus (intro wq hw; clear hw; go_simp; try (with_reducible rfl))
              refine wpHeldIn_take (i := 11) (v := ?_) (plain_of (by kernel_rfl)) rfl (by kernel_rfl) (fun _ _ _ h => h) (yieldsSoIn_of (by kernel_rfl) ?_ (fun _ => rfl)) q1 ?_; rotate_left; focus (intro wq hw; clear hw; go_simp; try (with_reducible rfl))
              refine wpHeldIn_done (by kernel_rfl) ?_ _
              go_simp
              refine noPanic_of ?_
              have bT9 : BoxS w9 (w.heap.size) _ _ := (q1.block (w.heap.size) bT8.lt).trans bT8.drew
              have bX9 : BoxS w9 (w.heap.size + 1) _ _ := (q1.block (w.heap.size + 1) bX8.lt).trans bX8.drew
              have bS9 : BoxS w9 (BS) _ _ := (q1.block (BS) bS8.lt).trans bS8.drew
              have bO9 : BoxS w9 (BO) _ _ := (q1.block (BO) bO8.lt).trans bO8.drew
              have bB9 : BoxS w9 (BB) _ _ := (q1.block (BB) bB8.lt).trans bB8.drew
              have bD9 : BoxS w9 (BD) _ _ := (q1.block (BD) bD8.lt).trans bD8.drew
              have hB9 : Below w.heap.size w w9 := (hB8.drew).trans (q1.mono hB8.size)
              clear bT8 bX8 bS8 bO8 bB8 bD8 hB8 KC q0 q1 hbk y1w
              have kO0 := bO9.cell 0 rfl
              have kO1 := bO9.cell 1 rfl
              have kO2 := bO9.cell 2 rfl
              have kO3 := bO9.cell 3 rfl
              have kO4 := bO9.cell 4 rfl
              have kO5 := bO9.cell 5 rfl
              have kO6 := bO9.cell 6 rfl
              have kO7 := bO9.cell 7 rfl
              have kO8 := bO9.cell 8 rfl
              have kO9 := bO9.cell 9 rfl
              have lO := bO9.lt
              go_wp2_with fail
              clear kO0 kO1 kO2 kO3 kO4 kO5 kO6 kO7 kO8 kO9 lO
              have hTS : Tsts w9 w9.heap.size (some ⟨BB, 0, none⟩) [(0, ws)] := tsts_one bB9 ((HWK0.out.keep hB9).wider hB9.size) hwl
              refine (HS2.out _ _ _ hTS).mono ?_
              rintro e w10 ⟨vm, rfl, hvm, hb10⟩
              have bT10 := bT9.below hb10
              have bX10 := bX9.below hb10
              have bS10 := bS9.below hb10
              have bO10 := bO9.below hb10
              have bB10 := bB9.below hb10
              have bD10 := bD9.below hb10
              have hB10 := hB9.trans (hb10.mono hB9.size)
              clear bT9 bX9 bS9 bO9 bB9 bD9 hB9
              have HVK10 := Lib.hid ((HVK9.out.keep hb10).more hb10.size)
              have HVM10 := Lib.hid hvm.out
              clear hvm hTS HVK9
              obtain ⟨AM, cM, rfl⟩ := ints_form HVM10.out
              have kO0 := bO10.cell 0 rfl
              have kO1 := bO10.cell 1 rfl
              have kO2 := bO10.cell 2 rfl
              have kO3 := bO10.cell 3 rfl
              have kO4 := bO10.cell 4 rfl
              have kO5 := bO10.cell 5 rfl
              have kO6 := bO10.cell 6 rfl
              have kO7 := bO10.cell 7 rfl
              have kO8 := bO10.cell 8 rfl
              have kO9 := bO10.cell 9 rfl
              have lO := bO10.lt
              go_wp2_with fail
              clear kO0 kO1 kO2 kO3 kO4 kO5 kO6 kO7 kO8 kO9 lO
              have hTS : Tsts w10 w10.heap.size (some ⟨BB, 0, none⟩) [(0, ws)] := tsts_one bB10 ((HWK0.out.keep hB10).wider hB10.size) hwl
              refine (HM2.out _ _ _ hTS).mono ?_
              rintro e w11 ⟨rfl, hb11⟩
              have bT11 := bT10.below hb11
              have bX11 := bX10.below hb11
              have bS11 := bS10.below hb11
              have bO11 := bO10.below hb11
              have bB11 := bB10.below hb11
              have bD11 := bD10.below hb11
              have hB11 := hB10.trans (hb11.mono hB10.size)
              clear bT10 bX10 bS10 bO10 bB10 bD10 hB10
              have HVK11 := Lib.hid ((HVK10.out.keep hb11).more hb11.size)
              have HVM11 := Lib.hid ((HVM10.out.keep hb11).more hb11.size)
              clear hTS HVK10 HVM10
              have kT0 := bT11.cell 0 rfl
              have kT1 := bT11.cell 1 rfl
              have kT2 := bT11.cell 2 rfl
              have kT3 := bT11.cell 3 rfl
              have kT4 := bT11.cell 4 rfl
              have kT5 := bT11.cell 5 rfl
              have kT6 := bT11.cell 6 rfl
              have kT7 := bT11.cell 7 rfl
              have kT8 := bT11.cell 8 rfl
              have kT9 := bT11.cell 9 rfl
              have lT := bT11.lt
              go_wp2_with fail
              clear kT0 kT1 kT2 kT3 kT4 kT5 kT6 kT7 kT8 kT9 lT
              refine (HKG.out _).mono ?_
              rintro e wq ⟨rfl, hq⟩
              have hq := hq.symm
              subst hq
              have kT0 := bT11.cell 0 rfl
              have kT1 := bT11.cell 1 rfl
              have kT2 := bT11.cell 2 rfl
              have kT3 := bT11.cell 3 rfl
              have kT4 := bT11.cell 4 rfl
              have kT5 := bT11.cell 5 rfl
              have kT6 := bT11.cell 6 rfl
              have kT7 := bT11.cell 7 rfl
              have kT8 := bT11.cell 8 rfl
              have kT9 := bT11.cell 9 rfl
              have lT := bT11.lt
              go_wp2_with fail
              clear kT0 kT1 kT2 kT3 kT4 kT5 kT6 kT7 kT8 kT9 lT
              refine (HSI.out _ _ _ HVK11.out HVM11.out).mono ?_
              rintro e w12 ⟨rfl, hb12⟩
              have bT12 := bT11.below hb12
              have bX12 := bX11.below hb12
              have bS12 := bS11.below hb12
              have bO12 := bO11.below hb12
              have bB12 := bB11.below hb12
              have bD12 := bD11.below hb12
              have hB12 := hB11.trans (hb12.mono hB11.size)
              clear bT11 bX11 bS11 bO11 bB11 bD11 hB11
              have kT0 := bT12.cell 0 rfl
              have kT1 := bT12.cell 1 rfl
              have kT2 := bT12.cell 2 rfl
              have kT3 := bT12.cell 3 rfl
              have kT4 := bT12.cell 4 rfl
              have kT5 := bT12.cell 5 rfl
              have kT6 := bT12.cell 6 rfl
              have kT7 := bT12.cell 7 rfl
              have kT8 := bT12.cell 8 rfl
              have kT9 := bT12.cell 9 rfl
              have lT := bT12.lt
              go_wp2_with fail
              clear kT0 kT1 kT2 kT3 kT4 kT5 kT6 kT7 kT8 kT9 lT
              refine (HWK.out _).mono ?_
              rintro e w13 ⟨rfl, hb13⟩
              have bT13 := bT12.below hb13
              have bX13 := bX12.below hb13
              have bS13 := bS12.below hb13
              have bO13 := bO12.below hb13
              have bB13 := bB12.below hb13
              have bD13 := bD12.below hb13
              have hB13 := hB12.trans (hb13.mono hB12.size)
              clear bT12 bX12 bS12 bO12 bB12 bD12 hB12
              go_wp2_with fail
              go_returns
              exact ⟨rfl, hB13⟩
          · have hn0 : ((ts.length : Int) == 0) = true := by rw [beq_iff_eq]; omega
            have kT0 := bT6.cell 0 rfl
            have kT1 := bT6.cell 1 rfl
            have kT2 := bT6.cell 2 rfl
            have kT3 := bT6.cell 3 rfl
            have kT4 := bT6.cell 4 rfl
            have kT5 := bT6.cell 5 rfl
            have kT6 := bT6.cell 6 rfl
            have kT7 := bT6.cell 7 rfl
            have kT8 := bT6.cell 8 rfl
            have kT9 := bT6.cell 9 rfl
            have lT := bT6.lt
            have kX0 := bX6.cell 0 rfl
            have kX1 := bX6.cell 1 rfl
            have lX := bX6.lt
            have kS0 := bS6.cell 0 rfl
            have kS1 := bS6.cell 1 rfl
            have lS := bS6.lt
            go_wp2_with fail
            clear kT0 kT1 kT2 kT3 kT4 kT5 kT6 kT7 kT8 kT9 lT kX0 kX1 lX kS0 kS1 lS
            refine (HWK.out _).mono ?_
            rintro e w7 ⟨rfl, hb7⟩
            have bT7 := bT6.below hb7
            have bX7 := bX6.below hb7
            have bS7 := bS6.below hb7
            have hB7 := hB6.trans (hb7.mono hB6.size)
            clear bT6 bX6 bS6 hB6
            go_wp2_with fail
            go_returns
            exact ⟨rfl, hB7⟩
        have c1 : decide (0 ≤ le) = true := decide_eq_true (by omega)
        have c2 : decide (le ≤ mr) = true := decide_eq_true (by omega)
        have c3 : decide (mr ≤ 9000) = true := decide_eq_true (by omega)
        obtain ⟨m1, m2⟩ := HSM.out le mr (by omega) (by omega) (by omega)
        have d1 : decide (SL mr < SL le) = false := decide_eq_false (by omega)
        have d2 : decide (SH mr < SH le) = false := decide_eq_false (by omega)
        by_cases hnp : 0 < ts.length
        · have hn0 : ((ts.length : Int) == 0) = false := by rw [beq_eq_false_iff_ne]; omega
          have hnpi : (0 : Int) < (ts.length : Int) := by omega
          obtain ⟨b, off, rfl, hbt, AW, cW, y1, HWK0, hwl⟩ := HTS.out hnp
          have HN := HNP.out hnp
          obtain ⟨HWS, HS2, HM2, HKG⟩ := HN
          replace HWS := Lib.hid HWS
          replace HS2 := Lib.hid HS2
          replace HM2 := Lib.hid HM2
          replace HKG := Lib.hid HKG
          have kT0 := bT6.cell 0 rfl
          have kT1 := bT6.cell 1 rfl
          have kT2 := bT6.cell 2 rfl
          have kT3 := bT6.cell 3 rfl
          have kT4 := bT6.cell 4 rfl
          have kT5 := bT6.cell 5 rfl
          have kT6 := bT6.cell 6 rfl
          have kT7 := bT6.cell 7 rfl
          have kT8 := bT6.cell 8 rfl
          have kT9 := bT6.cell 9 rfl
          have lT := bT6.lt
          have kX0 := bX6.cell 0 rfl
          have kX1 := bX6.cell 1 rfl
          have lX := bX6.lt
          have kS0 := bS6.cell 0 rfl
          have kS1 := bS6.cell 1 rfl
          have lS := bS6.lt
          go_wp2_with fail
          clear kT0 kT1 kT2 kT3 kT4 kT5 kT6 kT7 kT8 kT9 lT kX0 kX1 lX kS0 kS1 lS
          refine (HSN.out le (by omega) (by omega) _ hB6).mono ?_
          rintro e w7 ⟨rfl, hb7⟩
          have bT7 := bT6.below hb7
          have bX7 := bX6.below hb7
          have bS7 := bS6.below hb7
          have hB7 := hB6.trans (hb7.mono hB6.size)
          clear bT6 bX6 bS6 hB6
          have kT0 := bT7.cell 0 rfl
          have kT1 := bT7.cell 1 rfl
          have kT2 := bT7.cell 2 rfl
          have kT3 := bT7.cell 3 rfl
          have kT4 := bT7.cell 4 rfl
          have kT5 := bT7.cell 5 rfl
          have kT6 := bT7.cell 6 rfl
          have kT7 := bT7.cell 7 rfl
          have kT8 := bT7.cell 8 rfl
          have kT9 := bT7.cell 9 rfl
          have lT := bT7.lt
          have kX0 := bX7.cell 0 rfl
          have kX1 := bX7.cell 1 rfl
          have lX := bX7.lt
          have kS0 := bS7.cell 0 rfl
          have kS1 := bS7.cell 1 rfl
          have lS := bS7.lt
          go_wp2_with fail
          clear kT0 kT1 kT2 kT3 kT4 kT5 kT6 kT7 kT8 kT9 lT kX0 kX1 lX kS0 kS1 lS
          have bT8 := (bT7.alloc (.cells #[.int .i64 (SL le), .int .i64 (SH le)] 23))
          have bX8 := (bX7.alloc (.cells #[.int .i64 (SL le), .int .i64 (SH le)] 23))
          have bS8 := (bS7.alloc (.cells #[.int .i64 (SL le), .int .i64 (SH le)] 23))
          have bP8 := (BoxS.new w7 23 #[.int .i64 (SL le), .int .i64 (SH le)])
          have hB8 : Below w.heap.size w (World.alloc w7 (.cells #[.int .i64 (SL le), .int .i64 (SH le)] 23)) := (hB7.alloc hB7.size _)
          obtain ⟨BP, hBP⟩ : ∃ B, B = w7.heap.size := ⟨_, rfl⟩
          clear bT7 bX7 bS7 hB7
          generalize World.alloc w7 _ = w8 at *
          rw [← hBP]
          rw [← hBP] at bP8
          clear hBP
          refine (HSN.out mr (by omega) (by omega) _ hB8).mono ?_
          rintro e w9 ⟨rfl, hb9⟩
          have bT9 := bT8.below hb9
          have bX9 := bX8.below hb9
          have bS9 := bS8.below hb9
          have bP9 := bP8.below hb9
          have hB9 := hB8.trans (hb9.mono hB8.size)
          clear bT8 bX8 bS8 bP8 hB8
          have kT0 := bT9.cell 0 rfl
          have kT1 := bT9.cell 1 rfl
          have kT2 := bT9.cell 2 rfl
          have kT3 := bT9.cell 3 rfl
          have kT4 := bT9.cell 4 rfl
          have kT5 := bT9.cell 5 rfl
          have kT6 := bT9.cell 6 rfl
          have kT7 := bT9.cell 7 rfl
          have kT8 := bT9.cell 8 rfl
          have kT9 := bT9.cell 9 rfl
          have lT := bT9.lt
          have kX0 := bX9.cell 0 rfl
          have kX1 := bX9.cell 1 rfl
          have lX := bX9.lt
          have kS0 := bS9.cell 0 rfl
          have kS1 := bS9.cell 1 rfl
          have lS := bS9.lt
          have kP0 := bP9.cell 0 rfl
          have kP1 := bP9.cell 1 rfl
          have lP := bP9.lt
          go_wp2_with fail
          clear kT0 kT1 kT2 kT3 kT4 kT5 kT6 kT7 kT8 kT9 lT kX0 kX1 lX kS0 kS1 lS kP0 kP1 lP
          have bT10 := (bT9.alloc (.cells #[.int .i64 (SL mr), .int .i64 (SH mr)] 23))
          have bX10 := (bX9.alloc (.cells #[.int .i64 (SL mr), .int .i64 (SH mr)] 23))
          have bS10 := (bS9.alloc (.cells #[.int .i64 (SL mr), .int .i64 (SH mr)] 23))
          have bP10 := (bP9.alloc (.cells #[.int .i64 (SL mr), .int .i64 (SH mr)] 23))
          have bR10 := (BoxS.new w9 23 #[.int .i64 (SL mr), .int .i64 (SH mr)])
          have hB10 : Below w.heap.size w (World.alloc w9 (.cells #[.int .i64 (SL mr), .int .i64 (SH mr)] 23)) := (hB9.alloc hB9.size _)
          obtain ⟨BR, hBR⟩ : ∃ B, B = w9.heap.size := ⟨_, rfl⟩
          clear bT9 bX9 bS9 bP9 hB9
          generalize World.alloc w9 _ = w10 at *
          rw [← hBR]
          rw [← hBR] at bR10
          clear hBR
          have hmo : Try.prog.follows .mixedOrders = true := by kernel_rfl
          have hbr : b < w10.heap.size := by have := hB10.size; omega
          have y1w : w10.cell? ⟨b, off + 1, none⟩ = some (.slice AW ws.length cW) := (hB10.cell (p := ⟨b, off + 1, none⟩) hbt).trans y1
          obtain ⟨NN, hNN⟩ : ∃ N, N = w10.heap.size := ⟨_, rfl⟩
          have q0 : Below NN w10.drew w10.drew := Below.refl _ _
          have KC : Hid (∀ V', Below NN w10.drew V' → (V'.cell? ⟨w.heap.size, 0, none⟩ = some (.int .i64 full) ∧ V'.cell? ⟨w.heap.size, 1, none⟩ = some (.int .i64 read) ∧ V'.cell? ⟨w.heap.size, 2, none⟩ = some (.int .i64 slip) ∧ V'.cell? ⟨w.heap.size, 3, none⟩ = some (.int .i64 skew) ∧ V'.cell? ⟨w.heap.size, 4, none⟩ = some (.int .i64 circ) ∧ V'.cell? ⟨w.heap.size, 5, none⟩ = some (.int .i64 glo) ∧ V'.cell? ⟨w.heap.size, 6, none⟩ = some (.int .i64 ghi) ∧ V'.cell? ⟨w.heap.size, 7, none⟩ = some (.int .i64 wrn) ∧ V'.cell? ⟨w.heap.size, 8, none⟩ = some (.int .i64 gain) ∧ V'.cell? ⟨w.heap.size, 9, none⟩ = some (.slice (some ⟨b, off, none⟩) ts.length c) ∧ V'.cell? ⟨b, off + 1, none⟩ = some (.slice AW ws.length cW))) := fun V' h =>
            have hk : ∀ (bb o : Nat) (u : Value), bb < w10.heap.size → w10.cell? ⟨bb, o, none⟩ = some u → V'.cell? ⟨bb, o, none⟩ = some u := fun bb o u h1 h2 => (h.cell (p := ⟨bb, o, none⟩) (by rw [hNN]; exact h1)).trans h2
            ⟨hk _ _ _ bT10.lt (bT10.cell 0 rfl), hk _ _ _ bT10.lt (bT10.cell 1 rfl), hk _ _ _ bT10.lt (bT10.cell 2 rfl), hk _ _ _ bT10.lt (bT10.cell 3 rfl), hk _ _ _ bT10.lt (bT10.cell 4 rfl), hk _ _ _ bT10.lt (bT10.cell 5 rfl), hk _ _ _ bT10.lt (bT10.cell 6 rfl), hk _ _ _ bT10.lt (bT10.cell 7 rfl), hk _ _ _ bT10.lt (bT10.cell 8 rfl), hk _ _ _ bT10.lt (bT10.cell 9 rfl), hk _ _ _ hbr y1w⟩
          refine (wpIn_wide (n := 4)).1 ?_
          refine wpIn_mono (Q := noPanic _) ?_ noPanic_le
          refine wpIn_region_held (fun V' => Below NN w10.drew V') 30 hmo ?_
          refine wpHeldIn_take (i := 0) (v := ?_) (plain_of (by kernel_rfl)) rfl (by kernel_rfl) (fun _ _ _ h => h) (yieldsSoIn_of (by kernel_rfl) ?_ (fun _ => rfl)) q0 ?_; rotate_left; focus (intro wq hw; clear hw; go_simp; try (with_reducible rfl))
          refine wpHeldIn_take (i := 1) (v := ?_) (plain_of (by kernel_rfl)) rfl (by kernel_rfl) (fun _ _ _ h => h) (yieldsSoIn_of (by kernel_rfl) ?_ (fun _ => rfl)) q0 ?_; rotate_left; focus (intro wq hw; have kq := KC.out wq hw; clear hw; go_simp; try (with_reducible rfl))
          refine wpHeldIn_take (i := 2) (v := ?_) (plain_of (by kernel_rfl)) rfl (by kernel_rfl) (fun _ _ _ h => h) (yieldsSoIn_of (by kernel_rfl) ?_ (fun _ => rfl)) q0 ?_; rotate_left; focus (intro wq hw; clear hw; go_simp; try (with_reducible rfl))
          refine wpHeldIn_take (i := 3) (v := ?_) (plain_of (by kernel_rfl)) rfl (by kernel_rfl) (fun _ _ _ h => h) (yieldsSoIn_of (by kernel_rfl) ?_ (fun _ => rfl)) q0 ?_; rotate_left; focus (intro wq hw; have kq := KC.out wq hw; clear hw; go_simp; try (with_reducible rfl))
          refine wpHeldIn_take (i := 4) (v := ?_) (plain_of (by kernel_rfl)) rfl (by kernel_rfl) (fun _ _ _ h => h) (yieldsSoIn_of (by kernel_rfl) ?_ (fun _ => rfl)) q0 ?_; rotate_left; focus (intro wq hw; clear hw; go_simp; try (with_reducible rfl))
          refine wpHeldIn_take (i := 5) (v := ?_) (plain_of (by kernel_rfl)) rfl (by kernel_rfl) (fun _ _ _ h => h) (yieldsSoIn_of (by kernel_rfl) ?_ (fun _ => rfl)) q0 ?_; rotate_left; focus (intro wq hw; have kq := KC.out wq hw; clear hw; go_simp; try (with_reducible rfl))
          refine wpHeldIn_take (i := 6) (v := ?_) (plain_of (by kernel_rfl)) rfl (by kernel_rfl) (fun _ _ _ h => h) (yieldsSoIn_of (by kernel_rfl) ?_ (fun _ => rfl)) q0 ?_; rotate_left; focus (intro wq hw; clear hw; go_simp; try (with_reducible rfl))
          refine wpHeldIn_take (i := 7) (v := ?_) (plain_of (by kernel_rfl)) rfl (by kernel_rfl) (fun _ _ _ h => h) (yieldsSoIn_of (by kernel_rfl) ?_ (fun _ => rfl)) q0 ?_; rotate_left; focus (intro wq hw; clear hw; go_simp; try (with_reducible rfl))
          refine wpHeldIn_take (i := 8) (v := ?_) (plain_of (by kernel_rfl)) rfl (by kernel_rfl) (fun _ _ _ h => h) (yieldsSoIn_of (by kernel_rfl) ?_ (fun _ => rfl)) q0 ?_; rotate_left; focus (intro wq hw; have kq := KC.out wq hw; clear hw; go_simp; try (with_reducible rfl))
          refine wpHeldIn_take (i := 9) (v := ?_) (plain_of (by kernel_rfl)) rfl (by kernel_rfl) (fun _ _ _ h => h) (yieldsSoIn_of (by kernel_rfl) ?_ (fun _ => rfl)) q0 ?_; rotate_left; focus (intro wq hw; clear hw; go_simp; try (with_reducible rfl))
          refine wpHeldIn_two (i := 10) (j := 12) (by kernel_rfl) (by kernel_rfl) (by kernel_rfl) rfl rfl (by kernel_rfl) (by kernel_rfl) (fun K2 hK2 => ?_) (fun K7 hK7 => ?_)
          · go_simp
            have r1 : Below NN w10.drew (w10.alloc (.cells #[.int .i64 0, .slice AW ws.length cW] 31)).drew := (show Below NN w10.drew (w10.drew.alloc (.cells #[.int .i64 0, .slice AW ws.length cW] 31)) from q0.alloc (by rw [hNN]; exact Nat.le_refl _) _)
            refine hK2 _ _ r1 ?_
            refine wpHeldIn_take (i := 11) (v := ?_) (plain_of (by kernel_rfl)) rfl (by kernel_rfl) (fun _ _ _ h => h) (yieldsSoIn_of (by kernel_rfl) ?_ (fun _ => rfl)) r1 ?_; rotate_left; focus (intro wq hw; clear hw; go_simp; try (with_reducible rfl))
            refine wpHeldIn_one (i := 12) (by kernel_rfl) (by kernel_rfl) rfl (by kernel_rfl) (fun K3 hK3 => ?_)
            go_simp
            have r2 : Below NN w10.drew ((w10.alloc (.cells #[.int .i64 0, .slice AW ws.length cW] 31)).alloc (.cells #[.int .i64 0, .int .i64 0, .int .i64 0, .int .i64 0, .int .i64 0, .int .i64 0, .int .i64 0, .int .i64 0, .int .i64 0, .slice none 0 0] 28)).drew := (show Below NN w10.drew ((w10.drew.alloc (.cells #[.int .i64 0, .slice AW ws.length cW] 31)).alloc (.cells #[.int .i64 0, .int .i64 0, .int .i64 0, .int .i64 0, .int .i64 0, .int .i64 0, .int .i64 0, .int .i64 0, .int .i64 0, .slice none 0 0] 28)) from (show Below NN w10.drew (w10.drew.alloc (.cells #[.int .i64 0, .slice AW ws.length cW] 31)) from r1).alloc (by rw [hNN]; exact r1.size) _)
            refine hK3 _ _ r2 ?_
            have bF1 : BoxS ((w10.alloc (.cells #[.int .i64 0, .slice AW ws.length cW] 31)).alloc (.cells #[.int .i64 0, .int .i64 0, .int .i64 0, .int .i64 0, .int .i64 0, .int .i64 0, .int .i64 0, .int .i64 0, .int .i64 0, .slice none 0 0] 28)).drew w10.drew.heap.size _ _ := ((BoxS.new w10.drew 31 #[.int .i64 0, .slice AW ws.length cW]).alloc (.cells #[.int .i64 0, .int .i64 0, .int .i64 0, .int .i64 0, .int .i64 0, .int .i64 0, .int .i64 0, .int .i64 0, .int .i64 0, .slice none 0 0] 28))
            have bF2 : BoxS ((w10.alloc (.cells #[.int .i64 0, .slice AW ws.length cW] 31)).alloc (.cells #[.int .i64 0, .int .i64 0, .int .i64 0, .int .i64 0, .int .i64 0, .int .i64 0, .int .i64 0, .int .i64 0, .int .i64 0, .slice none 0 0] 28)).drew (w10.drew.alloc (.cells #[.int .i64 0, .slice AW ws.length cW] 31)).heap.size _ _ := (BoxS.new (w10.drew.alloc (.cells #[.int .i64 0, .slice AW ws.length cW] 31)) 28 #[.int .i64 0, .int .i64 0, .int .i64 0, .int .i64 0, .int .i64 0, .int .i64 0, .int .i64 0, .int .i64 0, .int .i64 0, .slice none 0 0])
            have hzd : w10.drew.heap.size = w10.heap.size := rfl
            simp only [World.size_alloc, hzd] at bF1 bF2
            clear hzd
            have bTB := bF1
            have bO := bF2
            clear bF1 bF2
            obtain ⟨BB, hBB⟩ : ∃ B, B = w10.heap.size := ⟨_, rfl⟩
            obtain ⟨BO, hBO⟩ : ∃ B, B = w10.heap.size + 1 := ⟨_, rfl⟩
            have hBne : BB ≠ BO := by omega
            have hBBge : NN ≤ BB := by omega
            have hBOge : NN ≤ BO := by omega
            try rw [← hBO]
            try rw [← hBO] at bTB
            try rw [← hBO] at bO
            try rw [← hBB]
            try rw [← hBB] at bTB
            try rw [← hBB] at bO
            clear hBB hBO r1
            generalize World.drew (World.alloc (World.alloc w10 _) _) = wz at *
            have z0 := bO.cell 0 rfl
            have f0 := bO.frozen 0
            have z1 := bO.cell 1 rfl
            have f1 := bO.frozen 1
            have z2 := bO.cell 2 rfl
            have f2 := bO.frozen 2
            have z3 := bO.cell 3 rfl
            have f3 := bO.frozen 3
            have z4 := bO.cell 4 rfl
            have f4 := bO.frozen 4
            have z5 := bO.cell 5 rfl
            have f5 := bO.frozen 5
            have z6 := bO.cell 6 rfl
            have f6 := bO.frozen 6
            have z7 := bO.cell 7 rfl
            have f7 := bO.frozen 7
            have z8 := bO.cell 8 rfl
            have f8 := bO.frozen 8
            have z9 := bO.cell 9 rfl
            have f9 := bO.frozen 9
            refine wpHeldIn_one (i := 13) (by kernel_rfl) (by kernel_rfl) rfl (by kernel_rfl) (fun K4 hK4 => ?_)
            go_simp
            have bO11 := ten_put bO (.int .i64 full) (.int .i64 read) (.int .i64 slip) (.int .i64 skew) (.int .i64 circ) (.int .i64 glo) (.int .i64 ghi) (.int .i64 wrn) (.int .i64 gain) (.slice (some ⟨BB, 0, none⟩) 1 1)
            have bB11 := ten_other bTB hBne (.int .i64 full) (.int .i64 read) (.int .i64 slip) (.int .i64 skew) (.int .i64 circ) (.int .i64 glo) (.int .i64 ghi) (.int .i64 wrn) (.int .i64 gain) (.slice (some ⟨BB, 0, none⟩) 1 1)
            have r3 := ten_below r2 hBOge (.int .i64 full) (.int .i64 read) (.int .i64 slip) (.int .i64 skew) (.int .i64 circ) (.int .i64 glo) (.int .i64 ghi) (.int .i64 wrn) (.int .i64 gain) (.slice (some ⟨BB, 0, none⟩) 1 1)
            refine hK4 _ _ r3 ?_
            clear z0 f0 z1 f1 z2 f2 z3 f3 z4 f4 z5 f5 z6 f6 z7 f7 z8 f8 z9 f9 bTB bO r2
            generalize World.setCell (World.setCell (World.setCell (World.setCell (World.setCell (World.setCell (World.setCell (World.setCell (World.setCell (World.setCell wz _ _) _ _) _ _) _ _) _ _) _ _) _ _) _ _) _ _) _ _ = w11 at *
            refine wpHeldIn_done (by kernel_rfl) ?_ _
            go_simp
            refine noPanic_of ?_
            have bT11 : BoxS w11 (w.heap.size) _ _ := (r3.block (w.heap.size) (by rw [hNN]; exact bT10.lt)).trans bT10.drew
            have bX11 : BoxS w11 (w.heap.size + 1) _ _ := (r3.block (w.heap.size + 1) (by rw [hNN]; exact bX10.lt)).trans bX10.drew
            have bS11 : BoxS w11 (BS) _ _ := (r3.block (BS) (by rw [hNN]; exact bS10.lt)).trans bS10.drew
            have bP11 : BoxS w11 (BP) _ _ := (r3.block (BP) (by rw [hNN]; exact bP10.lt)).trans bP10.drew
            have bR11 : BoxS w11 (BR) _ _ := (r3.block (BR) (by rw [hNN]; exact bR10.lt)).trans bR10.drew
            have hB11 : Below w.heap.size w w11 := (hB10.drew).trans (r3.mono (by rw [hNN]; exact hB10.size))
            clear bT10 bX10 bS10 bP10 bR10 KC q0 y1w r3 hBBge hBOge hNN
            have kT0 := bT11.cell 0 rfl
            have kT1 := bT11.cell 1 rfl
            have kT2 := bT11.cell 2 rfl
            have kT3 := bT11.cell 3 rfl
            have kT4 := bT11.cell 4 rfl
            have kT5 := bT11.cell 5 rfl
            have kT6 := bT11.cell 6 rfl
            have kT7 := bT11.cell 7 rfl
            have kT8 := bT11.cell 8 rfl
            have kT9 := bT11.cell 9 rfl
            have lT := bT11.lt
            have kO0 := bO11.cell 0 rfl
            have kO1 := bO11.cell 1 rfl
            have kO2 := bO11.cell 2 rfl
            have kO3 := bO11.cell 3 rfl
            have kO4 := bO11.cell 4 rfl
            have kO5 := bO11.cell 5 rfl
            have kO6 := bO11.cell 6 rfl
            have kO7 := bO11.cell 7 rfl
            have kO8 := bO11.cell 8 rfl
            have kO9 := bO11.cell 9 rfl
            have lO := bO11.lt
            go_wp2_with fail
            clear kT0 kT1 kT2 kT3 kT4 kT5 kT6 kT7 kT8 kT9 lT kO0 kO1 kO2 kO3 kO4 kO5 kO6 kO7 kO8 kO9 lO
            have bT12 := (bT11.alloc (.cells #[.int .i64 full, .int .i64 read, .int .i64 slip, .int .i64 skew, .int .i64 circ, .int .i64 0, .int .i64 0, .int .i64 wrn] 25))
            have bX12 := (bX11.alloc (.cells #[.int .i64 full, .int .i64 read, .int .i64 slip, .int .i64 skew, .int .i64 circ, .int .i64 0, .int .i64 0, .int .i64 wrn] 25))
            have bS12 := (bS11.alloc (.cells #[.int .i64 full, .int .i64 read, .int .i64 slip, .int .i64 skew, .int .i64 circ, .int .i64 0, .int .i64 0, .int .i64 wrn] 25))
            have bP12 := (bP11.alloc (.cells #[.int .i64 full, .int .i64 read, .int .i64 slip, .int .i64 skew, .int .i64 circ, .int .i64 0, .int .i64 0, .int .i64 wrn] 25))
            have bR12 := (bR11.alloc (.cells #[.int .i64 full, .int .i64 read, .int .i64 slip, .int .i64 skew, .int .i64 circ, .int .i64 0, .int .i64 0, .int .i64 wrn] 25))
            have bO12 := (bO11.alloc (.cells #[.int .i64 full, .int .i64 read, .int .i64 slip, .int .i64 skew, .int .i64 circ, .int .i64 0, .int .i64 0, .int .i64 wrn] 25))
            have bB12 := (bB11.alloc (.cells #[.int .i64 full, .int .i64 read, .int .i64 slip, .int .i64 skew, .int .i64 circ, .int .i64 0, .int .i64 0, .int .i64 wrn] 25))
            have bD12 := (BoxS.new w11 25 #[.int .i64 full, .int .i64 read, .int .i64 slip, .int .i64 skew, .int .i64 circ, .int .i64 0, .int .i64 0, .int .i64 wrn])
            have hB12 : Below w.heap.size w (World.alloc w11 (.cells #[.int .i64 full, .int .i64 read, .int .i64 slip, .int .i64 skew, .int .i64 circ, .int .i64 0, .int .i64 0, .int .i64 wrn] 25)) := (hB11.alloc hB11.size _)
            obtain ⟨BD, hBD⟩ : ∃ B, B = w11.heap.size := ⟨_, rfl⟩
            clear bT11 bX11 bS11 bP11 bR11 bO11 bB11 hB11
            generalize World.alloc w11 _ = w12 at *
            rw [← hBD]
            rw [← hBD] at bD12
            clear hBD
            have hbr2 : b < w12.heap.size := by have := hB12.size; omega
            have y1w : w12.cell? ⟨b, off + 1, none⟩ = some (.slice AW ws.length cW) := (hB12.cell (p := ⟨b, off + 1, none⟩) hbt).trans y1
            have q0 : Below w12.heap.size w12.drew w12.drew := Below.refl _ _
            have KC : Hid (∀ V', Below w12.heap.size w12.drew V' → (V'.cell? ⟨w.heap.size, 9, none⟩ = some (.slice (some ⟨b, off, none⟩) ts.length c) ∧ V'.cell? ⟨b, off + 1, none⟩ = some (.slice AW ws.length cW) ∧ V'.cell? ⟨BD, 0, none⟩ = some (.int .i64 full) ∧ V'.cell? ⟨BD, 1, none⟩ = some (.int .i64 read) ∧ V'.cell? ⟨BD, 2, none⟩ = some (.int .i64 slip) ∧ V'.cell? ⟨BD, 3, none⟩ = some (.int .i64 skew) ∧ V'.cell? ⟨BD, 4, none⟩ = some (.int .i64 circ) ∧ V'.cell? ⟨BD, 5, none⟩ = some (.int .i64 0) ∧ V'.cell? ⟨BD, 6, none⟩ = some (.int .i64 0) ∧ V'.cell? ⟨BD, 7, none⟩ = some (.int .i64 wrn))) := fun V' h =>
              have hk : ∀ (bb o : Nat) (u : Value), bb < w12.heap.size → w12.cell? ⟨bb, o, none⟩ = some u → V'.cell? ⟨bb, o, none⟩ = some u := fun bb o u h1 h2 => (h.cell (p := ⟨bb, o, none⟩) h1).trans h2
              ⟨hk _ _ _ bT12.lt (bT12.cell 9 rfl), hk _ _ _ hbr2 y1w, hk _ _ _ bD12.lt (bD12.cell 0 rfl), hk _ _ _ bD12.lt (bD12.cell 1 rfl), hk _ _ _ bD12.lt (bD12.cell 2 rfl), hk _ _ _ bD12.lt (bD12.cell 3 rfl), hk _ _ _ bD12.lt (bD12.cell 4 rfl), hk _ _ _ bD12.lt (bD12.cell 5 rfl), hk _ _ _ bD12.lt (bD12.cell 6 rfl), hk _ _ _ bD12.lt (bD12.cell 7 rfl)⟩
            refine (wpIn_wide (n := 4)).1 ?_
            refine wpIn_mono (Q := noPanic _) ?_ noPanic_le
            refine wpIn_region_held (fun V' => Below w12.heap.size w12.drew V') 30 hmo ?_
            refine wpHeldIn_take (i := 0) (v := ?_) (plain_of (by kernel_rfl)) rfl (by kernel_rfl) (fun _ _ _ h => h) (yieldsSoIn_of (by kernel_rfl) ?_ (fun _ => rfl)) q0 ?_; rotate_left; focus (intro wq hw; have kq := KC.out wq hw; clear hw; go_simp; try (with_reducible rfl))
            refine wpHeldIn_take (i := 1) (v := ?_) (plain_of (by kernel_rfl)) rfl (by kernel_rfl) (fun _ _ _ h => h) (yieldsSoIn_of (by kernel_rfl) ?_ (fun _ => rfl)) q0 ?_; rotate_left; focus (intro wq hw; clear hw; go_simp; try (with_reducible rfl))
            refine wpHeldIn_take (i := 2) (v := ?_) (plain_of (by kernel_rfl)) rfl (by kernel_rfl) (fun _ _ _ h => h) (yieldsSoIn_of (by kernel_rfl) ?_ (fun _ => rfl)) q0 ?_; rotate_left; focus (intro wq hw; have kq := KC.out wq hw; clear hw; go_simp; try (with_reducible rfl))
            refine wpHeldIn_take (i := 3) (v := ?_) (plain_of (by kernel_rfl)) rfl (by kernel_rfl) (fun _ _ _ h => h) (yieldsSoIn_of (by kernel_rfl) ?_ (fun _ => rfl)) q0 ?_; rotate_left; focus (intro wq hw; clear hw; go_simp; try (with_reducible rfl))
            refine wpHeldIn_take (i := 4) (v := ?_) (plain_of (by kernel_rfl)) rfl (by kernel_rfl) (fun _ _ _ h => h) (yieldsSoIn_of (by kernel_rfl) ?_ (fun _ => rfl)) q0 ?_; rotate_left; focus (intro wq hw; clear hw; go_simp; try (with_reducible rfl))
            refine wpHeldIn_take (i := 5) (v := ?_) (plain_of (by kernel_rfl)) rfl (by kernel_rfl) (fun _ _ _ h => h) (yieldsSoIn_of (by kernel_rfl) ?_ (fun _ => rfl)) q0 ?_; rotate_left; focus (intro wq hw; have kq := KC.out wq hw; clear hw; go_simp; try (with_reducible rfl))
            refine wpHeldIn_one (i := 6) (by kernel_rfl) (by kernel_rfl) rfl (by kernel_rfl) (fun K5 hK5 => ?_)
            go_simp
            refine ⟨trivial, (callsIn_wide.2 (HWS.out AW cW _ ((HWK0.out.keep (hB12.drew)).wider (by have := hB12.size; show w.heap.size ≤ w12.heap.size; exact this)))).mono ?_⟩
            rintro e w13 ⟨vk, rfl, hvk, hbk⟩
            have q1 : Below w12.heap.size w12.drew w13 := hbk
            have HVK13 := Lib.hid hvk.out
            clear hvk
            obtain ⟨AQ, cQ, rfl⟩ := ints_form HVK13.out
            refine hK5 _ _ q1 ?_
            refine wpHeldIn_take (i := 7) (v := ?_) (plain_of (by kernel_rfl)) rfl (by kernel_rfl) (fun _ _ _ h => h) (yieldsSoIn_of (by kernel_rfl) ?_ (fun _ => rfl)) q1 ?_; rotate_left; focus (intro wq hw; clear hw; go_simp; try (with_reducible rfl))
            refine wpHeldIn_take (i := 8) (v := ?_) (plain_of (by kernel_rfl)) rfl (by kernel_rfl) (fun _ _ _ h => h) (yieldsSoIn_of (by kernel_rfl) ?_ (fun _ => rfl)) q1 ?_; rotate_left; focus (intro wq hw; clear hw; go_simp; try (with_reducible rfl))
            refine wpHeldIn_take (i := 9) (v := ?_) (plain_of (by kernel_rfl)) rfl (by kernel_rfl) (fun _ _ _ h => h) (yieldsSoIn_of (by kernel_rfl) ?_ (fun _ => rfl)) q1 ?_; rotate_left; focus (intro wq hw; clear hw; go_simp; try (with_reducible rfl))
            refine wpHeldIn_take (i := 10) (v := ?_) (plain_of (by kernel_rfl)) rfl (by kernel_rfl) (fun _ _ _ h => h) (yieldsSoIn_of (by kernel_rfl) ?_ (fun _ => rfl)) q1 ?_; rotate_left; focus (intro wq hw; clear hw; go_simp; try (with_reducible rfl))
            refine wpHeldIn_take (i := 11) (v := ?_) (plain_of (by kernel_rfl)) rfl (by kernel_rfl) (fun _ _ _ h => h) (yieldsSoIn_of (by kernel_rfl) ?_ (fun _ => rfl)) q1 ?_; rotate_left; focus (intro wq hw; clear hw; go_simp; try (with_reducible rfl))
            refine wpHeldIn_done (by kernel_rfl) ?_ _
            go_simp
            refine noPanic_of ?_
            have bT13 : BoxS w13 (w.heap.size) _ _ := (q1.block (w.heap.size) bT12.lt).trans bT12.drew
            have bX13 : BoxS w13 (w.heap.size + 1) _ _ := (q1.block (w.heap.size + 1) bX12.lt).trans bX12.drew
            have bS13 : BoxS w13 (BS) _ _ := (q1.block (BS) bS12.lt).trans bS12.drew
            have bP13 : BoxS w13 (BP) _ _ := (q1.block (BP) bP12.lt).trans bP12.drew
            have bR13 : BoxS w13 (BR) _ _ := (q1.block (BR) bR12.lt).trans bR12.drew
            have bO13 : BoxS w13 (BO) _ _ := (q1.block (BO) bO12.lt).trans bO12.drew
            have bB13 : BoxS w13 (BB) _ _ := (q1.block (BB) bB12.lt).trans bB12.drew
            have bD13 : BoxS w13 (BD) _ _ := (q1.block (BD) bD12.lt).trans bD12.drew
            have hB13 : Below w.heap.size w w13 := (hB12.drew).trans (q1.mono hB12.size)
            clear bT12 bX12 bS12 bP12 bR12 bO12 bB12 bD12 hB12 KC q0 q1 hbk y1w
            have kO0 := bO13.cell 0 rfl
            have kO1 := bO13.cell 1 rfl
            have kO2 := bO13.cell 2 rfl
            have kO3 := bO13.cell 3 rfl
            have kO4 := bO13.cell 4 rfl
            have kO5 := bO13.cell 5 rfl
            have kO6 := bO13.cell 6 rfl
            have kO7 := bO13.cell 7 rfl
            have kO8 := bO13.cell 8 rfl
            have kO9 := bO13.cell 9 rfl
            have lO := bO13.lt
            go_wp2_with fail
            clear kO0 kO1 kO2 kO3 kO4 kO5 kO6 kO7 kO8 kO9 lO
            have hTS : Tsts w13 w13.heap.size (some ⟨BB, 0, none⟩) [(0, ws)] := tsts_one bB13 ((HWK0.out.keep hB13).wider hB13.size) hwl
            refine (HS2.out _ _ _ hTS).mono ?_
            rintro e w14 ⟨vm, rfl, hvm, hb14⟩
            have bT14 := bT13.below hb14
            have bX14 := bX13.below hb14
            have bS14 := bS13.below hb14
            have bP14 := bP13.below hb14
            have bR14 := bR13.below hb14
            have bO14 := bO13.below hb14
            have bB14 := bB13.below hb14
            have bD14 := bD13.below hb14
            have hB14 := hB13.trans (hb14.mono hB13.size)
            clear bT13 bX13 bS13 bP13 bR13 bO13 bB13 bD13 hB13
            have HVK14 := Lib.hid ((HVK13.out.keep hb14).more hb14.size)
            have HVM14 := Lib.hid hvm.out
            clear hvm hTS HVK13
            obtain ⟨AM, cM, rfl⟩ := ints_form HVM14.out
            have kO0 := bO14.cell 0 rfl
            have kO1 := bO14.cell 1 rfl
            have kO2 := bO14.cell 2 rfl
            have kO3 := bO14.cell 3 rfl
            have kO4 := bO14.cell 4 rfl
            have kO5 := bO14.cell 5 rfl
            have kO6 := bO14.cell 6 rfl
            have kO7 := bO14.cell 7 rfl
            have kO8 := bO14.cell 8 rfl
            have kO9 := bO14.cell 9 rfl
            have lO := bO14.lt
            go_wp2_with fail
            clear kO0 kO1 kO2 kO3 kO4 kO5 kO6 kO7 kO8 kO9 lO
            have hTS : Tsts w14 w14.heap.size (some ⟨BB, 0, none⟩) [(0, ws)] := tsts_one bB14 ((HWK0.out.keep hB14).wider hB14.size) hwl
            refine (HM2.out _ _ _ hTS).mono ?_
            rintro e w15 ⟨rfl, hb15⟩
            have bT15 := bT14.below hb15
            have bX15 := bX14.below hb15
            have bS15 := bS14.below hb15
            have bP15 := bP14.below hb15
            have bR15 := bR14.below hb15
            have bO15 := bO14.below hb15
            have bB15 := bB14.below hb15
            have bD15 := bD14.below hb15
            have hB15 := hB14.trans (hb15.mono hB14.size)
            clear bT14 bX14 bS14 bP14 bR14 bO14 bB14 bD14 hB14
            have HVK15 := Lib.hid ((HVK14.out.keep hb15).more hb15.size)
            have HVM15 := Lib.hid ((HVM14.out.keep hb15).more hb15.size)
            clear hTS HVK14 HVM14
            have kT0 := bT15.cell 0 rfl
            have kT1 := bT15.cell 1 rfl
            have kT2 := bT15.cell 2 rfl
            have kT3 := bT15.cell 3 rfl
            have kT4 := bT15.cell 4 rfl
            have kT5 := bT15.cell 5 rfl
            have kT6 := bT15.cell 6 rfl
            have kT7 := bT15.cell 7 rfl
            have kT8 := bT15.cell 8 rfl
            have kT9 := bT15.cell 9 rfl
            have lT := bT15.lt
            go_wp2_with fail
            clear kT0 kT1 kT2 kT3 kT4 kT5 kT6 kT7 kT8 kT9 lT
            refine (HKG.out _).mono ?_
            rintro e wq ⟨rfl, hq⟩
            have hq := hq.symm
            subst hq
            have kT0 := bT15.cell 0 rfl
            have kT1 := bT15.cell 1 rfl
            have kT2 := bT15.cell 2 rfl
            have kT3 := bT15.cell 3 rfl
            have kT4 := bT15.cell 4 rfl
            have kT5 := bT15.cell 5 rfl
            have kT6 := bT15.cell 6 rfl
            have kT7 := bT15.cell 7 rfl
            have kT8 := bT15.cell 8 rfl
            have kT9 := bT15.cell 9 rfl
            have lT := bT15.lt
            go_wp2_with fail
            clear kT0 kT1 kT2 kT3 kT4 kT5 kT6 kT7 kT8 kT9 lT
            refine (HSI.out _ _ _ HVK15.out HVM15.out).mono ?_
            rintro e w16 ⟨rfl, hb16⟩
            have bT16 := bT15.below hb16
            have bX16 := bX15.below hb16
            have bS16 := bS15.below hb16
            have bP16 := bP15.below hb16
            have bR16 := bR15.below hb16
            have bO16 := bO15.below hb16
            have bB16 := bB15.below hb16
            have bD16 := bD15.below hb16
            have hB16 := hB15.trans (hb16.mono hB15.size)
            clear bT15 bX15 bS15 bP15 bR15 bO15 bB15 bD15 hB15
            have kT0 := bT16.cell 0 rfl
            have kT1 := bT16.cell 1 rfl
            have kT2 := bT16.cell 2 rfl
            have kT3 := bT16.cell 3 rfl
            have kT4 := bT16.cell 4 rfl
            have kT5 := bT16.cell 5 rfl
            have kT6 := bT16.cell 6 rfl
            have kT7 := bT16.cell 7 rfl
            have kT8 := bT16.cell 8 rfl
            have kT9 := bT16.cell 9 rfl
            have lT := bT16.lt
            go_wp2_with fail
            clear kT0 kT1 kT2 kT3 kT4 kT5 kT6 kT7 kT8 kT9 lT
            refine (HWK.out _).mono ?_
            rintro e w17 ⟨rfl, hb17⟩
            have bT17 := bT16.below hb17
            have bX17 := bX16.below hb17
            have bS17 := bS16.below hb17
            have bP17 := bP16.below hb17
            have bR17 := bR16.below hb17
            have bO17 := bO16.below hb17
            have bB17 := bB16.below hb17
            have bD17 := bD16.below hb17
            have hB17 := hB16.trans (hb17.mono hB16.size)
            clear bT16 bX16 bS16 bP16 bR16 bO16 bB16 bD16 hB16
            go_wp2_with fail
            go_returns
            exact ⟨rfl, hB17⟩
          · go_simp
            have r1 : Below NN w10.drew (w10.alloc (.cells #[.int .i64 0, .int .i64 0, .int .i64 0, .int .i64 0, .int .i64 0, .int .i64 0, .int .i64 0, .int .i64 0, .int .i64 0, .slice none 0 0] 28)).drew := (show Below NN w10.drew (w10.drew.alloc (.cells #[.int .i64 0, .int .i64 0, .int .i64 0, .int .i64 0, .int .i64 0, .int .i64 0, .int .i64 0, .int .i64 0, .int .i64 0, .slice none 0 0] 28)) from q0.alloc (by rw [hNN]; exact Nat.le_refl _) _)
            refine hK7 _ _ r1 ?_
            refine wpHeldIn_one (i := 10) (by kernel_rfl) (by kernel_rfl) rfl (by kernel_rfl) (fun K3 hK3 => ?_)
            go_simp
            have r2 : Below NN w10.drew ((w10.alloc (.cells #[.int .i64 0, .int .i64 0, .int .i64 0, .int .i64 0, .int .i64 0, .int .i64 0, .int .i64 0, .int .i64 0, .int .i64 0, .slice none 0 0] 28)).alloc (.cells #[.int .i64 0, .slice AW ws.length cW] 31)).drew := (show Below NN w10.drew ((w10.drew.alloc (.cells #[.int .i64 0, .int .i64 0, .int .i64 0, .int .i64 0, .int .i64 0, .int .i64 0, .int .i64 0, .int .i64 0, .int .i64 0, .slice none 0 0] 28)).alloc (.cells #[.int .i64 0, .slice AW ws.length cW] 31)) from (show Below NN w10.drew (w10.drew.alloc (.cells #[.int .i64 0, .int .i64 0, .int .i64 0, .int .i64 0, .int .i64 0, .int .i64 0, .int .i64 0, .int .i64 0, .int .i64 0, .slice none 0 0] 28)) from r1).alloc (by rw [hNN]; exact r1.size) _)
            refine hK3 _ _ r2 ?_
            have bF1 : BoxS ((w10.alloc (.cells #[.int .i64 0, .int .i64 0, .int .i64 0, .int .i64 0, .int .i64 0, .int .i64 0, .int .i64 0, .int .i64 0, .int .i64 0, .slice none 0 0] 28)).alloc (.cells #[.int .i64 0, .slice AW ws.length cW] 31)).drew w10.drew.heap.size _ _ := ((BoxS.new w10.drew 28 #[.int .i64 0, .int .i64 0, .int .i64 0, .int .i64 0, .int .i64 0, .int .i64 0, .int .i64 0, .int .i64 0, .int .i64 0, .slice none 0 0]).alloc (.cells #[.int .i64 0, .slice AW ws.length cW] 31))
            have bF2 : BoxS ((w10.alloc (.cells #[.int .i64 0, .int .i64 0, .int .i64 0, .int .i64 0, .int .i64 0, .int .i64 0, .int .i64 0, .int .i64 0, .int .i64 0, .slice none 0 0] 28)).alloc (.cells #[.int .i64 0, .slice AW ws.length cW] 31)).drew (w10.drew.alloc (.cells #[.int .i64 0, .int .i64 0, .int .i64 0, .int .i64 0, .int .i64 0, .int .i64 0, .int .i64 0, .int .i64 0, .int .i64 0, .slice none 0 0] 28)).heap.size _ _ := (BoxS.new (w10.drew.alloc (.cells #[.int .i64 0, .int .i64 0, .int .i64 0, .int .i64 0, .int .i64 0, .int .i64 0, .int .i64 0, .int .i64 0, .int .i64 0, .slice none 0 0] 28)) 31 #[.int .i64 0, .slice AW ws.length cW])
            have hzd : w10.drew.heap.size = w10.heap.size := rfl
            simp only [World.size_alloc, hzd] at bF1 bF2
            clear hzd
            have bTB := bF2
            have bO := bF1
            clear bF1 bF2
            obtain ⟨BB, hBB⟩ : ∃ B, B = w10.heap.size + 1 := ⟨_, rfl⟩
            obtain ⟨BO, hBO⟩ : ∃ B, B = w10.heap.size := ⟨_, rfl⟩
            have hBne : BB ≠ BO := by omega
            have hBBge : NN ≤ BB := by omega
            have hBOge : NN ≤ BO := by omega
            try rw [← hBB]
            try rw [← hBB] at bTB
            try rw [← hBB] at bO
            try rw [← hBO]
            try rw [← hBO] at bTB
            try rw [← hBO] at bO
            clear hBB hBO r1
            generalize World.drew (World.alloc (World.alloc w10 _) _) = wz at *
            refine wpHeldIn_take (i := 11) (v := ?_) (plain_of (by kernel_rfl)) rfl (by kernel_rfl) (fun _ _ _ h => h) (yieldsSoIn_of (by kernel_rfl) ?_ (fun _ => rfl)) r2 ?_; rotate_left; focus (intro wq hw; clear hw; go_simp; try (with_reducible rfl))
            have z0 := bO.cell 0 rfl
            have f0 := bO.frozen 0
            have z1 := bO.cell 1 rfl
            have f1 := bO.frozen 1
            have z2 := bO.cell 2 rfl
            have f2 := bO.frozen 2
            have z3 := bO.cell 3 rfl
            have f3 := bO.frozen 3
            have z4 := bO.cell 4 rfl
            have f4 := bO.frozen 4
            have z5 := bO.cell 5 rfl
            have f5 := bO.frozen 5
            have z6 := bO.cell 6 rfl
            have f6 := bO.frozen 6
            have z7 := bO.cell 7 rfl
            have f7 := bO.frozen 7
            have z8 := bO.cell 8 rfl
            have f8 := bO.frozen 8
            have z9 := bO.cell 9 rfl
            have f9 := bO.frozen 9
            refine wpHeldIn_one (i := 13) (by kernel_rfl) (by kernel_rfl) rfl (by kernel_rfl) (fun K4 hK4 => ?_)
            go_simp
            have bO11 := ten_put bO (.int .i64 full) (.int .i64 read) (.int .i64 slip) (.int .i64 skew) (.int .i64 circ) (.int .i64 glo) (.int .i64 ghi) (.int .i64 wrn) (.int .i64 gain) (.slice (some ⟨BB, 0, none⟩) 1 1)
            have bB11 := ten_other bTB hBne (.int .i64 full) (.int .i64 read) (.int .i64 slip) (.int .i64 skew) (.int .i64 circ) (.int .i64 glo) (.int .i64 ghi) (.int .i64 wrn) (.int .i64 gain) (.slice (some ⟨BB, 0, none⟩) 1 1)
            have r3 := ten_below r2 hBOge (.int .i64 full) (.int .i64 read) (.int .i64 slip) (.int .i64 skew) (.int .i64 circ) (.int .i64 glo) (.int .i64 ghi) (.int .i64 wrn) (.int .i64 gain) (.slice (some ⟨BB, 0, none⟩) 1 1)
            refine hK4 _ _ r3 ?_
            clear z0 f0 z1 f1 z2 f2 z3 f3 z4 f4 z5 f5 z6 f6 z7 f7 z8 f8 z9 f9 bTB bO r2
            generalize World.setCell (World.setCell (World.setCell (World.setCell (World.setCell (World.setCell (World.setCell (World.setCell (World.setCell (World.setCell wz _ _) _ _) _ _) _ _) _ _) _ _) _ _) _ _) _ _) _ _ = w11 at *
            refine wpHeldIn_done (by kernel_rfl) ?_ _
            go_simp
            refine noPanic_of ?_
            have bT11 : BoxS w11 (w.heap.size) _ _ := (r3.block (w.heap.size) (by rw [hNN]; exact bT10.lt)).trans bT10.drew
            have bX11 : BoxS w11 (w.heap.size + 1) _ _ := (r3.block (w.heap.size + 1) (by rw [hNN]; exact bX10.lt)).trans bX10.drew
            have bS11 : BoxS w11 (BS) _ _ := (r3.block (BS) (by rw [hNN]; exact bS10.lt)).trans bS10.drew
            have bP11 : BoxS w11 (BP) _ _ := (r3.block (BP) (by rw [hNN]; exact bP10.lt)).trans bP10.drew
            have bR11 : BoxS w11 (BR) _ _ := (r3.block (BR) (by rw [hNN]; exact bR10.lt)).trans bR10.drew
            have hB11 : Below w.heap.size w w11 := (hB10.drew).trans (r3.mono (by rw [hNN]; exact hB10.size))
            clear bT10 bX10 bS10 bP10 bR10 KC q0 y1w r3 hBBge hBOge hNN
            have kT0 := bT11.cell 0 rfl
            have kT1 := bT11.cell 1 rfl
            have kT2 := bT11.cell 2 rfl
            have kT3 := bT11.cell 3 rfl
            have kT4 := bT11.cell 4 rfl
            have kT5 := bT11.cell 5 rfl
            have kT6 := bT11.cell 6 rfl
            have kT7 := bT11.cell 7 rfl
            have kT8 := bT11.cell 8 rfl
            have kT9 := bT11.cell 9 rfl
            have lT := bT11.lt
            have kO0 := bO11.cell 0 rfl
            have kO1 := bO11.cell 1 rfl
            have kO2 := bO11.cell 2 rfl
            have kO3 := bO11.cell 3 rfl
            have kO4 := bO11.cell 4 rfl
            have kO5 := bO11.cell 5 rfl
            have kO6 := bO11.cell 6 rfl
            have kO7 := bO11.cell 7 rfl
            have kO8 := bO11.cell 8 rfl
            have kO9 := bO11.cell 9 rfl
            have lO := bO11.lt
            go_wp2_with fail
            clear kT0 kT1 kT2 kT3 kT4 kT5 kT6 kT7 kT8 kT9 lT kO0 kO1 kO2 kO3 kO4 kO5 kO6 kO7 kO8 kO9 lO
            have bT12 := (bT11.alloc (.cells #[.int .i64 full, .int .i64 read, .int .i64 slip, .int .i64 skew, .int .i64 circ, .int .i64 0, .int .i64 0, .int .i64 wrn] 25))
            have bX12 := (bX11.alloc (.cells #[.int .i64 full, .int .i64 read, .int .i64 slip, .int .i64 skew, .int .i64 circ, .int .i64 0, .int .i64 0, .int .i64 wrn] 25))
            have bS12 := (bS11.alloc (.cells #[.int .i64 full, .int .i64 read, .int .i64 slip, .int .i64 skew, .int .i64 circ, .int .i64 0, .int .i64 0, .int .i64 wrn] 25))
            have bP12 := (bP11.alloc (.cells #[.int .i64 full, .int .i64 read, .int .i64 slip, .int .i64 skew, .int .i64 circ, .int .i64 0, .int .i64 0, .int .i64 wrn] 25))
            have bR12 := (bR11.alloc (.cells #[.int .i64 full, .int .i64 read, .int .i64 slip, .int .i64 skew, .int .i64 circ, .int .i64 0, .int .i64 0, .int .i64 wrn] 25))
            have bO12 := (bO11.alloc (.cells #[.int .i64 full, .int .i64 read, .int .i64 slip, .int .i64 skew, .int .i64 circ, .int .i64 0, .int .i64 0, .int .i64 wrn] 25))
            have bB12 := (bB11.alloc (.cells #[.int .i64 full, .int .i64 read, .int .i64 slip, .int .i64 skew, .int .i64 circ, .int .i64 0, .int .i64 0, .int .i64 wrn] 25))
            have bD12 := (BoxS.new w11 25 #[.int .i64 full, .int .i64 read, .int .i64 slip, .int .i64 skew, .int .i64 circ, .int .i64 0, .int .i64 0, .int .i64 wrn])
            have hB12 : Below w.heap.size w (World.alloc w11 (.cells #[.int .i64 full, .int .i64 read, .int .i64 slip, .int .i64 skew, .int .i64 circ, .int .i64 0, .int .i64 0, .int .i64 wrn] 25)) := (hB11.alloc hB11.size _)
            obtain ⟨BD, hBD⟩ : ∃ B, B = w11.heap.size := ⟨_, rfl⟩
            clear bT11 bX11 bS11 bP11 bR11 bO11 bB11 hB11
            generalize World.alloc w11 _ = w12 at *
            rw [← hBD]
            rw [← hBD] at bD12
            clear hBD
            have hbr2 : b < w12.heap.size := by have := hB12.size; omega
            have y1w : w12.cell? ⟨b, off + 1, none⟩ = some (.slice AW ws.length cW) := (hB12.cell (p := ⟨b, off + 1, none⟩) hbt).trans y1
            have q0 : Below w12.heap.size w12.drew w12.drew := Below.refl _ _
            have KC : Hid (∀ V', Below w12.heap.size w12.drew V' → (V'.cell? ⟨w.heap.size, 9, none⟩ = some (.slice (some ⟨b, off, none⟩) ts.length c) ∧ V'.cell? ⟨b, off + 1, none⟩ = some (.slice AW ws.length cW) ∧ V'.cell? ⟨BD, 0, none⟩ = some (.int .i64 full) ∧ V'.cell? ⟨BD, 1, none⟩ = some (.int .i64 read) ∧ V'.cell? ⟨BD, 2, none⟩ = some (.int .i64 slip) ∧ V'.cell? ⟨BD, 3, none⟩ = some (.int .i64 skew) ∧ V'.cell? ⟨BD, 4, none⟩ = some (.int .i64 circ) ∧ V'.cell? ⟨BD, 5, none⟩ = some (.int .i64 0) ∧ V'.cell? ⟨BD, 6, none⟩ = some (.int .i64 0) ∧ V'.cell? ⟨BD, 7, none⟩ = some (.int .i64 wrn))) := fun V' h =>
              have hk : ∀ (bb o : Nat) (u : Value), bb < w12.heap.size → w12.cell? ⟨bb, o, none⟩ = some u → V'.cell? ⟨bb, o, none⟩ = some u := fun bb o u h1 h2 => (h.cell (p := ⟨bb, o, none⟩) h1).trans h2
              ⟨hk _ _ _ bT12.lt (bT12.cell 9 rfl), hk _ _ _ hbr2 y1w, hk _ _ _ bD12.lt (bD12.cell 0 rfl), hk _ _ _ bD12.lt (bD12.cell 1 rfl), hk _ _ _ bD12.lt (bD12.cell 2 rfl), hk _ _ _ bD12.lt (bD12.cell 3 rfl), hk _ _ _ bD12.lt (bD12.cell 4 rfl), hk _ _ _ bD12.lt (bD12.cell 5 rfl), hk _ _ _ bD12.lt (bD12.cell 6 rfl), hk _ _ _ bD12.lt (bD12.cell 7 rfl)⟩
            refine (wpIn_wide (n := 4)).1 ?_
            refine wpIn_mono (Q := noPanic _) ?_ noPanic_le
            refine wpIn_region_held (fun V' => Below w12.heap.size w12.drew V') 30 hmo ?_
            refine wpHeldIn_take (i := 0) (v := ?_) (plain_of (by kernel_rfl)) rfl (by kernel_rfl) (fun _ _ _ h => h) (yieldsSoIn_of (by kernel_rfl) ?_ (fun _ => rfl)) q0 ?_; rotate_left; focus (intro wq hw; have kq := KC.out wq hw; clear hw; go_simp; try (with_reducible rfl))
            refine wpHeldIn_take (i := 1) (v := ?_) (plain_of (by kernel_rfl)) rfl (by kernel_rfl) (fun _ _ _ h => h) (yieldsSoIn_of (by kernel_rfl) ?_ (fun _ => rfl)) q0 ?_; rotate_left; focus (intro wq hw; clear hw; go_simp; try (with_reducible rfl))
            refine wpHeldIn_take (i := 2) (v := ?_) (plain_of (by kernel_rfl)) rfl (by kernel_rfl) (fun _ _ _ h => h) (yieldsSoIn_of (by kernel_rfl) ?_ (fun _ => rfl)) q0 ?_; rotate_left; focus (intro wq hw; have kq := KC.out wq hw; clear hw; go_simp; try (with_reducible rfl))
            refine wpHeldIn_take (i := 3) (v := ?_) (plain_of (by kernel_rfl)) rfl (by kernel_rfl) (fun _ _ _ h => h) (yieldsSoIn_of (by kernel_rfl) ?_ (fun _ => rfl)) q0 ?_; rotate_left; focus (intro wq hw; clear hw; go_simp; try (with_reducible rfl))
            refine wpHeldIn_take (i := 4) (v := ?_) (plain_of (by kernel_rfl)) rfl (by kernel_rfl) (fun _ _ _ h => h) (yieldsSoIn_of (by kernel_rfl) ?_ (fun _ => rfl)) q0 ?_; rotate_left; focus (intro wq hw; clear hw; go_simp; try (with_reducible rfl))
            refine wpHeldIn_take (i := 5) (v := ?_) (plain_of (by kernel_rfl)) rfl (by kernel_rfl) (fun _ _ _ h => h) (yieldsSoIn_of (by kernel_rfl) ?_ (fun _ => rfl)) q0 ?_; rotate_left; focus (intro wq hw; have kq := KC.out wq hw; clear hw; go_simp; try (with_reducible rfl))
            refine wpHeldIn_one (i := 6) (by kernel_rfl) (by kernel_rfl) rfl (by kernel_rfl) (fun K5 hK5 => ?_)
            go_simp
            refine ⟨trivial, (callsIn_wide.2 (HWS.out AW cW _ ((HWK0.out.keep (hB12.drew)).wider (by have := hB12.size; show w.heap.size ≤ w12.heap.size; exact this)))).mono ?_⟩
            rintro e w13 ⟨vk, rfl, hvk, hbk⟩
            have q1 : Below w12.heap.size w12.drew w13 := hbk
            have HVK13 := Lib.hid hvk.out
            clear hvk
            obtain ⟨AQ, cQ, rfl⟩ := ints_form HVK13.out
            refine hK5 _ _ q1 ?_
            refine wpHeldIn_take (i := 7) (v := ?_) (plain_of (by kernel_rfl)) rfl (by kernel_rfl) (fun _ _ _ h => h) (yieldsSoIn_of (by kernel_rfl) ?_ (fun _ => rfl)) q1 ?_; rotate_left; focus (intro wq hw; clear hw; go_simp; try (with_reducible rfl))
            refine wpHeldIn_take (i := 8) (v := ?_) (plain_of (by kernel_rfl)) rfl (by kernel_rfl) (fun _ _ _ h => h) (yieldsSoIn_of (by kernel_rfl) ?_ (fun _ => rfl)) q1 ?_; rotate_left; focus (intro wq hw; clear hw; go_simp; try (with_reducible rfl))
            refine wpHeldIn_take (i := 9) (v := ?_) (plain_of (by kernel_rfl)) rfl (by kernel_rfl) (fun _ _ _ h => h) (yieldsSoIn_of (by kernel_rfl) ?_ (fun _ => rfl)) q1 ?_; rotate_left; focus (intro wq hw; clear hw; go_simp; try (with_reducible rfl))
            refine wpHeldIn_take (i := 10) (v := ?_) (plain_of (by kernel_rfl)) rfl (by kernel_rfl) (fun _ _ _ h => h) (yieldsSoIn_of (by kernel_rfl) ?_ (fun _ => rfl)) q1 ?_; rotate_left; focus (intro wq hw; clear hw; go_simp; try (with_reducible rfl))
            refine wpHeldIn_take (i := 11) (v := ?_) (plain_of (by kernel_rfl)) rfl (by kernel_rfl) (fun _ _ _ h => h) (yieldsSoIn_of (by kernel_rfl) ?_ (fun _ => rfl)) q1 ?_; rotate_left; focus (intro wq hw; clear hw; go_simp; try (with_reducible rfl))
            refine wpHeldIn_done (by kernel_rfl) ?_ _
            go_simp
            refine noPanic_of ?_
            have bT13 : BoxS w13 (w.heap.size) _ _ := (q1.block (w.heap.size) bT12.lt).trans bT12.drew
            have bX13 : BoxS w13 (w.heap.size + 1) _ _ := (q1.block (w.heap.size + 1) bX12.lt).trans bX12.drew
            have bS13 : BoxS w13 (BS) _ _ := (q1.block (BS) bS12.lt).trans bS12.drew
            have bP13 : BoxS w13 (BP) _ _ := (q1.block (BP) bP12.lt).trans bP12.drew
            have bR13 : BoxS w13 (BR) _ _ := (q1.block (BR) bR12.lt).trans bR12.drew
            have bO13 : BoxS w13 (BO) _ _ := (q1.block (BO) bO12.lt).trans bO12.drew
            have bB13 : BoxS w13 (BB) _ _ := (q1.block (BB) bB12.lt).trans bB12.drew
            have bD13 : BoxS w13 (BD) _ _ := (q1.block (BD) bD12.lt).trans bD12.drew
            have hB13 : Below w.heap.size w w13 := (hB12.drew).trans (q1.mono hB12.size)
            clear bT12 bX12 bS12 bP12 bR12 bO12 bB12 bD12 hB12 KC q0 q1 hbk y1w
            have kO0 := bO13.cell 0 rfl
            have kO1 := bO13.cell 1 rfl
            have kO2 := bO13.cell 2 rfl
            have kO3 := bO13.cell 3 rfl
            have kO4 := bO13.cell 4 rfl
            have kO5 := bO13.cell 5 rfl
            have kO6 := bO13.cell 6 rfl
            have kO7 := bO13.cell 7 rfl
            have kO8 := bO13.cell 8 rfl
            have kO9 := bO13.cell 9 rfl
            have lO := bO13.lt
            go_wp2_with fail
            clear kO0 kO1 kO2 kO3 kO4 kO5 kO6 kO7 kO8 kO9 lO
            have hTS : Tsts w13 w13.heap.size (some ⟨BB, 0, none⟩) [(0, ws)] := tsts_one bB13 ((HWK0.out.keep hB13).wider hB13.size) hwl
            refine (HS2.out _ _ _ hTS).mono ?_
            rintro e w14 ⟨vm, rfl, hvm, hb14⟩
            have bT14 := bT13.below hb14
            have bX14 := bX13.below hb14
            have bS14 := bS13.below hb14
            have bP14 := bP13.below hb14
            have bR14 := bR13.below hb14
            have bO14 := bO13.below hb14
            have bB14 := bB13.below hb14
            have bD14 := bD13.below hb14
            have hB14 := hB13.trans (hb14.mono hB13.size)
            clear bT13 bX13 bS13 bP13 bR13 bO13 bB13 bD13 hB13
            have HVK14 := Lib.hid ((HVK13.out.keep hb14).more hb14.size)
            have HVM14 := Lib.hid hvm.out
            clear hvm hTS HVK13
            obtain ⟨AM, cM, rfl⟩ := ints_form HVM14.out
            have kO0 := bO14.cell 0 rfl
            have kO1 := bO14.cell 1 rfl
            have kO2 := bO14.cell 2 rfl
            have kO3 := bO14.cell 3 rfl
            have kO4 := bO14.cell 4 rfl
            have kO5 := bO14.cell 5 rfl
            have kO6 := bO14.cell 6 rfl
            have kO7 := bO14.cell 7 rfl
            have kO8 := bO14.cell 8 rfl
            have kO9 := bO14.cell 9 rfl
            have lO := bO14.lt
            go_wp2_with fail
            clear kO0 kO1 kO2 kO3 kO4 kO5 kO6 kO7 kO8 kO9 lO
            have hTS : Tsts w14 w14.heap.size (some ⟨BB, 0, none⟩) [(0, ws)] := tsts_one bB14 ((HWK0.out.keep hB14).wider hB14.size) hwl
            refine (HM2.out _ _ _ hTS).mono ?_
            rintro e w15 ⟨rfl, hb15⟩
            have bT15 := bT14.below hb15
            have bX15 := bX14.below hb15
            have bS15 := bS14.below hb15
            have bP15 := bP14.below hb15
            have bR15 := bR14.below hb15
            have bO15 := bO14.below hb15
            have bB15 := bB14.below hb15
            have bD15 := bD14.below hb15
            have hB15 := hB14.trans (hb15.mono hB14.size)
            clear bT14 bX14 bS14 bP14 bR14 bO14 bB14 bD14 hB14
            have HVK15 := Lib.hid ((HVK14.out.keep hb15).more hb15.size)
            have HVM15 := Lib.hid ((HVM14.out.keep hb15).more hb15.size)
            clear hTS HVK14 HVM14
            have kT0 := bT15.cell 0 rfl
            have kT1 := bT15.cell 1 rfl
            have kT2 := bT15.cell 2 rfl
            have kT3 := bT15.cell 3 rfl
            have kT4 := bT15.cell 4 rfl
            have kT5 := bT15.cell 5 rfl
            have kT6 := bT15.cell 6 rfl
            have kT7 := bT15.cell 7 rfl
            have kT8 := bT15.cell 8 rfl
            have kT9 := bT15.cell 9 rfl
            have lT := bT15.lt
            go_wp2_with fail
            clear kT0 kT1 kT2 kT3 kT4 kT5 kT6 kT7 kT8 kT9 lT
            refine (HKG.out _).mono ?_
            rintro e wq ⟨rfl, hq⟩
            have hq := hq.symm
            subst hq
            have kT0 := bT15.cell 0 rfl
            have kT1 := bT15.cell 1 rfl
            have kT2 := bT15.cell 2 rfl
            have kT3 := bT15.cell 3 rfl
            have kT4 := bT15.cell 4 rfl
            have kT5 := bT15.cell 5 rfl
            have kT6 := bT15.cell 6 rfl
            have kT7 := bT15.cell 7 rfl
            have kT8 := bT15.cell 8 rfl
            have kT9 := bT15.cell 9 rfl
            have lT := bT15.lt
            go_wp2_with fail
            clear kT0 kT1 kT2 kT3 kT4 kT5 kT6 kT7 kT8 kT9 lT
            refine (HSI.out _ _ _ HVK15.out HVM15.out).mono ?_
            rintro e w16 ⟨rfl, hb16⟩
            have bT16 := bT15.below hb16
            have bX16 := bX15.below hb16
            have bS16 := bS15.below hb16
            have bP16 := bP15.below hb16
            have bR16 := bR15.below hb16
            have bO16 := bO15.below hb16
            have bB16 := bB15.below hb16
            have bD16 := bD15.below hb16
            have hB16 := hB15.trans (hb16.mono hB15.size)
            clear bT15 bX15 bS15 bP15 bR15 bO15 bB15 bD15 hB15
            have kT0 := bT16.cell 0 rfl
            have kT1 := bT16.cell 1 rfl
            have kT2 := bT16.cell 2 rfl
            have kT3 := bT16.cell 3 rfl
            have kT4 := bT16.cell 4 rfl
            have kT5 := bT16.cell 5 rfl
            have kT6 := bT16.cell 6 rfl
            have kT7 := bT16.cell 7 rfl
            have kT8 := bT16.cell 8 rfl
            have kT9 := bT16.cell 9 rfl
            have lT := bT16.lt
            go_wp2_with fail
            clear kT0 kT1 kT2 kT3 kT4 kT5 kT6 kT7 kT8 kT9 lT
            refine (HWK.out _).mono ?_
            rintro e w17 ⟨rfl, hb17⟩
            have bT17 := bT16.below hb17
            have bX17 := bX16.below hb17
            have bS17 := bS16.below hb17
            have bP17 := bP16.below hb17
            have bR17 := bR16.below hb17
            have bO17 := bO16.below hb17
            have bB17 := bB16.below hb17
            have bD17 := bD16.below hb17
            have hB17 := hB16.trans (hb17.mono hB16.size)
            clear bT16 bX16 bS16 bP16 bR16 bO16 bB16 bD16 hB16
            go_wp2_with fail
            go_returns
            exact ⟨rfl, hB17⟩
        · have hn0 : ((ts.length : Int) == 0) = true := by rw [beq_iff_eq]; omega
          have kT0 := bT6.cell 0 rfl
          have kT1 := bT6.cell 1 rfl
          have kT2 := bT6.cell 2 rfl
          have kT3 := bT6.cell 3 rfl
          have kT4 := bT6.cell 4 rfl
          have kT5 := bT6.cell 5 rfl
          have kT6 := bT6.cell 6 rfl
          have kT7 := bT6.cell 7 rfl
          have kT8 := bT6.cell 8 rfl
          have kT9 := bT6.cell 9 rfl
          have lT := bT6.lt
          have kX0 := bX6.cell 0 rfl
          have kX1 := bX6.cell 1 rfl
          have lX := bX6.lt
          have kS0 := bS6.cell 0 rfl
          have kS1 := bS6.cell 1 rfl
          have lS := bS6.lt
          go_wp2_with fail
          clear kT0 kT1 kT2 kT3 kT4 kT5 kT6 kT7 kT8 kT9 lT kX0 kX1 lX kS0 kS1 lS
          refine (HSN.out le (by omega) (by omega) _ hB6).mono ?_
          rintro e w7 ⟨rfl, hb7⟩
          have bT7 := bT6.below hb7
          have bX7 := bX6.below hb7
          have bS7 := bS6.below hb7
          have hB7 := hB6.trans (hb7.mono hB6.size)
          clear bT6 bX6 bS6 hB6
          have kT0 := bT7.cell 0 rfl
          have kT1 := bT7.cell 1 rfl
          have kT2 := bT7.cell 2 rfl
          have kT3 := bT7.cell 3 rfl
          have kT4 := bT7.cell 4 rfl
          have kT5 := bT7.cell 5 rfl
          have kT6 := bT7.cell 6 rfl
          have kT7 := bT7.cell 7 rfl
          have kT8 := bT7.cell 8 rfl
          have kT9 := bT7.cell 9 rfl
          have lT := bT7.lt
          have kX0 := bX7.cell 0 rfl
          have kX1 := bX7.cell 1 rfl
          have lX := bX7.lt
          have kS0 := bS7.cell 0 rfl
          have kS1 := bS7.cell 1 rfl
          have lS := bS7.lt
          go_wp2_with fail
          clear kT0 kT1 kT2 kT3 kT4 kT5 kT6 kT7 kT8 kT9 lT kX0 kX1 lX kS0 kS1 lS
          have bT8 := (bT7.alloc (.cells #[.int .i64 (SL le), .int .i64 (SH le)] 23))
          have bX8 := (bX7.alloc (.cells #[.int .i64 (SL le), .int .i64 (SH le)] 23))
          have bS8 := (bS7.alloc (.cells #[.int .i64 (SL le), .int .i64 (SH le)] 23))
          have bP8 := (BoxS.new w7 23 #[.int .i64 (SL le), .int .i64 (SH le)])
          have hB8 : Below w.heap.size w (World.alloc w7 (.cells #[.int .i64 (SL le), .int .i64 (SH le)] 23)) := (hB7.alloc hB7.size _)
          obtain ⟨BP, hBP⟩ : ∃ B, B = w7.heap.size := ⟨_, rfl⟩
          clear bT7 bX7 bS7 hB7
          generalize World.alloc w7 _ = w8 at *
          rw [← hBP]
          rw [← hBP] at bP8
          clear hBP
          refine (HSN.out mr (by omega) (by omega) _ hB8).mono ?_
          rintro e w9 ⟨rfl, hb9⟩
          have bT9 := bT8.below hb9
          have bX9 := bX8.below hb9
          have bS9 := bS8.below hb9
          have bP9 := bP8.below hb9
          have hB9 := hB8.trans (hb9.mono hB8.size)
          clear bT8 bX8 bS8 bP8 hB8
          have kT0 := bT9.cell 0 rfl
          have kT1 := bT9.cell 1 rfl
          have kT2 := bT9.cell 2 rfl
          have kT3 := bT9.cell 3 rfl
          have kT4 := bT9.cell 4 rfl
          have kT5 := bT9.cell 5 rfl
          have kT6 := bT9.cell 6 rfl
          have kT7 := bT9.cell 7 rfl
          have kT8 := bT9.cell 8 rfl
          have kT9 := bT9.cell 9 rfl
          have lT := bT9.lt
          have kX0 := bX9.cell 0 rfl
          have kX1 := bX9.cell 1 rfl
          have lX := bX9.lt
          have kS0 := bS9.cell 0 rfl
          have kS1 := bS9.cell 1 rfl
          have lS := bS9.lt
          have kP0 := bP9.cell 0 rfl
          have kP1 := bP9.cell 1 rfl
          have lP := bP9.lt
          go_wp2_with fail
          clear kT0 kT1 kT2 kT3 kT4 kT5 kT6 kT7 kT8 kT9 lT kX0 kX1 lX kS0 kS1 lS kP0 kP1 lP
          have bT10 := (bT9.alloc (.cells #[.int .i64 (SL mr), .int .i64 (SH mr)] 23))
          have bX10 := (bX9.alloc (.cells #[.int .i64 (SL mr), .int .i64 (SH mr)] 23))
          have bS10 := (bS9.alloc (.cells #[.int .i64 (SL mr), .int .i64 (SH mr)] 23))
          have bP10 := (bP9.alloc (.cells #[.int .i64 (SL mr), .int .i64 (SH mr)] 23))
          have bR10 := (BoxS.new w9 23 #[.int .i64 (SL mr), .int .i64 (SH mr)])
          have hB10 : Below w.heap.size w (World.alloc w9 (.cells #[.int .i64 (SL mr), .int .i64 (SH mr)] 23)) := (hB9.alloc hB9.size _)
          obtain ⟨BR, hBR⟩ : ∃ B, B = w9.heap.size := ⟨_, rfl⟩
          clear bT9 bX9 bS9 bP9 hB9
          generalize World.alloc w9 _ = w10 at *
          rw [← hBR]
          rw [← hBR] at bR10
          clear hBR
          refine (HWK.out _).mono ?_
          rintro e w11 ⟨rfl, hb11⟩
          have bT11 := bT10.below hb11
          have bX11 := bX10.below hb11
          have bS11 := bS10.below hb11
          have bP11 := bP10.below hb11
          have bR11 := bR10.below hb11
          have hB11 := hB10.trans (hb11.mono hB10.size)
          clear bT10 bX10 bS10 bP10 bR10 hB10
          go_wp2_with fail
          go_returns
          exact ⟨rfl, hB11⟩
  · rw [hE] at HKN
    rw [decide_eq_true (show (3 : Int) = 0 ∨ (3 : Int) = 3 from .inr rfl)] at HKN
    subst hE
    clear HZE HHD HSM HZLS HZHS HZL0 HZH0 HSB HSN HSZ
    go_enter Try.func7, Try.ntmps7
    go_wp2_with fail
    have bT1 := ((BoxS.new w 28 #[.int .i64 full, .int .i64 read, .int .i64 slip, .int .i64 skew, .int .i64 circ, .int .i64 glo, .int .i64 ghi, .int .i64 wrn, .int .i64 gain, .slice A ts.length c]).alloc (.cells #[.int .i64 le, .int .i64 mr] 62))
    have bX1 := (BoxS.new (World.alloc w (.cells #[.int .i64 full, .int .i64 read, .int .i64 slip, .int .i64 skew, .int .i64 circ, .int .i64 glo, .int .i64 ghi, .int .i64 wrn, .int .i64 gain, .slice A ts.length c] 28)) 62 #[.int .i64 le, .int .i64 mr])
    have hB1 : Below w.heap.size w (World.alloc (World.alloc w (.cells #[.int .i64 full, .int .i64 read, .int .i64 slip, .int .i64 skew, .int .i64 circ, .int .i64 glo, .int .i64 ghi, .int .i64 wrn, .int .i64 gain, .slice A ts.length c] 28)) (.cells #[.int .i64 le, .int .i64 mr] 62)) := by (repeat' (first | (with_reducible exact Below.refl _ _) | (with_reducible assumption) | (with_reducible refine Below.alloc ?_ ?_ _) | (with_reducible refine Below.drew ?_) | (with_reducible refine Below.setCell ?_ ?_ _) | go_size | (exact (by simp)) | omega))
    simp only [World.size_alloc] at bX1
    generalize World.alloc (World.alloc w _) _ = w1 at *
    refine (HRD.out _ hB1).mono ?_
    rintro e w2 ⟨rfl, hb2⟩
    have bT2 := bT1.below hb2
    have bX2 := bX1.below hb2
    have hB2 := hB1.trans (hb2.mono hB1.size)
    clear bT1 bX1 hB1
    have kT0 := bT2.cell 0 rfl
    have kT1 := bT2.cell 1 rfl
    have kT2 := bT2.cell 2 rfl
    have kT3 := bT2.cell 3 rfl
    have kT4 := bT2.cell 4 rfl
    have kT5 := bT2.cell 5 rfl
    have kT6 := bT2.cell 6 rfl
    have kT7 := bT2.cell 7 rfl
    have kT8 := bT2.cell 8 rfl
    have kT9 := bT2.cell 9 rfl
    have lT := bT2.lt
    have kX0 := bX2.cell 0 rfl
    have kX1 := bX2.cell 1 rfl
    have lX := bX2.lt
    go_wp2_with fail
    clear kT0 kT1 kT2 kT3 kT4 kT5 kT6 kT7 kT8 kT9 lT kX0 kX1 lX
    refine (HER.out _ hB2).mono ?_
    rintro e w3 ⟨rfl, hb3⟩
    have bT3 := bT2.below hb3
    have bX3 := bX2.below hb3
    have hB3 := hB2.trans (hb3.mono hB2.size)
    clear bT2 bX2 hB2
    have kT0 := bT3.cell 0 rfl
    have kT1 := bT3.cell 1 rfl
    have kT2 := bT3.cell 2 rfl
    have kT3 := bT3.cell 3 rfl
    have kT4 := bT3.cell 4 rfl
    have kT5 := bT3.cell 5 rfl
    have kT6 := bT3.cell 6 rfl
    have kT7 := bT3.cell 7 rfl
    have kT8 := bT3.cell 8 rfl
    have kT9 := bT3.cell 9 rfl
    have lT := bT3.lt
    have kX0 := bX3.cell 0 rfl
    have kX1 := bX3.cell 1 rfl
    have lX := bX3.lt
    go_wp2_with fail
    clear kT0 kT1 kT2 kT3 kT4 kT5 kT6 kT7 kT8 kT9 lT kX0 kX1 lX
    have bT4 := (bT3.alloc (.cells #[.int .i64 LO, .int .i64 HI] 23))
    have bX4 := (bX3.alloc (.cells #[.int .i64 LO, .int .i64 HI] 23))
    have bS4 := (BoxS.new w3 23 #[.int .i64 LO, .int .i64 HI])
    have hB4 : Below w.heap.size w (World.alloc w3 (.cells #[.int .i64 LO, .int .i64 HI] 23)) := (hB3.alloc hB3.size _)
    obtain ⟨BS, hBS⟩ : ∃ B, B = w3.heap.size := ⟨_, rfl⟩
    clear bT3 bX3 hB3
    generalize World.alloc w3 _ = w4 at *
    rw [← hBS]
    rw [← hBS] at bS4
    clear hBS
    refine (HSK.out _ hB4).mono ?_
    rintro e w5 ⟨v5, rfl, hv5, hb5⟩
    have bT5 := bT4.below hb5
    have bX5 := bX4.below hb5
    have bS5 := bS4.below hb5
    have hB5 := hB4.trans (hb5.mono hB4.size)
    clear bT4 bX4 bS4 hB4
    obtain ⟨AK, cK, rfl⟩ := ints_form hv5.out
    have HV5 := Lib.hid hv5.out
    clear hv5
    have kT0 := bT5.cell 0 rfl
    have kT1 := bT5.cell 1 rfl
    have kT2 := bT5.cell 2 rfl
    have kT3 := bT5.cell 3 rfl
    have kT4 := bT5.cell 4 rfl
    have kT5 := bT5.cell 5 rfl
    have kT6 := bT5.cell 6 rfl
    have kT7 := bT5.cell 7 rfl
    have kT8 := bT5.cell 8 rfl
    have kT9 := bT5.cell 9 rfl
    have lT := bT5.lt
    have kX0 := bX5.cell 0 rfl
    have kX1 := bX5.cell 1 rfl
    have lX := bX5.lt
    have kS0 := bS5.cell 0 rfl
    have kS1 := bS5.cell 1 rfl
    have lS := bS5.lt
    go_wp2_with fail
    clear kT0 kT1 kT2 kT3 kT4 kT5 kT6 kT7 kT8 kT9 lT kX0 kX1 lX kS0 kS1 lS
    refine (HKN.out _).mono ?_
    rintro e wq ⟨rfl, hq⟩
    have hq := hq.symm
    subst hq
    by_cases hnp : 0 < ts.length
    · have hn0 : ((ts.length : Int) == 0) = false := by rw [beq_eq_false_iff_ne]; omega
      have hnpi : (0 : Int) < (ts.length : Int) := by omega
      obtain ⟨b, off, rfl, hbt, AW, cW, y1, HWK0, hwl⟩ := HTS.out hnp
      have HN := HNP.out hnp
      obtain ⟨HWS, HS2, HM2, HKG⟩ := HN
      replace HWS := Lib.hid HWS
      replace HS2 := Lib.hid HS2
      replace HM2 := Lib.hid HM2
      replace HKG := Lib.hid HKG
      have kT0 := bT5.cell 0 rfl
      have kT1 := bT5.cell 1 rfl
      have kT2 := bT5.cell 2 rfl
      have kT3 := bT5.cell 3 rfl
      have kT4 := bT5.cell 4 rfl
      have kT5 := bT5.cell 5 rfl
      have kT6 := bT5.cell 6 rfl
      have kT7 := bT5.cell 7 rfl
      have kT8 := bT5.cell 8 rfl
      have kT9 := bT5.cell 9 rfl
      have lT := bT5.lt
      have kX0 := bX5.cell 0 rfl
      have kX1 := bX5.cell 1 rfl
      have lX := bX5.lt
      have kS0 := bS5.cell 0 rfl
      have kS1 := bS5.cell 1 rfl
      have lS := bS5.lt
      go_wp2_with fail
      clear kT0 kT1 kT2 kT3 kT4 kT5 kT6 kT7 kT8 kT9 lT kX0 kX1 lX kS0 kS1 lS
      have hmo : Try.prog.follows .mixedOrders = true := by kernel_rfl
      have hbr : b < w5.heap.size := by have := hB5.size; omega
      have y1w : w5.cell? ⟨b, off + 1, none⟩ = some (.slice AW ws.length cW) := (hB5.cell (p := ⟨b, off + 1, none⟩) hbt).trans y1
      obtain ⟨NN, hNN⟩ : ∃ N, N = w5.heap.size := ⟨_, rfl⟩
      have q0 : Below NN w5.drew w5.drew := Below.refl _ _
      have KC : Hid (∀ V', Below NN w5.drew V' → (V'.cell? ⟨w.heap.size, 0, none⟩ = some (.int .i64 full) ∧ V'.cell? ⟨w.heap.size, 1, none⟩ = some (.int .i64 read) ∧ V'.cell? ⟨w.heap.size, 2, none⟩ = some (.int .i64 slip) ∧ V'.cell? ⟨w.heap.size, 3, none⟩ = some (.int .i64 skew) ∧ V'.cell? ⟨w.heap.size, 4, none⟩ = some (.int .i64 circ) ∧ V'.cell? ⟨w.heap.size, 5, none⟩ = some (.int .i64 glo) ∧ V'.cell? ⟨w.heap.size, 6, none⟩ = some (.int .i64 ghi) ∧ V'.cell? ⟨w.heap.size, 7, none⟩ = some (.int .i64 wrn) ∧ V'.cell? ⟨w.heap.size, 8, none⟩ = some (.int .i64 gain) ∧ V'.cell? ⟨w.heap.size, 9, none⟩ = some (.slice (some ⟨b, off, none⟩) ts.length c) ∧ V'.cell? ⟨b, off + 1, none⟩ = some (.slice AW ws.length cW))) := fun V' h =>
        have hk : ∀ (bb o : Nat) (u : Value), bb < w5.heap.size → w5.cell? ⟨bb, o, none⟩ = some u → V'.cell? ⟨bb, o, none⟩ = some u := fun bb o u h1 h2 => (h.cell (p := ⟨bb, o, none⟩) (by rw [hNN]; exact h1)).trans h2
        ⟨hk _ _ _ bT5.lt (bT5.cell 0 rfl), hk _ _ _ bT5.lt (bT5.cell 1 rfl), hk _ _ _ bT5.lt (bT5.cell 2 rfl), hk _ _ _ bT5.lt (bT5.cell 3 rfl), hk _ _ _ bT5.lt (bT5.cell 4 rfl), hk _ _ _ bT5.lt (bT5.cell 5 rfl), hk _ _ _ bT5.lt (bT5.cell 6 rfl), hk _ _ _ bT5.lt (bT5.cell 7 rfl), hk _ _ _ bT5.lt (bT5.cell 8 rfl), hk _ _ _ bT5.lt (bT5.cell 9 rfl), hk _ _ _ hbr y1w⟩
      refine (wpIn_wide (n := 4)).1 ?_
      refine wpIn_mono (Q := noPanic _) ?_ noPanic_le
      refine wpIn_region_held (fun V' => Below NN w5.drew V') 30 hmo ?_
      refine wpHeldIn_take (i := 0) (v := ?_) (plain_of (by kernel_rfl)) rfl (by kernel_rfl) (fun _ _ _ h => h) (yieldsSoIn_of (by kernel_rfl) ?_ (fun _ => rfl)) q0 ?_; rotate_left; focus (intro wq hw; clear hw; go_simp; try (with_reducible rfl))
      refine wpHeldIn_take (i := 1) (v := ?_) (plain_of (by kernel_rfl)) rfl (by kernel_rfl) (fun _ _ _ h => h) (yieldsSoIn_of (by kernel_rfl) ?_ (fun _ => rfl)) q0 ?_; rotate_left; focus (intro wq hw; have kq := KC.out wq hw; clear hw; go_simp; try (with_reducible rfl))
      refine wpHeldIn_take (i := 2) (v := ?_) (plain_of (by kernel_rfl)) rfl (by kernel_rfl) (fun _ _ _ h => h) (yieldsSoIn_of (by kernel_rfl) ?_ (fun _ => rfl)) q0 ?_; rotate_left; focus (intro wq hw; clear hw; go_simp; try (with_reducible rfl))
      refine wpHeldIn_take (i := 3) (v := ?_) (plain_of (by kernel_rfl)) rfl (by kernel_rfl) (fun _ _ _ h => h) (yieldsSoIn_of (by kernel_rfl) ?_ (fun _ => rfl)) q0 ?_; rotate_left; focus (intro wq hw; have kq := KC.out wq hw; clear hw; go_simp; try (with_reducible rfl))
      refine wpHeldIn_take (i := 4) (v := ?_) (plain_of (by kernel_rfl)) rfl (by kernel_rfl) (fun _ _ _ h => h) (yieldsSoIn_of (by kernel_rfl) ?_ (fun _ => rfl)) q0 ?_; rotate_left; focus (intro wq hw; clear hw; go_simp; try (with_reducible rfl))
      refine wpHeldIn_take (i := 5) (v := ?_) (plain_of (by kernel_rfl)) rfl (by kernel_rfl) (fun _ _ _ h => h) (yieldsSoIn_of (by kernel_rfl) ?_ (fun _ => rfl)) q0 ?_; rotate_left; focus (intro wq hw; have kq := KC.out wq hw; clear hw; go_simp; try (with_reducible rfl))
      refine wpHeldIn_take (i := 6) (v := ?_) (plain_of (by kernel_rfl)) rfl (by kernel_rfl) (fun _ _ _ h => h) (yieldsSoIn_of (by kernel_rfl) ?_ (fun _ => rfl)) q0 ?_; rotate_left; focus (intro wq hw; clear hw; go_simp; try (with_reducible rfl))
      refine wpHeldIn_take (i := 7) (v := ?_) (plain_of (by kernel_rfl)) rfl (by kernel_rfl) (fun _ _ _ h => h) (yieldsSoIn_of (by kernel_rfl) ?_ (fun _ => rfl)) q0 ?_; rotate_left; focus (intro wq hw; clear hw; go_simp; try (with_reducible rfl))
      refine wpHeldIn_take (i := 8) (v := ?_) (plain_of (by kernel_rfl)) rfl (by kernel_rfl) (fun _ _ _ h => h) (yieldsSoIn_of (by kernel_rfl) ?_ (fun _ => rfl)) q0 ?_; rotate_left; focus (intro wq hw; have kq := KC.out wq hw; clear hw; go_simp; try (with_reducible rfl))
      refine wpHeldIn_take (i := 9) (v := ?_) (plain_of (by kernel_rfl)) rfl (by kernel_rfl) (fun _ _ _ h => h) (yieldsSoIn_of (by kernel_rfl) ?_ (fun _ => rfl)) q0 ?_; rotate_left; focus (intro wq hw; clear hw; go_simp; try (with_reducible rfl))
      refine wpHeldIn_two (i := 10) (j := 12) (by kernel_rfl) (by kernel_rfl) (by kernel_rfl) rfl rfl (by kernel_rfl) (by kernel_rfl) (fun K2 hK2 => ?_) (fun K7 hK7 => ?_)
      · go_simp
        have r1 : Below NN w5.drew (w5.alloc (.cells #[.int .i64 0, .slice AW ws.length cW] 31)).drew := (show Below NN w5.drew (w5.drew.alloc (.cells #[.int .i64 0, .slice AW ws.length cW] 31)) from q0.alloc (by rw [hNN]; exact Nat.le_refl _) _)
        refine hK2 _ _ r1 ?_
        refine wpHeldIn_take (i := 11) (v := ?_) (plain_of (by kernel_rfl)) rfl (by kernel_rfl) (fun _ _ _ h => h) (yieldsSoIn_of (by kernel_rfl) ?_ (fun _ => rfl)) r1 ?_; rotate_left; focus (intro wq hw; clear hw; go_simp; try (with_reducible rfl))
        refine wpHeldIn_one (i := 12) (by kernel_rfl) (by kernel_rfl) rfl (by kernel_rfl) (fun K3 hK3 => ?_)
        go_simp
        have r2 : Below NN w5.drew ((w5.alloc (.cells #[.int .i64 0, .slice AW ws.length cW] 31)).alloc (.cells #[.int .i64 0, .int .i64 0, .int .i64 0, .int .i64 0, .int .i64 0, .int .i64 0, .int .i64 0, .int .i64 0, .int .i64 0, .slice none 0 0] 28)).drew := (show Below NN w5.drew ((w5.drew.alloc (.cells #[.int .i64 0, .slice AW ws.length cW] 31)).alloc (.cells #[.int .i64 0, .int .i64 0, .int .i64 0, .int .i64 0, .int .i64 0, .int .i64 0, .int .i64 0, .int .i64 0, .int .i64 0, .slice none 0 0] 28)) from (show Below NN w5.drew (w5.drew.alloc (.cells #[.int .i64 0, .slice AW ws.length cW] 31)) from r1).alloc (by rw [hNN]; exact r1.size) _)
        refine hK3 _ _ r2 ?_
        have bF1 : BoxS ((w5.alloc (.cells #[.int .i64 0, .slice AW ws.length cW] 31)).alloc (.cells #[.int .i64 0, .int .i64 0, .int .i64 0, .int .i64 0, .int .i64 0, .int .i64 0, .int .i64 0, .int .i64 0, .int .i64 0, .slice none 0 0] 28)).drew w5.drew.heap.size _ _ := ((BoxS.new w5.drew 31 #[.int .i64 0, .slice AW ws.length cW]).alloc (.cells #[.int .i64 0, .int .i64 0, .int .i64 0, .int .i64 0, .int .i64 0, .int .i64 0, .int .i64 0, .int .i64 0, .int .i64 0, .slice none 0 0] 28))
        have bF2 : BoxS ((w5.alloc (.cells #[.int .i64 0, .slice AW ws.length cW] 31)).alloc (.cells #[.int .i64 0, .int .i64 0, .int .i64 0, .int .i64 0, .int .i64 0, .int .i64 0, .int .i64 0, .int .i64 0, .int .i64 0, .slice none 0 0] 28)).drew (w5.drew.alloc (.cells #[.int .i64 0, .slice AW ws.length cW] 31)).heap.size _ _ := (BoxS.new (w5.drew.alloc (.cells #[.int .i64 0, .slice AW ws.length cW] 31)) 28 #[.int .i64 0, .int .i64 0, .int .i64 0, .int .i64 0, .int .i64 0, .int .i64 0, .int .i64 0, .int .i64 0, .int .i64 0, .slice none 0 0])
        have hzd : w5.drew.heap.size = w5.heap.size := rfl
        simp only [World.size_alloc, hzd] at bF1 bF2
        clear hzd
        have bTB := bF1
        have bO := bF2
        clear bF1 bF2
        obtain ⟨BB, hBB⟩ : ∃ B, B = w5.heap.size := ⟨_, rfl⟩
        obtain ⟨BO, hBO⟩ : ∃ B, B = w5.heap.size + 1 := ⟨_, rfl⟩
        have hBne : BB ≠ BO := by omega
        have hBBge : NN ≤ BB := by omega
        have hBOge : NN ≤ BO := by omega
        try rw [← hBO]
        try rw [← hBO] at bTB
        try rw [← hBO] at bO
        try rw [← hBB]
        try rw [← hBB] at bTB
        try rw [← hBB] at bO
        clear hBB hBO r1
        generalize World.drew (World.alloc (World.alloc w5 _) _) = wz at *
        have z0 := bO.cell 0 rfl
        have f0 := bO.frozen 0
        have z1 := bO.cell 1 rfl
        have f1 := bO.frozen 1
        have z2 := bO.cell 2 rfl
        have f2 := bO.frozen 2
        have z3 := bO.cell 3 rfl
        have f3 := bO.frozen 3
        have z4 := bO.cell 4 rfl
        have f4 := bO.frozen 4
        have z5 := bO.cell 5 rfl
        have f5 := bO.frozen 5
        have z6 := bO.cell 6 rfl
        have f6 := bO.frozen 6
        have z7 := bO.cell 7 rfl
        have f7 := bO.frozen 7
        have z8 := bO.cell 8 rfl
        have f8 := bO.frozen 8
        have z9 := bO.cell 9 rfl
        have f9 := bO.frozen 9
        refine wpHeldIn_one (i := 13) (by kernel_rfl) (by kernel_rfl) rfl (by kernel_rfl) (fun K4 hK4 => ?_)
        go_simp
        have bO6 := ten_put bO (.int .i64 full) (.int .i64 read) (.int .i64 slip) (.int .i64 skew) (.int .i64 circ) (.int .i64 glo) (.int .i64 ghi) (.int .i64 wrn) (.int .i64 gain) (.slice (some ⟨BB, 0, none⟩) 1 1)
        have bB6 := ten_other bTB hBne (.int .i64 full) (.int .i64 read) (.int .i64 slip) (.int .i64 skew) (.int .i64 circ) (.int .i64 glo) (.int .i64 ghi) (.int .i64 wrn) (.int .i64 gain) (.slice (some ⟨BB, 0, none⟩) 1 1)
        have r3 := ten_below r2 hBOge (.int .i64 full) (.int .i64 read) (.int .i64 slip) (.int .i64 skew) (.int .i64 circ) (.int .i64 glo) (.int .i64 ghi) (.int .i64 wrn) (.int .i64 gain) (.slice (some ⟨BB, 0, none⟩) 1 1)
        refine hK4 _ _ r3 ?_
        clear z0 f0 z1 f1 z2 f2 z3 f3 z4 f4 z5 f5 z6 f6 z7 f7 z8 f8 z9 f9 bTB bO r2
        generalize World.setCell (World.setCell (World.setCell (World.setCell (World.setCell (World.setCell (World.setCell (World.setCell (World.setCell (World.setCell wz _ _) _ _) _ _) _ _) _ _) _ _) _ _) _ _) _ _) _ _ = w6 at *
        refine wpHeldIn_done (by kernel_rfl) ?_ _
        go_simp
        refine noPanic_of ?_
        have bT6 : BoxS w6 (w.heap.size) _ _ := (r3.block (w.heap.size) (by rw [hNN]; exact bT5.lt)).trans bT5.drew
        have bX6 : BoxS w6 (w.heap.size + 1) _ _ := (r3.block (w.heap.size + 1) (by rw [hNN]; exact bX5.lt)).trans bX5.drew
        have bS6 : BoxS w6 (BS) _ _ := (r3.block (BS) (by rw [hNN]; exact bS5.lt)).trans bS5.drew
        have hB6 : Below w.heap.size w w6 := (hB5.drew).trans (r3.mono (by rw [hNN]; exact hB5.size))
        clear bT5 bX5 bS5 KC q0 y1w r3 hBBge hBOge hNN
        have kT0 := bT6.cell 0 rfl
        have kT1 := bT6.cell 1 rfl
        have kT2 := bT6.cell 2 rfl
        have kT3 := bT6.cell 3 rfl
        have kT4 := bT6.cell 4 rfl
        have kT5 := bT6.cell 5 rfl
        have kT6 := bT6.cell 6 rfl
        have kT7 := bT6.cell 7 rfl
        have kT8 := bT6.cell 8 rfl
        have kT9 := bT6.cell 9 rfl
        have lT := bT6.lt
        have kO0 := bO6.cell 0 rfl
        have kO1 := bO6.cell 1 rfl
        have kO2 := bO6.cell 2 rfl
        have kO3 := bO6.cell 3 rfl
        have kO4 := bO6.cell 4 rfl
        have kO5 := bO6.cell 5 rfl
        have kO6 := bO6.cell 6 rfl
        have kO7 := bO6.cell 7 rfl
        have kO8 := bO6.cell 8 rfl
        have kO9 := bO6.cell 9 rfl
        have lO := bO6.lt
        go_wp2_with fail
        clear kT0 kT1 kT2 kT3 kT4 kT5 kT6 kT7 kT8 kT9 lT kO0 kO1 kO2 kO3 kO4 kO5 kO6 kO7 kO8 kO9 lO
        have bT7 := (bT6.alloc (.cells #[.int .i64 full, .int .i64 read, .int .i64 slip, .int .i64 skew, .int .i64 circ, .int .i64 0, .int .i64 0, .int .i64 wrn] 25))
        have bX7 := (bX6.alloc (.cells #[.int .i64 full, .int .i64 read, .int .i64 slip, .int .i64 skew, .int .i64 circ, .int .i64 0, .int .i64 0, .int .i64 wrn] 25))
        have bS7 := (bS6.alloc (.cells #[.int .i64 full, .int .i64 read, .int .i64 slip, .int .i64 skew, .int .i64 circ, .int .i64 0, .int .i64 0, .int .i64 wrn] 25))
        have bO7 := (bO6.alloc (.cells #[.int .i64 full, .int .i64 read, .int .i64 slip, .int .i64 skew, .int .i64 circ, .int .i64 0, .int .i64 0, .int .i64 wrn] 25))
        have bB7 := (bB6.alloc (.cells #[.int .i64 full, .int .i64 read, .int .i64 slip, .int .i64 skew, .int .i64 circ, .int .i64 0, .int .i64 0, .int .i64 wrn] 25))
        have bD7 := (BoxS.new w6 25 #[.int .i64 full, .int .i64 read, .int .i64 slip, .int .i64 skew, .int .i64 circ, .int .i64 0, .int .i64 0, .int .i64 wrn])
        have hB7 : Below w.heap.size w (World.alloc w6 (.cells #[.int .i64 full, .int .i64 read, .int .i64 slip, .int .i64 skew, .int .i64 circ, .int .i64 0, .int .i64 0, .int .i64 wrn] 25)) := (hB6.alloc hB6.size _)
        obtain ⟨BD, hBD⟩ : ∃ B, B = w6.heap.size := ⟨_, rfl⟩
        clear bT6 bX6 bS6 bO6 bB6 hB6
        generalize World.alloc w6 _ = w7 at *
        rw [← hBD]
        rw [← hBD] at bD7
        clear hBD
        have hbr2 : b < w7.heap.size := by have := hB7.size; omega
        have y1w : w7.cell? ⟨b, off + 1, none⟩ = some (.slice AW ws.length cW) := (hB7.cell (p := ⟨b, off + 1, none⟩) hbt).trans y1
        have q0 : Below w7.heap.size w7.drew w7.drew := Below.refl _ _
        have KC : Hid (∀ V', Below w7.heap.size w7.drew V' → (V'.cell? ⟨w.heap.size, 9, none⟩ = some (.slice (some ⟨b, off, none⟩) ts.length c) ∧ V'.cell? ⟨b, off + 1, none⟩ = some (.slice AW ws.length cW) ∧ V'.cell? ⟨BD, 0, none⟩ = some (.int .i64 full) ∧ V'.cell? ⟨BD, 1, none⟩ = some (.int .i64 read) ∧ V'.cell? ⟨BD, 2, none⟩ = some (.int .i64 slip) ∧ V'.cell? ⟨BD, 3, none⟩ = some (.int .i64 skew) ∧ V'.cell? ⟨BD, 4, none⟩ = some (.int .i64 circ) ∧ V'.cell? ⟨BD, 5, none⟩ = some (.int .i64 0) ∧ V'.cell? ⟨BD, 6, none⟩ = some (.int .i64 0) ∧ V'.cell? ⟨BD, 7, none⟩ = some (.int .i64 wrn))) := fun V' h =>
          have hk : ∀ (bb o : Nat) (u : Value), bb < w7.heap.size → w7.cell? ⟨bb, o, none⟩ = some u → V'.cell? ⟨bb, o, none⟩ = some u := fun bb o u h1 h2 => (h.cell (p := ⟨bb, o, none⟩) h1).trans h2
          ⟨hk _ _ _ bT7.lt (bT7.cell 9 rfl), hk _ _ _ hbr2 y1w, hk _ _ _ bD7.lt (bD7.cell 0 rfl), hk _ _ _ bD7.lt (bD7.cell 1 rfl), hk _ _ _ bD7.lt (bD7.cell 2 rfl), hk _ _ _ bD7.lt (bD7.cell 3 rfl), hk _ _ _ bD7.lt (bD7.cell 4 rfl), hk _ _ _ bD7.lt (bD7.cell 5 rfl), hk _ _ _ bD7.lt (bD7.cell 6 rfl), hk _ _ _ bD7.lt (bD7.cell 7 rfl)⟩
        refine (wpIn_wide (n := 4)).1 ?_
        refine wpIn_mono (Q := noPanic _) ?_ noPanic_le
        refine wpIn_region_held (fun V' => Below w7.heap.size w7.drew V') 30 hmo ?_
        refine wpHeldIn_take (i := 0) (v := ?_) (plain_of (by kernel_rfl)) rfl (by kernel_rfl) (fun _ _ _ h => h) (yieldsSoIn_of (by kernel_rfl) ?_ (fun _ => rfl)) q0 ?_; rotate_left; focus (intro wq hw; have kq := KC.out wq hw; clear hw; go_simp; try (with_reducible rfl))
        refine wpHeldIn_take (i := 1) (v := ?_) (plain_of (by kernel_rfl)) rfl (by kernel_rfl) (fun _ _ _ h => h) (yieldsSoIn_of (by kernel_rfl) ?_ (fun _ => rfl)) q0 ?_; rotate_left; focus (intro wq hw; clear hw; go_simp; try (with_reducible rfl))
        refine wpHeldIn_take (i := 2) (v := ?_) (plain_of (by kernel_rfl)) rfl (by kernel_rfl) (fun _ _ _ h => h) (yieldsSoIn_of (by kernel_rfl) ?_ (fun _ => rfl)) q0 ?_; rotate_left; focus (intro wq hw; have kq := KC.out wq hw; clear hw; go_simp; try (with_reducible rfl))
        refine wpHeldIn_take (i := 3) (v := ?_) (plain_of (by kernel_rfl)) rfl (by kernel_rfl) (fun _ _ _ h => h) (yieldsSoIn_of (by kernel_rfl) ?_ (fun _ => rfl)) q0 ?_; rotate_left; focus (intro wq hw; clear hw; go_simp; try (with_reducible rfl))
        refine wpHeldIn_take (i := 4) (v := ?_) (plain_of (by kernel_rfl)) rfl (by kernel_rfl) (fun _ _ _ h => h) (yieldsSoIn_of (by kernel_rfl) ?_ (fun _ => rfl)) q0 ?_; rotate_left; focus (intro wq hw; clear hw; go_simp; try (with_reducible rfl))
        refine wpHeldIn_take (i := 5) (v := ?_) (plain_of (by kernel_rfl)) rfl (by kernel_rfl) (fun _ _ _ h => h) (yieldsSoIn_of (by kernel_rfl) ?_ (fun _ => rfl)) q0 ?_; rotate_left; focus (intro wq hw; have kq := KC.out wq hw; clear hw; go_simp; try (with_reducible rfl))
        refine wpHeldIn_one (i := 6) (by kernel_rfl) (by kernel_rfl) rfl (by kernel_rfl) (fun K5 hK5 => ?_)
        go_simp
        refine ⟨trivial, (callsIn_wide.2 (HWS.out AW cW _ ((HWK0.out.keep (hB7.drew)).wider (by have := hB7.size; show w.heap.size ≤ w7.heap.size; exact this)))).mono ?_⟩
        rintro e w8 ⟨vk, rfl, hvk, hbk⟩
        have q1 : Below w7.heap.size w7.drew w8 := hbk
        have HVK8 := Lib.hid hvk.out
        clear hvk
        obtain ⟨AQ, cQ, rfl⟩ := ints_form HVK8.out
        refine hK5 _ _ q1 ?_
        refine wpHeldIn_take (i := 7) (v := ?_) (plain_of (by kernel_rfl)) rfl (by kernel_rfl) (fun _ _ _ h => h) (yieldsSoIn_of (by kernel_rfl) ?_ (fun _ => rfl)) q1 ?_; rotate_left; focus (intro wq hw; clear hw; go_simp; try (with_reducible rfl))
        refine wpHeldIn_take (i := 8) (v := ?_) (plain_of (by kernel_rfl)) rfl (by kernel_rfl) (fun _ _ _ h => h) (yieldsSoIn_of (by kernel_rfl) ?_ (fun _ => rfl)) q1 ?_; rotate_left; focus (intro wq hw; clear hw; go_simp; try (with_reducible rfl))
        refine wpHeldIn_take (i := 9) (v := ?_) (plain_of (by kernel_rfl)) rfl (by kernel_rfl) (fun _ _ _ h => h) (yieldsSoIn_of (by kernel_rfl) ?_ (fun _ => rfl)) q1 ?_; rotate_left; focus (intro wq hw; clear hw; go_simp; try (with_reducible rfl))
        refine wpHeldIn_take (i := 10) (v := ?_) (plain_of (by kernel_rfl)) rfl (by kernel_rfl) (fun _ _ _ h => h) (yieldsSoIn_of (by kernel_rfl) ?_ (fun _ => rfl)) q1 ?_; rotate_left; focus (intro wq hw; clear hw; go_simp; try (with_reducible rfl))
        refine wpHeldIn_take (i := 11) (v := ?_) (plain_of (by kernel_rfl)) rfl (by kernel_rfl) (fun _ _ _ h => h) (yieldsSoIn_of (by kernel_rfl) ?_ (fun _ => rfl)) q1 ?_; rotate_left; focus (intro wq hw; clear hw; go_simp; try (with_reducible rfl))
        refine wpHeldIn_done (by kernel_rfl) ?_ _
        go_simp
        refine noPanic_of ?_
        have bT8 : BoxS w8 (w.heap.size) _ _ := (q1.block (w.heap.size) bT7.lt).trans bT7.drew
        have bX8 : BoxS w8 (w.heap.size + 1) _ _ := (q1.block (w.heap.size + 1) bX7.lt).trans bX7.drew
        have bS8 : BoxS w8 (BS) _ _ := (q1.block (BS) bS7.lt).trans bS7.drew
        have bO8 : BoxS w8 (BO) _ _ := (q1.block (BO) bO7.lt).trans bO7.drew
        have bB8 : BoxS w8 (BB) _ _ := (q1.block (BB) bB7.lt).trans bB7.drew
        have bD8 : BoxS w8 (BD) _ _ := (q1.block (BD) bD7.lt).trans bD7.drew
        have hB8 : Below w.heap.size w w8 := (hB7.drew).trans (q1.mono hB7.size)
        clear bT7 bX7 bS7 bO7 bB7 bD7 hB7 KC q0 q1 hbk y1w
        have kO0 := bO8.cell 0 rfl
        have kO1 := bO8.cell 1 rfl
        have kO2 := bO8.cell 2 rfl
        have kO3 := bO8.cell 3 rfl
        have kO4 := bO8.cell 4 rfl
        have kO5 := bO8.cell 5 rfl
        have kO6 := bO8.cell 6 rfl
        have kO7 := bO8.cell 7 rfl
        have kO8 := bO8.cell 8 rfl
        have kO9 := bO8.cell 9 rfl
        have lO := bO8.lt
        go_wp2_with fail
        clear kO0 kO1 kO2 kO3 kO4 kO5 kO6 kO7 kO8 kO9 lO
        have hTS : Tsts w8 w8.heap.size (some ⟨BB, 0, none⟩) [(0, ws)] := tsts_one bB8 ((HWK0.out.keep hB8).wider hB8.size) hwl
        refine (HS2.out _ _ _ hTS).mono ?_
        rintro e w9 ⟨vm, rfl, hvm, hb9⟩
        have bT9 := bT8.below hb9
        have bX9 := bX8.below hb9
        have bS9 := bS8.below hb9
        have bO9 := bO8.below hb9
        have bB9 := bB8.below hb9
        have bD9 := bD8.below hb9
        have hB9 := hB8.trans (hb9.mono hB8.size)
        clear bT8 bX8 bS8 bO8 bB8 bD8 hB8
        have HVK9 := Lib.hid ((HVK8.out.keep hb9).more hb9.size)
        have HVM9 := Lib.hid hvm.out
        clear hvm hTS HVK8
        obtain ⟨AM, cM, rfl⟩ := ints_form HVM9.out
        have kO0 := bO9.cell 0 rfl
        have kO1 := bO9.cell 1 rfl
        have kO2 := bO9.cell 2 rfl
        have kO3 := bO9.cell 3 rfl
        have kO4 := bO9.cell 4 rfl
        have kO5 := bO9.cell 5 rfl
        have kO6 := bO9.cell 6 rfl
        have kO7 := bO9.cell 7 rfl
        have kO8 := bO9.cell 8 rfl
        have kO9 := bO9.cell 9 rfl
        have lO := bO9.lt
        go_wp2_with fail
        clear kO0 kO1 kO2 kO3 kO4 kO5 kO6 kO7 kO8 kO9 lO
        have hTS : Tsts w9 w9.heap.size (some ⟨BB, 0, none⟩) [(0, ws)] := tsts_one bB9 ((HWK0.out.keep hB9).wider hB9.size) hwl
        refine (HM2.out _ _ _ hTS).mono ?_
        rintro e w10 ⟨rfl, hb10⟩
        have bT10 := bT9.below hb10
        have bX10 := bX9.below hb10
        have bS10 := bS9.below hb10
        have bO10 := bO9.below hb10
        have bB10 := bB9.below hb10
        have bD10 := bD9.below hb10
        have hB10 := hB9.trans (hb10.mono hB9.size)
        clear bT9 bX9 bS9 bO9 bB9 bD9 hB9
        have HVK10 := Lib.hid ((HVK9.out.keep hb10).more hb10.size)
        have HVM10 := Lib.hid ((HVM9.out.keep hb10).more hb10.size)
        clear hTS HVK9 HVM9
        have kT0 := bT10.cell 0 rfl
        have kT1 := bT10.cell 1 rfl
        have kT2 := bT10.cell 2 rfl
        have kT3 := bT10.cell 3 rfl
        have kT4 := bT10.cell 4 rfl
        have kT5 := bT10.cell 5 rfl
        have kT6 := bT10.cell 6 rfl
        have kT7 := bT10.cell 7 rfl
        have kT8 := bT10.cell 8 rfl
        have kT9 := bT10.cell 9 rfl
        have lT := bT10.lt
        go_wp2_with fail
        clear kT0 kT1 kT2 kT3 kT4 kT5 kT6 kT7 kT8 kT9 lT
        refine (HKG.out _).mono ?_
        rintro e wq ⟨rfl, hq⟩
        have hq := hq.symm
        subst hq
        have kT0 := bT10.cell 0 rfl
        have kT1 := bT10.cell 1 rfl
        have kT2 := bT10.cell 2 rfl
        have kT3 := bT10.cell 3 rfl
        have kT4 := bT10.cell 4 rfl
        have kT5 := bT10.cell 5 rfl
        have kT6 := bT10.cell 6 rfl
        have kT7 := bT10.cell 7 rfl
        have kT8 := bT10.cell 8 rfl
        have kT9 := bT10.cell 9 rfl
        have lT := bT10.lt
        go_wp2_with fail
        clear kT0 kT1 kT2 kT3 kT4 kT5 kT6 kT7 kT8 kT9 lT
        refine (HSI.out _ _ _ HVK10.out HVM10.out).mono ?_
        rintro e w11 ⟨rfl, hb11⟩
        have bT11 := bT10.below hb11
        have bX11 := bX10.below hb11
        have bS11 := bS10.below hb11
        have bO11 := bO10.below hb11
        have bB11 := bB10.below hb11
        have bD11 := bD10.below hb11
        have hB11 := hB10.trans (hb11.mono hB10.size)
        clear bT10 bX10 bS10 bO10 bB10 bD10 hB10
        have kT0 := bT11.cell 0 rfl
        have kT1 := bT11.cell 1 rfl
        have kT2 := bT11.cell 2 rfl
        have kT3 := bT11.cell 3 rfl
        have kT4 := bT11.cell 4 rfl
        have kT5 := bT11.cell 5 rfl
        have kT6 := bT11.cell 6 rfl
        have kT7 := bT11.cell 7 rfl
        have kT8 := bT11.cell 8 rfl
        have kT9 := bT11.cell 9 rfl
        have lT := bT11.lt
        go_wp2_with fail
        clear kT0 kT1 kT2 kT3 kT4 kT5 kT6 kT7 kT8 kT9 lT
        refine (HWK.out _).mono ?_
        rintro e w12 ⟨rfl, hb12⟩
        have bT12 := bT11.below hb12
        have bX12 := bX11.below hb12
        have bS12 := bS11.below hb12
        have bO12 := bO11.below hb12
        have bB12 := bB11.below hb12
        have bD12 := bD11.below hb12
        have hB12 := hB11.trans (hb12.mono hB11.size)
        clear bT11 bX11 bS11 bO11 bB11 bD11 hB11
        go_wp2_with fail
        go_returns
        exact ⟨rfl, hB12⟩
      · go_simp
        have r1 : Below NN w5.drew (w5.alloc (.cells #[.int .i64 0, .int .i64 0, .int .i64 0, .int .i64 0, .int .i64 0, .int .i64 0, .int .i64 0, .int .i64 0, .int .i64 0, .slice none 0 0] 28)).drew := (show Below NN w5.drew (w5.drew.alloc (.cells #[.int .i64 0, .int .i64 0, .int .i64 0, .int .i64 0, .int .i64 0, .int .i64 0, .int .i64 0, .int .i64 0, .int .i64 0, .slice none 0 0] 28)) from q0.alloc (by rw [hNN]; exact Nat.le_refl _) _)
        refine hK7 _ _ r1 ?_
        refine wpHeldIn_one (i := 10) (by kernel_rfl) (by kernel_rfl) rfl (by kernel_rfl) (fun K3 hK3 => ?_)
        go_simp
        have r2 : Below NN w5.drew ((w5.alloc (.cells #[.int .i64 0, .int .i64 0, .int .i64 0, .int .i64 0, .int .i64 0, .int .i64 0, .int .i64 0, .int .i64 0, .int .i64 0, .slice none 0 0] 28)).alloc (.cells #[.int .i64 0, .slice AW ws.length cW] 31)).drew := (show Below NN w5.drew ((w5.drew.alloc (.cells #[.int .i64 0, .int .i64 0, .int .i64 0, .int .i64 0, .int .i64 0, .int .i64 0, .int .i64 0, .int .i64 0, .int .i64 0, .slice none 0 0] 28)).alloc (.cells #[.int .i64 0, .slice AW ws.length cW] 31)) from (show Below NN w5.drew (w5.drew.alloc (.cells #[.int .i64 0, .int .i64 0, .int .i64 0, .int .i64 0, .int .i64 0, .int .i64 0, .int .i64 0, .int .i64 0, .int .i64 0, .slice none 0 0] 28)) from r1).alloc (by rw [hNN]; exact r1.size) _)
        refine hK3 _ _ r2 ?_
        have bF1 : BoxS ((w5.alloc (.cells #[.int .i64 0, .int .i64 0, .int .i64 0, .int .i64 0, .int .i64 0, .int .i64 0, .int .i64 0, .int .i64 0, .int .i64 0, .slice none 0 0] 28)).alloc (.cells #[.int .i64 0, .slice AW ws.length cW] 31)).drew w5.drew.heap.size _ _ := ((BoxS.new w5.drew 28 #[.int .i64 0, .int .i64 0, .int .i64 0, .int .i64 0, .int .i64 0, .int .i64 0, .int .i64 0, .int .i64 0, .int .i64 0, .slice none 0 0]).alloc (.cells #[.int .i64 0, .slice AW ws.length cW] 31))
        have bF2 : BoxS ((w5.alloc (.cells #[.int .i64 0, .int .i64 0, .int .i64 0, .int .i64 0, .int .i64 0, .int .i64 0, .int .i64 0, .int .i64 0, .int .i64 0, .slice none 0 0] 28)).alloc (.cells #[.int .i64 0, .slice AW ws.length cW] 31)).drew (w5.drew.alloc (.cells #[.int .i64 0, .int .i64 0, .int .i64 0, .int .i64 0, .int .i64 0, .int .i64 0, .int .i64 0, .int .i64 0, .int .i64 0, .slice none 0 0] 28)).heap.size _ _ := (BoxS.new (w5.drew.alloc (.cells #[.int .i64 0, .int .i64 0, .int .i64 0, .int .i64 0, .int .i64 0, .int .i64 0, .int .i64 0, .int .i64 0, .int .i64 0, .slice none 0 0] 28)) 31 #[.int .i64 0, .slice AW ws.length cW])
        have hzd : w5.drew.heap.size = w5.heap.size := rfl
        simp only [World.size_alloc, hzd] at bF1 bF2
        clear hzd
        have bTB := bF2
        have bO := bF1
        clear bF1 bF2
        obtain ⟨BB, hBB⟩ : ∃ B, B = w5.heap.size + 1 := ⟨_, rfl⟩
        obtain ⟨BO, hBO⟩ : ∃ B, B = w5.heap.size := ⟨_, rfl⟩
        have hBne : BB ≠ BO := by omega
        have hBBge : NN ≤ BB := by omega
        have hBOge : NN ≤ BO := by omega
        try rw [← hBB]
        try rw [← hBB] at bTB
        try rw [← hBB] at bO
        try rw [← hBO]
        try rw [← hBO] at bTB
        try rw [← hBO] at bO
        clear hBB hBO r1
        generalize World.drew (World.alloc (World.alloc w5 _) _) = wz at *
        refine wpHeldIn_take (i := 11) (v := ?_) (plain_of (by kernel_rfl)) rfl (by kernel_rfl) (fun _ _ _ h => h) (yieldsSoIn_of (by kernel_rfl) ?_ (fun _ => rfl)) r2 ?_; rotate_left; focus (intro wq hw; clear hw; go_simp; try (with_reducible rfl))
        have z0 := bO.cell 0 rfl
        have f0 := bO.frozen 0
        have z1 := bO.cell 1 rfl
        have f1 := bO.frozen 1
        have z2 := bO.cell 2 rfl
        have f2 := bO.frozen 2
        have z3 := bO.cell 3 rfl
        have f3 := bO.frozen 3
        have z4 := bO.cell 4 rfl
        have f4 := bO.frozen 4
        have z5 := bO.cell 5 rfl
        have f5 := bO.frozen 5
        have z6 := bO.cell 6 rfl
        have f6 := bO.frozen 6
        have z7 := bO.cell 7 rfl
        have f7 := bO.frozen 7
        have z8 := bO.cell 8 rfl
        have f8 := bO.frozen 8
        have z9 := bO.cell 9 rfl
        have f9 := bO.frozen 9
        refine wpHeldIn_one (i := 13) (by kernel_rfl) (by kernel_rfl) rfl (by kernel_rfl) (fun K4 hK4 => ?_)
        go_simp
        have bO6 := ten_put bO (.int .i64 full) (.int .i64 read) (.int .i64 slip) (.int .i64 skew) (.int .i64 circ) (.int .i64 glo) (.int .i64 ghi) (.int .i64 wrn) (.int .i64 gain) (.slice (some ⟨BB, 0, none⟩) 1 1)
        have bB6 := ten_other bTB hBne (.int .i64 full) (.int .i64 read) (.int .i64 slip) (.int .i64 skew) (.int .i64 circ) (.int .i64 glo) (.int .i64 ghi) (.int .i64 wrn) (.int .i64 gain) (.slice (some ⟨BB, 0, none⟩) 1 1)
        have r3 := ten_below r2 hBOge (.int .i64 full) (.int .i64 read) (.int .i64 slip) (.int .i64 skew) (.int .i64 circ) (.int .i64 glo) (.int .i64 ghi) (.int .i64 wrn) (.int .i64 gain) (.slice (some ⟨BB, 0, none⟩) 1 1)
        refine hK4 _ _ r3 ?_
        clear z0 f0 z1 f1 z2 f2 z3 f3 z4 f4 z5 f5 z6 f6 z7 f7 z8 f8 z9 f9 bTB bO r2
        generalize World.setCell (World.setCell (World.setCell (World.setCell (World.setCell (World.setCell (World.setCell (World.setCell (World.setCell (World.setCell wz _ _) _ _) _ _) _ _) _ _) _ _) _ _) _ _) _ _) _ _ = w6 at *
        refine wpHeldIn_done (by kernel_rfl) ?_ _
        go_simp
        refine noPanic_of ?_
        have bT6 : BoxS w6 (w.heap.size) _ _ := (r3.block (w.heap.size) (by rw [hNN]; exact bT5.lt)).trans bT5.drew
        have bX6 : BoxS w6 (w.heap.size + 1) _ _ := (r3.block (w.heap.size + 1) (by rw [hNN]; exact bX5.lt)).trans bX5.drew
        have bS6 : BoxS w6 (BS) _ _ := (r3.block (BS) (by rw [hNN]; exact bS5.lt)).trans bS5.drew
        have hB6 : Below w.heap.size w w6 := (hB5.drew).trans (r3.mono (by rw [hNN]; exact hB5.size))
        clear bT5 bX5 bS5 KC q0 y1w r3 hBBge hBOge hNN
        have kT0 := bT6.cell 0 rfl
        have kT1 := bT6.cell 1 rfl
        have kT2 := bT6.cell 2 rfl
        have kT3 := bT6.cell 3 rfl
        have kT4 := bT6.cell 4 rfl
        have kT5 := bT6.cell 5 rfl
        have kT6 := bT6.cell 6 rfl
        have kT7 := bT6.cell 7 rfl
        have kT8 := bT6.cell 8 rfl
        have kT9 := bT6.cell 9 rfl
        have lT := bT6.lt
        have kO0 := bO6.cell 0 rfl
        have kO1 := bO6.cell 1 rfl
        have kO2 := bO6.cell 2 rfl
        have kO3 := bO6.cell 3 rfl
        have kO4 := bO6.cell 4 rfl
        have kO5 := bO6.cell 5 rfl
        have kO6 := bO6.cell 6 rfl
        have kO7 := bO6.cell 7 rfl
        have kO8 := bO6.cell 8 rfl
        have kO9 := bO6.cell 9 rfl
        have lO := bO6.lt
        go_wp2_with fail
        clear kT0 kT1 kT2 kT3 kT4 kT5 kT6 kT7 kT8 kT9 lT kO0 kO1 kO2 kO3 kO4 kO5 kO6 kO7 kO8 kO9 lO
        have bT7 := (bT6.alloc (.cells #[.int .i64 full, .int .i64 read, .int .i64 slip, .int .i64 skew, .int .i64 circ, .int .i64 0, .int .i64 0, .int .i64 wrn] 25))
        have bX7 := (bX6.alloc (.cells #[.int .i64 full, .int .i64 read, .int .i64 slip, .int .i64 skew, .int .i64 circ, .int .i64 0, .int .i64 0, .int .i64 wrn] 25))
        have bS7 := (bS6.alloc (.cells #[.int .i64 full, .int .i64 read, .int .i64 slip, .int .i64 skew, .int .i64 circ, .int .i64 0, .int .i64 0, .int .i64 wrn] 25))
        have bO7 := (bO6.alloc (.cells #[.int .i64 full, .int .i64 read, .int .i64 slip, .int .i64 skew, .int .i64 circ, .int .i64 0, .int .i64 0, .int .i64 wrn] 25))
        have bB7 := (bB6.alloc (.cells #[.int .i64 full, .int .i64 read, .int .i64 slip, .int .i64 skew, .int .i64 circ, .int .i64 0, .int .i64 0, .int .i64 wrn] 25))
        have bD7 := (BoxS.new w6 25 #[.int .i64 full, .int .i64 read, .int .i64 slip, .int .i64 skew, .int .i64 circ, .int .i64 0, .int .i64 0, .int .i64 wrn])
        have hB7 : Below w.heap.size w (World.alloc w6 (.cells #[.int .i64 full, .int .i64 read, .int .i64 slip, .int .i64 skew, .int .i64 circ, .int .i64 0, .int .i64 0, .int .i64 wrn] 25)) := (hB6.alloc hB6.size _)
        obtain ⟨BD, hBD⟩ : ∃ B, B = w6.heap.size := ⟨_, rfl⟩
        clear bT6 bX6 bS6 bO6 bB6 hB6
        generalize World.alloc w6 _ = w7 at *
        rw [← hBD]
        rw [← hBD] at bD7
        clear hBD
        have hbr2 : b < w7.heap.size := by have := hB7.size; omega
        have y1w : w7.cell? ⟨b, off + 1, none⟩ = some (.slice AW ws.length cW) := (hB7.cell (p := ⟨b, off + 1, none⟩) hbt).trans y1
        have q0 : Below w7.heap.size w7.drew w7.drew := Below.refl _ _
        have KC : Hid (∀ V', Below w7.heap.size w7.drew V' → (V'.cell? ⟨w.heap.size, 9, none⟩ = some (.slice (some ⟨b, off, none⟩) ts.length c) ∧ V'.cell? ⟨b, off + 1, none⟩ = some (.slice AW ws.length cW) ∧ V'.cell? ⟨BD, 0, none⟩ = some (.int .i64 full) ∧ V'.cell? ⟨BD, 1, none⟩ = some (.int .i64 read) ∧ V'.cell? ⟨BD, 2, none⟩ = some (.int .i64 slip) ∧ V'.cell? ⟨BD, 3, none⟩ = some (.int .i64 skew) ∧ V'.cell? ⟨BD, 4, none⟩ = some (.int .i64 circ) ∧ V'.cell? ⟨BD, 5, none⟩ = some (.int .i64 0) ∧ V'.cell? ⟨BD, 6, none⟩ = some (.int .i64 0) ∧ V'.cell? ⟨BD, 7, none⟩ = some (.int .i64 wrn))) := fun V' h =>
          have hk : ∀ (bb o : Nat) (u : Value), bb < w7.heap.size → w7.cell? ⟨bb, o, none⟩ = some u → V'.cell? ⟨bb, o, none⟩ = some u := fun bb o u h1 h2 => (h.cell (p := ⟨bb, o, none⟩) h1).trans h2
          ⟨hk _ _ _ bT7.lt (bT7.cell 9 rfl), hk _ _ _ hbr2 y1w, hk _ _ _ bD7.lt (bD7.cell 0 rfl), hk _ _ _ bD7.lt (bD7.cell 1 rfl), hk _ _ _ bD7.lt (bD7.cell 2 rfl), hk _ _ _ bD7.lt (bD7.cell 3 rfl), hk _ _ _ bD7.lt (bD7.cell 4 rfl), hk _ _ _ bD7.lt (bD7.cell 5 rfl), hk _ _ _ bD7.lt (bD7.cell 6 rfl), hk _ _ _ bD7.lt (bD7.cell 7 rfl)⟩
        refine (wpIn_wide (n := 4)).1 ?_
        refine wpIn_mono (Q := noPanic _) ?_ noPanic_le
        refine wpIn_region_held (fun V' => Below w7.heap.size w7.drew V') 30 hmo ?_
        refine wpHeldIn_take (i := 0) (v := ?_) (plain_of (by kernel_rfl)) rfl (by kernel_rfl) (fun _ _ _ h => h) (yieldsSoIn_of (by kernel_rfl) ?_ (fun _ => rfl)) q0 ?_; rotate_left; focus (intro wq hw; have kq := KC.out wq hw; clear hw; go_simp; try (with_reducible rfl))
        refine wpHeldIn_take (i := 1) (v := ?_) (plain_of (by kernel_rfl)) rfl (by kernel_rfl) (fun _ _ _ h => h) (yieldsSoIn_of (by kernel_rfl) ?_ (fun _ => rfl)) q0 ?_; rotate_left; focus (intro wq hw; clear hw; go_simp; try (with_reducible rfl))
        refine wpHeldIn_take (i := 2) (v := ?_) (plain_of (by kernel_rfl)) rfl (by kernel_rfl) (fun _ _ _ h => h) (yieldsSoIn_of (by kernel_rfl) ?_ (fun _ => rfl)) q0 ?_; rotate_left; focus (intro wq hw; have kq := KC.out wq hw; clear hw; go_simp; try (with_reducible rfl))
        refine wpHeldIn_take (i := 3) (v := ?_) (plain_of (by kernel_rfl)) rfl (by kernel_rfl) (fun _ _ _ h => h) (yieldsSoIn_of (by kernel_rfl) ?_ (fun _ => rfl)) q0 ?_; rotate_left; focus (intro wq hw; clear hw; go_simp; try (with_reducible rfl))
        refine wpHeldIn_take (i := 4) (v := ?_) (plain_of (by kernel_rfl)) rfl (by kernel_rfl) (fun _ _ _ h => h) (yieldsSoIn_of (by kernel_rfl) ?_ (fun _ => rfl)) q0 ?_; rotate_left; focus (intro wq hw; clear hw; go_simp; try (with_reducible rfl))
        refine wpHeldIn_take (i := 5) (v := ?_) (plain_of (by kernel_rfl)) rfl (by kernel_rfl) (fun _ _ _ h => h) (yieldsSoIn_of (by kernel_rfl) ?_ (fun _ => rfl)) q0 ?_; rotate_left; focus (intro wq hw; have kq := KC.out wq hw; clear hw; go_simp; try (with_reducible rfl))
        refine wpHeldIn_one (i := 6) (by kernel_rfl) (by kernel_rfl) rfl (by kernel_rfl) (fun K5 hK5 => ?_)
        go_simp
        refine ⟨trivial, (callsIn_wide.2 (HWS.out AW cW _ ((HWK0.out.keep (hB7.drew)).wider (by have := hB7.size; show w.heap.size ≤ w7.heap.size; exact this)))).mono ?_⟩
        rintro e w8 ⟨vk, rfl, hvk, hbk⟩
        have q1 : Below w7.heap.size w7.drew w8 := hbk
        have HVK8 := Lib.hid hvk.out
        clear hvk
        obtain ⟨AQ, cQ, rfl⟩ := ints_form HVK8.out
        refine hK5 _ _ q1 ?_
        refine wpHeldIn_take (i := 7) (v := ?_) (plain_of (by kernel_rfl)) rfl (by kernel_rfl) (fun _ _ _ h => h) (yieldsSoIn_of (by kernel_rfl) ?_ (fun _ => rfl)) q1 ?_; rotate_left; focus (intro wq hw; clear hw; go_simp; try (with_reducible rfl))
        refine wpHeldIn_take (i := 8) (v := ?_) (plain_of (by kernel_rfl)) rfl (by kernel_rfl) (fun _ _ _ h => h) (yieldsSoIn_of (by kernel_rfl) ?_ (fun _ => rfl)) q1 ?_; rotate_left; focus (intro wq hw; clear hw; go_simp; try (with_reducible rfl))
        refine wpHeldIn_take (i := 9) (v := ?_) (plain_of (by kernel_rfl)) rfl (by kernel_rfl) (fun _ _ _ h => h) (yieldsSoIn_of (by kernel_rfl) ?_ (fun _ => rfl)) q1 ?_; rotate_left; focus (intro wq hw; clear hw; go_simp; try (with_reducible rfl))
        refine wpHeldIn_take (i := 10) (v := ?_) (plain_of (by kernel_rfl)) rfl (by kernel_rfl) (fun _ _ _ h => h) (yieldsSoIn_of (by kernel_rfl) ?_ (fun _ => rfl)) q1 ?_; rotate_left; focus (intro wq hw; clear hw; go_simp; try (with_reducible rfl))
        refine wpHeldIn_take (i := 11) (v := ?_) (plain_of (by kernel_rfl)) rfl (by kernel_rfl) (fun _ _ _ h => h) (yieldsSoIn_of (by kernel_rfl) ?_ (fun _ => rfl)) q1 ?_; rotate_left; focus (intro wq hw; clear hw; go_simp; try (with_reducible rfl))
        refine wpHeldIn_done (by kernel_rfl) ?_ _
        go_simp
        refine noPanic_of ?_
        have bT8 : BoxS w8 (w.heap.size) _ _ := (q1.block (w.heap.size) bT7.lt).trans bT7.drew
        have bX8 : BoxS w8 (w.heap.size + 1) _ _ := (q1.block (w.heap.size + 1) bX7.lt).trans bX7.drew
        have bS8 : BoxS w8 (BS) _ _ := (q1.block (BS) bS7.lt).trans bS7.drew
        have bO8 : BoxS w8 (BO) _ _ := (q1.block (BO) bO7.lt).trans bO7.drew
        have bB8 : BoxS w8 (BB) _ _ := (q1.block (BB) bB7.lt).trans bB7.drew
        have bD8 : BoxS w8 (BD) _ _ := (q1.block (BD) bD7.lt).trans bD7.drew
        have hB8 : Below w.heap.size w w8 := (hB7.drew).trans (q1.mono hB7.size)
        clear bT7 bX7 bS7 bO7 bB7 bD7 hB7 KC q0 q1 hbk y1w
        have kO0 := bO8.cell 0 rfl
        have kO1 := bO8.cell 1 rfl
        have kO2 := bO8.cell 2 rfl
        have kO3 := bO8.cell 3 rfl
        have kO4 := bO8.cell 4 rfl
        have kO5 := bO8.cell 5 rfl
        have kO6 := bO8.cell 6 rfl
        have kO7 := bO8.cell 7 rfl
        have kO8 := bO8.cell 8 rfl
        have kO9 := bO8.cell 9 rfl
        have lO := bO8.lt
        go_wp2_with fail
        clear kO0 kO1 kO2 kO3 kO4 kO5 kO6 kO7 kO8 kO9 lO
        have hTS : Tsts w8 w8.heap.size (some ⟨BB, 0, none⟩) [(0, ws)] := tsts_one bB8 ((HWK0.out.keep hB8).wider hB8.size) hwl
        refine (HS2.out _ _ _ hTS).mono ?_
        rintro e w9 ⟨vm, rfl, hvm, hb9⟩
        have bT9 := bT8.below hb9
        have bX9 := bX8.below hb9
        have bS9 := bS8.below hb9
        have bO9 := bO8.below hb9
        have bB9 := bB8.below hb9
        have bD9 := bD8.below hb9
        have hB9 := hB8.trans (hb9.mono hB8.size)
        clear bT8 bX8 bS8 bO8 bB8 bD8 hB8
        have HVK9 := Lib.hid ((HVK8.out.keep hb9).more hb9.size)
        have HVM9 := Lib.hid hvm.out
        clear hvm hTS HVK8
        obtain ⟨AM, cM, rfl⟩ := ints_form HVM9.out
        have kO0 := bO9.cell 0 rfl
        have kO1 := bO9.cell 1 rfl
        have kO2 := bO9.cell 2 rfl
        have kO3 := bO9.cell 3 rfl
        have kO4 := bO9.cell 4 rfl
        have kO5 := bO9.cell 5 rfl
        have kO6 := bO9.cell 6 rfl
        have kO7 := bO9.cell 7 rfl
        have kO8 := bO9.cell 8 rfl
        have kO9 := bO9.cell 9 rfl
        have lO := bO9.lt
        go_wp2_with fail
        clear kO0 kO1 kO2 kO3 kO4 kO5 kO6 kO7 kO8 kO9 lO
        have hTS : Tsts w9 w9.heap.size (some ⟨BB, 0, none⟩) [(0, ws)] := tsts_one bB9 ((HWK0.out.keep hB9).wider hB9.size) hwl
        refine (HM2.out _ _ _ hTS).mono ?_
        rintro e w10 ⟨rfl, hb10⟩
        have bT10 := bT9.below hb10
        have bX10 := bX9.below hb10
        have bS10 := bS9.below hb10
        have bO10 := bO9.below hb10
        have bB10 := bB9.below hb10
        have bD10 := bD9.below hb10
        have hB10 := hB9.trans (hb10.mono hB9.size)
        clear bT9 bX9 bS9 bO9 bB9 bD9 hB9
        have HVK10 := Lib.hid ((HVK9.out.keep hb10).more hb10.size)
        have HVM10 := Lib.hid ((HVM9.out.keep hb10).more hb10.size)
        clear hTS HVK9 HVM9
        have kT0 := bT10.cell 0 rfl
        have kT1 := bT10.cell 1 rfl
        have kT2 := bT10.cell 2 rfl
        have kT3 := bT10.cell 3 rfl
        have kT4 := bT10.cell 4 rfl
        have kT5 := bT10.cell 5 rfl
        have kT6 := bT10.cell 6 rfl
        have kT7 := bT10.cell 7 rfl
        have kT8 := bT10.cell 8 rfl
        have kT9 := bT10.cell 9 rfl
        have lT := bT10.lt
        go_wp2_with fail
        clear kT0 kT1 kT2 kT3 kT4 kT5 kT6 kT7 kT8 kT9 lT
        refine (HKG.out _).mono ?_
        rintro e wq ⟨rfl, hq⟩
        have hq := hq.symm
        subst hq
        have kT0 := bT10.cell 0 rfl
        have kT1 := bT10.cell 1 rfl
        have kT2 := bT10.cell 2 rfl
        have kT3 := bT10.cell 3 rfl
        have kT4 := bT10.cell 4 rfl
        have kT5 := bT10.cell 5 rfl
        have kT6 := bT10.cell 6 rfl
        have kT7 := bT10.cell 7 rfl
        have kT8 := bT10.cell 8 rfl
        have kT9 := bT10.cell 9 rfl
        have lT := bT10.lt
        go_wp2_with fail
        clear kT0 kT1 kT2 kT3 kT4 kT5 kT6 kT7 kT8 kT9 lT
        refine (HSI.out _ _ _ HVK10.out HVM10.out).mono ?_
        rintro e w11 ⟨rfl, hb11⟩
        have bT11 := bT10.below hb11
        have bX11 := bX10.below hb11
        have bS11 := bS10.below hb11
        have bO11 := bO10.below hb11
        have bB11 := bB10.below hb11
        have bD11 := bD10.below hb11
        have hB11 := hB10.trans (hb11.mono hB10.size)
        clear bT10 bX10 bS10 bO10 bB10 bD10 hB10
        have kT0 := bT11.cell 0 rfl
        have kT1 := bT11.cell 1 rfl
        have kT2 := bT11.cell 2 rfl
        have kT3 := bT11.cell 3 rfl
        have kT4 := bT11.cell 4 rfl
        have kT5 := bT11.cell 5 rfl
        have kT6 := bT11.cell 6 rfl
        have kT7 := bT11.cell 7 rfl
        have kT8 := bT11.cell 8 rfl
        have kT9 := bT11.cell 9 rfl
        have lT := bT11.lt
        go_wp2_with fail
        clear kT0 kT1 kT2 kT3 kT4 kT5 kT6 kT7 kT8 kT9 lT
        refine (HWK.out _).mono ?_
        rintro e w12 ⟨rfl, hb12⟩
        have bT12 := bT11.below hb12
        have bX12 := bX11.below hb12
        have bS12 := bS11.below hb12
        have bO12 := bO11.below hb12
        have bB12 := bB11.below hb12
        have bD12 := bD11.below hb12
        have hB12 := hB11.trans (hb12.mono hB11.size)
        clear bT11 bX11 bS11 bO11 bB11 bD11 hB11
        go_wp2_with fail
        go_returns
        exact ⟨rfl, hB12⟩
    · have hn0 : ((ts.length : Int) == 0) = true := by rw [beq_iff_eq]; omega
      have kT0 := bT5.cell 0 rfl
      have kT1 := bT5.cell 1 rfl
      have kT2 := bT5.cell 2 rfl
      have kT3 := bT5.cell 3 rfl
      have kT4 := bT5.cell 4 rfl
      have kT5 := bT5.cell 5 rfl
      have kT6 := bT5.cell 6 rfl
      have kT7 := bT5.cell 7 rfl
      have kT8 := bT5.cell 8 rfl
      have kT9 := bT5.cell 9 rfl
      have lT := bT5.lt
      have kX0 := bX5.cell 0 rfl
      have kX1 := bX5.cell 1 rfl
      have lX := bX5.lt
      have kS0 := bS5.cell 0 rfl
      have kS1 := bS5.cell 1 rfl
      have lS := bS5.lt
      go_wp2_with fail
      clear kT0 kT1 kT2 kT3 kT4 kT5 kT6 kT7 kT8 kT9 lT kX0 kX1 lX kS0 kS1 lS
      refine (HWK.out _).mono ?_
      rintro e w6 ⟨rfl, hb6⟩
      have bT6 := bT5.below hb6
      have bX6 := bX5.below hb6
      have bS6 := bS5.below hb6
      have hB6 := hB5.trans (hb6.mono hB5.size)
      clear bT5 bX5 bS5 hB5
      go_wp2_with fail
      go_returns
      exact ⟨rfl, hB6⟩
end Go.Proofs.Ytkmacpkjobdffaa
