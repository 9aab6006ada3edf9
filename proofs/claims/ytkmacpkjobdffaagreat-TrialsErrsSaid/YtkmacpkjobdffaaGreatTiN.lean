/- Trials: certificates. -/
import Derived.Test.YtkmacpkjobdffaaGreatTiM
namespace Go.Proofs.YtkmacpkjobdffaaGreat
open Go.RowKit Go.Maps
namespace Ti
def cerV (lo hi mo : Int) : Int := if hi ≤ mo then 1 else if mo < lo then 2 else 3
def classB (sz mo : Int) : Bool := inB sz 0 9000 && inB mo 0 9999
def certV (t : Tri) (sz mo E : Int) : Int := if E = 0 then cerV (lowL (fun x => errV x sz) (truthsL t)) (highL (fun x => errV x sz) (truthsL t)) mo else 0
end Ti
set_option maxHeartbeats 1000000 in
theorem cert1_any (x : Ti.GkS) (sz mo : Int) (ha : 0 ≤ sz ∧ sz ≤ 9000) (B : Nat) (w : World) (hc : BoxS w B 45 #[.int .i64 sz, .int .i64 mo]) : Calls Tryz.prog 99 #[.agg #[.int .i64 x.1.1, .int .i64 x.1.2], .pointer (some ⟨B, 0, none⟩)] w fun e w' => e = .returned (.int .i64 (Ti.errV x.1 sz)) ∧ Below w.heap.size w w' := by
  have HER : Hid (∀ W, Calls Tryz.prog 63 #[.agg #[.int .i64 x.1.1, .int .i64 x.1.2], .int .i64 sz] W fun e w' => e = .returned (.int .i64 (Ti.errV x.1 sz)) ∧ Below W.heap.size W w') := fun W => err_any x.1 sz x.2.1 x.2.2 ha W
  generalize Ti.errV x.1 sz = E at *
  have c0 := hc.cell 0 rfl
  have lc := hc.lt
  go_enter Tryz.func99, Tryz.ntmps99
  go_wp2_with fail
  refine (HER.out _).mono ?_
  rintro e w2 ⟨rfl, hb2⟩
  have hB2 : Below w.heap.size w w2 := Below.trans (by (repeat' (first | (with_reducible exact Below.refl _ _) | (with_reducible assumption) | (with_reducible refine Below.alloc ?_ ?_ _) | (with_reducible refine Below.drew ?_) | (with_reducible refine Below.setCell ?_ ?_ _) | go_size | (exact (by simp)) | omega))) (hb2.mono (by simp))
  clear c0
  go_wp2_with fail
  go_returns
  exact ⟨rfl, hB2⟩
set_option maxRecDepth 100000 in
set_option maxHeartbeats 8000000 in
theorem fcert_any (t : Ti.Tri) (hga : 0 ≤ t.gain ∧ t.gain ≤ 50) (hsk : 0 ≤ t.d.skew ∧ t.d.skew ≤ 20) (hn6 : t.ts.length ≤ 6) (sz mo : Int) (hz : 0 ≤ sz ∧ sz ≤ 9000) (A : Option Addr) (c : Nat) (AL : Option Addr) (cm : Nat) (w : World) (hal : Alw w w.heap.size AL t) :
    Calls Tryz.prog 66 #[.agg (fV t A c AL t.ts.length cm), .agg #[.int .i64 sz, .int .i64 mo]] w fun e w' => e = .returned (.int .i64 (Ti.cerV (Ti.lowL (fun x => Ti.errV x sz) (Ti.truthsL t)) (Ti.highL (fun x => Ti.errV x sz) (Ti.truthsL t)) mo)) ∧ Below w.heap.size w w' := by
  have HFB : Hid (∀ B W, Below w.heap.size w W → BoxS W B 45 #[.int .i64 sz, .int .i64 mo] → Calls Tryz.prog 97 #[.agg (fV t A c AL t.ts.length cm), .func (.func 99) #[] #[.pointer (some ⟨B, 0, none⟩)]] W fun e w' => e = .returned (.agg #[.int .i64 (Ti.lowL (fun x => Ti.errV x sz) (Ti.truthsL t)), .int .i64 (Ti.highL (fun x => Ti.errV x sz) (Ti.truthsL t))]) ∧ Below W.heap.size W w') := fun B W hW hb =>
    fbounds_any t hga hsk hn6 99 (.pointer (some ⟨B, 0, none⟩)) (fun x => Ti.errV x sz) (fun args W => enters_of Tryz.func99 (by kernel_rfl) rfl args W) A c AL cm W
      (fun x V hV => cert1_any x sz mo hz B V (hb.below hV)) ((hal.keep hW).wider hW.size)
  generalize Ti.lowL (fun x => Ti.errV x sz) (Ti.truthsL t) = LO at *
  generalize Ti.highL (fun x => Ti.errV x sz) (Ti.truthsL t) = HI at *
  have HR : Hid (Ti.cerV LO HI mo = if HI ≤ mo then 1 else if mo < LO then 2 else 3) := rfl
  generalize Ti.cerV LO HI mo = R at *
  clear hal hga hsk
  unfold fV at *
  obtain ⟨d, gain, ts⟩ := t
  obtain ⟨full, read, slip, skew, circ, glo, ghi, wrn, dws⟩ := d
  dsimp only at *
  by_cases h1 : HI ≤ mo
  · have HR1 : Hid (R = 1) := by unfold Hid; rw [HR.out, if_pos h1]
    go_enter Tryz.func66, Tryz.ntmps66
    go_wp2_with fail
    have bC := BoxS.new (w.alloc (.cells #[.int .i64 full, .int .i64 read, .int .i64 slip, .int .i64 skew, .int .i64 circ, .int .i64 glo, .int .i64 ghi, .int .i64 wrn, .int .i64 gain, .slice A ts.length c, .slice AL ts.length cm] 84)) 45 #[.int .i64 sz, .int .i64 mo]
    have hB1 : Below w.heap.size w ((w.alloc (.cells #[.int .i64 full, .int .i64 read, .int .i64 slip, .int .i64 skew, .int .i64 circ, .int .i64 glo, .int .i64 ghi, .int .i64 wrn, .int .i64 gain, .slice A ts.length c, .slice AL ts.length cm] 84)).alloc (.cells #[.int .i64 sz, .int .i64 mo] 45)) := by (repeat' (first | (with_reducible exact Below.refl _ _) | (with_reducible assumption) | (with_reducible refine Below.alloc ?_ ?_ _) | (with_reducible refine Below.drew ?_) | (with_reducible refine Below.setCell ?_ ?_ _) | go_size | (exact (by simp)) | omega))
    rw [World.size_alloc] at bC
    generalize World.alloc (World.alloc w _) _ = w1 at *
    refine (HFB.out _ _ hB1 bC).mono ?_
    rintro e w2 ⟨rfl, hb2⟩
    have bC2 := bC.below hb2
    have hB2 := hB1.trans (hb2.mono hB1.size)
    have c0 := bC2.cell 0 rfl
    have c1 := bC2.cell 1 rfl
    have lC := bC2.lt
    go_wp2_with fail
    go_returns
    exact ⟨by rw [HR1.out]; rfl, hB2.alloc hB2.size _⟩
  · by_cases h2 : mo < LO
    · have HR1 : Hid (R = 2) := by unfold Hid; rw [HR.out, if_neg h1, if_pos h2]
      go_enter Tryz.func66, Tryz.ntmps66
      go_wp2_with fail
      have bC := BoxS.new (w.alloc (.cells #[.int .i64 full, .int .i64 read, .int .i64 slip, .int .i64 skew, .int .i64 circ, .int .i64 glo, .int .i64 ghi, .int .i64 wrn, .int .i64 gain, .slice A ts.length c, .slice AL ts.length cm] 84)) 45 #[.int .i64 sz, .int .i64 mo]
      have hB1 : Below w.heap.size w ((w.alloc (.cells #[.int .i64 full, .int .i64 read, .int .i64 slip, .int .i64 skew, .int .i64 circ, .int .i64 glo, .int .i64 ghi, .int .i64 wrn, .int .i64 gain, .slice A ts.length c, .slice AL ts.length cm] 84)).alloc (.cells #[.int .i64 sz, .int .i64 mo] 45)) := by (repeat' (first | (with_reducible exact Below.refl _ _) | (with_reducible assumption) | (with_reducible refine Below.alloc ?_ ?_ _) | (with_reducible refine Below.drew ?_) | (with_reducible refine Below.setCell ?_ ?_ _) | go_size | (exact (by simp)) | omega))
      rw [World.size_alloc] at bC
      generalize World.alloc (World.alloc w _) _ = w1 at *
      refine (HFB.out _ _ hB1 bC).mono ?_
      rintro e w2 ⟨rfl, hb2⟩
      have bC2 := bC.below hb2
      have hB2 := hB1.trans (hb2.mono hB1.size)
      have c0 := bC2.cell 0 rfl
      have c1 := bC2.cell 1 rfl
      have lC := bC2.lt
      go_wp2_with fail
      go_returns
      exact ⟨by rw [HR1.out]; rfl, hB2.alloc hB2.size _⟩
    · have HR1 : Hid (R = 3) := by unfold Hid; rw [HR.out, if_neg h1, if_neg h2]
      go_enter Tryz.func66, Tryz.ntmps66
      go_wp2_with fail
      have bC := BoxS.new (w.alloc (.cells #[.int .i64 full, .int .i64 read, .int .i64 slip, .int .i64 skew, .int .i64 circ, .int .i64 glo, .int .i64 ghi, .int .i64 wrn, .int .i64 gain, .slice A ts.length c, .slice AL ts.length cm] 84)) 45 #[.int .i64 sz, .int .i64 mo]
      have hB1 : Below w.heap.size w ((w.alloc (.cells #[.int .i64 full, .int .i64 read, .int .i64 slip, .int .i64 skew, .int .i64 circ, .int .i64 glo, .int .i64 ghi, .int .i64 wrn, .int .i64 gain, .slice A ts.length c, .slice AL ts.length cm] 84)).alloc (.cells #[.int .i64 sz, .int .i64 mo] 45)) := by (repeat' (first | (with_reducible exact Below.refl _ _) | (with_reducible assumption) | (with_reducible refine Below.alloc ?_ ?_ _) | (with_reducible refine Below.drew ?_) | (with_reducible refine Below.setCell ?_ ?_ _) | go_size | (exact (by simp)) | omega))
      rw [World.size_alloc] at bC
      generalize World.alloc (World.alloc w _) _ = w1 at *
      refine (HFB.out _ _ hB1 bC).mono ?_
      rintro e w2 ⟨rfl, hb2⟩
      have bC2 := bC.below hb2
      have hB2 := hB1.trans (hb2.mono hB1.size)
      have c0 := bC2.cell 0 rfl
      have c1 := bC2.cell 1 rfl
      have lC := bC2.lt
      go_wp2_with fail
      go_returns
      exact ⟨by rw [HR1.out]; rfl, hB2.alloc hB2.size _⟩
theorem Alw.off {V V' : World} {Bd : Nat} {AL : Option Addr} {t : Ti.Tri} {C : Nat} {T : TypeId} {vs : Array Value} (h : Alw V Bd AL t) (hC : BoxS V C T vs) (hno : ∀ (i b : Nat), vs[i]? ≠ some (.map (some b))) (hk : ∀ i, i ≠ C → V'.heap[i]? = V.heap[i]?) : Alw V' Bd AL t := fun hn => by
  obtain ⟨b, off, e, hB, hc⟩ := h hn
  have hne : b ≠ C := by
    rintro rfl
    obtain ⟨bk, _, h2, _⟩ := hc 0 hn
    simp [World.cell?, show V.heap[b]? = _ from hC] at h2
    exact hno _ _ h2
  refine ⟨b, off, e, hB, fun k hk' => ?_⟩
  obtain ⟨bk, h1, h2, h3⟩ := hc k hk'
  refine ⟨bk, h1, ?_, h3.lit (hk bk (fun e => ?_))⟩
  · simp only [World.cell?, hk b hne]
    exact h2
  · subst e
    obtain ⟨D, ⟨es, clock, hb, _⟩, _⟩ := h3
    rw [show V.heap[bk]? = _ from hC] at hb
    cases hb
theorem eleven_heap (W : World) (B : Nat) (u0 u1 u2 u3 u4 u5 u6 u7 u8 u9 u10 : Value) : ∀ i, i ≠ B → (((((((((((W.setCell ⟨B, 0, none⟩ u0).setCell ⟨B, 1, none⟩ u1).setCell ⟨B, 2, none⟩ u2).setCell ⟨B, 3, none⟩ u3).setCell ⟨B, 4, none⟩ u4).setCell ⟨B, 5, none⟩ u5).setCell ⟨B, 6, none⟩ u6).setCell ⟨B, 7, none⟩ u7).setCell ⟨B, 8, none⟩ u8).setCell ⟨B, 9, none⟩ u9).setCell ⟨B, 10, none⟩ u10).heap[i]? = W.heap[i]? := fun i hne => by
  have oth : ∀ (X : World) (j : Nat) (v : Value), (X.setCell ⟨B, j, none⟩ v).heap[i]? = X.heap[i]? := fun X j v => Below.heap_setCell _ _ _ i hne
  rw [oth, oth, oth, oth, oth, oth, oth, oth, oth, oth, oth]
theorem zero_nomap : ∀ (i b : Nat), (#[.int .i64 0, .int .i64 0, .int .i64 0, .int .i64 0, .int .i64 0, .int .i64 0, .int .i64 0, .int .i64 0, .int .i64 0, .slice none 0 0, .slice none 0 0] : Array Value)[i]? ≠ some (.map (some b)) := fun i b h => by
  rcases i with _ | _ | _ | _ | _ | _ | _ | _ | _ | _ | _ | i <;> simp at h
set_option maxRecDepth 100000 in
set_option maxHeartbeats 8000000 in
theorem Certify_any (t : Ti.Tri) (sz mo : Int) (A : Option Addr) (c : Nat) (w : World) (hl : t.ts.length ≤ 1000000000) (hg : Tsts w w.heap.size A t.ts) :
    Calls Tryz.prog 23 #[.agg (tiV t A c), .agg #[.int .i64 sz, .int .i64 mo]] w (TwoPost (Ti.certV t sz mo (Ti.opE t (Ti.classB sz mo))) (Ti.opE t (Ti.classB sz mo)) w) := by
  have HVC : Hid (∀ W, Calls Tryz.prog 65 #[.agg #[.int .i64 sz, .int .i64 mo]] W fun e w' => e = .returned (.bool (Ti.classB sz mo)) ∧ Below W.heap.size W w') := fun W => validClass_any sz mo W
  have HOP : Hid (∀ W, Below w.heap.size w W → Calls Tryz.prog 54 #[.agg (tiV t A c), .bool (Ti.classB sz mo)] W (OpPost (Ti.opE t (Ti.classB sz mo)) t A c W)) := fun W hW => openT_any t _ A c W hl ((hg.keep hW).wider hW.size)
  have HFC : Hid (Ti.opE t (Ti.classB sz mo) = 0 → ∀ AL cm W, Below w.heap.size w W → Alw W W.heap.size AL t → Calls Tryz.prog 66 #[.agg (fV t A c AL t.ts.length cm), .agg #[.int .i64 sz, .int .i64 mo]] W fun e w' => e = .returned (.int .i64 (Ti.certV t sz mo (Ti.opE t (Ti.classB sz mo)))) ∧ Below W.heap.size W w') := fun h0 AL cm W hW hal => by
    obtain ⟨h1, h2, _⟩ := Ti.op_ok h0
    obtain ⟨g1, g2, g3, _⟩ := Ti.chk_ok h1
    have h3 : inB sz 0 9000 = true := by unfold Ti.classB at h2; rw [Bool.and_eq_true] at h2; exact h2.1
    have := fcert_any t g1 g2 g3 sz mo (inB_true.1 h3) A c AL cm W hal
    unfold Ti.certV
    rw [if_pos h0]
    exact this
  have HAK : Hid (∀ AL V V', Alw V V.heap.size AL t → Below V.heap.size V V' → Alw V' V'.heap.size AL t) := fun AL V V' h hb => (h.keep hb).wider hb.size
  have HAO : Hid (∀ AL V V' C, Alw V V.heap.size AL t → BoxS V C 84 #[.int .i64 0, .int .i64 0, .int .i64 0, .int .i64 0, .int .i64 0, .int .i64 0, .int .i64 0, .int .i64 0, .int .i64 0, .slice none 0 0, .slice none 0 0] → (∀ i, i ≠ C → V'.heap[i]? = V.heap[i]?) → V.heap.size ≤ V'.heap.size → Alw V' V'.heap.size AL t) := fun AL V V' C h1 h2 h3 h4 => (h1.off h2 zero_nomap h3).wider h4
  have HCE : Hid (Ti.opE t (Ti.classB sz mo) ≠ 0 → Ti.certV t sz mo (Ti.opE t (Ti.classB sz mo)) = 0) := fun h => if_neg h
  have HOV : Hid (∀ AL cm, opV (Ti.opE t (Ti.classB sz mo)) t A c AL cm = if Ti.opE t (Ti.classB sz mo) = 0 then fV t A c AL t.ts.length cm else #[.int .i64 0, .int .i64 0, .int .i64 0, .int .i64 0, .int .i64 0, .int .i64 0, .int .i64 0, .int .i64 0, .int .i64 0, .slice none 0 0, .slice none 0 0]) := fun AL cm => rfl
  unfold OpPost at HOP
  unfold TwoPost
  clear hg
  generalize opV (Ti.opE t (Ti.classB sz mo)) t A c = OV at *
  generalize Ti.certV t sz mo (Ti.opE t (Ti.classB sz mo)) = R at *
  generalize Ti.opE t (Ti.classB sz mo) = E at *
  generalize Ti.classB sz mo = VC at *
  obtain ⟨AW, hAW⟩ : ∃ AW : Option Addr → World → Prop, AW = fun AL V => Alw V V.heap.size AL t := ⟨_, rfl⟩
  have HAW : ∀ AL V, Alw V V.heap.size AL t = AW AL V := fun AL V => by rw [hAW]
  simp only [HAW] at HAK HFC HOP HAO
  clear HAW hAW
  have hmo : Tryz.prog.follows .mixedOrders = true := by kernel_rfl
  unfold fV at *
  unfold tiV at *
  obtain ⟨d, gain, ts⟩ := t
  obtain ⟨full, read, slip, skew, circ, glo, ghi, wrn, dws⟩ := d
  dsimp only at *
  go_enter Tryz.func23, Tryz.ntmps23
  go_wp2_with fail
  have bT := (BoxS.new w 28 #[.int .i64 full, .int .i64 read, .int .i64 slip, .int .i64 skew, .int .i64 circ, .int .i64 glo, .int .i64 ghi, .int .i64 wrn, .int .i64 gain, .slice A ts.length c]).alloc (.cells #[.int .i64 sz, .int .i64 mo] 45)
  have bC := BoxS.new (w.alloc (.cells #[.int .i64 full, .int .i64 read, .int .i64 slip, .int .i64 skew, .int .i64 circ, .int .i64 glo, .int .i64 ghi, .int .i64 wrn, .int .i64 gain, .slice A ts.length c] 28)) 45 #[.int .i64 sz, .int .i64 mo]
  have hB1 : Below w.heap.size w ((w.alloc (.cells #[.int .i64 full, .int .i64 read, .int .i64 slip, .int .i64 skew, .int .i64 circ, .int .i64 glo, .int .i64 ghi, .int .i64 wrn, .int .i64 gain, .slice A ts.length c] 28)).alloc (.cells #[.int .i64 sz, .int .i64 mo] 45)) := by (repeat' (first | (with_reducible exact Below.refl _ _) | (with_reducible assumption) | (with_reducible refine Below.alloc ?_ ?_ _) | (with_reducible refine Below.drew ?_) | (with_reducible refine Below.setCell ?_ ?_ _) | go_size | (exact (by simp)) | omega))
  simp only [World.size_alloc] at bC
  generalize World.alloc (World.alloc w _) _ = w1 at *
  have hNw : w.heap.size ≤ w1.heap.size := hB1.size
  have lCw : w.heap.size + 1 < w1.heap.size := bC.lt
  have q0 : Below w1.heap.size w1 w1.drew := (Below.refl _ _).drew
  have KC : Hid (∀ V', Below w1.heap.size w1 V' → (V'.cell? ⟨w.heap.size, 0, none⟩ = some (.int .i64 full) ∧ V'.cell? ⟨w.heap.size, 1, none⟩ = some (.int .i64 read) ∧ V'.cell? ⟨w.heap.size, 2, none⟩ = some (.int .i64 slip) ∧ V'.cell? ⟨w.heap.size, 3, none⟩ = some (.int .i64 skew) ∧ V'.cell? ⟨w.heap.size, 4, none⟩ = some (.int .i64 circ) ∧ V'.cell? ⟨w.heap.size, 5, none⟩ = some (.int .i64 glo) ∧ V'.cell? ⟨w.heap.size, 6, none⟩ = some (.int .i64 ghi) ∧ V'.cell? ⟨w.heap.size, 7, none⟩ = some (.int .i64 wrn) ∧ V'.cell? ⟨w.heap.size, 8, none⟩ = some (.int .i64 gain) ∧ V'.cell? ⟨w.heap.size, 9, none⟩ = some (.slice A ts.length c) ∧ V'.cell? ⟨w.heap.size + 1, 0, none⟩ = some (.int .i64 sz) ∧ V'.cell? ⟨w.heap.size + 1, 1, none⟩ = some (.int .i64 mo))) := fun V' h => ⟨(bT.below h).cell 0 rfl, (bT.below h).cell 1 rfl, (bT.below h).cell 2 rfl, (bT.below h).cell 3 rfl, (bT.below h).cell 4 rfl, (bT.below h).cell 5 rfl, (bT.below h).cell 6 rfl, (bT.below h).cell 7 rfl, (bT.below h).cell 8 rfl, (bT.below h).cell 9 rfl, (bC.below h).cell 0 rfl, (bC.below h).cell 1 rfl⟩
  refine (wpIn_wide (n := 4)).1 ?_
  refine wpIn_mono (Q := noPanic _) ?_ noPanic_le
  refine wpIn_region_held (fun V' => Below w1.heap.size w1 V') 30 hmo ?_
  refine wpHeldIn_take (i := 0) (v := ?_) (plain_of (by kernel_rfl)) rfl (by kernel_rfl) (fun _ _ _ h => h) (yieldsSoIn_of (by kernel_rfl) ?_ (fun _ => rfl)) q0 ?_; rotate_left; focus (intro wq hw; have kq := KC.out wq hw; clear hw; go_simp; try (with_reducible rfl))
  refine wpHeldIn_take (i := 1) (v := ?_) (plain_of (by kernel_rfl)) rfl (by kernel_rfl) (fun _ _ _ h => h) (yieldsSoIn_of (by kernel_rfl) ?_ (fun _ => rfl)) q0 ?_; rotate_left; focus (intro wq hw; have kq := KC.out wq hw; clear hw; go_simp; try (with_reducible rfl))
  refine wpHeldIn_two (i := 2) (j := 7) (by kernel_rfl) (by kernel_rfl) (by kernel_rfl) rfl rfl (by kernel_rfl) (by kernel_rfl) (fun K2 hK2 => ?_) (fun K7 hK7 => ?_)
  · go_simp
    refine ⟨trivial, (callsIn_wide.2 (HVC.out _)).mono ?_⟩
    rintro e w2 ⟨rfl, hb2⟩
    have q2 := q0.trans (hb2.mono q0.size)
    refine hK2 _ _ q2 ?_
    refine wpHeldIn_two (i := 3) (j := 7) (by kernel_rfl) (by kernel_rfl) (by kernel_rfl) rfl rfl (by kernel_rfl) (by kernel_rfl) (fun K3 hK3 => ?_) (fun K7 hK7 => ?_)
    · go_simp
      refine ⟨trivial, (callsIn_wide.2 (HOP.out _ (hB1.trans (q2.mono hNw)))).mono ?_⟩
      rintro e w3 ⟨AL, cm, rfl, hal, hb3⟩
      have q3 := q2.trans (hb3.mono q2.size)
      refine hK3 _ _ q3 ?_
      refine wpHeldIn_take (i := 4) (v := ?_) (plain_of (by kernel_rfl)) rfl (by kernel_rfl) (fun _ _ _ h => h) (yieldsSoIn_of (by kernel_rfl) ?_ (fun _ => rfl)) q3 ?_; rotate_left; focus (intro wq hw; clear hw; go_simp; try (with_reducible rfl))
      refine wpHeldIn_take (i := 5) (v := ?_) (plain_of (by kernel_rfl)) rfl (by kernel_rfl) (fun _ _ _ h => h) (yieldsSoIn_of (by kernel_rfl) ?_ (fun _ => rfl)) q3 ?_; rotate_left; focus (intro wq hw; clear hw; go_simp; try (with_reducible rfl))
      refine wpHeldIn_take (i := 6) (v := ?_) (plain_of (by kernel_rfl)) rfl (by kernel_rfl) (fun _ _ _ h => h) (yieldsSoIn_of (by kernel_rfl) ?_ (fun _ => rfl)) q3 ?_; rotate_left; focus (intro wq hw; clear hw; go_simp; try (with_reducible rfl))
      refine wpHeldIn_one (i := 7) (by kernel_rfl) (by kernel_rfl) rfl (by kernel_rfl) (fun K7 hK7 => ?_)
      go_simp
      have q7 : Below w1.heap.size w1 (w3.alloc (.cells #[.int .i64 0, .int .i64 0, .int .i64 0, .int .i64 0, .int .i64 0, .int .i64 0, .int .i64 0, .int .i64 0, .int .i64 0, .slice none 0 0, .slice none 0 0] 84)) := q3.alloc q3.size _
      have bX := BoxS.new w3 84 #[.int .i64 0, .int .i64 0, .int .i64 0, .int .i64 0, .int .i64 0, .int .i64 0, .int .i64 0, .int .i64 0, .int .i64 0, .slice none 0 0, .slice none 0 0]
      have hXB : w1.heap.size ≤ w3.heap.size := q3.size
      refine hK7 _ _ q7 ?_
      have hal7 : Hid (E = 0 → AW AL (w3.alloc (.cells #[.int .i64 0, .int .i64 0, .int .i64 0, .int .i64 0, .int .i64 0, .int .i64 0, .int .i64 0, .int .i64 0, .int .i64 0, .slice none 0 0, .slice none 0 0] 84))) := fun h0 => HAK.out _ _ _ (by first | exact hal.out h0 | exact hal.out trivial) ((Below.refl _ _).alloc (Nat.le_refl _) _)
      obtain ⟨BX, hBX⟩ : ∃ B, B = w3.heap.size := ⟨_, rfl⟩
      rw [← hBX] at bX hXB ⊢
      clear hBX
      generalize World.alloc w3 _ = w7 at *
      by_cases h0 : E = 0
      · rw [show OV AL cm = #[.int .i64 full, .int .i64 read, .int .i64 slip, .int .i64 skew, .int .i64 circ, .int .i64 glo, .int .i64 ghi, .int .i64 wrn, .int .i64 gain, .slice A ts.length c, .slice AL ts.length cm] from by rw [HOV.out, if_pos h0]]
        have z0 := bX.cell 0 rfl
        have z1 := bX.cell 1 rfl
        have z2 := bX.cell 2 rfl
        have z3 := bX.cell 3 rfl
        have z4 := bX.cell 4 rfl
        have z5 := bX.cell 5 rfl
        have z6 := bX.cell 6 rfl
        have z7 := bX.cell 7 rfl
        have z8 := bX.cell 8 rfl
        have z9 := bX.cell 9 rfl
        have z10 := bX.cell 10 rfl
        have f0 := bX.frozen 0
        have f1 := bX.frozen 1
        have f2 := bX.frozen 2
        have f3 := bX.frozen 3
        have f4 := bX.frozen 4
        have f5 := bX.frozen 5
        have f6 := bX.frozen 6
        have f7 := bX.frozen 7
        have f8 := bX.frozen 8
        have f9 := bX.frozen 9
        have f10 := bX.frozen 10
        refine wpHeldIn_one (i := 8) (by kernel_rfl) (by kernel_rfl) rfl (by kernel_rfl) (fun K9 hK9 => ?_)
        go_simp
        have bX2 := eleven_put bX (.int .i64 full) (.int .i64 read) (.int .i64 slip) (.int .i64 skew) (.int .i64 circ) (.int .i64 glo) (.int .i64 ghi) (.int .i64 wrn) (.int .i64 gain) (.slice A ts.length c) (.slice AL ts.length cm)
        have hA2 := eleven_apart (b := w1.heap.size) (c := w7.heap.size) (B := BX) w7 hXB bX.lt (.int .i64 full) (.int .i64 read) (.int .i64 slip) (.int .i64 skew) (.int .i64 circ) (.int .i64 glo) (.int .i64 ghi) (.int .i64 wrn) (.int .i64 gain) (.slice A ts.length c) (.slice AL ts.length cm)
        have bC2 := eleven_other (bC.below q7) (B' := BX) (by omega) (.int .i64 full) (.int .i64 read) (.int .i64 slip) (.int .i64 skew) (.int .i64 circ) (.int .i64 glo) (.int .i64 ghi) (.int .i64 wrn) (.int .i64 gain) (.slice A ts.length c) (.slice AL ts.length cm)
        have q9 := q7.trans (hA2.below q7.size)
        have hB9 := hB1.trans (q9.mono hNw)
        have hA9 := HAO.out AL w7 _ BX (hal7.out h0) bX (eleven_heap w7 BX (.int .i64 full) (.int .i64 read) (.int .i64 slip) (.int .i64 skew) (.int .i64 circ) (.int .i64 glo) (.int .i64 ghi) (.int .i64 wrn) (.int .i64 gain) (.slice A ts.length c) (.slice AL ts.length cm)) hA2.size
        refine hK9 _ _ q9 ?_
        clear z0 z1 z2 z3 z4 z5 z6 z7 z8 z9 z10 f0 f1 f2 f3 f4 f5 f6 f7 f8 f9 f10 hA2
        generalize World.setCell (World.setCell (World.setCell (World.setCell (World.setCell (World.setCell (World.setCell (World.setCell (World.setCell (World.setCell (World.setCell w7 _ _) _ _) _ _) _ _) _ _) _ _) _ _) _ _) _ _) _ _) _ _ = w9 at *
        refine wpHeldIn_take (i := 9) (v := ?_) (plain_of (by kernel_rfl)) rfl (by kernel_rfl) (fun _ _ _ h => h) (yieldsSoIn_of (by kernel_rfl) ?_ (fun _ => rfl)) q9 ?_; rotate_left; focus (intro wq hw; clear hw; go_simp; try (with_reducible rfl))
        refine wpHeldIn_done (by kernel_rfl) ?_ _
        go_simp
        refine noPanic_of ?_
        have z0 := bX2.cell 0 rfl
        have z1 := bX2.cell 1 rfl
        have z2 := bX2.cell 2 rfl
        have z3 := bX2.cell 3 rfl
        have z4 := bX2.cell 4 rfl
        have z5 := bX2.cell 5 rfl
        have z6 := bX2.cell 6 rfl
        have z7 := bX2.cell 7 rfl
        have z8 := bX2.cell 8 rfl
        have z9 := bX2.cell 9 rfl
        have z10 := bX2.cell 10 rfl
        have c0 := bC2.cell 0 rfl
        have c1 := bC2.cell 1 rfl
        go_wp2_with fail
        refine (HFC.out h0 _ _ _ hB9 hA9).mono ?_
        rintro e w10 ⟨rfl, hb10⟩
        go_wp2_with fail
        go_returns
        exact ⟨by rw [h0]; rfl, hB9.trans (hb10.mono hB9.size)⟩
      · rw [show OV AL cm = #[.int .i64 0, .int .i64 0, .int .i64 0, .int .i64 0, .int .i64 0, .int .i64 0, .int .i64 0, .int .i64 0, .int .i64 0, .slice none 0 0, .slice none 0 0] from by rw [HOV.out, if_neg h0]]
        have z0 := bX.cell 0 rfl
        have z1 := bX.cell 1 rfl
        have z2 := bX.cell 2 rfl
        have z3 := bX.cell 3 rfl
        have z4 := bX.cell 4 rfl
        have z5 := bX.cell 5 rfl
        have z6 := bX.cell 6 rfl
        have z7 := bX.cell 7 rfl
        have z8 := bX.cell 8 rfl
        have z9 := bX.cell 9 rfl
        have z10 := bX.cell 10 rfl
        have f0 := bX.frozen 0
        have f1 := bX.frozen 1
        have f2 := bX.frozen 2
        have f3 := bX.frozen 3
        have f4 := bX.frozen 4
        have f5 := bX.frozen 5
        have f6 := bX.frozen 6
        have f7 := bX.frozen 7
        have f8 := bX.frozen 8
        have f9 := bX.frozen 9
        have f10 := bX.frozen 10
        refine wpHeldIn_one (i := 8) (by kernel_rfl) (by kernel_rfl) rfl (by kernel_rfl) (fun K9 hK9 => ?_)
        go_simp
        have bX2 := eleven_put bX (.int .i64 0) (.int .i64 0) (.int .i64 0) (.int .i64 0) (.int .i64 0) (.int .i64 0) (.int .i64 0) (.int .i64 0) (.int .i64 0) (.slice none 0 0) (.slice none 0 0)
        have hA2 := eleven_apart (b := w1.heap.size) (c := w7.heap.size) (B := BX) w7 hXB bX.lt (.int .i64 0) (.int .i64 0) (.int .i64 0) (.int .i64 0) (.int .i64 0) (.int .i64 0) (.int .i64 0) (.int .i64 0) (.int .i64 0) (.slice none 0 0) (.slice none 0 0)
        have bC2 := eleven_other (bC.below q7) (B' := BX) (by omega) (.int .i64 0) (.int .i64 0) (.int .i64 0) (.int .i64 0) (.int .i64 0) (.int .i64 0) (.int .i64 0) (.int .i64 0) (.int .i64 0) (.slice none 0 0) (.slice none 0 0)
        have q9 := q7.trans (hA2.below q7.size)
        have hB9 := hB1.trans (q9.mono hNw)
        refine hK9 _ _ q9 ?_
        clear z0 z1 z2 z3 z4 z5 z6 z7 z8 z9 z10 f0 f1 f2 f3 f4 f5 f6 f7 f8 f9 f10 hA2
        generalize World.setCell (World.setCell (World.setCell (World.setCell (World.setCell (World.setCell (World.setCell (World.setCell (World.setCell (World.setCell (World.setCell w7 _ _) _ _) _ _) _ _) _ _) _ _) _ _) _ _) _ _) _ _) _ _ = w9 at *
        refine wpHeldIn_take (i := 9) (v := ?_) (plain_of (by kernel_rfl)) rfl (by kernel_rfl) (fun _ _ _ h => h) (yieldsSoIn_of (by kernel_rfl) ?_ (fun _ => rfl)) q9 ?_; rotate_left; focus (intro wq hw; clear hw; go_simp; try (with_reducible rfl))
        refine wpHeldIn_done (by kernel_rfl) ?_ _
        go_simp
        refine noPanic_of ?_
        have hne : (E != 0) = true := by simpa using h0
        go_wp2_with fail
        go_returns
        exact ⟨by rw [HCE.out h0]; rfl, hB9⟩
    · go_simp
      have q7 : Below w1.heap.size w1 (w2.alloc (.cells #[.int .i64 0, .int .i64 0, .int .i64 0, .int .i64 0, .int .i64 0, .int .i64 0, .int .i64 0, .int .i64 0, .int .i64 0, .slice none 0 0, .slice none 0 0] 84)) := q2.alloc q2.size _
      have bX := BoxS.new w2 84 #[.int .i64 0, .int .i64 0, .int .i64 0, .int .i64 0, .int .i64 0, .int .i64 0, .int .i64 0, .int .i64 0, .int .i64 0, .slice none 0 0, .slice none 0 0]
      have hXB : w1.heap.size ≤ w2.heap.size := q2.size
      refine hK7 _ _ q7 ?_
      obtain ⟨BX, hBX⟩ : ∃ B, B = w2.heap.size := ⟨_, rfl⟩
      rw [← hBX] at bX hXB ⊢
      clear hBX
      generalize World.alloc w2 _ = w7 at *
      refine wpHeldIn_one (i := 3) (by kernel_rfl) (by kernel_rfl) rfl (by kernel_rfl) (fun K3 hK3 => ?_)
      go_simp
      refine ⟨trivial, (callsIn_wide.2 (HOP.out _ (hB1.trans (q7.mono hNw)))).mono ?_⟩
      rintro e w3 ⟨AL, cm, rfl, hal, hb3⟩
      have q3 := q7.trans (hb3.mono q7.size)
      refine hK3 _ _ q3 ?_
      replace bX := bX.below hb3
      by_cases h0 : E = 0
      · rw [show OV AL cm = #[.int .i64 full, .int .i64 read, .int .i64 slip, .int .i64 skew, .int .i64 circ, .int .i64 glo, .int .i64 ghi, .int .i64 wrn, .int .i64 gain, .slice A ts.length c, .slice AL ts.length cm] from by rw [HOV.out, if_pos h0]]
        refine wpHeldIn_take (i := 4) (v := ?_) (plain_of (by kernel_rfl)) rfl (by kernel_rfl) (fun _ _ _ h => h) (yieldsSoIn_of (by kernel_rfl) ?_ (fun _ => rfl)) q3 ?_; rotate_left; focus (intro wq hw; clear hw; go_simp; try (with_reducible rfl))
        refine wpHeldIn_take (i := 5) (v := ?_) (plain_of (by kernel_rfl)) rfl (by kernel_rfl) (fun _ _ _ h => h) (yieldsSoIn_of (by kernel_rfl) ?_ (fun _ => rfl)) q3 ?_; rotate_left; focus (intro wq hw; clear hw; go_simp; try (with_reducible rfl))
        refine wpHeldIn_take (i := 6) (v := ?_) (plain_of (by kernel_rfl)) rfl (by kernel_rfl) (fun _ _ _ h => h) (yieldsSoIn_of (by kernel_rfl) ?_ (fun _ => rfl)) q3 ?_; rotate_left; focus (intro wq hw; clear hw; go_simp; try (with_reducible rfl))
        have z0 := bX.cell 0 rfl
        have z1 := bX.cell 1 rfl
        have z2 := bX.cell 2 rfl
        have z3 := bX.cell 3 rfl
        have z4 := bX.cell 4 rfl
        have z5 := bX.cell 5 rfl
        have z6 := bX.cell 6 rfl
        have z7 := bX.cell 7 rfl
        have z8 := bX.cell 8 rfl
        have z9 := bX.cell 9 rfl
        have z10 := bX.cell 10 rfl
        have f0 := bX.frozen 0
        have f1 := bX.frozen 1
        have f2 := bX.frozen 2
        have f3 := bX.frozen 3
        have f4 := bX.frozen 4
        have f5 := bX.frozen 5
        have f6 := bX.frozen 6
        have f7 := bX.frozen 7
        have f8 := bX.frozen 8
        have f9 := bX.frozen 9
        have f10 := bX.frozen 10
        refine wpHeldIn_one (i := 8) (by kernel_rfl) (by kernel_rfl) rfl (by kernel_rfl) (fun K9 hK9 => ?_)
        go_simp
        have bX2 := eleven_put bX (.int .i64 full) (.int .i64 read) (.int .i64 slip) (.int .i64 skew) (.int .i64 circ) (.int .i64 glo) (.int .i64 ghi) (.int .i64 wrn) (.int .i64 gain) (.slice A ts.length c) (.slice AL ts.length cm)
        have hA2 := eleven_apart (b := w1.heap.size) (c := w3.heap.size) (B := BX) w3 hXB bX.lt (.int .i64 full) (.int .i64 read) (.int .i64 slip) (.int .i64 skew) (.int .i64 circ) (.int .i64 glo) (.int .i64 ghi) (.int .i64 wrn) (.int .i64 gain) (.slice A ts.length c) (.slice AL ts.length cm)
        have bC2 := eleven_other (bC.below q3) (B' := BX) (by omega) (.int .i64 full) (.int .i64 read) (.int .i64 slip) (.int .i64 skew) (.int .i64 circ) (.int .i64 glo) (.int .i64 ghi) (.int .i64 wrn) (.int .i64 gain) (.slice A ts.length c) (.slice AL ts.length cm)
        have q9 := q3.trans (hA2.below q3.size)
        have hB9 := hB1.trans (q9.mono hNw)
        have hA9 := HAO.out AL w3 _ BX (by first | exact hal.out h0 | exact hal.out trivial) bX (eleven_heap w3 BX (.int .i64 full) (.int .i64 read) (.int .i64 slip) (.int .i64 skew) (.int .i64 circ) (.int .i64 glo) (.int .i64 ghi) (.int .i64 wrn) (.int .i64 gain) (.slice A ts.length c) (.slice AL ts.length cm)) hA2.size
        refine hK9 _ _ q9 ?_
        clear z0 z1 z2 z3 z4 z5 z6 z7 z8 z9 z10 f0 f1 f2 f3 f4 f5 f6 f7 f8 f9 f10 hA2
        generalize World.setCell (World.setCell (World.setCell (World.setCell (World.setCell (World.setCell (World.setCell (World.setCell (World.setCell (World.setCell (World.setCell w3 _ _) _ _) _ _) _ _) _ _) _ _) _ _) _ _) _ _) _ _) _ _ = w9 at *
        refine wpHeldIn_take (i := 9) (v := ?_) (plain_of (by kernel_rfl)) rfl (by kernel_rfl) (fun _ _ _ h => h) (yieldsSoIn_of (by kernel_rfl) ?_ (fun _ => rfl)) q9 ?_; rotate_left; focus (intro wq hw; clear hw; go_simp; try (with_reducible rfl))
        refine wpHeldIn_done (by kernel_rfl) ?_ _
        go_simp
        refine noPanic_of ?_
        have z0 := bX2.cell 0 rfl
        have z1 := bX2.cell 1 rfl
        have z2 := bX2.cell 2 rfl
        have z3 := bX2.cell 3 rfl
        have z4 := bX2.cell 4 rfl
        have z5 := bX2.cell 5 rfl
        have z6 := bX2.cell 6 rfl
        have z7 := bX2.cell 7 rfl
        have z8 := bX2.cell 8 rfl
        have z9 := bX2.cell 9 rfl
        have z10 := bX2.cell 10 rfl
        have c0 := bC2.cell 0 rfl
        have c1 := bC2.cell 1 rfl
        go_wp2_with fail
        refine (HFC.out h0 _ _ _ hB9 hA9).mono ?_
        rintro e w10 ⟨rfl, hb10⟩
        go_wp2_with fail
        go_returns
        exact ⟨by rw [h0]; rfl, hB9.trans (hb10.mono hB9.size)⟩
      · rw [show OV AL cm = #[.int .i64 0, .int .i64 0, .int .i64 0, .int .i64 0, .int .i64 0, .int .i64 0, .int .i64 0, .int .i64 0, .int .i64 0, .slice none 0 0, .slice none 0 0] from by rw [HOV.out, if_neg h0]]
        refine wpHeldIn_take (i := 4) (v := ?_) (plain_of (by kernel_rfl)) rfl (by kernel_rfl) (fun _ _ _ h => h) (yieldsSoIn_of (by kernel_rfl) ?_ (fun _ => rfl)) q3 ?_; rotate_left; focus (intro wq hw; clear hw; go_simp; try (with_reducible rfl))
        refine wpHeldIn_take (i := 5) (v := ?_) (plain_of (by kernel_rfl)) rfl (by kernel_rfl) (fun _ _ _ h => h) (yieldsSoIn_of (by kernel_rfl) ?_ (fun _ => rfl)) q3 ?_; rotate_left; focus (intro wq hw; clear hw; go_simp; try (with_reducible rfl))
        refine wpHeldIn_take (i := 6) (v := ?_) (plain_of (by kernel_rfl)) rfl (by kernel_rfl) (fun _ _ _ h => h) (yieldsSoIn_of (by kernel_rfl) ?_ (fun _ => rfl)) q3 ?_; rotate_left; focus (intro wq hw; clear hw; go_simp; try (with_reducible rfl))
        have z0 := bX.cell 0 rfl
        have z1 := bX.cell 1 rfl
        have z2 := bX.cell 2 rfl
        have z3 := bX.cell 3 rfl
        have z4 := bX.cell 4 rfl
        have z5 := bX.cell 5 rfl
        have z6 := bX.cell 6 rfl
        have z7 := bX.cell 7 rfl
        have z8 := bX.cell 8 rfl
        have z9 := bX.cell 9 rfl
        have z10 := bX.cell 10 rfl
        have f0 := bX.frozen 0
        have f1 := bX.frozen 1
        have f2 := bX.frozen 2
        have f3 := bX.frozen 3
        have f4 := bX.frozen 4
        have f5 := bX.frozen 5
        have f6 := bX.frozen 6
        have f7 := bX.frozen 7
        have f8 := bX.frozen 8
        have f9 := bX.frozen 9
        have f10 := bX.frozen 10
        refine wpHeldIn_one (i := 8) (by kernel_rfl) (by kernel_rfl) rfl (by kernel_rfl) (fun K9 hK9 => ?_)
        go_simp
        have bX2 := eleven_put bX (.int .i64 0) (.int .i64 0) (.int .i64 0) (.int .i64 0) (.int .i64 0) (.int .i64 0) (.int .i64 0) (.int .i64 0) (.int .i64 0) (.slice none 0 0) (.slice none 0 0)
        have hA2 := eleven_apart (b := w1.heap.size) (c := w3.heap.size) (B := BX) w3 hXB bX.lt (.int .i64 0) (.int .i64 0) (.int .i64 0) (.int .i64 0) (.int .i64 0) (.int .i64 0) (.int .i64 0) (.int .i64 0) (.int .i64 0) (.slice none 0 0) (.slice none 0 0)
        have bC2 := eleven_other (bC.below q3) (B' := BX) (by omega) (.int .i64 0) (.int .i64 0) (.int .i64 0) (.int .i64 0) (.int .i64 0) (.int .i64 0) (.int .i64 0) (.int .i64 0) (.int .i64 0) (.slice none 0 0) (.slice none 0 0)
        have q9 := q3.trans (hA2.below q3.size)
        have hB9 := hB1.trans (q9.mono hNw)
        refine hK9 _ _ q9 ?_
        clear z0 z1 z2 z3 z4 z5 z6 z7 z8 z9 z10 f0 f1 f2 f3 f4 f5 f6 f7 f8 f9 f10 hA2
        generalize World.setCell (World.setCell (World.setCell (World.setCell (World.setCell (World.setCell (World.setCell (World.setCell (World.setCell (World.setCell (World.setCell w3 _ _) _ _) _ _) _ _) _ _) _ _) _ _) _ _) _ _) _ _) _ _ = w9 at *
        refine wpHeldIn_take (i := 9) (v := ?_) (plain_of (by kernel_rfl)) rfl (by kernel_rfl) (fun _ _ _ h => h) (yieldsSoIn_of (by kernel_rfl) ?_ (fun _ => rfl)) q9 ?_; rotate_left; focus (intro wq hw; clear hw; go_simp; try (with_reducible rfl))
        refine wpHeldIn_done (by kernel_rfl) ?_ _
        go_simp
        refine noPanic_of ?_
        have hne : (E != 0) = true := by simpa using h0
        go_wp2_with fail
        go_returns
        exact ⟨by rw [HCE.out h0]; rfl, hB9⟩
  · go_simp
    have q7 : Below w1.heap.size w1 (w1.alloc (.cells #[.int .i64 0, .int .i64 0, .int .i64 0, .int .i64 0, .int .i64 0, .int .i64 0, .int .i64 0, .int .i64 0, .int .i64 0, .slice none 0 0, .slice none 0 0] 84)).drew := ((Below.refl _ _).alloc (Nat.le_refl _) _).drew
    have bX : BoxS (w1.alloc (.cells #[.int .i64 0, .int .i64 0, .int .i64 0, .int .i64 0, .int .i64 0, .int .i64 0, .int .i64 0, .int .i64 0, .int .i64 0, .slice none 0 0, .slice none 0 0] 84)).drew w1.heap.size 84 #[.int .i64 0, .int .i64 0, .int .i64 0, .int .i64 0, .int .i64 0, .int .i64 0, .int .i64 0, .int .i64 0, .int .i64 0, .slice none 0 0, .slice none 0 0] := (BoxS.new w1 84 #[.int .i64 0, .int .i64 0, .int .i64 0, .int .i64 0, .int .i64 0, .int .i64 0, .int .i64 0, .int .i64 0, .int .i64 0, .slice none 0 0, .slice none 0 0]).drew
    have hXB : w1.heap.size ≤ w1.heap.size := Nat.le_refl _
    refine hK7 _ _ q7 ?_
    generalize World.drew (World.alloc w1 _) = w7 at *
    refine wpHeldIn_one (i := 2) (by kernel_rfl) (by kernel_rfl) rfl (by kernel_rfl) (fun K2 hK2 => ?_)
    go_simp
    refine ⟨trivial, (callsIn_wide.2 (HVC.out _)).mono ?_⟩
    rintro e w2 ⟨rfl, hb2⟩
    have q2 := q7.trans (hb2.mono q7.size)
    refine hK2 _ _ q2 ?_
    replace bX := bX.below hb2
    refine wpHeldIn_one (i := 3) (by kernel_rfl) (by kernel_rfl) rfl (by kernel_rfl) (fun K3 hK3 => ?_)
    go_simp
    refine ⟨trivial, (callsIn_wide.2 (HOP.out _ (hB1.trans (q2.mono hNw)))).mono ?_⟩
    rintro e w3 ⟨AL, cm, rfl, hal, hb3⟩
    have q3 := q2.trans (hb3.mono q2.size)
    refine hK3 _ _ q3 ?_
    replace bX := bX.below hb3
    by_cases h0 : E = 0
    · rw [show OV AL cm = #[.int .i64 full, .int .i64 read, .int .i64 slip, .int .i64 skew, .int .i64 circ, .int .i64 glo, .int .i64 ghi, .int .i64 wrn, .int .i64 gain, .slice A ts.length c, .slice AL ts.length cm] from by rw [HOV.out, if_pos h0]]
      refine wpHeldIn_take (i := 4) (v := ?_) (plain_of (by kernel_rfl)) rfl (by kernel_rfl) (fun _ _ _ h => h) (yieldsSoIn_of (by kernel_rfl) ?_ (fun _ => rfl)) q3 ?_; rotate_left; focus (intro wq hw; clear hw; go_simp; try (with_reducible rfl))
      refine wpHeldIn_take (i := 5) (v := ?_) (plain_of (by kernel_rfl)) rfl (by kernel_rfl) (fun _ _ _ h => h) (yieldsSoIn_of (by kernel_rfl) ?_ (fun _ => rfl)) q3 ?_; rotate_left; focus (intro wq hw; clear hw; go_simp; try (with_reducible rfl))
      refine wpHeldIn_take (i := 6) (v := ?_) (plain_of (by kernel_rfl)) rfl (by kernel_rfl) (fun _ _ _ h => h) (yieldsSoIn_of (by kernel_rfl) ?_ (fun _ => rfl)) q3 ?_; rotate_left; focus (intro wq hw; clear hw; go_simp; try (with_reducible rfl))
      have z0 := bX.cell 0 rfl
      have z1 := bX.cell 1 rfl
      have z2 := bX.cell 2 rfl
      have z3 := bX.cell 3 rfl
      have z4 := bX.cell 4 rfl
      have z5 := bX.cell 5 rfl
      have z6 := bX.cell 6 rfl
      have z7 := bX.cell 7 rfl
      have z8 := bX.cell 8 rfl
      have z9 := bX.cell 9 rfl
      have z10 := bX.cell 10 rfl
      have f0 := bX.frozen 0
      have f1 := bX.frozen 1
      have f2 := bX.frozen 2
      have f3 := bX.frozen 3
      have f4 := bX.frozen 4
      have f5 := bX.frozen 5
      have f6 := bX.frozen 6
      have f7 := bX.frozen 7
      have f8 := bX.frozen 8
      have f9 := bX.frozen 9
      have f10 := bX.frozen 10
      refine wpHeldIn_one (i := 8) (by kernel_rfl) (by kernel_rfl) rfl (by kernel_rfl) (fun K9 hK9 => ?_)
      go_simp
      have bX2 := eleven_put bX (.int .i64 full) (.int .i64 read) (.int .i64 slip) (.int .i64 skew) (.int .i64 circ) (.int .i64 glo) (.int .i64 ghi) (.int .i64 wrn) (.int .i64 gain) (.slice A ts.length c) (.slice AL ts.length cm)
      have hA2 := eleven_apart (b := w1.heap.size) (c := w3.heap.size) (B := w1.heap.size) w3 hXB bX.lt (.int .i64 full) (.int .i64 read) (.int .i64 slip) (.int .i64 skew) (.int .i64 circ) (.int .i64 glo) (.int .i64 ghi) (.int .i64 wrn) (.int .i64 gain) (.slice A ts.length c) (.slice AL ts.length cm)
      have bC2 := eleven_other (bC.below q3) (B' := w1.heap.size) (by omega) (.int .i64 full) (.int .i64 read) (.int .i64 slip) (.int .i64 skew) (.int .i64 circ) (.int .i64 glo) (.int .i64 ghi) (.int .i64 wrn) (.int .i64 gain) (.slice A ts.length c) (.slice AL ts.length cm)
      have q9 := q3.trans (hA2.below q3.size)
      have hB9 := hB1.trans (q9.mono hNw)
      have hA9 := HAO.out AL w3 _ w1.heap.size (by first | exact hal.out h0 | exact hal.out trivial) bX (eleven_heap w3 w1.heap.size (.int .i64 full) (.int .i64 read) (.int .i64 slip) (.int .i64 skew) (.int .i64 circ) (.int .i64 glo) (.int .i64 ghi) (.int .i64 wrn) (.int .i64 gain) (.slice A ts.length c) (.slice AL ts.length cm)) hA2.size
      refine hK9 _ _ q9 ?_
      clear z0 z1 z2 z3 z4 z5 z6 z7 z8 z9 z10 f0 f1 f2 f3 f4 f5 f6 f7 f8 f9 f10 hA2
      generalize World.setCell (World.setCell (World.setCell (World.setCell (World.setCell (World.setCell (World.setCell (World.setCell (World.setCell (World.setCell (World.setCell w3 _ _) _ _) _ _) _ _) _ _) _ _) _ _) _ _) _ _) _ _) _ _ = w9 at *
      refine wpHeldIn_take (i := 9) (v := ?_) (plain_of (by kernel_rfl)) rfl (by kernel_rfl) (fun _ _ _ h => h) (yieldsSoIn_of (by kernel_rfl) ?_ (fun _ => rfl)) q9 ?_; rotate_left; focus (intro wq hw; clear hw; go_simp; try (with_reducible rfl))
      refine wpHeldIn_done (by kernel_rfl) ?_ _
      go_simp
      refine noPanic_of ?_
      have z0 := bX2.cell 0 rfl
      have z1 := bX2.cell 1 rfl
      have z2 := bX2.cell 2 rfl
      have z3 := bX2.cell 3 rfl
      have z4 := bX2.cell 4 rfl
      have z5 := bX2.cell 5 rfl
      have z6 := bX2.cell 6 rfl
      have z7 := bX2.cell 7 rfl
      have z8 := bX2.cell 8 rfl
      have z9 := bX2.cell 9 rfl
      have z10 := bX2.cell 10 rfl
      have c0 := bC2.cell 0 rfl
      have c1 := bC2.cell 1 rfl
      go_wp2_with fail
      refine (HFC.out h0 _ _ _ hB9 hA9).mono ?_
      rintro e w10 ⟨rfl, hb10⟩
      go_wp2_with fail
      go_returns
      exact ⟨by rw [h0]; rfl, hB9.trans (hb10.mono hB9.size)⟩
    · rw [show OV AL cm = #[.int .i64 0, .int .i64 0, .int .i64 0, .int .i64 0, .int .i64 0, .int .i64 0, .int .i64 0, .int .i64 0, .int .i64 0, .slice none 0 0, .slice none 0 0] from by rw [HOV.out, if_neg h0]]
      refine wpHeldIn_take (i := 4) (v := ?_) (plain_of (by kernel_rfl)) rfl (by kernel_rfl) (fun _ _ _ h => h) (yieldsSoIn_of (by kernel_rfl) ?_ (fun _ => rfl)) q3 ?_; rotate_left; focus (intro wq hw; clear hw; go_simp; try (with_reducible rfl))
      refine wpHeldIn_take (i := 5) (v := ?_) (plain_of (by kernel_rfl)) rfl (by kernel_rfl) (fun _ _ _ h => h) (yieldsSoIn_of (by kernel_rfl) ?_ (fun _ => rfl)) q3 ?_; rotate_left; focus (intro wq hw; clear hw; go_simp; try (with_reducible rfl))
      refine wpHeldIn_take (i := 6) (v := ?_) (plain_of (by kernel_rfl)) rfl (by kernel_rfl) (fun _ _ _ h => h) (yieldsSoIn_of (by kernel_rfl) ?_ (fun _ => rfl)) q3 ?_; rotate_left; focus (intro wq hw; clear hw; go_simp; try (with_reducible rfl))
      have z0 := bX.cell 0 rfl
      have z1 := bX.cell 1 rfl
      have z2 := bX.cell 2 rfl
      have z3 := bX.cell 3 rfl
      have z4 := bX.cell 4 rfl
      have z5 := bX.cell 5 rfl
      have z6 := bX.cell 6 rfl
      have z7 := bX.cell 7 rfl
      have z8 := bX.cell 8 rfl
      have z9 := bX.cell 9 rfl
      have z10 := bX.cell 10 rfl
      have f0 := bX.frozen 0
      have f1 := bX.frozen 1
      have f2 := bX.frozen 2
      have f3 := bX.frozen 3
      have f4 := bX.frozen 4
      have f5 := bX.frozen 5
      have f6 := bX.frozen 6
      have f7 := bX.frozen 7
      have f8 := bX.frozen 8
      have f9 := bX.frozen 9
      have f10 := bX.frozen 10
      refine wpHeldIn_one (i := 8) (by kernel_rfl) (by kernel_rfl) rfl (by kernel_rfl) (fun K9 hK9 => ?_)
      go_simp
      have bX2 := eleven_put bX (.int .i64 0) (.int .i64 0) (.int .i64 0) (.int .i64 0) (.int .i64 0) (.int .i64 0) (.int .i64 0) (.int .i64 0) (.int .i64 0) (.slice none 0 0) (.slice none 0 0)
      have hA2 := eleven_apart (b := w1.heap.size) (c := w3.heap.size) (B := w1.heap.size) w3 hXB bX.lt (.int .i64 0) (.int .i64 0) (.int .i64 0) (.int .i64 0) (.int .i64 0) (.int .i64 0) (.int .i64 0) (.int .i64 0) (.int .i64 0) (.slice none 0 0) (.slice none 0 0)
      have bC2 := eleven_other (bC.below q3) (B' := w1.heap.size) (by omega) (.int .i64 0) (.int .i64 0) (.int .i64 0) (.int .i64 0) (.int .i64 0) (.int .i64 0) (.int .i64 0) (.int .i64 0) (.int .i64 0) (.slice none 0 0) (.slice none 0 0)
      have q9 := q3.trans (hA2.below q3.size)
      have hB9 := hB1.trans (q9.mono hNw)
      refine hK9 _ _ q9 ?_
      clear z0 z1 z2 z3 z4 z5 z6 z7 z8 z9 z10 f0 f1 f2 f3 f4 f5 f6 f7 f8 f9 f10 hA2
      generalize World.setCell (World.setCell (World.setCell (World.setCell (World.setCell (World.setCell (World.setCell (World.setCell (World.setCell (World.setCell (World.setCell w3 _ _) _ _) _ _) _ _) _ _) _ _) _ _) _ _) _ _) _ _) _ _ = w9 at *
      refine wpHeldIn_take (i := 9) (v := ?_) (plain_of (by kernel_rfl)) rfl (by kernel_rfl) (fun _ _ _ h => h) (yieldsSoIn_of (by kernel_rfl) ?_ (fun _ => rfl)) q9 ?_; rotate_left; focus (intro wq hw; clear hw; go_simp; try (with_reducible rfl))
      refine wpHeldIn_done (by kernel_rfl) ?_ _
      go_simp
      refine noPanic_of ?_
      have hne : (E != 0) = true := by simpa using h0
      go_wp2_with fail
      go_returns
      exact ⟨by rw [HCE.out h0]; rfl, hB9⟩
end Go.Proofs.YtkmacpkjobdffaaGreat
