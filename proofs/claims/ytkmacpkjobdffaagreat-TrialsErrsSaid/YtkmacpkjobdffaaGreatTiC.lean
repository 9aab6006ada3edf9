/- Trials: whether a trial is valid, by the program. -/
import Derived.Test.YtkmacpkjobdffaaGreatTiB
namespace Go.Proofs.YtkmacpkjobdffaaGreat
open Go.RowKit
/-- A slice of tests reads as a list. -/
def Tsts (w : World) (B : Nat) (A : Option Addr) (ts : List Ti.Tst) : Prop :=
  0 < ts.length → ∃ b off, A = some ⟨b, off, none⟩ ∧ b < B ∧ ∀ k x, ts[k]? = some x → ∃ A' c', w.cell? ⟨b, off + k * 2, none⟩ = some (.int .i64 x.1) ∧ w.cell? ⟨b, off + k * 2 + 1, none⟩ = some (.slice A' x.2.length c') ∧ Wks w B A' x.2 ∧ x.2.length ≤ 1000000000
theorem Tsts.keep {w w' : World} {B : Nat} {A : Option Addr} {ts : List Ti.Tst} (h : Tsts w B A ts) (hb : Below B w w') : Tsts w' B A ts := fun hn => by
  obtain ⟨b, off, e, hB, hc⟩ := h hn
  refine ⟨b, off, e, hB, fun k x hk => ?_⟩
  obtain ⟨A', c', h1, h2, h3, h4⟩ := hc k x hk
  exact ⟨A', c', (hb.cell (p := ⟨b, _, none⟩) hB).trans h1, (hb.cell (p := ⟨b, _, none⟩) hB).trans h2, h3.keep hb, h4⟩
theorem Tsts.wider {w : World} {B B' : Nat} {A : Option Addr} {ts : List Ti.Tst} (h : Tsts w B A ts) (hB : B ≤ B') : Tsts w B' A ts := fun hn => by
  obtain ⟨b, off, e, hb, hc⟩ := h hn
  refine ⟨b, off, e, by omega, fun k x hk => ?_⟩
  obtain ⟨A', c', h1, h2, h3, h4⟩ := hc k x hk
  exact ⟨A', c', h1, h2, h3.wider hB, h4⟩
def tiV (t : Ti.Tri) (A : Option Addr) (c : Nat) : Array Value := #[.int .i64 t.d.full, .int .i64 t.d.read, .int .i64 t.d.slip, .int .i64 t.d.skew, .int .i64 t.d.circ, .int .i64 t.d.glo, .int .i64 t.d.ghi, .int .i64 t.d.wr, .int .i64 t.gain, .slice A t.ts.length c]
theorem wks_nil (w : World) (B : Nat) (A : Option Addr) : Wks w B A [] := fun h => by simp at h
theorem tst_at {ts : List Ti.Tst} {k : Nat} (h : k < ts.length) : ts[k]? = some (Ti.tstAt ts k) := by
  unfold Ti.tstAt
  rw [List.getElem?_eq_getElem h]
  rfl
set_option maxRecDepth 100000 in
set_option maxHeartbeats 16000000 in
theorem CheckT_any (t : Ti.Tri) (A : Option Addr) (c : Nat) (hl : t.ts.length ≤ 1000000000) (w : World) (hg : Tsts w w.heap.size A t.ts) :
    Calls Tryz.prog 11 #[.agg (tiV t A c)] w (ErrPost (Ti.chkV t) w) := by
  have HWG : Hid (∀ W, Calls Tryz.prog 50 #[.int .i64 t.gain, .int .i64 0, .int .i64 50] W fun e w' => e = .returned (.bool (inB t.gain 0 50)) ∧ w' = W) := fun W => withinT_any _ _ _ W
  have HWA : Hid (∀ (a : Int) W, Calls Tryz.prog 50 #[.int .i64 a, .int .i64 0, .int .i64 9000] W fun e w' => e = .returned (.bool (inB a 0 9000)) ∧ w' = W) := fun a W => withinT_any _ _ _ W
  have HWC : Hid (∀ (ws : List Wh.Wk) (A' : Option Addr) (c' : Nat) W, ws.length ≤ 1000000000 → Wks W W.heap.size A' ws → Calls Tryz.prog 51 #[.agg (whV (Ti.whl t ws)), .slice A' ws.length c'] W (ErrPost (Wh.chkE (Ti.whl t ws)) W)) := fun ws A' c' W h1 h2 => wCheck_any (Ti.whl t ws) A' c' W h1 h2
  have HR : Hid (Ti.chkV t = if ((inB t.gain 0 50 && decide (t.ts.length ≤ 6)) && Ti.areasTo t.ts t.ts.length) = true then (if Ti.walksTo t t.ts.length = 0 then Wh.chkE (Ti.whl t []) else Ti.walksTo t t.ts.length) else 90) := rfl
  have HA0 : Hid (Ti.areasTo t.ts 0 = true) := rfl
  have HAS : Hid (∀ k, Ti.areasTo t.ts (k + 1) = (Ti.areasTo t.ts k && inB (Ti.tstAt t.ts k).1 0 9000)) := fun k => rfl
  have HAN : Hid (∀ k, k < t.ts.length → inB (Ti.tstAt t.ts k).1 0 9000 = false → Ti.areasTo t.ts t.ts.length = false) := fun k hk h => Ti.areasTo_no h _ hk
  have HW0 : Hid (Ti.walksTo t 0 = 0) := rfl
  have HWS : Hid (∀ k, Ti.walksTo t (k + 1) = if Ti.walksTo t k = 0 then Wh.chkE (Ti.whl t (Ti.tstAt t.ts k).2) else Ti.walksTo t k) := fun k => rfl
  have HWN : Hid (∀ k, k ≤ t.ts.length → Ti.walksTo t k ≠ 0 → Ti.walksTo t t.ts.length = Ti.walksTo t k) := fun k hk h => Ti.walksTo_err h _ hk
  have HG := Lib.hid hg
  clear hg
  generalize Ti.chkV t = R at *
  generalize Ti.walksTo t = WT at *
  generalize Ti.areasTo t.ts = AT at *
  generalize hch : (fun ws : List Wh.Wk => Wh.chkE (Ti.whl t ws)) = CH at *
  have hch' : ∀ ws : List Wh.Wk, Wh.chkE (Ti.whl t ws) = CH ws := fun ws => by rw [← hch]
  simp only [hch'] at HWC HWS HR
  clear hch hch'
  have hwv : ∀ ws, whV (Ti.whl t ws) = #[.int .i64 t.d.full, .int .i64 t.d.read, .int .i64 t.d.slip, .int .i64 t.d.skew, .int .i64 t.d.circ, .int .i64 t.d.glo, .int .i64 t.d.ghi, .int .i64 t.d.wr] := fun ws => rfl
  simp only [hwv] at HWC
  clear hwv
  unfold ErrPost at *
  obtain ⟨d, gain, ts⟩ := t
  obtain ⟨full, read, slip, skew, circ, glo, ghi, wrn, dws⟩ := d
  unfold tiV at *
  dsimp only at *
  cases hgn : inB gain 0 50
  · rw [hgn] at HWG
    have HR1 : Hid (R = 90) := by unfold Hid; rw [HR.out, hgn]; rfl
    clear HR hgn
    go_enter Tryz.func11, Tryz.ntmps11
    go_wp2_with fail
    have bT := BoxS.new w 28 #[.int .i64 full, .int .i64 read, .int .i64 slip, .int .i64 skew, .int .i64 circ, .int .i64 glo, .int .i64 ghi, .int .i64 wrn, .int .i64 gain, .slice A ts.length c]
    have hB1 : Below w.heap.size w (w.alloc (.cells #[.int .i64 full, .int .i64 read, .int .i64 slip, .int .i64 skew, .int .i64 circ, .int .i64 glo, .int .i64 ghi, .int .i64 wrn, .int .i64 gain, .slice A ts.length c] 28)) := by (repeat' (first | (with_reducible exact Below.refl _ _) | (with_reducible assumption) | (with_reducible refine Below.alloc ?_ ?_ _) | (with_reducible refine Below.drew ?_) | (with_reducible refine Below.setCell ?_ ?_ _) | go_size | (exact (by simp)) | omega))
    generalize World.alloc w _ = w1 at *
    have c8 := bT.cell 8 rfl
    have c9 := bT.cell 9 rfl
    have lT := bT.lt
    try go_wp2_with fail
    refine (HWG.out _).mono ?_
    rintro e wq ⟨rfl, hq⟩
    have hq := hq.symm
    subst hq
    go_wp2_with fail
    go_returns
    exact ⟨by rw [HR1.out]; rfl, hB1⟩
  · rw [hgn] at HWG
    by_cases hl6 : 6 < ts.length
    · have HR1 : Hid (R = 90) := by unfold Hid; rw [HR.out, hgn, decide_eq_false (show ¬ ts.length ≤ 6 by omega)]; rfl
      have d1 : decide (6 < (ts.length : Int)) = true := decide_eq_true (by omega)
      have d2 : decide (6 < ts.length) = true := decide_eq_true hl6
      clear HR hgn
      go_enter Tryz.func11, Tryz.ntmps11
      go_wp2_with fail
      have bT := BoxS.new w 28 #[.int .i64 full, .int .i64 read, .int .i64 slip, .int .i64 skew, .int .i64 circ, .int .i64 glo, .int .i64 ghi, .int .i64 wrn, .int .i64 gain, .slice A ts.length c]
      have hB1 : Below w.heap.size w (w.alloc (.cells #[.int .i64 full, .int .i64 read, .int .i64 slip, .int .i64 skew, .int .i64 circ, .int .i64 glo, .int .i64 ghi, .int .i64 wrn, .int .i64 gain, .slice A ts.length c] 28)) := by (repeat' (first | (with_reducible exact Below.refl _ _) | (with_reducible assumption) | (with_reducible refine Below.alloc ?_ ?_ _) | (with_reducible refine Below.drew ?_) | (with_reducible refine Below.setCell ?_ ?_ _) | go_size | (exact (by simp)) | omega))
      generalize World.alloc w _ = w1 at *
      have c8 := bT.cell 8 rfl
      have c9 := bT.cell 9 rfl
      have lT := bT.lt
      try go_wp2_with fail
      refine (HWG.out _).mono ?_
      rintro e wq ⟨rfl, hq⟩
      have hq := hq.symm
      subst hq
      go_wp2_with fail
      go_returns
      exact ⟨by rw [HR1.out]; rfl, hB1⟩
    · have HR1 : Hid (R = if AT ts.length = true then (if WT ts.length = 0 then CH [] else WT ts.length) else 90) := by unfold Hid; rw [HR.out, hgn, decide_eq_true (show ts.length ≤ 6 by omega), Bool.true_and, Bool.true_and]
      have d1 : decide (6 < (ts.length : Int)) = false := decide_eq_false (by omega)
      have d2 : decide (6 < ts.length) = false := decide_eq_false hl6
      clear HR hgn
      go_enter Tryz.func11, Tryz.ntmps11
      go_wp2_with fail
      have bT := BoxS.new w 28 #[.int .i64 full, .int .i64 read, .int .i64 slip, .int .i64 skew, .int .i64 circ, .int .i64 glo, .int .i64 ghi, .int .i64 wrn, .int .i64 gain, .slice A ts.length c]
      have hB1 : Below w.heap.size w (w.alloc (.cells #[.int .i64 full, .int .i64 read, .int .i64 slip, .int .i64 skew, .int .i64 circ, .int .i64 glo, .int .i64 ghi, .int .i64 wrn, .int .i64 gain, .slice A ts.length c] 28)) := by (repeat' (first | (with_reducible exact Below.refl _ _) | (with_reducible assumption) | (with_reducible refine Below.alloc ?_ ?_ _) | (with_reducible refine Below.drew ?_) | (with_reducible refine Below.setCell ?_ ?_ _) | go_size | (exact (by simp)) | omega))
      generalize World.alloc w _ = w1 at *
      have c8 := bT.cell 8 rfl
      have c9 := bT.cell 9 rfl
      have lT := bT.lt
      try go_wp2_with fail
      refine (HWG.out _).mono ?_
      rintro e wq ⟨rfl, hq⟩
      have hq := hq.symm
      subst hq
      go_wp2_with fail
      clear c8 c9 lT d1 d2 HWG
      go_loopg [4, 21] ts.length (fun g x4 x21 wx => ∃ k : Nat, Hid (k + g = ts.length) ∧ (k : Int) ≤ ts.length ∧ x21 = .int .i64 (k : Int) ∧ Hid (AT k = true) ∧ Below w1.heap.size w1 wx)
      case atStart => exact ⟨0, by simp [Hid], by omega, rfl, HA0, Below.refl _ _⟩
      case round =>
        obtain ⟨k, hk, hk1, rfl, hat, hbb⟩ := hrel
        have hk0 := Int.natCast_nonneg k
        have hBr := hB1.trans (hbb.mono hB1.size)
        have bT1 := bT.below hbb
        have c9 := bT1.cell 9 rfl
        have lT := bT1.lt
        by_cases hlt : (k : Int) < ts.length
        · have hkn : k < ts.length := by omega
          have HAN1 := Lib.hid (HAN.out k hkn)
          have HAS1 := Lib.hid (HAS.out k)
          have HWA1 := Lib.hid (HWA.out (Ti.tstAt ts k).1)
          obtain ⟨b, off, rfl, hb, hc⟩ := HG.out (by omega)
          obtain ⟨A', c', x0, x1, _, _⟩ := hc k _ (tst_at hkn)
          have y0 := (hBr.cell (p := ⟨b, _, none⟩) hb).trans x0
          have y1 := (hBr.cell (p := ⟨b, _, none⟩) hb).trans x1
          have hbr : b < wr.heap.size := by have := hBr.size; omega
          have e1 : decide ((k : Int) < 0) = false := decide_eq_false (by omega)
          have e2 : decide ((ts.length : Int) ≤ (k : Int)) = false := decide_eq_false (by omega)
          have e4 : decide (ts.length ≤ k) = false := decide_eq_false (by omega)
          have hw1 : IntKind.i64.wrap ((k : Int) + 1) = (k : Int) + 1 := IntWalk.i64_in _ (by omega)
          clear hc x0 x1
          generalize Ti.tstAt ts k = x at *
          obtain ⟨xa, xw⟩ := x
          dsimp only at *
          have hBn : Below w1.heap.size w1 (wr.alloc (.cells #[.int .i64 xa, .slice A' xw.length c'] 78)) := hbb.alloc hbb.size _
          cases hin : inB xa 0 9000
          · rw [hin] at HWA1 HAN1
            have HR2 : Hid (R = 90) := by unfold Hid; rw [HR1.out, HAN1.out rfl]; rfl
            clear hin HAN1 HAS1
            go_wp2_with fail
            refine (HWA1.out _).mono ?_
            rintro e wq ⟨rfl, hq⟩
            have hq := hq.symm
            subst hq
            go_wp2_with fail
            go_returns
            exact ⟨by rw [HR2.out]; rfl, hB1.trans (hBn.mono hB1.size)⟩
          · rw [hin] at HWA1 HAS1
            have HA2 : Hid (AT (k + 1) = true) := by unfold Hid; rw [HAS1.out, hat.out]; rfl
            clear hin HAN1 HAS1
            go_wp2_with fail
            refine (HWA1.out _).mono ?_
            rintro e wq ⟨rfl, hq⟩
            have hq := hq.symm
            subst hq
            generalize World.alloc wr _ = wn at *
            clear y0 y1 c9 lT
            go_wp2_with fail
            obtain ⟨g', hg'⟩ : ∃ g', gk = g' + 1 := ⟨gk - 1, by have := hk.out; omega⟩
            go_roundg g'
            case measure => omega
            case rel => exact ⟨k + 1, by have := hk.out; simp only [Hid]; omega, by omega, by go_num, HA2, hBn⟩
        · have ek : k = ts.length := by omega
          have HR2 : Hid (R = if WT ts.length = 0 then CH [] else WT ts.length) := by unfold Hid; rw [HR1.out, if_pos (by rw [← ek]; exact hat.out)]
          clear HAS HAN HA0 HWA hat ek HR1
          go_wp2_with fail
          obtain ⟨gko, rfl⟩ : ∃ gko, gko = gk := ⟨_, rfl⟩
          obtain ⟨wz, rfl⟩ : ∃ wz, wz = wr := ⟨_, rfl⟩
          clear hlt hk c9 lT
          go_loopg [6, 7, 33] ts.length (fun g x6 x7 x33 wx => ∃ k : Nat, Hid (k + g = ts.length) ∧ (k : Int) ≤ ts.length ∧ x33 = .int .i64 (k : Int) ∧ Hid (WT k = 0) ∧ Below wz.heap.size wz wx)
          case atStart => exact ⟨0, by simp [Hid], by omega, rfl, HW0, Below.refl _ _⟩
          case round =>
            obtain ⟨k, hk, hk1, rfl, hat, hbb⟩ := hrel
            have hk0 := Int.natCast_nonneg k
            have hBr2 := hBr.trans (hbb.mono hBr.size)
            have bT2 := bT1.below hbb
            have c0 := bT2.cell 0 rfl
            have c1 := bT2.cell 1 rfl
            have c2 := bT2.cell 2 rfl
            have c3 := bT2.cell 3 rfl
            have c4 := bT2.cell 4 rfl
            have c5 := bT2.cell 5 rfl
            have c6 := bT2.cell 6 rfl
            have c7 := bT2.cell 7 rfl
            have lT := bT2.lt
            by_cases hlt : (k : Int) < ts.length
            · have hkn : k < ts.length := by omega
              have HWN1 := Lib.hid (HWN.out (k + 1) (by omega))
              have HWS1 := Lib.hid (HWS.out k)
              obtain ⟨b, off, rfl, hb, hc⟩ := HG.out (by omega)
              obtain ⟨A', c', x0, x1, hwk, hwl⟩ := hc k _ (tst_at hkn)
              have y0 := (hBr2.cell (p := ⟨b, _, none⟩) hb).trans x0
              have y1 := (hBr2.cell (p := ⟨b, _, none⟩) hb).trans x1
              have hbr : b < wr.heap.size := by have := hBr2.size; omega
              have e1 : decide ((k : Int) < 0) = false := decide_eq_false (by omega)
              have e2 : decide ((ts.length : Int) ≤ (k : Int)) = false := decide_eq_false (by omega)
              have e4 : decide (ts.length ≤ k) = false := decide_eq_false (by omega)
              have hw1 : IntKind.i64.wrap ((k : Int) + 1) = (k : Int) + 1 := IntWalk.i64_in _ (by omega)
              have HWK := Lib.hid (hwk.keep hBr2)
              clear hc x0 x1 hwk
              generalize Ti.tstAt ts k = x at *
              obtain ⟨xa, xw⟩ := x
              dsimp only at *
              have hBn : Below wz.heap.size wz (wr.alloc (.cells #[.int .i64 xa, .slice A' xw.length c'] 78)) := hbb.alloc hbb.size _
              have HCH := Lib.hid (fun W (hW : Below wr.heap.size wr W) => HWC.out xw A' c' W hwl ((HWK.out.keep (hW.mono hBr2.size)).wider (by have := hW.size; have := hBr2.size; omega)))
              by_cases hz : CH xw = 0
              · have HA2 : Hid (WT (k + 1) = 0) := by unfold Hid; rw [HWS1.out, if_pos hat.out, hz]
                rw [hz] at HCH
                clear hz HWS1 HWN1
                go_wp2_with fail
                refine (HCH.out _ ((Below.refl _ _).alloc (Nat.le_refl _) _)).mono ?_
                rintro e w5 ⟨rfl, hb5⟩
                have hbz := hBn.trans (hb5.mono hBn.size)
                clear y0 y1 c0 c1 c2 c3 c4 c5 c6 c7 lT
                go_wp2_with fail
                obtain ⟨g', hg'⟩ : ∃ g', gk = g' + 1 := ⟨gk - 1, by have := hk.out; omega⟩
                go_roundg g'
                case measure => omega
                case rel => exact ⟨k + 1, by have := hk.out; simp only [Hid]; omega, by omega, by go_num, HA2, hbz⟩
              · have HA2 : WT (k + 1) = CH xw := by rw [HWS1.out, if_pos hat.out]
                have HR3 : Hid (R = CH xw) := by
                  have h := HWN1.out (by rw [HA2]; exact hz)
                  unfold Hid
                  rw [HR2.out, h, HA2, if_neg hz]
                have hnz : (CH xw != 0) = true := by simpa using hz
                clear hz HWS1 HWN1 HA2
                generalize CH xw = E at *
                go_wp2_with fail
                refine (HCH.out _ ((Below.refl _ _).alloc (Nat.le_refl _) _)).mono ?_
                rintro e w5 ⟨rfl, hb5⟩
                have hbz := hBr.trans ((hBn.trans (hb5.mono hBn.size)).mono hBr.size)
                clear y0 y1 c0 c1 c2 c3 c4 c5 c6 c7 lT
                go_wp2_with fail
                go_returns
                exact ⟨by rw [HR3.out]; rfl, hbz⟩
            · have ek : k = ts.length := by omega
              have HR3 : Hid (R = CH []) := by unfold Hid; rw [HR2.out, if_pos (by rw [← ek]; exact hat.out)]
              have HCH := Lib.hid (fun W => HWC.out [] none 0 W (by simp) (wks_nil W _ none))
              rw [List.length_nil] at HCH
              clear HWC HWN HWS HG
              go_wp2_with fail
              refine (HCH.out _).mono ?_
              rintro e w5 ⟨rfl, hb5⟩
              have hbz := hBr2.trans (hb5.mono hBr2.size)
              go_wp2_with fail
              go_returns
              exact ⟨by rw [HR3.out]; rfl, hbz⟩
end Go.Proofs.YtkmacpkjobdffaaGreat
