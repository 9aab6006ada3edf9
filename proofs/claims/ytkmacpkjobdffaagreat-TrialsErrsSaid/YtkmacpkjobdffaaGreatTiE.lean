/- Trials: what a test alone allows, by the program. -/
import Derived.Test.YtkmacpkjobdffaaGreatTiD
namespace Go.Proofs.YtkmacpkjobdffaaGreat
open Go.RowKit Go.Maps
/-- A file: a trial, and its maps. -/
def fV (t : Ti.Tri) (A : Option Addr) (c : Nat) (AL : Option Addr) (m cm : Nat) : Array Value := #[.int .i64 t.d.full, .int .i64 t.d.read, .int .i64 t.d.slip, .int .i64 t.d.skew, .int .i64 t.d.circ, .int .i64 t.d.glo, .int .i64 t.d.ghi, .int .i64 t.d.wr, .int .i64 t.gain, .slice A t.ts.length c, .slice AL m cm]
/-- A map of truths of a call's own. -/
def MapPost (L : List Ti.Gk) (w : World) (e : Ending) (w' : World) : Prop := ∃ b, e = .returned (.map (some b)) ∧ w.heap.size ≤ b ∧ SeenT w' b L ∧ Below w.heap.size w w'
theorem SeenT.grown {w w' : World} {b : Nat} {l : List Ti.Gk} (h : SeenT w b l) (hb : Below w.heap.size w w') : SeenT w' b l := h.below hb
theorem Ints.put {w w' : World} {B BM : Nat} {v : Value} {xs : List Int} {l : List Ti.Gk} (h : Ints w B v xs) (hS : SeenT w BM l) (hg : w.grownBy w' (some BM)) : Ints w' B v xs := by
  rcases h with h | ⟨b, off, cap, e, hB, hc⟩
  · exact .inl h
  · refine .inr ⟨b, off, cap, e, hB, fun k x hx => ?_⟩
    have h1 := hc k x hx
    obtain ⟨D, ⟨es, clock, hb, _⟩, _⟩ := hS
    have hne : b ≠ BM := by rintro rfl; simp [World.cell?, hb] at h1
    have hlt : b < w.heap.size := by
      by_cases h : b < w.heap.size
      · exact h
      · simp [World.cell?, Array.getElem?_eq_none (show w.heap.size ≤ b by omega)] at h1
    have h2 := hg.block b hlt (by simp [hne])
    simp only [World.cell?, h2]
    simpa [World.cell?] using h1
set_option maxRecDepth 100000 in
set_option maxHeartbeats 16000000 in
theorem allows_any (t : Ti.Tri) (hg : 0 ≤ t.gain ∧ t.gain ≤ 50) (x : Ti.Tst) (hx : 0 ≤ x.1 ∧ x.1 ≤ 9000) (hl : x.2.length ≤ 1000000000) (A : Option Addr) (c : Nat) (AL : Option Addr) (m cm : Nat) (A' : Option Addr) (c' : Nat) (w : World) (hw : Wks w w.heap.size A' x.2) :
    Calls Tryz.prog 93 #[.agg (fV t A c AL m cm), .agg #[.int .i64 x.1, .slice A' x.2.length c']] w (MapPost (Ti.puts t x) w) := by
  have HSE : Hid (∀ g W, -50 ≤ g ∧ g ≤ 50 → Calls Tryz.prog 69 #[.agg #[.int .i64 g, .int .i64 0], .int .i64 x.1] W fun e w' => e = .returned (.int .i64 (Ti.seenV g x.1)) ∧ Below W.heap.size W w') := fun g W h => seen_any (g, 0) x.1 h hx W
  have HSK : Hid (∀ (i : Nat) W, Below w.heap.size w W → Calls Tryz.prog 47 #[.agg (whV (Ti.dsk t (Ti.seenV (-t.gain + (i : Int)) x.1) x.2)), .slice A' x.2.length c'] W (IntsEPost (Ti.skAt t x i) (Wh.spE (Ti.dsk t (Ti.seenV (-t.gain + (i : Int)) x.1) x.2)) W)) := fun i W hW => Skews_any (Ti.dsk t (Ti.seenV (-t.gain + (i : Int)) x.1) x.2) A' c' W hl ((hw.keep hW).wider hW.size)
  have HP0 : Hid (Ti.putsTo t x 0 = []) := rfl
  have HPS : Hid (∀ k, Ti.putsTo t x (k + 1) = Ti.putsTo t x k ++ Ti.putRow t x k (Ti.skAt t x k).length) := Ti.putsTo_succ t x
  have HPR : Hid (∀ i j s, (Ti.skAt t x i)[j]? = some s → Ti.putRow t x i (j + 1) = Ti.putRow t x i j ++ [(-t.gain + (i : Int), s)]) := fun i j s h => Ti.putRow_succ t x i j h
  have HR0 : Hid (∀ i, Ti.putRow t x i 0 = []) := fun i => rfl
  have HPL : Hid (∀ i j, i ≤ 101 → (Ti.putsTo t x i ++ Ti.putRow t x i j).length < 100000) := fun i j h => by
    rw [List.length_append]
    have := Ti.putsTo_len t x i
    have := Ti.putRow_len t x i j
    have : i * 41 ≤ 101 * 41 := Nat.mul_le_mul_right _ h
    omega
  have HPE : Hid (Ti.puts t x = Ti.putsTo t x (Ti.nG t)) := rfl
  have hnG : ((Ti.nG t : Nat) : Int) = 2 * t.gain + 1 := by unfold Ti.nG; omega
  have HSB : Hid (∀ i s, s ∈ Ti.skAt t x i → -20 ≤ s ∧ s ≤ 20) := fun i s h => Ti.skews_bd h
  have HSL : Hid (∀ i, (Ti.skAt t x i).length ≤ 41) := fun i => Ti.skews_len _
  generalize Ti.putsTo t x = PT at *
  generalize Ti.putRow t x = PR at *
  generalize Ti.puts t x = P at *
  generalize hSK : Ti.skAt t x = SK at *
  clear hSK
  generalize Ti.nG t = N at *
  generalize hSV : (fun g => Ti.seenV g x.1) = SV at *
  have hSV' : ∀ g, Ti.seenV g x.1 = SV g := fun g => by rw [← hSV]
  simp only [hSV'] at HSE HSK
  have HSVB : Hid (∀ g, -50 ≤ g ∧ g ≤ 50 → 0 ≤ SV g ∧ SV g ≤ 9450) := fun g h => by rw [← hSV']; exact (Ti.seenV_bd h hx).2.2
  clear hSV hSV'
  generalize hSP : (fun (i : Nat) => Wh.spE (Ti.dsk t (SV (-t.gain + (i : Int))) x.2)) = SP at *
  have hSP' : ∀ (i : Nat), Wh.spE (Ti.dsk t (SV (-t.gain + (i : Int))) x.2) = SP i := fun i => by rw [← hSP]
  simp only [hSP'] at HSK
  clear hSP hSP' hw
  have hwv : ∀ a, whV (Ti.dsk t a x.2) = #[.int .i64 t.d.full, .int .i64 t.d.read, .int .i64 t.d.slip, .int .i64 t.d.skew, .int .i64 t.d.circ, .int .i64 a, .int .i64 a, .int .i64 t.d.wr] := fun a => rfl
  simp only [hwv] at HSK
  clear hwv
  have hmm := @run_makeMap Tryz.prog
  obtain ⟨d, gain, ts⟩ := t
  obtain ⟨full, read, slip, skew, circ, glo, ghi, wrn, dws⟩ := d
  obtain ⟨xa, xw⟩ := x
  unfold fV MapPost at *
  dsimp only at *
  go_enter Tryz.func93, Tryz.ntmps93
  go_wp2_with fail
  clear hmm
  have bF : BoxS (((w.alloc (.cells #[.int .i64 full, .int .i64 read, .int .i64 slip, .int .i64 skew, .int .i64 circ, .int .i64 glo, .int .i64 ghi, .int .i64 wrn, .int .i64 gain, .slice A ts.length c, .slice AL m cm] 84)).alloc (.cells #[.int .i64 xa, .slice A' xw.length c'] 78)).alloc (.map #[] 0)) w.heap.size 84 #[.int .i64 full, .int .i64 read, .int .i64 slip, .int .i64 skew, .int .i64 circ, .int .i64 glo, .int .i64 ghi, .int .i64 wrn, .int .i64 gain, .slice A ts.length c, .slice AL m cm] := ((BoxS.new w 84 #[.int .i64 full, .int .i64 read, .int .i64 slip, .int .i64 skew, .int .i64 circ, .int .i64 glo, .int .i64 ghi, .int .i64 wrn, .int .i64 gain, .slice A ts.length c, .slice AL m cm]).alloc _).alloc _
  have bX : BoxS (((w.alloc (.cells #[.int .i64 full, .int .i64 read, .int .i64 slip, .int .i64 skew, .int .i64 circ, .int .i64 glo, .int .i64 ghi, .int .i64 wrn, .int .i64 gain, .slice A ts.length c, .slice AL m cm] 84)).alloc (.cells #[.int .i64 xa, .slice A' xw.length c'] 78)).alloc (.map #[] 0)) (w.heap.size + 1) 78 #[.int .i64 xa, .slice A' xw.length c'] := by
    have := (BoxS.new (w.alloc (.cells #[.int .i64 full, .int .i64 read, .int .i64 slip, .int .i64 skew, .int .i64 circ, .int .i64 glo, .int .i64 ghi, .int .i64 wrn, .int .i64 gain, .slice A ts.length c, .slice AL m cm] 84)) 78 #[.int .i64 xa, .slice A' xw.length c']).alloc (.map #[] 0)
    rw [World.size_alloc] at this
    exact this
  have sM : SeenT (((w.alloc (.cells #[.int .i64 full, .int .i64 read, .int .i64 slip, .int .i64 skew, .int .i64 circ, .int .i64 glo, .int .i64 ghi, .int .i64 wrn, .int .i64 gain, .slice A ts.length c, .slice AL m cm] 84)).alloc (.cells #[.int .i64 xa, .slice A' xw.length c'] 78)).alloc (.map #[] 0)) (w.heap.size + 1 + 1) [] := by
    have := SeenT.made ((w.alloc (.cells #[.int .i64 full, .int .i64 read, .int .i64 slip, .int .i64 skew, .int .i64 circ, .int .i64 glo, .int .i64 ghi, .int .i64 wrn, .int .i64 gain, .slice A ts.length c, .slice AL m cm] 84)).alloc (.cells #[.int .i64 xa, .slice A' xw.length c'] 78))
    rw [World.size_alloc, World.size_alloc] at this
    exact this
  have hB1 : Below w.heap.size w (((w.alloc (.cells #[.int .i64 full, .int .i64 read, .int .i64 slip, .int .i64 skew, .int .i64 circ, .int .i64 glo, .int .i64 ghi, .int .i64 wrn, .int .i64 gain, .slice A ts.length c, .slice AL m cm] 84)).alloc (.cells #[.int .i64 xa, .slice A' xw.length c'] 78)).alloc (.map #[] 0)) := by (repeat' (first | (with_reducible exact Below.refl _ _) | (with_reducible assumption) | (with_reducible refine Below.alloc ?_ ?_ _) | (with_reducible refine Below.drew ?_) | (with_reducible refine Below.setCell ?_ ?_ _) | go_size | (exact (by simp)) | omega))
  generalize World.alloc (World.alloc (World.alloc w _) _) _ = w1 at *
  go_loopw [6] (fun x6 wr => ∃ i : Nat, (i : Int) ≤ N ∧ x6 = .int .i64 (-gain + (i : Int)) ∧ Below w.heap.size w wr ∧ BoxS wr w.heap.size 84 #[.int .i64 full, .int .i64 read, .int .i64 slip, .int .i64 skew, .int .i64 circ, .int .i64 glo, .int .i64 ghi, .int .i64 wrn, .int .i64 gain, .slice A ts.length c, .slice AL m cm] ∧ BoxS wr (w.heap.size + 1) 78 #[.int .i64 xa, .slice A' xw.length c'] ∧ Hid (SeenT wr (w.heap.size + 1 + 1) (PT i))) (fun x6 _ => (gain + 1 - intOf x6).toNat)
  case atStart => exact ⟨0, by omega, by simp, hB1, bF, bX, by unfold Hid; rw [HP0.out]; exact sM⟩
  case round =>
    clear bF bX sM hB1
    obtain ⟨i, hi, rfl, hB, bF, bX, hS⟩ := hrel
    have hi0 := Int.natCast_nonneg i
    have f0 := bF.cell 0 rfl
    have f1 := bF.cell 1 rfl
    have f2 := bF.cell 2 rfl
    have f3 := bF.cell 3 rfl
    have f4 := bF.cell 4 rfl
    have f5 := bF.cell 5 rfl
    have f6 := bF.cell 6 rfl
    have f7 := bF.cell 7 rfl
    have f8 := bF.cell 8 rfl
    have x0 := bX.cell 0 rfl
    have x1 := bX.cell 1 rfl
    have lF := bF.lt
    have lX := bX.lt
    have lM := hS.out.lt
    by_cases hlt : -gain + (i : Int) ≤ gain
    · have hin : i < N := by omega
      have hw1 : IntKind.i64.wrap (-gain + (i : Int) + 1) = -gain + ((i + 1 : Nat) : Int) := by rw [IntWalk.i64_in _ (by omega)]; omega
      have HSE1 := Lib.hid (fun W => HSE.out (-gain + (i : Int)) W (by omega))
      have HSK1 := Lib.hid (HSK.out i)
      have hsv := HSVB.out (-gain + (i : Int)) (by omega)
      generalize SV (-gain + (i : Int)) = sv at *
      go_wp2_with fail
      refine (HSE1.out _).mono ?_
      rintro e w2 ⟨rfl, hb2⟩
      have hB2 := hB.trans (hb2.mono hB.size)
      have bF2 := bF.below hb2
      have bX2 := bX.below hb2
      have hS2 := Lib.hid (hS.out.below hb2)
      clear f0 f1 f2 f3 f4 f5 f6 f7 f8 x0 x1 lF lX lM bF bX hS
      have f0 := bF2.cell 0 rfl
      have f1 := bF2.cell 1 rfl
      have f2 := bF2.cell 2 rfl
      have f3 := bF2.cell 3 rfl
      have f4 := bF2.cell 4 rfl
      have f5 := bF2.cell 5 rfl
      have f6 := bF2.cell 6 rfl
      have f7 := bF2.cell 7 rfl
      have f8 := bF2.cell 8 rfl
      have x1 := bX2.cell 1 rfl
      have lF := bF2.lt
      have lX := bX2.lt
      have lM := hS2.out.lt
      go_wp2_with fail
      have hB3 : Below w.heap.size w (w2.alloc (.cells #[.int .i64 full, .int .i64 read, .int .i64 slip, .int .i64 skew, .int .i64 circ, .int .i64 sv, .int .i64 sv, .int .i64 wrn] 25)) := hB2.alloc hB2.size _
      have hb3 : Below w2.heap.size w2 (w2.alloc (.cells #[.int .i64 full, .int .i64 read, .int .i64 slip, .int .i64 skew, .int .i64 circ, .int .i64 sv, .int .i64 sv, .int .i64 wrn] 25)) := (Below.refl _ _).alloc (Nat.le_refl _) _
      refine (HSK1.out _ hB3).mono ?_
      generalize World.alloc w2 _ = w3 at *
      rintro e w4 ⟨v, rfl, hv, hb4⟩
      have hB4 := hB3.trans (hb4.mono hB3.size)
      have bF4 := (bF2.below hb3).below hb4
      have bX4 := (bX2.below hb3).below hb4
      have hS4 := Lib.hid ((hS2.out.below hb3).below hb4)
      have HSL1 := HSL.out i
      have HSB1 := Lib.hid (HSB.out i)
      have HPR1 := Lib.hid (HPR.out i)
      have HPL1 := Lib.hid (fun j => HPL.out i j (by omega))
      have HPS1 := Lib.hid (HPS.out i)
      have HR01 := Lib.hid (HR0.out i)
      clear f0 f1 f2 f3 f4 f5 f6 f7 f8 x1 lF lX lM bF2 bX2 hS2 HSK HSK1 HSE HSE1 HPS HPR HR0 HPL HSB HSL
      generalize SK i = sk at *
      generalize PR i = pr at *
      obtain ⟨AK, ck, rfl⟩ := ints_form hv.out
      go_wp2_with fail
      obtain ⟨wz, rfl⟩ : ∃ wz, wz = w4 := ⟨_, rfl⟩
      go_loopw [12, 46] (fun x12 x46 wr => ∃ j : Nat, (j : Int) ≤ sk.length ∧ x46 = .int .i64 (j : Int) ∧ Below w.heap.size w wr ∧ BoxS wr w.heap.size 84 #[.int .i64 full, .int .i64 read, .int .i64 slip, .int .i64 skew, .int .i64 circ, .int .i64 glo, .int .i64 ghi, .int .i64 wrn, .int .i64 gain, .slice A ts.length c, .slice AL m cm] ∧ BoxS wr (w.heap.size + 1) 78 #[.int .i64 xa, .slice A' xw.length c'] ∧ Hid (SeenT wr (w.heap.size + 1 + 1) (PT i ++ pr j)) ∧ Hid (Ints wr wz.heap.size (.slice AK sk.length ck) sk)) (fun _ x46 _ => (sk.length - intOf x46).toNat)
      case atStart => exact ⟨0, by omega, rfl, hB4, bF4, bX4, by unfold Hid; rw [HR01.out, List.append_nil]; exact hS4.out, hv⟩
      case round =>
        obtain ⟨j, hj, rfl, hBr, bFr, bXr, hSr, hIr⟩ := hrel
        have hj0 := Int.natCast_nonneg j
        by_cases hlt2 : (j : Int) < sk.length
        · have hjn : j < sk.length := by omega
          have hgj : sk[j]? = some sk[j] := List.getElem?_eq_getElem hjn
          have hsb := HSB1.out _ (List.mem_of_getElem? hgj)
          have HPJ := Lib.hid (HPR1.out j _ hgj)
          obtain ⟨w5, hput, hS5, hg5⟩ := hSr.out.put (x := -gain + (i : Int)) (y := sk[j]) ⟨⟨by dsimp only; omega, by dsimp only; omega⟩, hsb⟩ (HPL1.out j)
          have hI5 := Lib.hid (hIr.out.put hSr.out hg5)
          have hB5 : Below w.heap.size w w5 := hBr.grown hg5 hBr.size (fun j hj => by injection hj with hj; omega)
          have bF5 := bFr.kept hg5 (fun e => by injection e with e; omega)
          have bX5 := bXr.kept hg5 (fun e => by injection e with e; omega)
          have HS5 : Hid (SeenT w5 (w.heap.size + 1 + 1) (PT i ++ pr (j + 1))) := by unfold Hid; rw [HPJ.out, ← List.append_assoc]; exact hS5
          obtain ⟨bk, off, hAK, hbk, hck⟩ : ∃ b off, AK = some ⟨b, off, none⟩ ∧ b < wz.heap.size ∧ ∀ (k : Nat) (x : Int), sk[k]? = some x → wr.cell? ⟨b, off + k, none⟩ = some (.int .i64 x) := by
            rcases hIr.out with ⟨e, e2⟩ | ⟨b, off, cap, e, h1, h2⟩
            · rw [e2] at hjn; simp at hjn
            · injection e with e1 e2 e3; exact ⟨b, off, e1, h1, h2⟩
          subst hAK
          have y0 := hck _ _ hgj
          have hw2 : IntKind.i64.wrap ((j : Int) + 1) = (j : Int) + 1 := IntWalk.i64_in _ (by omega)
          clear hck hgj hS5 hSr HPJ HPR1 HSB1 hIr bFr bXr hBr hg5
          generalize sk[j] = sj at *
          go_wp2_with fail
          go_roundw
          case rel => exact ⟨j + 1, by omega, by go_num, hB5, bF5, bX5, HS5, hI5⟩
          case measure => simp [intOf]; omega
        · have ej : j = sk.length := by omega
          have HS6 : Hid (SeenT wr (w.heap.size + 1 + 1) (PT (i + 1))) := by unfold Hid; rw [HPS1.out, ← ej]; exact hSr.out
          clear hSr hIr
          go_wp2_with fail
          go_roundw
          case rel => exact ⟨i + 1, by omega, by go_num, hBr, bFr, bXr, HS6⟩
          case measure => simp [intOf]; omega
    · have ei : i = N := by omega
      have HS6 : Hid (SeenT wr (w.heap.size + 1 + 1) P) := by unfold Hid; rw [HPE.out, ← ei]; exact hS.out
      go_wp2_with fail
      go_returns
      exact ⟨_, rfl, by omega, HS6.out, hB⟩
end Go.Proofs.YtkmacpkjobdffaaGreat
