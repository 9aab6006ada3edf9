/- Texts of this proof, one behind the other: WlC, WlQ. Each says its own conditions. -/
import Derived.Test.YtmjcdggmofohcaaGreatMh09
namespace Go.Proofs.YtmjcdggmofohcaaGreat
open Go.RowKit
namespace Wl
def esAt (es : List Int) (k : Nat) : Int := (es[k]?).getD 0
def fitTo (t : Trk) (ws : List Pt) (es : List Int) : Nat → Bool
  | 0 => true
  | k + 1 => fitTo t ws es k && (inB (esAt es k) 0 ((t.ps.length : Int) - 1) && reachB t (esAt es k) (ptAt ws k))
def tieTo (t : Trk) (es : List Int) : Nat → Bool
  | 0 => true
  | k + 1 => tieTo t es k && nearB t (esAt es k) (esAt es ((k + 1) % es.length))
def elbV (t : Trk) (ws : List Pt) (es : List Int) : Bool := decide (es.length = ws.length) && (fitTo t ws es es.length && tieTo t es es.length)
theorem fitTo_no {t : Trk} {ws : List Pt} {es : List Int} {k : Nat} (h : (inB (esAt es k) 0 ((t.ps.length : Int) - 1) && reachB t (esAt es k) (ptAt ws k)) = false) : ∀ n, k < n → fitTo t ws es n = false
  | n + 1, hk => by
    show (fitTo t ws es n && _) = false
    by_cases e : k = n
    · subst e; rw [h, Bool.and_false]
    · rw [fitTo_no h n (by omega), Bool.false_and]
theorem fitTo_in {t : Trk} {ws : List Pt} {es : List Int} : ∀ n, fitTo t ws es n = true → ∀ k, k < n → 0 ≤ esAt es k ∧ esAt es k < t.ps.length
  | n + 1, h, k, hk => by
    have h' : (fitTo t ws es n && (inB (esAt es n) 0 ((t.ps.length : Int) - 1) && reachB t (esAt es n) (ptAt ws n))) = true := h
    rw [Bool.and_eq_true, Bool.and_eq_true] at h'
    by_cases e : k = n
    · subst e
      have := h'.2.1
      unfold inB at this
      simp only [Bool.and_eq_true, decide_eq_true_eq] at this
      omega
    · exact fitTo_in n h'.1 k (by omega)
theorem tieTo_no {t : Trk} {es : List Int} {k : Nat} (h : nearB t (esAt es k) (esAt es ((k + 1) % es.length)) = false) : ∀ n, k < n → tieTo t es n = false
  | n + 1, hk => by
    show (tieTo t es n && _) = false
    by_cases e : k = n
    · subst e; rw [h, Bool.and_false]
    · rw [tieTo_no h n (by omega), Bool.false_and]
theorem ptsTo_sm {ps : List Pt} : ∀ n, ptsTo ps n = true → ∀ k, k < n → Geo.sm (ptAt ps k)
  | n + 1, h, k, hk => by
    have h' : (ptsTo ps n && Geo.ptB (ptAt ps n)) = true := h
    rw [Bool.and_eq_true] at h'
    by_cases e : k = n
    · subst e
      have := h'.2
      unfold Geo.ptB inB at this
      simp only [Bool.and_eq_true, decide_eq_true_eq] at this
      unfold Geo.sm
      omega
    · exact ptsTo_sm n h'.1 k (by omega)
theorem pts_sm {ps : List Pt} (h : ptsB ps = true) {k : Nat} (hk : k < ps.length) : Geo.sm (ptAt ps k) := by
  unfold ptsB at h
  rw [Bool.and_eq_true] at h
  exact ptsTo_sm _ h.1 k hk
theorem trk_parts {t : Trk} (h : trkB t = true) : ptsB t.ps = true ∧ (t.cl = 1 → 3 ≤ t.ps.length) ∧ (1 ≤ t.ps.length ∧ t.ps.length ≤ 8) := by
  unfold trkB at h
  simp only [Bool.and_eq_true, Bool.or_eq_true, decide_eq_true_eq] at h
  obtain ⟨⟨⟨⟨h1, h2⟩, h3⟩, h4⟩, h5⟩ := h
  have h6 := h1
  unfold ptsB inB at h6
  simp only [Bool.and_eq_true, decide_eq_true_eq] at h6
  exact ⟨h1, fun e => by omega, by omega⟩
end Wl
set_option maxRecDepth 100000 in
set_option maxHeartbeats 8000000 in
theorem AreElbows5_any (t : Wl.Trk) (ws : List Wl.Pt) (es : List Int) (A Aw Ae : Option Addr) (c cw ce : Nat) (ht : Wl.trkB t = true) (hw : Wl.ptsB ws = true) (hle : es.length ≤ 1000000000) (hlw : ws.length ≤ 1000000000) (w : World) (hP : Prs w w.heap.size A t.ps) (hQ : Prs w w.heap.size Aw ws) (hE : Ints w w.heap.size (.slice Ae es.length ce) es) :
    Calls Tryz.prog 11 #[.agg (trV t A c), .slice Aw ws.length cw, .slice Ae es.length ce] w fun e w' => e = .returned (.bool (Wl.elbV t ws es)) ∧ Below w.heap.size w w' := by
  obtain ⟨hp8, hc3, hn8⟩ := Wl.trk_parts ht
  have HREA : Hid (∀ (p : Nat) (a : Wl.Pt), p < t.ps.length → Geo.sm a → ∀ W, Below w.heap.size w W → Calls Tryz.prog 33 #[.agg (trV t A c), .int .i64 (p : Nat), .agg #[.int .i64 a.1, .int .i64 a.2]] W fun e w' => e = .returned (.bool (Wl.reachB t p a)) ∧ Below W.heap.size W w') := fun p a hpl hs W hW => Reaches5_any t A c p a hpl (Wl.pts_sm hp8 hpl) hs W (prs_keep hP hW) (by omega)
  have HSTA : Hid (∀ a b : Int, (0 ≤ a ∧ a < t.ps.length) → (0 ≤ b ∧ b < t.ps.length) → ∀ W, Calls Tryz.prog 34 #[.agg (trV t A c), .int .i64 a, .int .i64 b] W fun e w' => ∃ s : Int, e = .returned (.tuple #[.int .i64 s, .bool (Wl.nearB t a b)]) ∧ Below W.heap.size W w') := fun a b ha hb W => step5_any t A c a b hc3 ha hb (by omega) W
  have HWA : Hid (∀ (x : Int) W, Calls Tryz.prog 32 #[.int .i64 x, .int .i64 0, .int .i64 ((t.ps.length : Int) - 1)] W fun e w' => e = .returned (.bool (inB x 0 ((t.ps.length : Int) - 1))) ∧ w' = W) := fun x W => within5_any _ _ _ W
  have HSW : Hid (∀ k, k < ws.length → Geo.sm (Wl.ptAt ws k)) := fun k hk => Wl.pts_sm hw hk
  have HR0 : Hid (Wl.elbV t ws es = (decide (es.length = ws.length) && (Wl.fitTo t ws es es.length && Wl.tieTo t es es.length))) := rfl
  have HFS0 : Hid (∀ k, Wl.fitTo t ws es (k + 1) = (Wl.fitTo t ws es k && (inB (Wl.esAt es k) 0 ((t.ps.length : Int) - 1) && Wl.reachB t (Wl.esAt es k) (Wl.ptAt ws k)))) := fun _ => rfl
  have HF0 : Hid (Wl.fitTo t ws es 0 = true) := rfl
  have HFN : Hid (∀ k, k < es.length → (inB (Wl.esAt es k) 0 ((t.ps.length : Int) - 1) && Wl.reachB t (Wl.esAt es k) (Wl.ptAt ws k)) = false → Wl.fitTo t ws es es.length = false) := fun k hk h => Wl.fitTo_no h _ hk
  have HFI : Hid (Wl.fitTo t ws es es.length = true → ∀ k, k < es.length → 0 ≤ Wl.esAt es k ∧ Wl.esAt es k < t.ps.length) := fun h => Wl.fitTo_in _ h
  have HTS0 : Hid (∀ k, Wl.tieTo t es (k + 1) = (Wl.tieTo t es k && Wl.nearB t (Wl.esAt es k) (Wl.esAt es ((k + 1) % es.length)))) := fun _ => rfl
  have HT0 : Hid (Wl.tieTo t es 0 = true) := rfl
  have HTN : Hid (∀ k, k < es.length → Wl.nearB t (Wl.esAt es k) (Wl.esAt es ((k + 1) % es.length)) = false → Wl.tieTo t es es.length = false) := fun k hk h => Wl.tieTo_no h _ hk
  have HP := Lib.hid hP
  have HQ := Lib.hid hQ
  have HE := Lib.hid hE
  have hmo : Tryz.prog.follows .mixedOrders = true := by kernel_rfl
  clear hP hQ hE ht hw hc3 hp8
  obtain ⟨ps, cl, lo, hi⟩ := t
  unfold trV at *
  dsimp only at *
  generalize Wl.elbV ⟨ps, cl, lo, hi⟩ ws es = R at *
  generalize Wl.fitTo ⟨ps, cl, lo, hi⟩ ws es = FT at *
  generalize Wl.tieTo ⟨ps, cl, lo, hi⟩ es = TT at *
  by_cases hlen : es.length = ws.length
  · have hli : (es.length : Int) = (ws.length : Int) := by omega
    have hlb : ((es.length : Int) == (ws.length : Int)) = true := by simpa using hli
    have hnb : ((es.length : Int) != (ws.length : Int)) = false := by simpa using hli
    clear hli
    have hld : decide (es.length = ws.length) = true := decide_eq_true hlen
    have HR1 : Hid (R = (FT es.length && TT es.length)) := by unfold Hid; rw [HR0.out, hld, Bool.true_and]
    have HL := Lib.hid hlen
    clear HR0 hlen
    go_enter Tryz.func11, Tryz.ntmps11
    go_wp2_with fail
    have bS1 := BoxS.new w 26 #[.slice A ps.length c, .int .i64 cl, .int .i64 lo, .int .i64 hi]
    have hB1 : Below w.heap.size w (w.alloc (.cells #[.slice A ps.length c, .int .i64 cl, .int .i64 lo, .int .i64 hi] 26)) := by (repeat' (first | (with_reducible exact Below.refl _ _) | (with_reducible assumption) | (with_reducible refine Below.alloc ?_ ?_ _) | (with_reducible refine Below.drew ?_) | (with_reducible refine Below.setCell ?_ ?_ _) | go_size | (exact (by simp)) | omega))
    generalize World.alloc w _ = w1 at *
    try go_wp2_with fail
    clear hlb hnb hld
    go_loopg [7] es.length (fun g x7 wx => ∃ k : Nat, Hid (k + g = es.length) ∧ (k : Int) ≤ es.length ∧ x7 = .int .i64 (k : Int) ∧ Hid (FT k = true) ∧ Below w.heap.size w wx ∧ BoxS wx w.heap.size 26 #[.slice A ps.length c, .int .i64 cl, .int .i64 lo, .int .i64 hi])
    case atStart => exact ⟨0, by simp [Hid], by omega, rfl, HF0, hB1, bS1⟩
    case round =>
      clear hB1 bS1
      obtain ⟨k, hk, hk1, rfl, hall, hB, bS⟩ := hrel
      have hk0 := Int.natCast_nonneg k
      by_cases hlt : (k : Int) < es.length
      · have hkn : k < es.length := by omega
        have hkw : k < ws.length := by have := HL.out; omega
        have HNF : Hid ((inB (Wl.esAt es k) 0 ((ps.length : Int) - 1) && Wl.reachB ⟨ps, cl, lo, hi⟩ (Wl.esAt es k) (Wl.ptAt ws k)) = false → R = false) := fun h => by rw [HR1.out, HFN.out k hkn h, Bool.false_and]
        have HFS := Lib.hid (HFS0.out k)
        have HW1 := Lib.hid (HWA.out (Wl.esAt es k))
        have hsa := HSW.out k hkw
        have hek : es[k]? = some (Wl.esAt es k) := by unfold Wl.esAt; rw [List.getElem?_eq_getElem hkn]; rfl
        have hwk : ws[k]? = some (Wl.ptAt ws k) := by unfold Wl.ptAt; rw [List.getElem?_eq_getElem hkw]; rfl
        obtain ⟨bw, ow, rfl, hbw, hcw⟩ := HQ.out (by omega)
        obtain ⟨y0, y1⟩ := hcw k _ hwk
        rcases HE.out with ⟨_, e⟩ | ⟨be, oe, cape, e, hbe, hce⟩
        · subst e; simp at hkn
        · injection e with eA _ ec
          subst eA ec
          have z0 := hce k _ hek
          have hw1 : IntKind.i64.wrap ((k : Int) + 1) = (k : Int) + 1 := IntWalk.i64_in _ (by omega)
          have hw2 : IntKind.i64.wrap ((ps.length : Int) - 1) = (ps.length : Int) - 1 := IntWalk.i64_in _ (by omega)
          have d1 : decide ((k : Int) < 0) = false := decide_eq_false (by omega)
          have d2 : decide ((es.length : Int) ≤ (k : Int)) = false := decide_eq_false (by omega)
          have d3 : decide ((ws.length : Int) ≤ (k : Int)) = false := decide_eq_false (by omega)
          have d4 : decide (es.length ≤ k) = false := decide_eq_false (by omega)
          have d5 : decide (ws.length ≤ k) = false := decide_eq_false (by omega)
          have q0 : Below wr.heap.size wr wr.drew := (Below.refl _ _).drew
          have KC : Hid (∀ W', Below wr.heap.size wr W' → (W'.cell? ⟨w.heap.size, 0, none⟩ = some (.slice A ps.length c) ∧ W'.cell? ⟨w.heap.size, 1, none⟩ = some (.int .i64 cl) ∧ W'.cell? ⟨w.heap.size, 2, none⟩ = some (.int .i64 lo) ∧ W'.cell? ⟨w.heap.size, 3, none⟩ = some (.int .i64 hi)) ∧ W'.cell? ⟨be, oe + k, none⟩ = some (.int .i64 (Wl.esAt es k)) ∧ W'.cell? ⟨bw, ow + k * 2, none⟩ = some (.int .i64 (Wl.ptAt ws k).1) ∧ W'.cell? ⟨bw, ow + k * 2 + 1, none⟩ = some (.int .i64 (Wl.ptAt ws k).2)) := fun W' h => by
            have h2 := hB.trans (h.mono hB.size)
            exact ⟨boxS4 (bS.below h), (h2.cell (p := ⟨be, _, none⟩) hbe).trans z0, (h2.cell (p := ⟨bw, _, none⟩) hbw).trans y0, (h2.cell (p := ⟨bw, _, none⟩) hbw).trans y1⟩
          clear hce hcw hek hwk y0 y1 z0 HFN HFS0 HTS0 HTN HFI
          generalize Wl.esAt es k = ex at *
          generalize Wl.ptAt ws k = a at *
          obtain ⟨a1, a2⟩ := a
          dsimp only at KC
          cases hin : inB ex 0 ((ps.length : Int) - 1)
          · rw [hin] at HW1
            have HR : Hid (R = false) := HNF.out (by rw [hin, Bool.false_and])
            clear hin
            go_wp2_with fail
            refine (wpIn_wide (n := 4)).1 ?_
            refine wpIn_region_held (fun W' => Below wr.heap.size wr W') 30 hmo ?_
            refine wpHeldIn_take (i := 0) (v := ?_) (plain_of (by kernel_rfl)) rfl (by kernel_rfl) (fun _ _ _ h => h) (yieldsSoIn_of (by kernel_rfl) ?_ (fun _ => rfl)) q0 ?_; rotate_left; focus (intro wq hw; clear hw; go_simp; try (with_reducible rfl))
            refine wpHeldIn_take (i := 1) (v := ?_) (plain_of (by kernel_rfl)) rfl (by kernel_rfl) (fun _ _ _ h => h) (yieldsSoIn_of (by kernel_rfl) ?_ (fun _ => rfl)) q0 ?_; rotate_left; focus (intro wq hw; clear hw; go_simp; try (with_reducible rfl))
            refine wpHeldIn_take (i := 2) (v := ?_) (plain_of (by kernel_rfl)) rfl (by kernel_rfl) (fun _ _ _ h => h) (yieldsSoIn_of (by kernel_rfl) ?_ (fun _ => rfl)) q0 ?_; rotate_left; focus (intro wq hw; clear hw; go_simp; try (with_reducible rfl))
            refine wpHeldIn_take (i := 3) (v := ?_) (plain_of (by kernel_rfl)) rfl (by kernel_rfl) (fun _ _ _ h => h) (yieldsSoIn_of (by kernel_rfl) ?_ (fun _ => rfl)) q0 ?_; rotate_left; focus (intro wq hw; have kq := KC.out wq hw; clear hw; go_simp; try (with_reducible rfl))
            refine wpHeldIn_take (i := 4) (v := ?_) (plain_of (by kernel_rfl)) rfl (by kernel_rfl) (fun _ _ _ h => h) (yieldsSoIn_of (by kernel_rfl) ?_ (fun _ => rfl)) q0 ?_; rotate_left; focus (intro wq hw; clear hw; go_simp; try (with_reducible rfl))
            refine wpHeldIn_take (i := 5) (v := ?_) (plain_of (by kernel_rfl)) rfl (by kernel_rfl) (fun _ _ _ h => h) (yieldsSoIn_of (by kernel_rfl) ?_ (fun _ => rfl)) q0 ?_; rotate_left; focus (intro wq hw; have kq := KC.out wq hw; clear hw; go_simp; try (with_reducible rfl))
            refine wpHeldIn_take (i := 6) (v := ?_) (plain_of (by kernel_rfl)) rfl (by kernel_rfl) (fun _ _ _ h => h) (yieldsSoIn_of (by kernel_rfl) ?_ (fun _ => rfl)) q0 ?_; rotate_left; focus (intro wq hw; clear hw; go_simp; try (with_reducible rfl))
            refine wpHeldIn_take (i := 7) (v := ?_) (plain_of (by kernel_rfl)) rfl (by kernel_rfl) (fun _ _ _ h => h) (yieldsSoIn_of (by kernel_rfl) ?_ (fun _ => rfl)) q0 ?_; rotate_left; focus (intro wq hw; clear hw; go_simp; try (with_reducible rfl))
            refine wpHeldIn_one (i := 8) (by kernel_rfl) (by kernel_rfl) rfl (by kernel_rfl) (fun K1 hK1 => ?_)
            go_simp
            refine ⟨trivial, (callsIn_wide.2 (HW1.out _)).mono ?_⟩
            rintro e w2 ⟨rfl, hw2⟩
            have hw2 := hw2.symm
            subst hw2
            refine hK1 _ _ q0 ?_
            refine wpHeldIn_take (i := 9) (v := ?_) (plain_of (by kernel_rfl)) rfl (by kernel_rfl) (fun _ _ _ h => h) (yieldsSoIn_of (by kernel_rfl) ?_ (fun _ => rfl)) q0 ?_; rotate_left; focus (intro wq hw; clear hw; go_simp; try (with_reducible rfl))
            refine wpHeldIn_take (i := 10) (v := ?_) (plain_of (by kernel_rfl)) rfl (by kernel_rfl) (fun _ _ _ h => h) (yieldsSoIn_of (by kernel_rfl) ?_ (fun _ => rfl)) q0 ?_; rotate_left; focus (intro wq hw; clear hw; go_simp; try (with_reducible rfl))
            refine wpHeldIn_take (i := 11) (plain_of (by kernel_rfl)) rfl (by kernel_rfl) (fun _ _ _ h => h) (yieldsSoIn_skip (by kernel_rfl) (fun _ => trivial)) q0 ?_
            refine wpHeldIn_take (i := 12) (plain_of (by kernel_rfl)) rfl (by kernel_rfl) (fun _ _ _ h => h) (yieldsSoIn_skip (by kernel_rfl) (fun _ => trivial)) q0 ?_
            refine wpHeldIn_take (i := 13) (plain_of (by kernel_rfl)) rfl (by kernel_rfl) (fun _ _ _ h => h) (yieldsSoIn_skip (by kernel_rfl) (fun _ => trivial)) q0 ?_
            refine wpHeldIn_take (i := 14) (plain_of (by kernel_rfl)) rfl (by kernel_rfl) (fun _ _ _ h => h) (yieldsSoIn_skip (by kernel_rfl) (fun _ => trivial)) q0 ?_
            refine wpHeldIn_take (i := 15) (plain_of (by kernel_rfl)) rfl (by kernel_rfl) (fun _ _ _ h => h) (yieldsSoIn_skip (by kernel_rfl) (fun _ => trivial)) q0 ?_
            refine wpHeldIn_take (i := 16) (plain_of (by kernel_rfl)) rfl (by kernel_rfl) (fun _ _ _ h => h) (yieldsSoIn_skip (by kernel_rfl) (fun _ => trivial)) q0 ?_
            refine wpHeldIn_take (i := 17) (plain_of (by kernel_rfl)) rfl (by kernel_rfl) (fun _ _ _ h => h) (yieldsSoIn_skip (by kernel_rfl) (fun _ => trivial)) q0 ?_
            refine wpHeldIn_take (i := 18) (plain_of (by kernel_rfl)) rfl (by kernel_rfl) (fun _ _ _ h => h) (yieldsSoIn_skip (by kernel_rfl) (fun _ => trivial)) q0 ?_
            refine wpHeldIn_take (i := 19) (plain_of (by kernel_rfl)) rfl (by kernel_rfl) (fun _ _ _ h => h) (yieldsSoIn_skip (by kernel_rfl) (fun _ => trivial)) q0 ?_
            refine wpHeldIn_take (i := 20) (plain_of (by kernel_rfl)) rfl (by kernel_rfl) (fun _ _ _ h => h) (yieldsSoIn_skip (by kernel_rfl) (fun _ => trivial)) q0 ?_
            refine wpHeldIn_take (i := 21) (plain_of (by kernel_rfl)) rfl (by kernel_rfl) (fun _ _ _ h => h) (yieldsSoIn_skip (by kernel_rfl) (fun _ => trivial)) q0 ?_
            refine wpHeldIn_take (i := 22) (v := ?_) (plain_of (by kernel_rfl)) rfl (by kernel_rfl) (fun _ _ _ h => h) (yieldsSoIn_of (by kernel_rfl) ?_ (fun _ => rfl)) q0 ?_; rotate_left; focus (intro wq hw; clear hw; go_simp; try (with_reducible rfl))
            refine wpHeldIn_done (by kernel_rfl) ?_ _
            go_simp
            have bS5 := bS.below q0
            have hB5 := hB.trans (q0.mono hB.size)
            clear KC
            go_wp2_with fail
            go_returns
            exact ⟨by rw [HR.out]; rfl, hB5⟩
          · rw [hin] at HW1
            have hie : 0 ≤ ex ∧ ex < ps.length := by
              unfold inB at hin
              simp only [Bool.and_eq_true, decide_eq_true_eq] at hin
              omega
            obtain ⟨p, hp⟩ : ∃ p : Nat, ex = p := ⟨ex.toNat, by omega⟩
            subst hp
            have HRE := Lib.hid (fun W (hW : Below wr.heap.size wr W) => HREA.out p (a1, a2) (by omega) hsa W (hB.trans (hW.mono hB.size)))
            cases hre : Wl.reachB ⟨ps, cl, lo, hi⟩ p (a1, a2)
            · rw [hre] at HRE
              have HR : Hid (R = false) := HNF.out (by rw [hre, Bool.and_false])
              clear hin hre
              go_wp2_with fail
              refine (wpIn_wide (n := 4)).1 ?_
              refine wpIn_region_held (fun W' => Below wr.heap.size wr W') 30 hmo ?_
              refine wpHeldIn_take (i := 0) (v := ?_) (plain_of (by kernel_rfl)) rfl (by kernel_rfl) (fun _ _ _ h => h) (yieldsSoIn_of (by kernel_rfl) ?_ (fun _ => rfl)) q0 ?_; rotate_left; focus (intro wq hw; clear hw; go_simp; try (with_reducible rfl))
              refine wpHeldIn_take (i := 1) (v := ?_) (plain_of (by kernel_rfl)) rfl (by kernel_rfl) (fun _ _ _ h => h) (yieldsSoIn_of (by kernel_rfl) ?_ (fun _ => rfl)) q0 ?_; rotate_left; focus (intro wq hw; clear hw; go_simp; try (with_reducible rfl))
              refine wpHeldIn_take (i := 2) (v := ?_) (plain_of (by kernel_rfl)) rfl (by kernel_rfl) (fun _ _ _ h => h) (yieldsSoIn_of (by kernel_rfl) ?_ (fun _ => rfl)) q0 ?_; rotate_left; focus (intro wq hw; clear hw; go_simp; try (with_reducible rfl))
              refine wpHeldIn_take (i := 3) (v := ?_) (plain_of (by kernel_rfl)) rfl (by kernel_rfl) (fun _ _ _ h => h) (yieldsSoIn_of (by kernel_rfl) ?_ (fun _ => rfl)) q0 ?_; rotate_left; focus (intro wq hw; have kq := KC.out wq hw; clear hw; go_simp; try (with_reducible rfl))
              refine wpHeldIn_take (i := 4) (v := ?_) (plain_of (by kernel_rfl)) rfl (by kernel_rfl) (fun _ _ _ h => h) (yieldsSoIn_of (by kernel_rfl) ?_ (fun _ => rfl)) q0 ?_; rotate_left; focus (intro wq hw; clear hw; go_simp; try (with_reducible rfl))
              refine wpHeldIn_take (i := 5) (v := ?_) (plain_of (by kernel_rfl)) rfl (by kernel_rfl) (fun _ _ _ h => h) (yieldsSoIn_of (by kernel_rfl) ?_ (fun _ => rfl)) q0 ?_; rotate_left; focus (intro wq hw; have kq := KC.out wq hw; clear hw; go_simp; try (with_reducible rfl))
              refine wpHeldIn_take (i := 6) (v := ?_) (plain_of (by kernel_rfl)) rfl (by kernel_rfl) (fun _ _ _ h => h) (yieldsSoIn_of (by kernel_rfl) ?_ (fun _ => rfl)) q0 ?_; rotate_left; focus (intro wq hw; clear hw; go_simp; try (with_reducible rfl))
              refine wpHeldIn_take (i := 7) (v := ?_) (plain_of (by kernel_rfl)) rfl (by kernel_rfl) (fun _ _ _ h => h) (yieldsSoIn_of (by kernel_rfl) ?_ (fun _ => rfl)) q0 ?_; rotate_left; focus (intro wq hw; clear hw; go_simp; try (with_reducible rfl))
              refine wpHeldIn_one (i := 8) (by kernel_rfl) (by kernel_rfl) rfl (by kernel_rfl) (fun K1 hK1 => ?_)
              go_simp
              refine ⟨trivial, (callsIn_wide.2 (HW1.out _)).mono ?_⟩
              rintro e w2 ⟨rfl, hw2⟩
              have hw2 := hw2.symm
              subst hw2
              refine hK1 _ _ q0 ?_
              refine wpHeldIn_take (i := 9) (v := ?_) (plain_of (by kernel_rfl)) rfl (by kernel_rfl) (fun _ _ _ h => h) (yieldsSoIn_of (by kernel_rfl) ?_ (fun _ => rfl)) q0 ?_; rotate_left; focus (intro wq hw; clear hw; go_simp; try (with_reducible rfl))
              refine wpHeldIn_take (i := 10) (v := ?_) (plain_of (by kernel_rfl)) rfl (by kernel_rfl) (fun _ _ _ h => h) (yieldsSoIn_of (by kernel_rfl) ?_ (fun _ => rfl)) q0 ?_; rotate_left; focus (intro wq hw; clear hw; go_simp; try (with_reducible rfl))
              refine wpHeldIn_take (i := 11) (v := ?_) (plain_of (by kernel_rfl)) rfl (by kernel_rfl) (fun _ _ _ h => h) (yieldsSoIn_of (by kernel_rfl) ?_ (fun _ => rfl)) q0 ?_; rotate_left; focus (intro wq hw; have kq := KC.out wq hw; clear hw; go_simp; try (with_reducible rfl))
              refine wpHeldIn_take (i := 12) (v := ?_) (plain_of (by kernel_rfl)) rfl (by kernel_rfl) (fun _ _ _ h => h) (yieldsSoIn_of (by kernel_rfl) ?_ (fun _ => rfl)) q0 ?_; rotate_left; focus (intro wq hw; clear hw; go_simp; try (with_reducible rfl))
              refine wpHeldIn_take (i := 13) (v := ?_) (plain_of (by kernel_rfl)) rfl (by kernel_rfl) (fun _ _ _ h => h) (yieldsSoIn_of (by kernel_rfl) ?_ (fun _ => rfl)) q0 ?_; rotate_left; focus (intro wq hw; clear hw; go_simp; try (with_reducible rfl))
              refine wpHeldIn_take (i := 14) (v := ?_) (plain_of (by kernel_rfl)) rfl (by kernel_rfl) (fun _ _ _ h => h) (yieldsSoIn_of (by kernel_rfl) ?_ (fun _ => rfl)) q0 ?_; rotate_left; focus (intro wq hw; clear hw; go_simp; try (with_reducible rfl))
              refine wpHeldIn_take (i := 15) (v := ?_) (plain_of (by kernel_rfl)) rfl (by kernel_rfl) (fun _ _ _ h => h) (yieldsSoIn_of (by kernel_rfl) ?_ (fun _ => rfl)) q0 ?_; rotate_left; focus (intro wq hw; have kq := KC.out wq hw; clear hw; go_simp; try (with_reducible rfl))
              refine wpHeldIn_take (i := 16) (v := ?_) (plain_of (by kernel_rfl)) rfl (by kernel_rfl) (fun _ _ _ h => h) (yieldsSoIn_of (by kernel_rfl) ?_ (fun _ => rfl)) q0 ?_; rotate_left; focus (intro wq hw; clear hw; go_simp; try (with_reducible rfl))
              refine wpHeldIn_take (i := 17) (v := ?_) (plain_of (by kernel_rfl)) rfl (by kernel_rfl) (fun _ _ _ h => h) (yieldsSoIn_of (by kernel_rfl) ?_ (fun _ => rfl)) q0 ?_; rotate_left; focus (intro wq hw; clear hw; go_simp; try (with_reducible rfl))
              refine wpHeldIn_take (i := 18) (v := ?_) (plain_of (by kernel_rfl)) rfl (by kernel_rfl) (fun _ _ _ h => h) (yieldsSoIn_of (by kernel_rfl) ?_ (fun _ => rfl)) q0 ?_; rotate_left; focus (intro wq hw; clear hw; go_simp; try (with_reducible rfl))
              refine wpHeldIn_take (i := 19) (v := ?_) (plain_of (by kernel_rfl)) rfl (by kernel_rfl) (fun _ _ _ h => h) (yieldsSoIn_of (by kernel_rfl) ?_ (fun _ => rfl)) q0 ?_; rotate_left; focus (intro wq hw; have kq := KC.out wq hw; clear hw; go_simp; try (with_reducible rfl))
              refine wpHeldIn_one (i := 20) (by kernel_rfl) (by kernel_rfl) rfl (by kernel_rfl) (fun K2 hK2 => ?_)
              go_simp
              refine ⟨trivial, (callsIn_wide.2 (HRE.out _ q0)).mono ?_⟩
              rintro e w5 ⟨rfl, hb5⟩
              have q1 := q0.trans (hb5.mono q0.size)
              refine hK2 _ _ q1 ?_
              refine wpHeldIn_take (i := 21) (v := ?_) (plain_of (by kernel_rfl)) rfl (by kernel_rfl) (fun _ _ _ h => h) (yieldsSoIn_of (by kernel_rfl) ?_ (fun _ => rfl)) q1 ?_; rotate_left; focus (intro wq hw; clear hw; go_simp; try (with_reducible rfl))
              refine wpHeldIn_take (i := 22) (v := ?_) (plain_of (by kernel_rfl)) rfl (by kernel_rfl) (fun _ _ _ h => h) (yieldsSoIn_of (by kernel_rfl) ?_ (fun _ => rfl)) q1 ?_; rotate_left; focus (intro wq hw; clear hw; go_simp; try (with_reducible rfl))
              refine wpHeldIn_done (by kernel_rfl) ?_ _
              go_simp
              have bS5 := bS.below q1
              have hB5 := hB.trans (q1.mono hB.size)
              clear KC
              go_wp2_with fail
              go_returns
              exact ⟨by rw [HR.out]; rfl, hB5⟩
            · rw [hre] at HRE
              have HF2 : Hid (FT (k + 1) = true) := by unfold Hid; rw [HFS.out, hall.out, hin, hre]; rfl
              clear hin hre
              go_wp2_with fail
              refine (wpIn_wide (n := 4)).1 ?_
              refine wpIn_region_held (fun W' => Below wr.heap.size wr W') 30 hmo ?_
              refine wpHeldIn_take (i := 0) (v := ?_) (plain_of (by kernel_rfl)) rfl (by kernel_rfl) (fun _ _ _ h => h) (yieldsSoIn_of (by kernel_rfl) ?_ (fun _ => rfl)) q0 ?_; rotate_left; focus (intro wq hw; clear hw; go_simp; try (with_reducible rfl))
              refine wpHeldIn_take (i := 1) (v := ?_) (plain_of (by kernel_rfl)) rfl (by kernel_rfl) (fun _ _ _ h => h) (yieldsSoIn_of (by kernel_rfl) ?_ (fun _ => rfl)) q0 ?_; rotate_left; focus (intro wq hw; clear hw; go_simp; try (with_reducible rfl))
              refine wpHeldIn_take (i := 2) (v := ?_) (plain_of (by kernel_rfl)) rfl (by kernel_rfl) (fun _ _ _ h => h) (yieldsSoIn_of (by kernel_rfl) ?_ (fun _ => rfl)) q0 ?_; rotate_left; focus (intro wq hw; clear hw; go_simp; try (with_reducible rfl))
              refine wpHeldIn_take (i := 3) (v := ?_) (plain_of (by kernel_rfl)) rfl (by kernel_rfl) (fun _ _ _ h => h) (yieldsSoIn_of (by kernel_rfl) ?_ (fun _ => rfl)) q0 ?_; rotate_left; focus (intro wq hw; have kq := KC.out wq hw; clear hw; go_simp; try (with_reducible rfl))
              refine wpHeldIn_take (i := 4) (v := ?_) (plain_of (by kernel_rfl)) rfl (by kernel_rfl) (fun _ _ _ h => h) (yieldsSoIn_of (by kernel_rfl) ?_ (fun _ => rfl)) q0 ?_; rotate_left; focus (intro wq hw; clear hw; go_simp; try (with_reducible rfl))
              refine wpHeldIn_take (i := 5) (v := ?_) (plain_of (by kernel_rfl)) rfl (by kernel_rfl) (fun _ _ _ h => h) (yieldsSoIn_of (by kernel_rfl) ?_ (fun _ => rfl)) q0 ?_; rotate_left; focus (intro wq hw; have kq := KC.out wq hw; clear hw; go_simp; try (with_reducible rfl))
              refine wpHeldIn_take (i := 6) (v := ?_) (plain_of (by kernel_rfl)) rfl (by kernel_rfl) (fun _ _ _ h => h) (yieldsSoIn_of (by kernel_rfl) ?_ (fun _ => rfl)) q0 ?_; rotate_left; focus (intro wq hw; clear hw; go_simp; try (with_reducible rfl))
              refine wpHeldIn_take (i := 7) (v := ?_) (plain_of (by kernel_rfl)) rfl (by kernel_rfl) (fun _ _ _ h => h) (yieldsSoIn_of (by kernel_rfl) ?_ (fun _ => rfl)) q0 ?_; rotate_left; focus (intro wq hw; clear hw; go_simp; try (with_reducible rfl))
              refine wpHeldIn_one (i := 8) (by kernel_rfl) (by kernel_rfl) rfl (by kernel_rfl) (fun K1 hK1 => ?_)
              go_simp
              refine ⟨trivial, (callsIn_wide.2 (HW1.out _)).mono ?_⟩
              rintro e w2 ⟨rfl, hw2⟩
              have hw2 := hw2.symm
              subst hw2
              refine hK1 _ _ q0 ?_
              refine wpHeldIn_take (i := 9) (v := ?_) (plain_of (by kernel_rfl)) rfl (by kernel_rfl) (fun _ _ _ h => h) (yieldsSoIn_of (by kernel_rfl) ?_ (fun _ => rfl)) q0 ?_; rotate_left; focus (intro wq hw; clear hw; go_simp; try (with_reducible rfl))
              refine wpHeldIn_take (i := 10) (v := ?_) (plain_of (by kernel_rfl)) rfl (by kernel_rfl) (fun _ _ _ h => h) (yieldsSoIn_of (by kernel_rfl) ?_ (fun _ => rfl)) q0 ?_; rotate_left; focus (intro wq hw; clear hw; go_simp; try (with_reducible rfl))
              refine wpHeldIn_take (i := 11) (v := ?_) (plain_of (by kernel_rfl)) rfl (by kernel_rfl) (fun _ _ _ h => h) (yieldsSoIn_of (by kernel_rfl) ?_ (fun _ => rfl)) q0 ?_; rotate_left; focus (intro wq hw; have kq := KC.out wq hw; clear hw; go_simp; try (with_reducible rfl))
              refine wpHeldIn_take (i := 12) (v := ?_) (plain_of (by kernel_rfl)) rfl (by kernel_rfl) (fun _ _ _ h => h) (yieldsSoIn_of (by kernel_rfl) ?_ (fun _ => rfl)) q0 ?_; rotate_left; focus (intro wq hw; clear hw; go_simp; try (with_reducible rfl))
              refine wpHeldIn_take (i := 13) (v := ?_) (plain_of (by kernel_rfl)) rfl (by kernel_rfl) (fun _ _ _ h => h) (yieldsSoIn_of (by kernel_rfl) ?_ (fun _ => rfl)) q0 ?_; rotate_left; focus (intro wq hw; clear hw; go_simp; try (with_reducible rfl))
              refine wpHeldIn_take (i := 14) (v := ?_) (plain_of (by kernel_rfl)) rfl (by kernel_rfl) (fun _ _ _ h => h) (yieldsSoIn_of (by kernel_rfl) ?_ (fun _ => rfl)) q0 ?_; rotate_left; focus (intro wq hw; clear hw; go_simp; try (with_reducible rfl))
              refine wpHeldIn_take (i := 15) (v := ?_) (plain_of (by kernel_rfl)) rfl (by kernel_rfl) (fun _ _ _ h => h) (yieldsSoIn_of (by kernel_rfl) ?_ (fun _ => rfl)) q0 ?_; rotate_left; focus (intro wq hw; have kq := KC.out wq hw; clear hw; go_simp; try (with_reducible rfl))
              refine wpHeldIn_take (i := 16) (v := ?_) (plain_of (by kernel_rfl)) rfl (by kernel_rfl) (fun _ _ _ h => h) (yieldsSoIn_of (by kernel_rfl) ?_ (fun _ => rfl)) q0 ?_; rotate_left; focus (intro wq hw; clear hw; go_simp; try (with_reducible rfl))
              refine wpHeldIn_take (i := 17) (v := ?_) (plain_of (by kernel_rfl)) rfl (by kernel_rfl) (fun _ _ _ h => h) (yieldsSoIn_of (by kernel_rfl) ?_ (fun _ => rfl)) q0 ?_; rotate_left; focus (intro wq hw; clear hw; go_simp; try (with_reducible rfl))
              refine wpHeldIn_take (i := 18) (v := ?_) (plain_of (by kernel_rfl)) rfl (by kernel_rfl) (fun _ _ _ h => h) (yieldsSoIn_of (by kernel_rfl) ?_ (fun _ => rfl)) q0 ?_; rotate_left; focus (intro wq hw; clear hw; go_simp; try (with_reducible rfl))
              refine wpHeldIn_take (i := 19) (v := ?_) (plain_of (by kernel_rfl)) rfl (by kernel_rfl) (fun _ _ _ h => h) (yieldsSoIn_of (by kernel_rfl) ?_ (fun _ => rfl)) q0 ?_; rotate_left; focus (intro wq hw; have kq := KC.out wq hw; clear hw; go_simp; try (with_reducible rfl))
              refine wpHeldIn_one (i := 20) (by kernel_rfl) (by kernel_rfl) rfl (by kernel_rfl) (fun K2 hK2 => ?_)
              go_simp
              refine ⟨trivial, (callsIn_wide.2 (HRE.out _ q0)).mono ?_⟩
              rintro e w5 ⟨rfl, hb5⟩
              have q1 := q0.trans (hb5.mono q0.size)
              refine hK2 _ _ q1 ?_
              refine wpHeldIn_take (i := 21) (v := ?_) (plain_of (by kernel_rfl)) rfl (by kernel_rfl) (fun _ _ _ h => h) (yieldsSoIn_of (by kernel_rfl) ?_ (fun _ => rfl)) q1 ?_; rotate_left; focus (intro wq hw; clear hw; go_simp; try (with_reducible rfl))
              refine wpHeldIn_take (i := 22) (v := ?_) (plain_of (by kernel_rfl)) rfl (by kernel_rfl) (fun _ _ _ h => h) (yieldsSoIn_of (by kernel_rfl) ?_ (fun _ => rfl)) q1 ?_; rotate_left; focus (intro wq hw; clear hw; go_simp; try (with_reducible rfl))
              refine wpHeldIn_done (by kernel_rfl) ?_ _
              go_simp
              have bS5 := bS.below q1
              have hB5 := hB.trans (q1.mono hB.size)
              clear KC
              go_wp2_with fail
              obtain ⟨g', hg'⟩ : ∃ g', gk = g' + 1 := ⟨gk - 1, by have := hk.out; omega⟩
              go_roundg g'
              case measure => omega
              case rel => exact ⟨k + 1, by have := hk.out; simp only [Hid]; omega, by omega, by go_num, HF2, hB5, bS5⟩
      · have ek : k = es.length := by omega
        have HFA : Hid (FT es.length = true) := by rw [← ek]; exact hall
        have HIN := Lib.hid (HFI.out HFA.out)
        have HR2 : Hid (R = TT es.length) := by unfold Hid; rw [HR1.out, HFA.out, Bool.true_and]
        clear HR1 HFA HFI HFN HFS0 HWA HREA ek
        go_wp2_with fail
        obtain ⟨gko, rfl⟩ : ∃ gko, gko = gk := ⟨_, rfl⟩
        obtain ⟨wz, hwz⟩ : ∃ wz, wz = wr := ⟨_, rfl⟩
        clear hlt hk
        go_loopg [8, 9, 10] es.length (fun g x8 x9 x10 wx => ∃ k : Nat, Hid (k + g = es.length) ∧ (k : Int) ≤ es.length ∧ x8 = .int .i64 (k : Int) ∧ Hid (TT k = true) ∧ Below w.heap.size w wx ∧ BoxS wx w.heap.size 26 #[.slice A ps.length c, .int .i64 cl, .int .i64 lo, .int .i64 hi])
        case atStart => exact ⟨0, by simp [Hid], by omega, rfl, HT0, hB, bS⟩
        case round =>
          clear hB bS hall hwz
          obtain ⟨k, hk, hk1, rfl, hall, hB, bS⟩ := hrel
          have hk0 := Int.natCast_nonneg k
          by_cases hlt : (k : Int) < es.length
          · have hkn : k < es.length := by omega
            have hm : (k + 1) % es.length < es.length := Nat.mod_lt _ (by omega)
            have HNT : Hid (Wl.nearB ⟨ps, cl, lo, hi⟩ (Wl.esAt es k) (Wl.esAt es ((k + 1) % es.length)) = false → R = false) := fun h => by rw [HR2.out, HTN.out k hkn h]
            have HTS := Lib.hid (HTS0.out k)
            have HST := Lib.hid (HSTA.out _ _ (HIN.out k hkn) (HIN.out _ hm))
            have hek : es[k]? = some (Wl.esAt es k) := by unfold Wl.esAt; rw [List.getElem?_eq_getElem hkn]; rfl
            have hem : es[(k + 1) % es.length]? = some (Wl.esAt es ((k + 1) % es.length)) := by unfold Wl.esAt; rw [List.getElem?_eq_getElem hm]; rfl
            rcases HE.out with ⟨_, e⟩ | ⟨be, oe, cape, e, hbe, hce⟩
            · subst e; simp at hkn
            · injection e with eA _ ec
              subst eA ec
              have z0 := hce k _ hek
              have z1 := hce _ _ hem
              have hr1 : ((k : Int) + 1) % (es.length : Int) = (((k + 1) % es.length : Nat) : Int) := by rw [Int.natCast_emod]; rfl
              have hr2 : ((k : Int) + 1).tmod (es.length : Int) = (((k + 1) % es.length : Nat) : Int) := by rw [Int.tmod_eq_emod_of_nonneg (by omega)]; exact hr1
              have hw1 : IntKind.i64.wrap ((k : Int) + 1) = (k : Int) + 1 := IntWalk.i64_in _ (by omega)
              have hne : ¬ (es.length : Int) = 0 := by omega
              have hne2 : ¬ es.length = 0 := by omega
              have hne3 : ¬ es = [] := by intro e; subst e; simp at hne2
              have q0 : Below wr.heap.size wr wr.drew := (Below.refl _ _).drew
              have KC : Hid (∀ W', Below wr.heap.size wr W' → (W'.cell? ⟨w.heap.size, 0, none⟩ = some (.slice A ps.length c) ∧ W'.cell? ⟨w.heap.size, 1, none⟩ = some (.int .i64 cl) ∧ W'.cell? ⟨w.heap.size, 2, none⟩ = some (.int .i64 lo) ∧ W'.cell? ⟨w.heap.size, 3, none⟩ = some (.int .i64 hi)) ∧ W'.cell? ⟨be, oe + k, none⟩ = some (.int .i64 (Wl.esAt es k)) ∧ W'.cell? ⟨be, oe + (k + 1) % es.length, none⟩ = some (.int .i64 (Wl.esAt es ((k + 1) % es.length)))) := fun W' h => by
                have h2 := hB.trans (h.mono hB.size)
                exact ⟨boxS4 (bS.below h), (h2.cell (p := ⟨be, _, none⟩) hbe).trans z0, (h2.cell (p := ⟨be, _, none⟩) hbe).trans z1⟩
              clear hce hek hem z0 z1 HTN HTS0 HIN
              generalize Wl.esAt es ((k + 1) % es.length) = ey at *
              generalize Wl.esAt es k = ex at *
              generalize (k + 1) % es.length = r at *
              have hw2 : IntKind.i64.wrap (r : Int) = (r : Int) := IntWalk.i64_in _ (by omega)
              have hr0 : (0 : Int) ≤ (r : Int) := Int.natCast_nonneg r
              have hrl : (r : Int) < (es.length : Int) := by omega
              have d1 : decide ((k : Int) < 0) = false := decide_eq_false (by omega)
              have d2 : decide ((es.length : Int) ≤ (k : Int)) = false := decide_eq_false (by omega)
              have d4 : decide (es.length ≤ k) = false := decide_eq_false (by omega)
              have d5 : decide ((r : Int) < 0) = false := decide_eq_false (by omega)
              have d6 : decide ((es.length : Int) ≤ (r : Int)) = false := decide_eq_false (by omega)
              have d7 : decide (es.length ≤ r) = false := decide_eq_false (by omega)
              clear hr1
              cases hnr : Wl.nearB ⟨ps, cl, lo, hi⟩ ex ey
              · rw [hnr] at HST
                have HR : Hid (R = false) := HNT.out hnr
                clear hnr
                go_wp2_with fail
                refine (wpIn_wide (n := 4)).1 ?_
                refine wpIn_region_held (fun W' => Below wr.heap.size wr W') 30 hmo ?_
                refine wpHeldIn_take (i := 0) (v := ?_) (plain_of (by kernel_rfl)) rfl (by kernel_rfl) (fun _ _ _ h => h) (yieldsSoIn_of (by kernel_rfl) ?_ (fun _ => rfl)) q0 ?_; rotate_left; focus (intro wq hw; have kq := KC.out wq hw; clear hw; go_simp; try (with_reducible rfl))
                refine wpHeldIn_take (i := 1) (v := ?_) (plain_of (by kernel_rfl)) rfl (by kernel_rfl) (fun _ _ _ h => h) (yieldsSoIn_of (by kernel_rfl) ?_ (fun _ => rfl)) q0 ?_; rotate_left; focus (intro wq hw; clear hw; go_simp; try (with_reducible rfl))
                refine wpHeldIn_take (i := 2) (v := ?_) (plain_of (by kernel_rfl)) rfl (by kernel_rfl) (fun _ _ _ h => h) (yieldsSoIn_of (by kernel_rfl) ?_ (fun _ => rfl)) q0 ?_; rotate_left; focus (intro wq hw; clear hw; go_simp; try (with_reducible rfl))
                refine wpHeldIn_take (i := 3) (v := ?_) (plain_of (by kernel_rfl)) rfl (by kernel_rfl) (fun _ _ _ h => h) (yieldsSoIn_of (by kernel_rfl) ?_ (fun _ => rfl)) q0 ?_; rotate_left; focus (intro wq hw; clear hw; go_simp; try (with_reducible rfl))
                refine wpHeldIn_take (i := 4) (v := ?_) (plain_of (by kernel_rfl)) rfl (by kernel_rfl) (fun _ _ _ h => h) (yieldsSoIn_of (by kernel_rfl) ?_ (fun _ => rfl)) q0 ?_; rotate_left; focus (intro wq hw; have kq := KC.out wq hw; clear hw; go_simp; try (with_reducible rfl))
                refine wpHeldIn_take (i := 5) (v := ?_) (plain_of (by kernel_rfl)) rfl (by kernel_rfl) (fun _ _ _ h => h) (yieldsSoIn_of (by kernel_rfl) ?_ (fun _ => rfl)) q0 ?_; rotate_left; focus (intro wq hw; clear hw; go_simp; try (with_reducible rfl))
                refine wpHeldIn_take (i := 6) (v := ?_) (plain_of (by kernel_rfl)) rfl (by kernel_rfl) (fun _ _ _ h => h) (yieldsSoIn_of (by kernel_rfl) ?_ (fun _ => rfl)) q0 ?_; rotate_left; focus (intro wq hw; clear hw; go_simp; try (with_reducible rfl))
                refine wpHeldIn_take (i := 7) (v := ?_) (plain_of (by kernel_rfl)) rfl (by kernel_rfl) (fun _ _ _ h => h) (yieldsSoIn_of (by kernel_rfl) ?_ (fun _ => rfl)) q0 ?_; rotate_left; focus (intro wq hw; clear hw; go_simp; try (with_reducible rfl))
                refine wpHeldIn_take (i := 8) (v := ?_) (plain_of (by kernel_rfl)) rfl (by kernel_rfl) (fun _ _ _ h => h) (yieldsSoIn_of (by kernel_rfl) ?_ (fun _ => rfl)) q0 ?_; rotate_left; focus (intro wq hw; clear hw; go_simp; try (with_reducible rfl))
                refine wpHeldIn_take (i := 9) (v := ?_) (plain_of (by kernel_rfl)) rfl (by kernel_rfl) (fun _ _ _ h => h) (yieldsSoIn_of (by kernel_rfl) ?_ (fun _ => rfl)) q0 ?_; rotate_left; focus (intro wq hw; clear hw; go_simp; try (with_reducible rfl))
                refine wpHeldIn_take (i := 10) (v := ?_) (plain_of (by kernel_rfl)) rfl (by kernel_rfl) (fun _ _ _ h => h) (yieldsSoIn_of (by kernel_rfl) ?_ (fun _ => rfl)) q0 ?_; rotate_left; focus (intro wq hw; clear hw; go_simp; try (with_reducible rfl))
                refine wpHeldIn_take (i := 11) (v := ?_) (plain_of (by kernel_rfl)) rfl (by kernel_rfl) (fun _ _ _ h => h) (yieldsSoIn_of (by kernel_rfl) ?_ (fun _ => rfl)) q0 ?_; rotate_left; focus (intro wq hw; clear hw; go_simp; try (with_reducible rfl))
                refine wpHeldIn_take (i := 12) (v := ?_) (plain_of (by kernel_rfl)) rfl (by kernel_rfl) (fun _ _ _ h => h) (yieldsSoIn_of (by kernel_rfl) ?_ (fun _ => rfl)) q0 ?_; rotate_left; focus (intro wq hw; have kq := KC.out wq hw; clear hw; go_simp; try (with_reducible rfl))
                refine wpHeldIn_one (i := 13) (by kernel_rfl) (by kernel_rfl) rfl (by kernel_rfl) (fun K2 hK2 => ?_)
                go_simp
                refine ⟨trivial, (callsIn_wide.2 (HST.out _)).mono ?_⟩
                rintro e w5 ⟨s5, rfl, hb5⟩
                have q1 := q0.trans (hb5.mono q0.size)
                refine hK2 _ _ q1 ?_
                refine wpHeldIn_take (i := 14) (v := ?_) (plain_of (by kernel_rfl)) rfl (by kernel_rfl) (fun _ _ _ h => h) (yieldsSoIn_of (by kernel_rfl) ?_ (fun _ => rfl)) q1 ?_; rotate_left; focus (intro wq hw; clear hw; go_simp; try (with_reducible rfl))
                refine wpHeldIn_take (i := 15) (v := ?_) (plain_of (by kernel_rfl)) rfl (by kernel_rfl) (fun _ _ _ h => h) (yieldsSoIn_of (by kernel_rfl) ?_ (fun _ => rfl)) q1 ?_; rotate_left; focus (intro wq hw; clear hw; go_simp; try (with_reducible rfl))
                refine wpHeldIn_take (i := 16) (v := ?_) (plain_of (by kernel_rfl)) rfl (by kernel_rfl) (fun _ _ _ h => h) (yieldsSoIn_of (by kernel_rfl) ?_ (fun _ => rfl)) q1 ?_; rotate_left; focus (intro wq hw; clear hw; go_simp; try (with_reducible rfl))
                refine wpHeldIn_take (i := 17) (v := ?_) (plain_of (by kernel_rfl)) rfl (by kernel_rfl) (fun _ _ _ h => h) (yieldsSoIn_of (by kernel_rfl) ?_ (fun _ => rfl)) q1 ?_; rotate_left; focus (intro wq hw; clear hw; go_simp; try (with_reducible rfl))
                refine wpHeldIn_take (i := 18) (v := ?_) (plain_of (by kernel_rfl)) rfl (by kernel_rfl) (fun _ _ _ h => h) (yieldsSoIn_of (by kernel_rfl) ?_ (fun _ => rfl)) q1 ?_; rotate_left; focus (intro wq hw; clear hw; go_simp; try (with_reducible rfl))
                refine wpHeldIn_done (by kernel_rfl) ?_ _
                go_simp
                have bS5 := bS.below q1
                have hB5 := hB.trans (q1.mono hB.size)
                clear KC
                go_wp2_with fail
                go_returns
                exact ⟨by rw [HR.out]; rfl, hB5⟩
              · rw [hnr] at HST
                have HT2 : Hid (TT (k + 1) = true) := by unfold Hid; rw [HTS.out, hall.out, hnr]; rfl
                clear hnr
                go_wp2_with fail
                refine (wpIn_wide (n := 4)).1 ?_
                refine wpIn_region_held (fun W' => Below wr.heap.size wr W') 30 hmo ?_
                refine wpHeldIn_take (i := 0) (v := ?_) (plain_of (by kernel_rfl)) rfl (by kernel_rfl) (fun _ _ _ h => h) (yieldsSoIn_of (by kernel_rfl) ?_ (fun _ => rfl)) q0 ?_; rotate_left; focus (intro wq hw; have kq := KC.out wq hw; clear hw; go_simp; try (with_reducible rfl))
                refine wpHeldIn_take (i := 1) (v := ?_) (plain_of (by kernel_rfl)) rfl (by kernel_rfl) (fun _ _ _ h => h) (yieldsSoIn_of (by kernel_rfl) ?_ (fun _ => rfl)) q0 ?_; rotate_left; focus (intro wq hw; clear hw; go_simp; try (with_reducible rfl))
                refine wpHeldIn_take (i := 2) (v := ?_) (plain_of (by kernel_rfl)) rfl (by kernel_rfl) (fun _ _ _ h => h) (yieldsSoIn_of (by kernel_rfl) ?_ (fun _ => rfl)) q0 ?_; rotate_left; focus (intro wq hw; clear hw; go_simp; try (with_reducible rfl))
                refine wpHeldIn_take (i := 3) (v := ?_) (plain_of (by kernel_rfl)) rfl (by kernel_rfl) (fun _ _ _ h => h) (yieldsSoIn_of (by kernel_rfl) ?_ (fun _ => rfl)) q0 ?_; rotate_left; focus (intro wq hw; clear hw; go_simp; try (with_reducible rfl))
                refine wpHeldIn_take (i := 4) (v := ?_) (plain_of (by kernel_rfl)) rfl (by kernel_rfl) (fun _ _ _ h => h) (yieldsSoIn_of (by kernel_rfl) ?_ (fun _ => rfl)) q0 ?_; rotate_left; focus (intro wq hw; have kq := KC.out wq hw; clear hw; go_simp; try (with_reducible rfl))
                refine wpHeldIn_take (i := 5) (v := ?_) (plain_of (by kernel_rfl)) rfl (by kernel_rfl) (fun _ _ _ h => h) (yieldsSoIn_of (by kernel_rfl) ?_ (fun _ => rfl)) q0 ?_; rotate_left; focus (intro wq hw; clear hw; go_simp; try (with_reducible rfl))
                refine wpHeldIn_take (i := 6) (v := ?_) (plain_of (by kernel_rfl)) rfl (by kernel_rfl) (fun _ _ _ h => h) (yieldsSoIn_of (by kernel_rfl) ?_ (fun _ => rfl)) q0 ?_; rotate_left; focus (intro wq hw; clear hw; go_simp; try (with_reducible rfl))
                refine wpHeldIn_take (i := 7) (v := ?_) (plain_of (by kernel_rfl)) rfl (by kernel_rfl) (fun _ _ _ h => h) (yieldsSoIn_of (by kernel_rfl) ?_ (fun _ => rfl)) q0 ?_; rotate_left; focus (intro wq hw; clear hw; go_simp; try (with_reducible rfl))
                refine wpHeldIn_take (i := 8) (v := ?_) (plain_of (by kernel_rfl)) rfl (by kernel_rfl) (fun _ _ _ h => h) (yieldsSoIn_of (by kernel_rfl) ?_ (fun _ => rfl)) q0 ?_; rotate_left; focus (intro wq hw; clear hw; go_simp; try (with_reducible rfl))
                refine wpHeldIn_take (i := 9) (v := ?_) (plain_of (by kernel_rfl)) rfl (by kernel_rfl) (fun _ _ _ h => h) (yieldsSoIn_of (by kernel_rfl) ?_ (fun _ => rfl)) q0 ?_; rotate_left; focus (intro wq hw; clear hw; go_simp; try (with_reducible rfl))
                refine wpHeldIn_take (i := 10) (v := ?_) (plain_of (by kernel_rfl)) rfl (by kernel_rfl) (fun _ _ _ h => h) (yieldsSoIn_of (by kernel_rfl) ?_ (fun _ => rfl)) q0 ?_; rotate_left; focus (intro wq hw; clear hw; go_simp; try (with_reducible rfl))
                refine wpHeldIn_take (i := 11) (v := ?_) (plain_of (by kernel_rfl)) rfl (by kernel_rfl) (fun _ _ _ h => h) (yieldsSoIn_of (by kernel_rfl) ?_ (fun _ => rfl)) q0 ?_; rotate_left; focus (intro wq hw; clear hw; go_simp; try (with_reducible rfl))
                refine wpHeldIn_take (i := 12) (v := ?_) (plain_of (by kernel_rfl)) rfl (by kernel_rfl) (fun _ _ _ h => h) (yieldsSoIn_of (by kernel_rfl) ?_ (fun _ => rfl)) q0 ?_; rotate_left; focus (intro wq hw; have kq := KC.out wq hw; clear hw; go_simp; try (with_reducible rfl))
                refine wpHeldIn_one (i := 13) (by kernel_rfl) (by kernel_rfl) rfl (by kernel_rfl) (fun K2 hK2 => ?_)
                go_simp
                refine ⟨trivial, (callsIn_wide.2 (HST.out _)).mono ?_⟩
                rintro e w5 ⟨s5, rfl, hb5⟩
                have q1 := q0.trans (hb5.mono q0.size)
                refine hK2 _ _ q1 ?_
                refine wpHeldIn_take (i := 14) (v := ?_) (plain_of (by kernel_rfl)) rfl (by kernel_rfl) (fun _ _ _ h => h) (yieldsSoIn_of (by kernel_rfl) ?_ (fun _ => rfl)) q1 ?_; rotate_left; focus (intro wq hw; clear hw; go_simp; try (with_reducible rfl))
                refine wpHeldIn_take (i := 15) (v := ?_) (plain_of (by kernel_rfl)) rfl (by kernel_rfl) (fun _ _ _ h => h) (yieldsSoIn_of (by kernel_rfl) ?_ (fun _ => rfl)) q1 ?_; rotate_left; focus (intro wq hw; clear hw; go_simp; try (with_reducible rfl))
                refine wpHeldIn_take (i := 16) (v := ?_) (plain_of (by kernel_rfl)) rfl (by kernel_rfl) (fun _ _ _ h => h) (yieldsSoIn_of (by kernel_rfl) ?_ (fun _ => rfl)) q1 ?_; rotate_left; focus (intro wq hw; clear hw; go_simp; try (with_reducible rfl))
                refine wpHeldIn_take (i := 17) (v := ?_) (plain_of (by kernel_rfl)) rfl (by kernel_rfl) (fun _ _ _ h => h) (yieldsSoIn_of (by kernel_rfl) ?_ (fun _ => rfl)) q1 ?_; rotate_left; focus (intro wq hw; clear hw; go_simp; try (with_reducible rfl))
                refine wpHeldIn_take (i := 18) (v := ?_) (plain_of (by kernel_rfl)) rfl (by kernel_rfl) (fun _ _ _ h => h) (yieldsSoIn_of (by kernel_rfl) ?_ (fun _ => rfl)) q1 ?_; rotate_left; focus (intro wq hw; clear hw; go_simp; try (with_reducible rfl))
                refine wpHeldIn_done (by kernel_rfl) ?_ _
                go_simp
                have bS5 := bS.below q1
                have hB5 := hB.trans (q1.mono hB.size)
                clear KC
                go_wp2_with fail
                obtain ⟨g', hg'⟩ : ∃ g', gk = g' + 1 := ⟨gk - 1, by have := hk.out; omega⟩
                go_roundg g'
                case measure => omega
                case rel => exact ⟨k + 1, by have := hk.out; simp only [Hid]; omega, by omega, by go_num, HT2, hB5, bS5⟩
          · have ek : k = es.length := by omega
            have HR : Hid (R = true) := by unfold Hid; rw [HR2.out, ← ek]; exact hall.out
            clear ek
            go_wp2_with fail
            go_returns
            exact ⟨by rw [HR.out]; rfl, hB⟩
  · have hli : ¬ (es.length : Int) = (ws.length : Int) := by omega
    have hlb : ((es.length : Int) == (ws.length : Int)) = false := by simpa using hli
    have hld : decide (es.length = ws.length) = false := decide_eq_false hlen
    have HR : Hid (R = false) := by unfold Hid; rw [HR0.out, hld, Bool.false_and]
    clear HR0
    go_enter Tryz.func11, Tryz.ntmps11
    go_wp2_with fail
    have bS1 := BoxS.new w 26 #[.slice A ps.length c, .int .i64 cl, .int .i64 lo, .int .i64 hi]
    have hB1 : Below w.heap.size w (w.alloc (.cells #[.slice A ps.length c, .int .i64 cl, .int .i64 lo, .int .i64 hi] 26)) := by (repeat' (first | (with_reducible exact Below.refl _ _) | (with_reducible assumption) | (with_reducible refine Below.alloc ?_ ?_ _) | (with_reducible refine Below.drew ?_) | (with_reducible refine Below.setCell ?_ ?_ _) | go_size | (exact (by simp)) | omega))
    generalize World.alloc w _ = w1 at *
    try go_wp2_with fail
    go_returns
    exact ⟨by rw [HR.out]; rfl, hB1⟩
end Go.Proofs.YtmjcdggmofohcaaGreat
namespace Go.Proofs.YtmjcdggmofohcaaGreat
namespace Wl
/-- All places from which the arm reaches a point. -/
def reachL (t : Trk) (a : Pt) : List Int := ((List.range t.ps.length).filter (fun p : Nat => reachB t (p : Int) a)).map (fun p : Nat => (p : Int))
def lastV (pl : List Int) : Int := esAt pl (pl.length - 1)
/-- All elbows that begin with some places, of which some are missing. -/
def goL (t : Trk) (ws : List Pt) : Nat → List Int → List (List Int)
  | 0, pl => if nearB t (lastV pl) (esAt pl 0) then [pl] else []
  | k + 1, pl => (reachL t (ptAt ws pl.length)).flatMap fun p => if 0 < pl.length ∧ nearB t (lastV pl) p = false then [] else goL t ws k (pl ++ [p])
def elbsL (t : Trk) (ws : List Pt) : List (List Int) := goL t ws ws.length []
theorem mem_reachL {t : Trk} {a : Pt} {p : Int} : p ∈ reachL t a ↔ (0 ≤ p ∧ p < t.ps.length) ∧ reachB t p a = true := by
  unfold reachL
  rw [List.mem_map]
  constructor
  · rintro ⟨k, hk, rfl⟩
    rw [List.mem_filter, List.mem_range] at hk
    exact ⟨⟨by omega, by omega⟩, hk.2⟩
  · rintro ⟨⟨h1, h2⟩, h3⟩
    refine ⟨p.toNat, ?_, by omega⟩
    rw [List.mem_filter, List.mem_range]
    refine ⟨by omega, ?_⟩
    rw [show ((p.toNat : Nat) : Int) = p by omega]
    exact h3
theorem reachL_nodup (t : Trk) (a : Pt) : (reachL t a).Nodup := by
  unfold reachL
  unfold List.Nodup
  rw [List.pairwise_map]
  refine List.Pairwise.imp ?_ ((List.nodup_range (n := t.ps.length)).filter _)
  intro x y h e
  exact h (by omega)
theorem esAt_app (pl ex : List Int) (k : Nat) (h : k < pl.length) : esAt (pl ++ ex) k = esAt pl k := by
  unfold esAt
  rw [List.getElem?_append_left h]
theorem esAt_new (pl ex : List Int) (p : Int) : esAt (pl ++ [p] ++ ex) pl.length = p := by
  unfold esAt
  rw [List.append_assoc, List.getElem?_append_right (Nat.le_refl _), Nat.sub_self]
  rfl
/-- A place fits: it is one of the track, and the arm reaches from it. -/
def fitB (t : Trk) (ws : List Pt) (es : List Int) (k : Nat) : Bool := inB (esAt es k) 0 ((t.ps.length : Int) - 1) && reachB t (esAt es k) (ptAt ws k)
theorem fitB_mem {t : Trk} {ws : List Pt} {es : List Int} {k : Nat} : fitB t ws es k = true ↔ esAt es k ∈ reachL t (ptAt ws k) := by
  rw [mem_reachL]
  unfold fitB inB
  simp only [Bool.and_eq_true, decide_eq_true_eq]
  constructor
  · rintro ⟨⟨h1, h2⟩, h3⟩
    exact ⟨⟨h1, by omega⟩, h3⟩
  · rintro ⟨⟨h1, h2⟩, h3⟩
    exact ⟨⟨h1, by omega⟩, h3⟩
theorem mem_goL {t : Trk} {ws : List Pt} {es : List Int} : ∀ (k : Nat) (pl : List Int), es ∈ goL t ws k pl ↔
    (∃ ex, es = pl ++ ex ∧ ex.length = k) ∧ (∀ i, pl.length ≤ i → i < es.length → fitB t ws es i = true) ∧ (∀ i, pl.length ≤ i → i < es.length → 0 < i → nearB t (esAt es (i - 1)) (esAt es i) = true) ∧ nearB t (esAt es (es.length - 1)) (esAt es 0) = true
  | 0, pl => by
    show es ∈ (if nearB t (lastV pl) (esAt pl 0) = true then [pl] else []) ↔ _
    unfold lastV
    constructor
    · intro h
      split at h
      · rename_i hn
        rw [List.mem_singleton] at h
        subst h
        exact ⟨⟨[], by simp, rfl⟩, fun i h1 h2 => by omega, fun i h1 h2 => by omega, hn⟩
      · cases h
    · rintro ⟨⟨ex, e, h0⟩, _, _, hn⟩
      have hx : ex = [] := List.length_eq_zero_iff.1 h0
      subst hx
      rw [List.append_nil] at e
      subst e
      rw [if_pos hn]
      exact List.mem_singleton.2 rfl
  | k + 1, pl => by
    show es ∈ (reachL t (ptAt ws pl.length)).flatMap (fun p => if 0 < pl.length ∧ nearB t (lastV pl) p = false then [] else goL t ws k (pl ++ [p])) ↔ _
    rw [List.mem_flatMap]
    constructor
    · rintro ⟨p, hp, h⟩
      split at h
      · cases h
      · rename_i hc
        obtain ⟨⟨ex, e, hx⟩, hf, hn, hz⟩ := (mem_goL k (pl ++ [p])).1 h
        rw [List.length_append, List.length_singleton] at hf hn
        have hat : esAt es pl.length = p := by rw [e]; exact esAt_new pl ex p
        refine ⟨⟨[p] ++ ex, by rw [e, List.append_assoc], by rw [List.length_append, hx, List.length_singleton]; omega⟩, ?_, ?_, hz⟩
        · intro i h1 h2
          by_cases hi : i = pl.length
          · subst hi
            rw [fitB_mem, hat]
            exact hp
          · exact hf i (by omega) h2
        · intro i h1 h2 h3
          by_cases hi : i = pl.length
          · subst hi
            rw [hat]
            have hl : esAt es (pl.length - 1) = lastV pl := by
              unfold lastV
              rw [e, List.append_assoc]
              exact esAt_app _ _ _ (by omega)
            rw [hl]
            cases hb : nearB t (lastV pl) p with
            | true => rfl
            | false => exact absurd ⟨h3, hb⟩ hc
          · exact hn i (by omega) h2 h3
    · rintro ⟨⟨ex, e, hx⟩, hf, hn, hz⟩
      match ex, hx with
      | p :: ex, hx =>
        have hx' : ex.length = k := by simpa using hx
        have e' : es = pl ++ [p] ++ ex := by rw [e, List.append_assoc]; rfl
        have hat : esAt es pl.length = p := by rw [e']; exact esAt_new pl ex p
        have hl : pl.length < es.length := by rw [e, List.length_append, List.length_cons]; omega
        refine ⟨p, ?_, ?_⟩
        · have := hf pl.length (Nat.le_refl _) hl
          rw [fitB_mem, hat] at this
          exact this
        · rw [if_neg]
          · refine (mem_goL k (pl ++ [p])).2 ⟨⟨ex, e', hx'⟩, ?_, ?_, hz⟩
            · intro i h1 h2
              rw [List.length_append, List.length_singleton] at h1
              exact hf i (by omega) h2
            · intro i h1 h2 h3
              rw [List.length_append, List.length_singleton] at h1
              exact hn i (by omega) h2 h3
          · rintro ⟨h3, hb⟩
            have := hn pl.length (Nat.le_refl _) hl h3
            rw [hat] at this
            have hl : esAt es (pl.length - 1) = lastV pl := by
              unfold lastV
              rw [e]
              exact esAt_app _ _ _ (by omega)
            rw [hl, hb] at this
            cases this
theorem goL_nodup (t : Trk) (ws : List Pt) : ∀ (k : Nat) (pl : List Int), (goL t ws k pl).Nodup
  | 0, pl => by
    show (if nearB t (lastV pl) (esAt pl 0) = true then [pl] else []).Nodup
    split
    · exact List.pairwise_singleton _ _
    · exact List.Pairwise.nil
  | k + 1, pl => by
    show ((reachL t (ptAt ws pl.length)).flatMap (fun p => if 0 < pl.length ∧ nearB t (lastV pl) p = false then [] else goL t ws k (pl ++ [p]))).Nodup
    unfold List.Nodup
    rw [List.pairwise_flatMap]
    refine ⟨fun p hp => ?_, ?_⟩
    · split
      · exact List.Pairwise.nil
      · exact goL_nodup t ws k (pl ++ [p])
    · refine List.Pairwise.imp ?_ (reachL_nodup t (ptAt ws pl.length))
      intro p q hpq x hx y hy e
      subst e
      split at hx
      · cases hx
      · split at hy
        · cases hy
        · obtain ⟨⟨e1, h1, _⟩, _⟩ := (mem_goL k (pl ++ [p])).1 hx
          obtain ⟨⟨e2, h2, _⟩, _⟩ := (mem_goL k (pl ++ [q])).1 hy
          have a1 : esAt x pl.length = p := by rw [h1]; exact esAt_new pl e1 p
          have a2 : esAt x pl.length = q := by rw [h2]; exact esAt_new pl e2 q
          exact hpq (a1.symm.trans a2)
theorem elbsL_nodup (t : Trk) (ws : List Pt) : (elbsL t ws).Nodup := goL_nodup t ws _ _
theorem fitTo_iff {t : Trk} {ws : List Pt} {es : List Int} : ∀ n, fitTo t ws es n = true ↔ ∀ k, k < n → fitB t ws es k = true
  | 0 => ⟨fun _ k h => by omega, fun _ => rfl⟩
  | n + 1 => by
    show (fitTo t ws es n && fitB t ws es n) = true ↔ _
    rw [Bool.and_eq_true, fitTo_iff n]
    constructor
    · rintro ⟨h1, h2⟩ k hk
      by_cases e : k = n
      · subst e; exact h2
      · exact h1 k (by omega)
    · intro h
      exact ⟨fun k hk => h k (by omega), h n (by omega)⟩
theorem tieTo_iff {t : Trk} {es : List Int} : ∀ n, tieTo t es n = true ↔ ∀ k, k < n → nearB t (esAt es k) (esAt es ((k + 1) % es.length)) = true
  | 0 => ⟨fun _ k h => by omega, fun _ => rfl⟩
  | n + 1 => by
    show (tieTo t es n && _) = true ↔ _
    rw [Bool.and_eq_true, tieTo_iff n]
    constructor
    · rintro ⟨h1, h2⟩ k hk
      by_cases e : k = n
      · subst e; exact h2
      · exact h1 k (by omega)
    · intro h
      exact ⟨fun k hk => h k (by omega), h n (by omega)⟩
theorem elbV_iff {t : Trk} {ws : List Pt} {es : List Int} : elbV t ws es = true ↔ es.length = ws.length ∧ (∀ k, k < es.length → fitB t ws es k = true) ∧ ∀ k, k < es.length → nearB t (esAt es k) (esAt es ((k + 1) % es.length)) = true := by
  unfold elbV
  rw [Bool.and_eq_true, Bool.and_eq_true, decide_eq_true_iff, fitTo_iff, tieTo_iff]
theorem mem_elbsL {t : Trk} {ws : List Pt} (h0 : 0 < ws.length) {es : List Int} : es ∈ elbsL t ws ↔ elbV t ws es = true := by
  unfold elbsL
  rw [mem_goL, elbV_iff]
  constructor
  · rintro ⟨⟨ex, e, hx⟩, hf, hn, hz⟩
    have hl : es.length = ws.length := by rw [e]; simpa using hx
    refine ⟨hl, fun k hk => hf k (by simp) hk, fun k hk => ?_⟩
    by_cases hk1 : k + 1 = es.length
    · rw [hk1, Nat.mod_self]
      have : k = es.length - 1 := by omega
      rw [this]
      exact hz
    · rw [Nat.mod_eq_of_lt (show k + 1 < es.length by omega)]
      exact hn (k + 1) (by simp) (by omega) (by omega)
  · rintro ⟨hl, hf, hn⟩
    refine ⟨⟨es, by simp, hl⟩, fun i _ hi => hf i hi, fun i _ hi h => ?_, ?_⟩
    · have := hn (i - 1) (by omega)
      rw [show i - 1 + 1 = i by omega, Nat.mod_eq_of_lt hi] at this
      exact this
    · have := hn (es.length - 1) (by omega)
      rw [show es.length - 1 + 1 = es.length by omega, Nat.mod_self] at this
      exact this
/-- How often the place changes. -/
def mvTo (es : List Int) : Nat → Int
  | 0 => 0
  | k + 1 => mvTo es k + (if esAt es k = esAt es ((k + 1) % es.length) then 0 else 1)
def movesV (es : List Int) : Int := mvTo es es.length
/-- The best of some elbows, beginning with one that was found before. -/
def calmB : List Int → List (List Int) → List Int
  | b, [] => b
  | b, es :: l => calmB (if movesV es < movesV b then es else b) l
def calmV : List (List Int) → List Int
  | [] => []
  | es :: l => calmB es l
theorem calmB_le : ∀ (l : List (List Int)) (b : List Int), (calmB b l = b ∨ calmB b l ∈ l) ∧ movesV (calmB b l) ≤ movesV b ∧ ∀ es ∈ l, movesV (calmB b l) ≤ movesV es
  | [], b => ⟨.inl rfl, Int.le_refl _, fun es h => by cases h⟩
  | es :: l, b => by
    obtain ⟨h1, h2, h3⟩ := calmB_le l (if movesV es < movesV b then es else b)
    show (calmB (if movesV es < movesV b then es else b) l = b ∨ calmB (if movesV es < movesV b then es else b) l ∈ es :: l) ∧ movesV (calmB (if movesV es < movesV b then es else b) l) ≤ movesV b ∧ ∀ e' ∈ es :: l, movesV (calmB (if movesV es < movesV b then es else b) l) ≤ movesV e'
    by_cases h : movesV es < movesV b
    · rw [if_pos h] at h1 h2 h3 ⊢
      refine ⟨.inr (h1.elim (fun e => by rw [e]; exact List.mem_cons_self) (fun e => List.mem_cons_of_mem _ e)), by omega, fun e' he => ?_⟩
      rcases List.mem_cons.1 he with rfl | he
      · exact h2
      · exact h3 e' he
    · rw [if_neg h] at h1 h2 h3 ⊢
      refine ⟨h1.elim .inl (fun e => .inr (List.mem_cons_of_mem _ e)), h2, fun e' he => ?_⟩
      rcases List.mem_cons.1 he with rfl | he
      · omega
      · exact h3 e' he
theorem calmV_spec {l : List (List Int)} (h : l ≠ []) : calmV l ∈ l ∧ ∀ es ∈ l, movesV (calmV l) ≤ movesV es := by
  match l, h with
  | es :: l, _ =>
    obtain ⟨h1, h2, h3⟩ := calmB_le l es
    refine ⟨h1.elim (fun e => by show calmB es l ∈ _; rw [e]; exact List.mem_cons_self) (fun e => List.mem_cons_of_mem _ e), fun e' he => ?_⟩
    rcases List.mem_cons.1 he with rfl | he
    · exact h2
    · exact h3 e' he
end Wl
end Go.Proofs.YtmjcdggmofohcaaGreat
