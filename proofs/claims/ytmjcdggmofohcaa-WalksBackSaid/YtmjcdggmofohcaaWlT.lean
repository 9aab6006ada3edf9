/- Walks: whether the machine carries elbows, by the program: where it does not. -/
import Derived.Test.YtmjcdggmofohcaaWlS
import Derived.Test.YtmjcdggmofohcaaWlG
namespace Go.Proofs.Ytmjcdggmofohcaa
open Go.RowKit
set_option maxRecDepth 100000 in
set_option maxHeartbeats 8000000 in
theorem carryW_no (t : Wl.Trk) (ws : List Wl.Pt) (es : List Int) (A Aw Ae : Option Addr) (c cw ce : Nat) (ht : Wl.trkB t = true) (hw : Wl.ptsB ws = true) (hle : es.length ≤ 1000000000) (hlw : ws.length ≤ 1000000000) (w : World) (hP : Prs w w.heap.size A t.ps) (hQ : Prs w w.heap.size Aw ws) (hE : Ints w w.heap.size (.slice Ae es.length ce) es) (hno : es.length ≠ ws.length ∨ Wl.fitTo t ws es es.length = false) :
    Calls Try.prog 84 #[.agg (mcV t A c Aw ws.length cw), .slice Ae es.length ce] w fun e w' => e = .returned (.bool false) ∧ Below w.heap.size w w' := by
  obtain ⟨hp8, hc3, hn8⟩ := Wl.trk_parts ht
  have HREA : Hid (∀ (p : Nat) (a : Wl.Pt), p < t.ps.length → Geo.sm a → ∀ W, Below w.heap.size w W → Calls Try.prog 83 #[.agg (mcV t A c Aw ws.length cw), .int .i64 (p : Nat), .agg #[.int .i64 a.1, .int .i64 a.2]] W fun e w' => e = .returned (.bool (Wl.reachB t p a)) ∧ Below W.heap.size W w') := fun p a hpl hs W hW => reachesW_any t A c Aw ws.length cw p a hpl (Wl.trk_sm ht p hpl) hs W (prs_keep hP hW) (by omega)
  have HWA : Hid (∀ (x : Int) W, Calls Try.prog 80 #[.int .i64 x, .int .i64 0, .int .i64 ((t.ps.length : Int) - 1)] W fun e w' => e = .returned (.bool (inB x 0 ((t.ps.length : Int) - 1))) ∧ w' = W) := fun x W => withinW_any _ _ _ W
  have HSW : Hid (∀ k, k < ws.length → Geo.sm (Wl.ptAt ws k)) := fun k hk => Wl.pts_sm hw hk
  have HFS0 : Hid (∀ k, Wl.fitTo t ws es (k + 1) = (Wl.fitTo t ws es k && (inB (Wl.esAt es k) 0 ((t.ps.length : Int) - 1) && Wl.reachB t (Wl.esAt es k) (Wl.ptAt ws k)))) := fun _ => rfl
  have HF0 : Hid (Wl.fitTo t ws es 0 = true) := rfl
  have HFN : Hid (∀ k, k < es.length → (inB (Wl.esAt es k) 0 ((t.ps.length : Int) - 1) && Wl.reachB t (Wl.esAt es k) (Wl.ptAt ws k)) = false → Wl.fitTo t ws es es.length = false) := fun k hk h => Wl.fitTo_no h _ hk
  have HP := Lib.hid hP
  have HQ := Lib.hid hQ
  have HE := Lib.hid hE
  have hmo : Try.prog.follows .mixedOrders = true := by kernel_rfl
  clear hP hQ hE ht hw hc3 hp8
  obtain ⟨ps, cl, lo, hi⟩ := t
  unfold mcV at *
  dsimp only at *
  by_cases hlen : es.length = ws.length
  · have hfn : Hid (Wl.fitTo ⟨ps, cl, lo, hi⟩ ws es es.length = false) := hno.elim (fun h => absurd hlen h) id
    clear hno
    generalize Wl.fitTo ⟨ps, cl, lo, hi⟩ ws es = FT at *
    have hli : (es.length : Int) = (ws.length : Int) := by omega
    have hnb : ((es.length : Int) != (ws.length : Int)) = false := by simpa using hli
    have HL := Lib.hid hlen
    clear hlen hli
    go_enter Try.func84, Try.ntmps84
    go_wp2_with fail
    have bS0 := (BoxS.new w 70 #[.slice A ps.length c, .int .i64 cl, .int .i64 lo, .int .i64 hi, .slice Aw ws.length cw]).alloc (.cells #[.bool false] 4)
    have bR0 := BoxS.new (w.alloc (.cells #[.slice A ps.length c, .int .i64 cl, .int .i64 lo, .int .i64 hi, .slice Aw ws.length cw] 70)) 4 #[.bool false]
    rw [World.size_alloc] at bR0
    have hB0 : Below w.heap.size w ((w.alloc (.cells #[.slice A ps.length c, .int .i64 cl, .int .i64 lo, .int .i64 hi, .slice Aw ws.length cw] 70)).alloc (.cells #[.bool false] 4)) := by (repeat' (first | (with_reducible exact Below.refl _ _) | (with_reducible assumption) | (with_reducible refine Below.alloc ?_ ?_ _) | (with_reducible refine Below.drew ?_) | (with_reducible refine Below.setCell ?_ ?_ _) | go_size | (exact (by simp)) | omega))
    generalize World.alloc (World.alloc w _) _ = w0 at *
    have c4 := bS0.cell 4 rfl
    have l0 := bS0.lt
    try go_wp2_with fail
    clear c4 l0 hnb
    go_loopg [17] es.length (fun g x17 wx => ∃ k : Nat, Hid (k + g = es.length) ∧ (k : Int) ≤ es.length ∧ x17 = .int .i64 (k : Int) ∧ Hid (FT k = true) ∧ Below w.heap.size w wx ∧ BoxS wx w.heap.size 70 #[.slice A ps.length c, .int .i64 cl, .int .i64 lo, .int .i64 hi, .slice Aw ws.length cw] ∧ BoxS wx (w.heap.size + 1) 4 #[.bool false])
    case atStart => exact ⟨0, by simp [Hid], by omega, rfl, HF0, hB0, bS0, bR0⟩
    case round =>
      clear hB0 bS0 bR0
      obtain ⟨k, hk, hk1, rfl, hall, hB, bS, bR⟩ := hrel
      have hk0 := Int.natCast_nonneg k
      by_cases hlt : (k : Int) < es.length
      · skip
        have hkn : k < es.length := by omega
        have hkw : k < ws.length := by have := HL.out; omega
        have HFS := Lib.hid (HFS0.out k)
        have HN1 := Lib.hid (HFN.out k hkn)
        have HW1 := Lib.hid (HWA.out (Wl.esAt es k))
        have hsa := HSW.out k hkw
        have hek : es[k]? = some (Wl.esAt es k) := by unfold Wl.esAt; rw [List.getElem?_eq_getElem hkn]; rfl
        have hwk : ws[k]? = some (Wl.ptAt ws k) := by unfold Wl.ptAt; rw [List.getElem?_eq_getElem hkw]; rfl
        obtain ⟨bw, ow, rfl, hbw, hcw⟩ := HQ.out (by omega)
        obtain ⟨y0, y1⟩ := hcw k _ hwk
        rcases HE.out with ⟨_, e⟩ | ⟨be, oe, cape, e, hbe, hce⟩
        · subst e; simp at hkn
        injection e with eA _ ec
        subst eA ec
        have z0 := (hB.cell (p := ⟨be, _, none⟩) hbe).trans (hce k _ hek)
        have hw1 : IntKind.i64.wrap ((k : Int) + 1) = (k : Int) + 1 := IntWalk.i64_in _ (by omega)
        have hw2 : IntKind.i64.wrap ((ps.length : Int) - 1) = (ps.length : Int) - 1 := IntWalk.i64_in _ (by omega)
        have d1 : decide ((k : Int) < 0) = false := decide_eq_false (by omega)
        have d3 : decide ((ws.length : Int) ≤ (k : Int)) = false := decide_eq_false (by omega)
        have d5 : decide (ws.length ≤ k) = false := decide_eq_false (by omega)
        have hbr : be < wr.heap.size := by have := hB.size; omega
        have q0 : Below wr.heap.size wr wr.drew := (Below.refl _ _).drew
        have KC : Hid (∀ W', Below wr.heap.size wr W' → (W'.cell? ⟨w.heap.size, 0, none⟩ = some (.slice A ps.length c) ∧ W'.cell? ⟨w.heap.size, 1, none⟩ = some (.int .i64 cl) ∧ W'.cell? ⟨w.heap.size, 2, none⟩ = some (.int .i64 lo) ∧ W'.cell? ⟨w.heap.size, 3, none⟩ = some (.int .i64 hi) ∧ W'.cell? ⟨w.heap.size, 4, none⟩ = some (.slice (some ⟨bw, ow, none⟩) ws.length cw)) ∧ W'.cell? ⟨bw, ow + k * 2, none⟩ = some (.int .i64 (Wl.ptAt ws k).1) ∧ W'.cell? ⟨bw, ow + k * 2 + 1, none⟩ = some (.int .i64 (Wl.ptAt ws k).2)) := fun W' h => by
          have h2 := hB.trans (h.mono hB.size)
          have b := bS.below h
          exact ⟨⟨b.cell 0 rfl, b.cell 1 rfl, b.cell 2 rfl, b.cell 3 rfl, b.cell 4 rfl⟩, (h2.cell (p := ⟨bw, _, none⟩) hbw).trans y0, (h2.cell (p := ⟨bw, _, none⟩) hbw).trans y1⟩
        clear hce hcw hek hwk y0 y1 HFN HFS0
        generalize Wl.esAt es k = ex at *
        generalize Wl.ptAt ws k = a at *
        obtain ⟨a1, a2⟩ := a
        dsimp only at KC
        cases hin : inB ex 0 ((ps.length : Int) - 1)
        · rw [hin] at HW1
          clear hin
          go_wp2_with fail
          clear z0
          refine (wpIn_wide (n := 4)).1 ?_
          refine wpIn_region_held (fun W' => Below wr.heap.size wr W') 30 hmo ?_
          refine wpHeldIn_take (i := 0) (v := ?_) (plain_of (by kernel_rfl)) rfl (by kernel_rfl) (fun _ _ _ h => h) (yieldsSoIn_of (by kernel_rfl) ?_ (fun _ => rfl)) q0 ?_; rotate_left; focus (intro wq hw; clear hw; go_simp; try (with_reducible rfl))
          refine wpHeldIn_take (i := 1) (v := ?_) (plain_of (by kernel_rfl)) rfl (by kernel_rfl) (fun _ _ _ h => h) (yieldsSoIn_of (by kernel_rfl) ?_ (fun _ => rfl)) q0 ?_; rotate_left; focus (intro wq hw; clear hw; go_simp; try (with_reducible rfl))
          refine wpHeldIn_take (i := 2) (v := ?_) (plain_of (by kernel_rfl)) rfl (by kernel_rfl) (fun _ _ _ h => h) (yieldsSoIn_of (by kernel_rfl) ?_ (fun _ => rfl)) q0 ?_; rotate_left; focus (intro wq hw; clear hw; go_simp; try (with_reducible rfl))
          refine wpHeldIn_take (i := 3) (v := ?_) (plain_of (by kernel_rfl)) rfl (by kernel_rfl) (fun _ _ _ h => h) (yieldsSoIn_of (by kernel_rfl) ?_ (fun _ => rfl)) q0 ?_; rotate_left; focus (intro wq hw; have kq := KC.out wq hw; clear hw; go_simp; try (with_reducible rfl))
          refine wpHeldIn_take (i := 4) (v := ?_) (plain_of (by kernel_rfl)) rfl (by kernel_rfl) (fun _ _ _ h => h) (yieldsSoIn_of (by kernel_rfl) ?_ (fun _ => rfl)) q0 ?_; rotate_left; focus (intro wq hw; clear hw; go_simp; try (with_reducible rfl))
          refine wpHeldIn_take (i := 5) (v := ?_) (plain_of (by kernel_rfl)) rfl (by kernel_rfl) (fun _ _ _ h => h) (yieldsSoIn_of (by kernel_rfl) ?_ (fun _ => rfl)) q0 ?_; rotate_left; focus (intro wq hw; clear hw; go_simp; try (with_reducible rfl))
          refine wpHeldIn_one (i := 6) (by kernel_rfl) (by kernel_rfl) rfl (by kernel_rfl) (fun K1 hK1 => ?_)
          go_simp
          refine ⟨trivial, (callsIn_wide.2 (HW1.out _)).mono ?_⟩
          rintro e w2 ⟨rfl, hw2⟩
          have hw2 := hw2.symm
          subst hw2
          refine hK1 _ _ q0 ?_
          refine wpHeldIn_take (i := 7) (v := ?_) (plain_of (by kernel_rfl)) rfl (by kernel_rfl) (fun _ _ _ h => h) (yieldsSoIn_of (by kernel_rfl) ?_ (fun _ => rfl)) q0 ?_; rotate_left; focus (intro wq hw; clear hw; go_simp; try (with_reducible rfl))
          refine wpHeldIn_take (i := 8) (v := ?_) (plain_of (by kernel_rfl)) rfl (by kernel_rfl) (fun _ _ _ h => h) (yieldsSoIn_of (by kernel_rfl) ?_ (fun _ => rfl)) q0 ?_; rotate_left; focus (intro wq hw; clear hw; go_simp; try (with_reducible rfl))
          refine wpHeldIn_take (i := 9) (plain_of (by kernel_rfl)) rfl (by kernel_rfl) (fun _ _ _ h => h) (yieldsSoIn_skip (by kernel_rfl) (fun _ => trivial)) q0 ?_
          refine wpHeldIn_take (i := 10) (plain_of (by kernel_rfl)) rfl (by kernel_rfl) (fun _ _ _ h => h) (yieldsSoIn_skip (by kernel_rfl) (fun _ => trivial)) q0 ?_
          refine wpHeldIn_take (i := 11) (plain_of (by kernel_rfl)) rfl (by kernel_rfl) (fun _ _ _ h => h) (yieldsSoIn_skip (by kernel_rfl) (fun _ => trivial)) q0 ?_
          refine wpHeldIn_take (i := 12) (plain_of (by kernel_rfl)) rfl (by kernel_rfl) (fun _ _ _ h => h) (yieldsSoIn_skip (by kernel_rfl) (fun _ => trivial)) q0 ?_
          refine wpHeldIn_take (i := 13) (plain_of (by kernel_rfl)) rfl (by kernel_rfl) (fun _ _ _ h => h) (yieldsSoIn_skip (by kernel_rfl) (fun _ => trivial)) q0 ?_
          refine wpHeldIn_take (i := 14) (plain_of (by kernel_rfl)) rfl (by kernel_rfl) (fun _ _ _ h => h) (yieldsSoIn_skip (by kernel_rfl) (fun _ => trivial)) q0 ?_
          refine wpHeldIn_take (i := 15) (plain_of (by kernel_rfl)) rfl (by kernel_rfl) (fun _ _ _ h => h) (yieldsSoIn_skip (by kernel_rfl) (fun _ => trivial)) q0 ?_
          refine wpHeldIn_take (i := 16) (plain_of (by kernel_rfl)) rfl (by kernel_rfl) (fun _ _ _ h => h) (yieldsSoIn_skip (by kernel_rfl) (fun _ => trivial)) q0 ?_
          refine wpHeldIn_take (i := 17) (plain_of (by kernel_rfl)) rfl (by kernel_rfl) (fun _ _ _ h => h) (yieldsSoIn_skip (by kernel_rfl) (fun _ => trivial)) q0 ?_
          refine wpHeldIn_take (i := 18) (v := ?_) (plain_of (by kernel_rfl)) rfl (by kernel_rfl) (fun _ _ _ h => h) (yieldsSoIn_of (by kernel_rfl) ?_ (fun _ => rfl)) q0 ?_; rotate_left; focus (intro wq hw; clear hw; go_simp; try (with_reducible rfl))
          refine wpHeldIn_done (by kernel_rfl) ?_ _
          go_simp
          have bS5 := bS.below q0
          have bR5 := bR.below q0
          have hB5 := hB.trans (q0.mono hB.size)
          clear KC
          try generalize World.drew wr = wz at *
          have fR := bR5.frozen 0
          have xR := bR5.cell 0 rfl
          have lR := bR5.lt
          go_wp2_with fail
          have bR6 := bR5.put9 0 (.bool false)
          have hc6 := bR6.cell 0 rfl
          have hB6 : Below w.heap.size w _ := hB5.setCell (p := ⟨w.heap.size + 1, 0, none⟩) (by simp) (.bool false)
          refine bodyPost_ret (v := .bool false) (by simp [results, Try.f84, go_sem, hc6]) rfl ?_
          exact ⟨rfl, hB6⟩
        · rw [hin] at HW1
          have hie : 0 ≤ ex ∧ ex < ps.length := by
            unfold inB at hin
            simp only [Bool.and_eq_true, decide_eq_true_eq] at hin
            omega
          obtain ⟨p, hp⟩ : ∃ p : Nat, ex = p := ⟨ex.toNat, by omega⟩
          subst hp
          have HRE := Lib.hid (fun W (hW : Below wr.heap.size wr W) => HREA.out p (a1, a2) (by omega) hsa W (hB.trans (hW.mono hB.size)))
          cases hre : Wl.reachB ⟨ps, cl, lo, hi⟩ p (a1, a2)
          · rw [hre] at HRE
            clear hin hre
            go_wp2_with fail
            clear z0
            refine (wpIn_wide (n := 4)).1 ?_
            refine wpIn_region_held (fun W' => Below wr.heap.size wr W') 30 hmo ?_
            refine wpHeldIn_take (i := 0) (v := ?_) (plain_of (by kernel_rfl)) rfl (by kernel_rfl) (fun _ _ _ h => h) (yieldsSoIn_of (by kernel_rfl) ?_ (fun _ => rfl)) q0 ?_; rotate_left; focus (intro wq hw; clear hw; go_simp; try (with_reducible rfl))
            refine wpHeldIn_take (i := 1) (v := ?_) (plain_of (by kernel_rfl)) rfl (by kernel_rfl) (fun _ _ _ h => h) (yieldsSoIn_of (by kernel_rfl) ?_ (fun _ => rfl)) q0 ?_; rotate_left; focus (intro wq hw; clear hw; go_simp; try (with_reducible rfl))
            refine wpHeldIn_take (i := 2) (v := ?_) (plain_of (by kernel_rfl)) rfl (by kernel_rfl) (fun _ _ _ h => h) (yieldsSoIn_of (by kernel_rfl) ?_ (fun _ => rfl)) q0 ?_; rotate_left; focus (intro wq hw; clear hw; go_simp; try (with_reducible rfl))
            refine wpHeldIn_take (i := 3) (v := ?_) (plain_of (by kernel_rfl)) rfl (by kernel_rfl) (fun _ _ _ h => h) (yieldsSoIn_of (by kernel_rfl) ?_ (fun _ => rfl)) q0 ?_; rotate_left; focus (intro wq hw; have kq := KC.out wq hw; clear hw; go_simp; try (with_reducible rfl))
            refine wpHeldIn_take (i := 4) (v := ?_) (plain_of (by kernel_rfl)) rfl (by kernel_rfl) (fun _ _ _ h => h) (yieldsSoIn_of (by kernel_rfl) ?_ (fun _ => rfl)) q0 ?_; rotate_left; focus (intro wq hw; clear hw; go_simp; try (with_reducible rfl))
            refine wpHeldIn_take (i := 5) (v := ?_) (plain_of (by kernel_rfl)) rfl (by kernel_rfl) (fun _ _ _ h => h) (yieldsSoIn_of (by kernel_rfl) ?_ (fun _ => rfl)) q0 ?_; rotate_left; focus (intro wq hw; clear hw; go_simp; try (with_reducible rfl))
            refine wpHeldIn_one (i := 6) (by kernel_rfl) (by kernel_rfl) rfl (by kernel_rfl) (fun K1 hK1 => ?_)
            go_simp
            refine ⟨trivial, (callsIn_wide.2 (HW1.out _)).mono ?_⟩
            rintro e w2 ⟨rfl, hw2⟩
            have hw2 := hw2.symm
            subst hw2
            refine hK1 _ _ q0 ?_
            refine wpHeldIn_take (i := 7) (v := ?_) (plain_of (by kernel_rfl)) rfl (by kernel_rfl) (fun _ _ _ h => h) (yieldsSoIn_of (by kernel_rfl) ?_ (fun _ => rfl)) q0 ?_; rotate_left; focus (intro wq hw; clear hw; go_simp; try (with_reducible rfl))
            refine wpHeldIn_take (i := 8) (v := ?_) (plain_of (by kernel_rfl)) rfl (by kernel_rfl) (fun _ _ _ h => h) (yieldsSoIn_of (by kernel_rfl) ?_ (fun _ => rfl)) q0 ?_; rotate_left; focus (intro wq hw; clear hw; go_simp; try (with_reducible rfl))
            refine wpHeldIn_take (i := 9) (v := ?_) (plain_of (by kernel_rfl)) rfl (by kernel_rfl) (fun _ _ _ h => h) (yieldsSoIn_of (by kernel_rfl) ?_ (fun _ => rfl)) q0 ?_; rotate_left; focus (intro wq hw; have kq := KC.out wq hw; clear hw; go_simp; try (with_reducible rfl))
            refine wpHeldIn_take (i := 10) (v := ?_) (plain_of (by kernel_rfl)) rfl (by kernel_rfl) (fun _ _ _ h => h) (yieldsSoIn_of (by kernel_rfl) ?_ (fun _ => rfl)) q0 ?_; rotate_left; focus (intro wq hw; clear hw; go_simp; try (with_reducible rfl))
            refine wpHeldIn_take (i := 11) (v := ?_) (plain_of (by kernel_rfl)) rfl (by kernel_rfl) (fun _ _ _ h => h) (yieldsSoIn_of (by kernel_rfl) ?_ (fun _ => rfl)) q0 ?_; rotate_left; focus (intro wq hw; clear hw; go_simp; try (with_reducible rfl))
            refine wpHeldIn_take (i := 12) (v := ?_) (plain_of (by kernel_rfl)) rfl (by kernel_rfl) (fun _ _ _ h => h) (yieldsSoIn_of (by kernel_rfl) ?_ (fun _ => rfl)) q0 ?_; rotate_left; focus (intro wq hw; have kq := KC.out wq hw; clear hw; go_simp; try (with_reducible rfl))
            refine wpHeldIn_take (i := 13) (v := ?_) (plain_of (by kernel_rfl)) rfl (by kernel_rfl) (fun _ _ _ h => h) (yieldsSoIn_of (by kernel_rfl) ?_ (fun _ => rfl)) q0 ?_; rotate_left; focus (intro wq hw; clear hw; go_simp; try (with_reducible rfl))
            refine wpHeldIn_take (i := 14) (v := ?_) (plain_of (by kernel_rfl)) rfl (by kernel_rfl) (fun _ _ _ h => h) (yieldsSoIn_of (by kernel_rfl) ?_ (fun _ => rfl)) q0 ?_; rotate_left; focus (intro wq hw; clear hw; go_simp; try (with_reducible rfl))
            refine wpHeldIn_take (i := 15) (v := ?_) (plain_of (by kernel_rfl)) rfl (by kernel_rfl) (fun _ _ _ h => h) (yieldsSoIn_of (by kernel_rfl) ?_ (fun _ => rfl)) q0 ?_; rotate_left; focus (intro wq hw; have kq := KC.out wq hw; clear hw; go_simp; try (with_reducible rfl))
            refine wpHeldIn_one (i := 16) (by kernel_rfl) (by kernel_rfl) rfl (by kernel_rfl) (fun K2 hK2 => ?_)
            go_simp
            refine ⟨trivial, (callsIn_wide.2 (HRE.out _ q0)).mono ?_⟩
            rintro e w5 ⟨rfl, hb5⟩
            have q1 := q0.trans (hb5.mono q0.size)
            refine hK2 _ _ q1 ?_
            refine wpHeldIn_take (i := 17) (v := ?_) (plain_of (by kernel_rfl)) rfl (by kernel_rfl) (fun _ _ _ h => h) (yieldsSoIn_of (by kernel_rfl) ?_ (fun _ => rfl)) q1 ?_; rotate_left; focus (intro wq hw; clear hw; go_simp; try (with_reducible rfl))
            refine wpHeldIn_take (i := 18) (v := ?_) (plain_of (by kernel_rfl)) rfl (by kernel_rfl) (fun _ _ _ h => h) (yieldsSoIn_of (by kernel_rfl) ?_ (fun _ => rfl)) q1 ?_; rotate_left; focus (intro wq hw; clear hw; go_simp; try (with_reducible rfl))
            refine wpHeldIn_done (by kernel_rfl) ?_ _
            go_simp
            have bS5 := bS.below q1
            have bR5 := bR.below q1
            have hB5 := hB.trans (q1.mono hB.size)
            clear KC
            try generalize World.drew wr = wz at *
            have fR := bR5.frozen 0
            have xR := bR5.cell 0 rfl
            have lR := bR5.lt
            go_wp2_with fail
            have bR6 := bR5.put9 0 (.bool false)
            have hc6 := bR6.cell 0 rfl
            have hB6 : Below w.heap.size w _ := hB5.setCell (p := ⟨w.heap.size + 1, 0, none⟩) (by simp) (.bool false)
            refine bodyPost_ret (v := .bool false) (by simp [results, Try.f84, go_sem, hc6]) rfl ?_
            exact ⟨rfl, hB6⟩
          · rw [hre] at HRE
            have HF2 : Hid (FT (k + 1) = true) := by unfold Hid; rw [HFS.out, hall.out, hin, hre]; rfl
            clear hin hre
            go_wp2_with fail
            clear z0
            refine (wpIn_wide (n := 4)).1 ?_
            refine wpIn_region_held (fun W' => Below wr.heap.size wr W') 30 hmo ?_
            refine wpHeldIn_take (i := 0) (v := ?_) (plain_of (by kernel_rfl)) rfl (by kernel_rfl) (fun _ _ _ h => h) (yieldsSoIn_of (by kernel_rfl) ?_ (fun _ => rfl)) q0 ?_; rotate_left; focus (intro wq hw; clear hw; go_simp; try (with_reducible rfl))
            refine wpHeldIn_take (i := 1) (v := ?_) (plain_of (by kernel_rfl)) rfl (by kernel_rfl) (fun _ _ _ h => h) (yieldsSoIn_of (by kernel_rfl) ?_ (fun _ => rfl)) q0 ?_; rotate_left; focus (intro wq hw; clear hw; go_simp; try (with_reducible rfl))
            refine wpHeldIn_take (i := 2) (v := ?_) (plain_of (by kernel_rfl)) rfl (by kernel_rfl) (fun _ _ _ h => h) (yieldsSoIn_of (by kernel_rfl) ?_ (fun _ => rfl)) q0 ?_; rotate_left; focus (intro wq hw; clear hw; go_simp; try (with_reducible rfl))
            refine wpHeldIn_take (i := 3) (v := ?_) (plain_of (by kernel_rfl)) rfl (by kernel_rfl) (fun _ _ _ h => h) (yieldsSoIn_of (by kernel_rfl) ?_ (fun _ => rfl)) q0 ?_; rotate_left; focus (intro wq hw; have kq := KC.out wq hw; clear hw; go_simp; try (with_reducible rfl))
            refine wpHeldIn_take (i := 4) (v := ?_) (plain_of (by kernel_rfl)) rfl (by kernel_rfl) (fun _ _ _ h => h) (yieldsSoIn_of (by kernel_rfl) ?_ (fun _ => rfl)) q0 ?_; rotate_left; focus (intro wq hw; clear hw; go_simp; try (with_reducible rfl))
            refine wpHeldIn_take (i := 5) (v := ?_) (plain_of (by kernel_rfl)) rfl (by kernel_rfl) (fun _ _ _ h => h) (yieldsSoIn_of (by kernel_rfl) ?_ (fun _ => rfl)) q0 ?_; rotate_left; focus (intro wq hw; clear hw; go_simp; try (with_reducible rfl))
            refine wpHeldIn_one (i := 6) (by kernel_rfl) (by kernel_rfl) rfl (by kernel_rfl) (fun K1 hK1 => ?_)
            go_simp
            refine ⟨trivial, (callsIn_wide.2 (HW1.out _)).mono ?_⟩
            rintro e w2 ⟨rfl, hw2⟩
            have hw2 := hw2.symm
            subst hw2
            refine hK1 _ _ q0 ?_
            refine wpHeldIn_take (i := 7) (v := ?_) (plain_of (by kernel_rfl)) rfl (by kernel_rfl) (fun _ _ _ h => h) (yieldsSoIn_of (by kernel_rfl) ?_ (fun _ => rfl)) q0 ?_; rotate_left; focus (intro wq hw; clear hw; go_simp; try (with_reducible rfl))
            refine wpHeldIn_take (i := 8) (v := ?_) (plain_of (by kernel_rfl)) rfl (by kernel_rfl) (fun _ _ _ h => h) (yieldsSoIn_of (by kernel_rfl) ?_ (fun _ => rfl)) q0 ?_; rotate_left; focus (intro wq hw; clear hw; go_simp; try (with_reducible rfl))
            refine wpHeldIn_take (i := 9) (v := ?_) (plain_of (by kernel_rfl)) rfl (by kernel_rfl) (fun _ _ _ h => h) (yieldsSoIn_of (by kernel_rfl) ?_ (fun _ => rfl)) q0 ?_; rotate_left; focus (intro wq hw; have kq := KC.out wq hw; clear hw; go_simp; try (with_reducible rfl))
            refine wpHeldIn_take (i := 10) (v := ?_) (plain_of (by kernel_rfl)) rfl (by kernel_rfl) (fun _ _ _ h => h) (yieldsSoIn_of (by kernel_rfl) ?_ (fun _ => rfl)) q0 ?_; rotate_left; focus (intro wq hw; clear hw; go_simp; try (with_reducible rfl))
            refine wpHeldIn_take (i := 11) (v := ?_) (plain_of (by kernel_rfl)) rfl (by kernel_rfl) (fun _ _ _ h => h) (yieldsSoIn_of (by kernel_rfl) ?_ (fun _ => rfl)) q0 ?_; rotate_left; focus (intro wq hw; clear hw; go_simp; try (with_reducible rfl))
            refine wpHeldIn_take (i := 12) (v := ?_) (plain_of (by kernel_rfl)) rfl (by kernel_rfl) (fun _ _ _ h => h) (yieldsSoIn_of (by kernel_rfl) ?_ (fun _ => rfl)) q0 ?_; rotate_left; focus (intro wq hw; have kq := KC.out wq hw; clear hw; go_simp; try (with_reducible rfl))
            refine wpHeldIn_take (i := 13) (v := ?_) (plain_of (by kernel_rfl)) rfl (by kernel_rfl) (fun _ _ _ h => h) (yieldsSoIn_of (by kernel_rfl) ?_ (fun _ => rfl)) q0 ?_; rotate_left; focus (intro wq hw; clear hw; go_simp; try (with_reducible rfl))
            refine wpHeldIn_take (i := 14) (v := ?_) (plain_of (by kernel_rfl)) rfl (by kernel_rfl) (fun _ _ _ h => h) (yieldsSoIn_of (by kernel_rfl) ?_ (fun _ => rfl)) q0 ?_; rotate_left; focus (intro wq hw; clear hw; go_simp; try (with_reducible rfl))
            refine wpHeldIn_take (i := 15) (v := ?_) (plain_of (by kernel_rfl)) rfl (by kernel_rfl) (fun _ _ _ h => h) (yieldsSoIn_of (by kernel_rfl) ?_ (fun _ => rfl)) q0 ?_; rotate_left; focus (intro wq hw; have kq := KC.out wq hw; clear hw; go_simp; try (with_reducible rfl))
            refine wpHeldIn_one (i := 16) (by kernel_rfl) (by kernel_rfl) rfl (by kernel_rfl) (fun K2 hK2 => ?_)
            go_simp
            refine ⟨trivial, (callsIn_wide.2 (HRE.out _ q0)).mono ?_⟩
            rintro e w5 ⟨rfl, hb5⟩
            have q1 := q0.trans (hb5.mono q0.size)
            refine hK2 _ _ q1 ?_
            refine wpHeldIn_take (i := 17) (v := ?_) (plain_of (by kernel_rfl)) rfl (by kernel_rfl) (fun _ _ _ h => h) (yieldsSoIn_of (by kernel_rfl) ?_ (fun _ => rfl)) q1 ?_; rotate_left; focus (intro wq hw; clear hw; go_simp; try (with_reducible rfl))
            refine wpHeldIn_take (i := 18) (v := ?_) (plain_of (by kernel_rfl)) rfl (by kernel_rfl) (fun _ _ _ h => h) (yieldsSoIn_of (by kernel_rfl) ?_ (fun _ => rfl)) q1 ?_; rotate_left; focus (intro wq hw; clear hw; go_simp; try (with_reducible rfl))
            refine wpHeldIn_done (by kernel_rfl) ?_ _
            go_simp
            have bS5 := bS.below q1
            have bR5 := bR.below q1
            have hB5 := hB.trans (q1.mono hB.size)
            clear KC
            go_wp2_with fail
            obtain ⟨g', hg'⟩ : ∃ g', gk = g' + 1 := ⟨gk - 1, by have := hk.out; omega⟩
            go_roundg g'
            case measure => omega
            case rel => exact ⟨k + 1, by have := hk.out; simp only [Hid]; omega, by omega, by go_num, HF2, hB5, bS5, bR5⟩
      · have ek : k = es.length := by omega
        have := hall.out
        rw [ek, hfn.out] at this
        cases this
  · have hli : ¬ (es.length : Int) = (ws.length : Int) := by omega
    have hnb : ((es.length : Int) != (ws.length : Int)) = true := by simpa using hli
    clear hno hlen
    go_enter Try.func84, Try.ntmps84
    go_wp2_with fail
    have bS0 := (BoxS.new w 70 #[.slice A ps.length c, .int .i64 cl, .int .i64 lo, .int .i64 hi, .slice Aw ws.length cw]).alloc (.cells #[.bool false] 4)
    have bR5 := BoxS.new (w.alloc (.cells #[.slice A ps.length c, .int .i64 cl, .int .i64 lo, .int .i64 hi, .slice Aw ws.length cw] 70)) 4 #[.bool false]
    rw [World.size_alloc] at bR5
    have hB5 : Below w.heap.size w ((w.alloc (.cells #[.slice A ps.length c, .int .i64 cl, .int .i64 lo, .int .i64 hi, .slice Aw ws.length cw] 70)).alloc (.cells #[.bool false] 4)) := by (repeat' (first | (with_reducible exact Below.refl _ _) | (with_reducible assumption) | (with_reducible refine Below.alloc ?_ ?_ _) | (with_reducible refine Below.drew ?_) | (with_reducible refine Below.setCell ?_ ?_ _) | go_size | (exact (by simp)) | omega))
    generalize World.alloc (World.alloc w _) _ = w0 at *
    have c4 := bS0.cell 4 rfl
    have l0 := bS0.lt
    have fR := bR5.frozen 0
    have xR := bR5.cell 0 rfl
    have lR := bR5.lt
    go_wp2_with fail
    refine bodyPost_ret (v := .bool false) (by simp [results, Try.f84, go_sem, xR]) rfl ?_
    exact ⟨rfl, hB5⟩
end Go.Proofs.Ytmjcdggmofohcaa
