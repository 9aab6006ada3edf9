/- Sheets: the area of a polygon, where there is a truth. -/
import Derived.Test.YtgpmnkdagpcffaaShK
import Derived.Test.YtgpmnkdagpcffaaPts
namespace Go.Proofs.Ytgpmnkdagpcffaa
open Go.RowKit
set_option maxHeartbeats 1000000 in
theorem area1_any (f : Sh.FaS) (t : Int) (B : Nat) (w : World) (ht : -80000000 ≤ t ∧ t ≤ 80000000) (hB : BoxS w B 3 #[.int .i64 t]) :
    Calls Try.prog 68 #[.agg #[.int .i64 f.1.1, .int .i64 f.1.2], .pointer (some ⟨B, 0, none⟩)] w fun e w' => e = .returned (.tuple #[.int .i64 (Sh.areaN t), .int .i64 (Sh.areaD f)]) ∧ Below w.heap.size w w' := by
  have HA : Hid (∀ W, Calls Try.prog 69 #[.agg #[.int .i64 f.1.1, .int .i64 f.1.2], .int .i64 t] W fun e w' => e = .returned (.tuple #[.int .i64 (Sh.areaN t), .int .i64 (Sh.areaD f)]) ∧ Below W.heap.size W w') := fun W => area_any f t W ht
  have hlt := hB.lt
  have b0 := hB.cell 0 rfl
  generalize Sh.areaN t = N at *
  generalize Sh.areaD f = D at *
  obtain ⟨⟨f1, f2⟩, hf⟩ := f
  dsimp only at *
  clear ht hf hB
  go_enter Try.func68, Try.ntmps68
  go_wp2_with fail
  have hB0 : Below w.heap.size w (w.alloc (.cells #[.int .i64 f1, .int .i64 f2] 90)) := by (repeat' (first | (with_reducible exact Below.refl _ _) | (with_reducible assumption) | (with_reducible refine Below.alloc ?_ ?_ _) | (with_reducible refine Below.drew ?_) | (with_reducible refine Below.setCell ?_ ?_ _) | go_size | (exact (by simp)) | omega))
  refine (HA.out _).mono ?_
  rintro e w2 ⟨rfl, hb2⟩
  have hB2 := hB0.trans (hb2.mono hB0.size)
  go_wp2_with fail
  go_returns
  exact ⟨rfl, hB2⟩
namespace Sh
def areaLo (s : Sheet) (t : Int) : Int := lowF (fun _ => areaN t) areaD (truthsL s)
def areaHi (s : Sheet) (t : Int) : Int := highF (fun _ => areaN t) areaD (truthsL s)
end Sh
def SpanEPost (a b x : Int) (w : World) (e : Ending) (w' : World) : Prop := e = .returned (.tuple #[.agg #[.int .i64 a, .int .i64 b], .int .i64 x]) ∧ Below w.heap.size w w'

set_option maxRecDepth 100000 in
set_option maxHeartbeats 4000000 in
theorem Area_yes (s : Sheet) (h0 : Sh.spE s = 0) (A : Option Addr) (c : Nat) (A2 : Option Addr) (c2 : Nat) (ps : List Geo.Pt) (hv : Geo.validB ps = true) (w : World) (hg : Cts w w.heap.size A s.cs) (hP : Prs w w.heap.size A2 ps) :
    Calls Try.prog 23 #[.agg (shV s A c), .slice A2 ps.length c2] w (SpanEPost (Sh.areaLo s (Geo.tot Geo.fanV ps)) (Sh.areaHi s (Geo.tot Geo.fanV ps)) 0 w) := by
  obtain ⟨hok, hne⟩ := Sh.sp_ok h0
  have hs := Sh.ok_of hok
  have hl : s.cs.length ≤ 1000000000 := by have := hs.n; omega
  have hsm := Geo.valid_sm hv
  have hlen := Geo.valid_len hv
  have hT : -80000000 ≤ Geo.tot Geo.fanV ps ∧ Geo.tot Geo.fanV ps ≤ 80000000 := by
    have := tot_bd (f := Geo.fanV) (M := 8000000) hsm (fun s h1 h2 => by have := Geo.fan_bd h1 h2; omega)
    omega
  have HC : Hid (∀ W, Below w.heap.size w W → Calls Try.prog 41 #[.agg (shV s A c)] W (ErrPost 0 W)) := fun W hW => by
    have := shCheck_any s A c W hl ((hg.keep hW).wider hW.size)
    rw [Sh.chkE_yes hok] at this
    exact this
  have HT : Hid (∀ W, Below w.heap.size w W → Calls Try.prog 29 #[.slice A2 ps.length c2] W fun e w' => e = .returned (.tuple #[.int .i64 (Geo.tot Geo.fanV ps), .int .i64 0]) ∧ Below W.heap.size W w') := fun W hW => by
    have := Twice_any A2 c2 ps (by omega) W (prs_keep hP hW)
    rw [Geo.whenV_yes hv, Geo.errV_yes hv] at this
    exact this
  have HS : Hid (∀ W, Below w.heap.size w W → Calls Try.prog 60 #[.agg (shV s A c)] W (SpPost (shV s A c) 0 W)) := fun W hW => by
    have := spread_any s A c W hl ((hg.keep hW).wider hW.size)
    rw [Sh.spV_yes h0, h0] at this
    exact this
  have HBD : Hid (∀ B W, Below w.heap.size w W → BoxS W B 3 #[.int .i64 (Geo.tot Geo.fanV ps)] → Calls Try.prog 67 #[.agg (shV s A c), .func (.func 68) #[] #[.pointer (some ⟨B, 0, none⟩)]] W (SpanPost (Sh.areaLo s (Geo.tot Geo.fanV ps)) (Sh.areaHi s (Geo.tot Geo.fanV ps)) W)) := fun B W hW hBx =>
    bounds_any s hs A c 68 #[.pointer (some ⟨B, 0, none⟩)] (fun _ => Sh.areaN (Geo.tot Geo.fanV ps)) Sh.areaD (fun _ => by have := Sh.areaN_bd hT; omega) (fun x => by have := Sh.areaD_bd x; omega) W ((hg.keep hW).wider hW.size)
      (enters_of Try.func68 (by kernel_rfl) rfl) (fun x V hV => area1_any x (Geo.tot Geo.fanV ps) B V hT (hBx.below hV))
  generalize Sh.areaLo s (Geo.tot Geo.fanV ps) = lo at *
  generalize Sh.areaHi s (Geo.tot Geo.fanV ps) = hi at *
  generalize Geo.tot Geo.fanV ps = T at *
  clear hg hP hok hne hs hl hsm hlen hT hv h0
  obtain ⟨al, ah, bl, bh, cs, wrn⟩ := s
  unfold shV at HC HS HBD ⊢
  dsimp only at *
  go_enter Try.func23, Try.ntmps23
  go_wp2_with fail
  have bS1 := (BoxS.new w 26 #[.int .i64 al, .int .i64 ah, .int .i64 bl, .int .i64 bh, .slice A cs.length c, .int .i64 wrn]).alloc (.cells #[.int .i64 0, .int .i64 0] 23)
  have bR1 := BoxS.new (w.alloc (.cells #[.int .i64 al, .int .i64 ah, .int .i64 bl, .int .i64 bh, .slice A cs.length c, .int .i64 wrn] 26)) 23 #[.int .i64 0, .int .i64 0]
  have hB1 : Below w.heap.size w ((w.alloc (.cells #[.int .i64 al, .int .i64 ah, .int .i64 bl, .int .i64 bh, .slice A cs.length c, .int .i64 wrn] 26)).alloc (.cells #[.int .i64 0, .int .i64 0] 23)) := by (repeat' (first | (with_reducible exact Below.refl _ _) | (with_reducible assumption) | (with_reducible refine Below.alloc ?_ ?_ _) | (with_reducible refine Below.drew ?_) | (with_reducible refine Below.setCell ?_ ?_ _) | go_size | (exact (by simp)) | omega))
  rw [World.size_alloc] at bR1
  generalize World.alloc (World.alloc w _) _ = w1 at *
  refine (HC.out _ hB1).mono ?_
  rintro e w2 ⟨rfl, hb2⟩
  have bS2 := bS1.below hb2
  have bR2 := bR1.below hb2
  have hB2 := hB1.trans (hb2.mono hB1.size)
  clear bS1 bR1 hb2 hB1 HC
  go_wp2_with fail
  refine (HT.out _ hB2).mono ?_
  rintro e w3 ⟨rfl, hb3⟩
  have bS3 := bS2.below hb3
  have bR3 := bR2.below hb3
  have hB3 := hB2.trans (hb3.mono hB2.size)
  clear bS2 bR2 hb3 hB2 HT
  obtain ⟨⟨s0, s1, s2⟩, s3, s4, s5⟩ := boxS6 bS3
  have ls := bS3.lt
  go_wp2_with fail
  have bS4 := bS3.alloc (.cells #[.int .i64 T] 3)
  have bR4 := bR3.alloc (.cells #[.int .i64 T] 3)
  have bT4 := BoxS.new w3 3 #[.int .i64 T]
  have hB4 : Below w.heap.size w (w3.alloc (.cells #[.int .i64 T] 3)) := hB3.alloc hB3.size _
  clear s0 s1 s2 s3 s4 s5 bS3 bR3 
  generalize World.alloc w3 _ = w4 at *
  refine (HS.out _ hB4).mono ?_
  rintro e w5 ⟨rfl, hb5⟩
  have bR5 := bR4.below hb5
  have bT5 := bT4.below hb5
  have hB5 := hB4.trans (hb5.mono hB4.size)
  clear bS4 bR4 bT4 hb5 hB4 HS
  go_wp2_with fail
  have bR6 := bR5.alloc (.cells #[.int .i64 al, .int .i64 ah, .int .i64 bl, .int .i64 bh, .slice A cs.length c, .int .i64 wrn] 87)
  have bT6 := bT5.alloc (.cells #[.int .i64 al, .int .i64 ah, .int .i64 bl, .int .i64 bh, .slice A cs.length c, .int .i64 wrn] 87)
  have hB6 : Below w.heap.size w (w5.alloc (.cells #[.int .i64 al, .int .i64 ah, .int .i64 bl, .int .i64 bh, .slice A cs.length c, .int .i64 wrn] 87)) := hB5.alloc hB5.size _
  clear bR5 bT5 hB5
  generalize World.alloc w5 _ = w6 at *
  refine (HBD.out _ _ hB6 bT6).mono ?_
  rintro e w7 ⟨rfl, hb7⟩
  have bR7 := bR6.below hb7
  have hB7 := hB6.trans (hb7.mono hB6.size)
  clear bR6 bT6 hb7 hB6 HBD
  obtain ⟨r0, r1⟩ := boxS2 bR7
  have f0 := bR7.frozen 0
  have f1 := bR7.frozen 1
  go_wp2_with fail
  have bR8 := (two_put (two_put bR7 (.int .i64 lo)).1 (.int .i64 hi)).2
  have hB8 : Below w.heap.size w ((w7.setCell ⟨w.heap.size + 1, 0, none⟩ (.int .i64 lo)).setCell ⟨w.heap.size + 1, 1, none⟩ (.int .i64 hi)) := by (repeat' (first | (with_reducible exact Below.refl _ _) | (with_reducible assumption) | (with_reducible refine Below.alloc ?_ ?_ _) | (with_reducible refine Below.drew ?_) | (with_reducible refine Below.setCell ?_ ?_ _) | go_size | (exact (by simp)) | omega))
  clear r0 r1 f0 f1
  generalize World.setCell (World.setCell w7 _ _) _ _ = w8 at *
  obtain ⟨r0, r1⟩ := boxS2 bR8
  exact bodyPost_ret (v := .tuple #[.agg #[.int .i64 lo, .int .i64 hi], .int .i64 0]) (by simp [results, Try.results23, go_sem, r0, r1]) rfl ⟨rfl, hB8⟩
end Go.Proofs.Ytgpmnkdagpcffaa

namespace Go.Proofs.Ytgpmnkdagpcffaa
open Go.RowKit
namespace Sh
def agreeB (t deed off : Int) (f : FaS) : Bool := decide (dist (areaN t) (deed * areaD f) ≤ off * areaD f)
end Sh
set_option maxRecDepth 100000 in
set_option maxHeartbeats 2000000 in
theorem agrees1_any (f : Sh.FaS) (t deed off : Int) (B1 B2 B3 : Nat) (w : World) (ht : -80000000 ≤ t ∧ t ≤ 80000000) (hd : 0 ≤ deed ∧ deed ≤ 999999) (ho : 0 ≤ off ∧ off ≤ 999999) (h1 : BoxS w B1 3 #[.int .i64 t]) (h2 : BoxS w B2 3 #[.int .i64 deed]) (h3 : BoxS w B3 3 #[.int .i64 off]) :
    Calls Try.prog 83 #[.agg #[.int .i64 f.1.1, .int .i64 f.1.2], .pointer (some ⟨B1, 0, none⟩), .pointer (some ⟨B2, 0, none⟩), .pointer (some ⟨B3, 0, none⟩)] w fun e w' => e = .returned (.bool (Sh.agreeB t deed off f)) ∧ Below w.heap.size w w' := by
  have HA : Hid (∀ W, Calls Try.prog 69 #[.agg #[.int .i64 f.1.1, .int .i64 f.1.2], .int .i64 t] W fun e w' => e = .returned (.tuple #[.int .i64 (Sh.areaN t), .int .i64 (Sh.areaD f)]) ∧ Below W.heap.size W w') := fun W => area_any f t W ht
  have hn := Sh.areaN_bd ht
  have hD := Sh.areaD_bd f
  have HR : Hid (Sh.agreeB t deed off f = decide (Sh.dist (Sh.areaN t) (deed * Sh.areaD f) ≤ off * Sh.areaD f)) := rfl
  generalize Sh.agreeB t deed off f = R at *
  generalize Sh.areaN t = N at *
  generalize Sh.areaD f = D at *
  have m1 := mul_bd (a := deed) (b := D) (x := 999999) (y := 4000000) (by omega) (by omega) (by omega) (by omega)
  have m2 := mul_bd (a := off) (b := D) (x := 999999) (y := 4000000) (by omega) (by omega) (by omega) (by omega)
  have hw1 : IntKind.i64.wrap (deed * D) = deed * D := IntWalk.i64_in _ (by omega)
  have hw2 : IntKind.i64.wrap (off * D) = off * D := IntWalk.i64_in _ (by omega)
  have HDI : Hid (∀ W, Calls Try.prog 84 #[.int .i64 N, .int .i64 (deed * D)] W fun e w' => e = .returned (.int .i64 (Sh.dist N (deed * D))) ∧ w' = W) := fun W => distance_any _ _ W (by omega) (by omega)
  generalize Sh.dist N (deed * D) = Q at *
  obtain ⟨⟨f1, f2⟩, hf⟩ := f
  dsimp only at *
  have l1 := h1.lt
  have l2 := h2.lt
  have l3 := h3.lt
  have b1 := h1.cell 0 rfl
  clear ht hd ho hf hn hD m1 m2
  go_enter Try.func83, Try.ntmps83
  go_wp2_with fail
  have hB0 : Below w.heap.size w (w.alloc (.cells #[.int .i64 f1, .int .i64 f2] 90)) := by (repeat' (first | (with_reducible exact Below.refl _ _) | (with_reducible assumption) | (with_reducible refine Below.alloc ?_ ?_ _) | (with_reducible refine Below.drew ?_) | (with_reducible refine Below.setCell ?_ ?_ _) | go_size | (exact (by simp)) | omega))
  have h2a := h2.below hB0
  have h3a := h3.below hB0
  clear h1 h2 h3 b1
  generalize World.alloc w _ = w1 at *
  refine (HA.out _).mono ?_
  rintro e w2 ⟨rfl, hb2⟩
  have h2b := h2a.below hb2
  have h3b := h3a.below hb2
  have hB2 := hB0.trans (hb2.mono hB0.size)
  clear h2a h3a hb2 hB0 HA
  have q0 : Below w2.heap.size w2 w2.drew := (Below.refl _ _).drew
  have hmo : Try.prog.follows .mixedOrders = true := by kernel_rfl
  have KC : Hid (∀ W', Below w2.heap.size w2 W' → W'.cell? ⟨B2, 0, none⟩ = some (.int .i64 deed) ∧ W'.cell? ⟨B3, 0, none⟩ = some (.int .i64 off)) := fun W' h => ⟨(h2b.below h).cell 0 rfl, (h3b.below h).cell 0 rfl⟩
  go_wp2_with fail
  refine (wpIn_wide (n := 4)).1 ?_
  refine wpIn_region_held (fun W' => Below w2.heap.size w2 W') 30 hmo ?_
  refine wpHeldIn_take (i := 0) (v := ?_) (plain_of (by kernel_rfl)) rfl (by kernel_rfl) (fun _ _ _ h => h) (yieldsSoIn_of (by kernel_rfl) ?_ (fun _ => rfl)) q0 ?_; rotate_left; focus (intro wq hw; clear hw; go_simp; try (with_reducible rfl))
  refine wpHeldIn_take (i := 1) (v := ?_) (plain_of (by kernel_rfl)) rfl (by kernel_rfl) (fun _ _ _ h => h) (yieldsSoIn_of (by kernel_rfl) ?_ (fun _ => rfl)) q0 ?_; rotate_left; focus (intro wq hw; have kq := KC.out wq hw; clear hw; go_simp; try (with_reducible rfl))
  refine wpHeldIn_take (i := 2) (v := ?_) (plain_of (by kernel_rfl)) rfl (by kernel_rfl) (fun _ _ _ h => h) (yieldsSoIn_of (by kernel_rfl) ?_ (fun _ => rfl)) q0 ?_; rotate_left; focus (intro wq hw; clear hw; go_simp; try (with_reducible rfl))
  refine wpHeldIn_take (i := 3) (v := ?_) (plain_of (by kernel_rfl)) rfl (by kernel_rfl) (fun _ _ _ h => h) (yieldsSoIn_of (by kernel_rfl) ?_ (fun _ => rfl)) q0 ?_; rotate_left; focus (intro wq hw; clear hw; go_simp; try (with_reducible rfl))
  refine wpHeldIn_take (i := 5) (v := ?_) (plain_of (by kernel_rfl)) rfl (by kernel_rfl) (fun _ _ _ h => h) (yieldsSoIn_of (by kernel_rfl) ?_ (fun _ => rfl)) q0 ?_; rotate_left; focus (intro wq hw; have kq := KC.out wq hw; clear hw; go_simp; try (with_reducible rfl))
  refine wpHeldIn_take (i := 6) (v := ?_) (plain_of (by kernel_rfl)) rfl (by kernel_rfl) (fun _ _ _ h => h) (yieldsSoIn_of (by kernel_rfl) ?_ (fun _ => rfl)) q0 ?_; rotate_left; focus (intro wq hw; clear hw; go_simp; try (with_reducible rfl))
  refine wpHeldIn_take (i := 7) (v := ?_) (plain_of (by kernel_rfl)) rfl (by kernel_rfl) (fun _ _ _ h => h) (yieldsSoIn_of (by kernel_rfl) ?_ (fun _ => rfl)) q0 ?_; rotate_left; focus (intro wq hw; clear hw; go_simp; try (with_reducible rfl))
  refine wpHeldIn_one (i := 4) (by kernel_rfl) (by kernel_rfl) rfl (by kernel_rfl) (fun K2 hK2 => ?_)
  go_simp
  refine ⟨trivial, (callsIn_wide.2 (HDI.out _)).mono ?_⟩
  rintro e w3 ⟨rfl, rfl⟩
  refine hK2 _ _ q0 ?_
  refine wpHeldIn_take (i := 8) (v := ?_) (plain_of (by kernel_rfl)) rfl (by kernel_rfl) (fun _ _ _ h => h) (yieldsSoIn_of (by kernel_rfl) ?_ (fun _ => rfl)) q0 ?_; rotate_left; focus (intro wq hw; clear hw; go_simp; try (with_reducible rfl))
  refine wpHeldIn_take (i := 9) (v := ?_) (plain_of (by kernel_rfl)) rfl (by kernel_rfl) (fun _ _ _ h => h) (yieldsSoIn_of (by kernel_rfl) ?_ (fun _ => rfl)) q0 ?_; rotate_left; focus (intro wq hw; clear hw; go_simp; try (with_reducible rfl))
  refine wpHeldIn_done (by kernel_rfl) ?_ _
  go_simp
  have hBB := hB2.drew
  clear KC q0
  go_wp2_with fail
  go_returns
  exact ⟨by rw [HR.out]; rfl, hBB⟩

set_option maxRecDepth 100000 in
set_option maxHeartbeats 4000000 in
theorem Agrees_yes (s : Sheet) (h0 : Sh.spE s = 0) (A : Option Addr) (c : Nat) (A2 : Option Addr) (c2 : Nat) (ps : List Geo.Pt) (hv : Geo.validB ps = true) (deed off : Int) (hd : 0 ≤ deed ∧ deed ≤ 999999) (ho : 0 ≤ off ∧ off ≤ 999999) (w : World) (hg : Cts w w.heap.size A s.cs) (hP : Prs w w.heap.size A2 ps) :
    Calls Try.prog 30 #[.agg (shV s A c), .slice A2 ps.length c2, .int .i64 deed, .int .i64 off] w (TwoPost (Sh.knownV (Sh.agreeB (Geo.tot Geo.fanV ps) deed off) (Sh.truthsL s)) 0 w) := by
  obtain ⟨hok, hne⟩ := Sh.sp_ok h0
  have hs := Sh.ok_of hok
  have hl : s.cs.length ≤ 1000000000 := by have := hs.n; omega
  have hsm := Geo.valid_sm hv
  have hlen := Geo.valid_len hv
  have hT : -80000000 ≤ Geo.tot Geo.fanV ps ∧ Geo.tot Geo.fanV ps ≤ 80000000 := by
    have := tot_bd (f := Geo.fanV) (M := 8000000) hsm (fun s h1 h2 => by have := Geo.fan_bd h1 h2; omega)
    omega
  have HC : Hid (∀ W, Below w.heap.size w W → Calls Try.prog 41 #[.agg (shV s A c)] W (ErrPost 0 W)) := fun W hW => by
    have := shCheck_any s A c W hl ((hg.keep hW).wider hW.size)
    rw [Sh.chkE_yes hok] at this
    exact this
  have HT : Hid (∀ W, Below w.heap.size w W → Calls Try.prog 29 #[.slice A2 ps.length c2] W fun e w' => e = .returned (.tuple #[.int .i64 (Geo.tot Geo.fanV ps), .int .i64 0]) ∧ Below W.heap.size W w') := fun W hW => by
    have := Twice_any A2 c2 ps (by omega) W (prs_keep hP hW)
    rw [Geo.whenV_yes hv, Geo.errV_yes hv] at this
    exact this
  have HS : Hid (∀ W, Below w.heap.size w W → Calls Try.prog 60 #[.agg (shV s A c)] W (SpPost (shV s A c) 0 W)) := fun W hW => by
    have := spread_any s A c W hl ((hg.keep hW).wider hW.size)
    rw [Sh.spV_yes h0, h0] at this
    exact this
  have HI1 : Hid (∀ W, Calls Try.prog 82 #[.int .i64 deed, .int .i64 0, .int .i64 999999] W fun e w' => e = .returned (.bool true) ∧ w' = W) := fun W => by
    have := within_any deed 0 999999 W
    rw [inB_true.2 hd] at this
    exact this
  have HI2 : Hid (∀ W, Calls Try.prog 82 #[.int .i64 off, .int .i64 0, .int .i64 999999] W fun e w' => e = .returned (.bool true) ∧ w' = W) := fun W => by
    have := within_any off 0 999999 W
    rw [inB_true.2 ho] at this
    exact this
  have HBD : Hid (∀ B1 B2 B3 W, Below w.heap.size w W → BoxS W B1 3 #[.int .i64 (Geo.tot Geo.fanV ps)] → BoxS W B2 3 #[.int .i64 deed] → BoxS W B3 3 #[.int .i64 off] → Calls Try.prog 73 #[.agg (shV s A c), .func (.func 83) #[] #[.pointer (some ⟨B1, 0, none⟩), .pointer (some ⟨B2, 0, none⟩), .pointer (some ⟨B3, 0, none⟩)]] W (ErrPost (Sh.knownV (Sh.agreeB (Geo.tot Geo.fanV ps) deed off) (Sh.truthsL s)) W)) := fun B1 B2 B3 W hW x1 x2 x3 =>
    known_any s hs hne A c 83 #[.pointer (some ⟨B1, 0, none⟩), .pointer (some ⟨B2, 0, none⟩), .pointer (some ⟨B3, 0, none⟩)] (Sh.agreeB (Geo.tot Geo.fanV ps) deed off) W ((hg.keep hW).wider hW.size)
      (enters_of Try.func83 (by kernel_rfl) rfl) (fun x V hV => agrees1_any x (Geo.tot Geo.fanV ps) deed off B1 B2 B3 V hT hd ho (x1.below hV) (x2.below hV) (x3.below hV))
  generalize Sh.knownV (Sh.agreeB (Geo.tot Geo.fanV ps) deed off) (Sh.truthsL s) = KV at *
  generalize Geo.tot Geo.fanV ps = T at *
  clear hg hP hok hne hs hl hsm hlen hT hv h0 hd ho
  obtain ⟨al, ah, bl, bh, cs, wrn⟩ := s
  unfold shV at HC HS HBD ⊢
  dsimp only at *
  go_enter Try.func30, Try.ntmps30
  go_wp2_with fail
  have bS1 := ((BoxS.new w 26 #[.int .i64 al, .int .i64 ah, .int .i64 bl, .int .i64 bh, .slice A cs.length c, .int .i64 wrn]).alloc (.cells #[.int .i64 deed] 3)).alloc (.cells #[.int .i64 off] 3)
  have bD1 := (BoxS.new (w.alloc (.cells #[.int .i64 al, .int .i64 ah, .int .i64 bl, .int .i64 bh, .slice A cs.length c, .int .i64 wrn] 26)) 3 #[.int .i64 deed]).alloc (.cells #[.int .i64 off] 3)
  have bO1 := BoxS.new ((w.alloc (.cells #[.int .i64 al, .int .i64 ah, .int .i64 bl, .int .i64 bh, .slice A cs.length c, .int .i64 wrn] 26)).alloc (.cells #[.int .i64 deed] 3)) 3 #[.int .i64 off]
  have hB1 : Below w.heap.size w (((w.alloc (.cells #[.int .i64 al, .int .i64 ah, .int .i64 bl, .int .i64 bh, .slice A cs.length c, .int .i64 wrn] 26)).alloc (.cells #[.int .i64 deed] 3)).alloc (.cells #[.int .i64 off] 3)) := by (repeat' (first | (with_reducible exact Below.refl _ _) | (with_reducible assumption) | (with_reducible refine Below.alloc ?_ ?_ _) | (with_reducible refine Below.drew ?_) | (with_reducible refine Below.setCell ?_ ?_ _) | go_size | (exact (by simp)) | omega))
  simp only [World.size_alloc] at bD1 bO1
  generalize World.alloc (World.alloc (World.alloc w _) _) _ = w1 at *
  refine (HC.out _ hB1).mono ?_
  rintro e w2 ⟨rfl, hb2⟩
  have bS2 := bS1.below hb2
  have bD2 := bD1.below hb2
  have bO2 := bO1.below hb2
  have hB2 := hB1.trans (hb2.mono hB1.size)
  clear bS1 bD1 bO1 hb2 hB1 HC
  go_wp2_with fail
  refine (HT.out _ hB2).mono ?_
  rintro e w3 ⟨rfl, hb3⟩
  have bS3 := bS2.below hb3
  have bD3 := bD2.below hb3
  have bO3 := bO2.below hb3
  have hB3 := hB2.trans (hb3.mono hB2.size)
  clear bS2 bD2 bO2 hb3 hB2 HT
  obtain ⟨⟨s0, s1, s2⟩, s3, s4, s5⟩ := boxS6 bS3
  have d0 := bD3.cell 0 rfl
  have o0 := bO3.cell 0 rfl
  have ls := bO3.lt
  have ld := bD3.lt
  have lss := bS3.lt
  go_wp2_with fail
  have bS4 := bS3.alloc (.cells #[.int .i64 T] 3)
  have bD4 := bD3.alloc (.cells #[.int .i64 T] 3)
  have bO4 := bO3.alloc (.cells #[.int .i64 T] 3)
  have bT4 := BoxS.new w3 3 #[.int .i64 T]
  have hB4 : Below w.heap.size w (w3.alloc (.cells #[.int .i64 T] 3)) := hB3.alloc hB3.size _
  clear s0 s1 s2 s3 s4 s5 bS3 bD3 bO3 d0 o0
  generalize World.alloc w3 _ = w4 at *
  refine (HI1.out _).mono ?_
  rintro e w4b ⟨rfl, rfl⟩
  obtain ⟨⟨s0, s1, s2⟩, s3, s4, s5⟩ := boxS6 bS4
  have o0 := bO4.cell 0 rfl
  go_wp2_with fail
  refine (HI2.out _).mono ?_
  rintro e w4c ⟨rfl, rfl⟩
  go_wp2_with fail
  refine (HS.out _ hB4).mono ?_
  rintro e w5 ⟨rfl, hb5⟩
  have bD5 := bD4.below hb5
  have bO5 := bO4.below hb5
  have bT5 := bT4.below hb5
  have hB5 := hB4.trans (hb5.mono hB4.size)
  clear bS4 bD4 bO4 bT4 hb5 hB4 HS s0 s1 s2 s3 s4 s5 o0
  go_wp2_with fail
  have bD6 := bD5.alloc (.cells #[.int .i64 al, .int .i64 ah, .int .i64 bl, .int .i64 bh, .slice A cs.length c, .int .i64 wrn] 87)
  have bO6 := bO5.alloc (.cells #[.int .i64 al, .int .i64 ah, .int .i64 bl, .int .i64 bh, .slice A cs.length c, .int .i64 wrn] 87)
  have bT6 := bT5.alloc (.cells #[.int .i64 al, .int .i64 ah, .int .i64 bl, .int .i64 bh, .slice A cs.length c, .int .i64 wrn] 87)
  have hB6 : Below w.heap.size w (w5.alloc (.cells #[.int .i64 al, .int .i64 ah, .int .i64 bl, .int .i64 bh, .slice A cs.length c, .int .i64 wrn] 87)) := hB5.alloc hB5.size _
  clear bD5 bO5 bT5 hB5
  generalize World.alloc w5 _ = w6 at *
  refine (HBD.out _ _ _ _ hB6 bT6 bD6 bO6).mono ?_
  rintro e w7 ⟨rfl, hb7⟩
  have hB7 := hB6.trans (hb7.mono hB6.size)
  go_wp2_with fail
  go_returns
  exact ⟨rfl, hB7⟩
end Go.Proofs.Ytgpmnkdagpcffaa
