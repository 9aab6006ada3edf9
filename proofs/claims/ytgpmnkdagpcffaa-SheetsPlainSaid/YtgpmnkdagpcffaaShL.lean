/- Sheets: the area of a polygon, where there is a truth. -/
import Derived.Test.YtgpmnkdagpcffaaShK
import Derived.Test.YtgpmnkdagpcffaaPts
namespace Go.Proofs.Ytgpmnkdagpcffaa
open Go.RowKit
set_option maxHeartbeats 1000000 in
theorem area1_any (f : Sh.FaS) (t : Int) (B : Nat) (w : World) (ht : -80000000 ≤ t ∧ t ≤ 80000000) (hB : BoxS w B 3 #[.int .i64 t]) :
    Calls Try.prog 68 #[.agg #[.int .i64 f.1.1, .int .i64 f.1.2], .pointer (some ⟨B, 0, none⟩)] w fun e w' => e = .returned (.tuple #[.int .i64 (Sh.areaN t), .int .i64 (Sh.areaD f)]) ∧ Below w.heap.size w w' := by
  have HA : Hid (∀ W, Calls Try.prog 69 #[.agg #[.int .i64 f.1.1, .int .i64 f.1.2], .int .i64 t] W fun e w' => e = .returned (.tuple #[.int .i64 (Sh.areaN t), .int .i64 (Sh.areaD f)]) ∧ Below W.heap.size W w') := fun W => area_any f t W ht
  have hlt := hB.lt
  have b0 := hB.cell 0 rfl
  generalize Sh.areaN t = N at *
  generalize Sh.areaD f = D at *
  obtain ⟨⟨f1, f2⟩, hf⟩ := f
  dsimp only at *
  clear ht hf hB
  go_enter Try.func68, Try.ntmps68
  go_wp2_with fail
  have hB0 : Below w.heap.size w (w.alloc (.cells #[.int .i64 f1, .int .i64 f2] 90)) := by (repeat' (first | (with_reducible exact Below.refl _ _) | (with_reducible assumption) | (with_reducible refine Below.alloc ?_ ?_ _) | (with_reducible refine Below.drew ?_) | (with_reducible refine Below.setCell ?_ ?_ _) | go_size | (exact (by simp)) | omega))
  refine (HA.out _).mono ?_
  rintro e w2 ⟨rfl, hb2⟩
  have hB2 := hB0.trans (hb2.mono hB0.size)
  go_wp2_with fail
  go_returns
  exact ⟨rfl, hB2⟩
namespace Sh
def areaLo (s : Sheet) (t : Int) : Int := lowF (fun _ => areaN t) areaD (truthsL s)
def areaHi (s : Sheet) (t : Int) : Int := highF (fun _ => areaN t) areaD (truthsL s)
end Sh
def SpanEPost (a b x : Int) (w : World) (e : Ending) (w' : World) : Prop := e = .returned (.tuple #[.agg #[.int .i64 a, .int .i64 b], .int .i64 x]) ∧ Below w.heap.size w w'

set_option maxRecDepth 100000 in
set_option maxHeartbeats 4000000 in
theorem Area_yes (s : Sheet) (h0 : Sh.spE s = 0) (A : Option Addr) (c : Nat) (A2 : Option Addr) (c2 : Nat) (ps : List Geo.Pt) (hv : Geo.validB ps = true) (w : World) (hg : Cts w w.heap.size A s.cs) (hP : Prs w w.heap.size A2 ps) :
    Calls Try.prog 23 #[.agg (shV s A c), .slice A2 ps.length c2] w (SpanEPost (Sh.areaLo s (Geo.tot Geo.fanV ps)) (Sh.areaHi s (Geo.tot Geo.fanV ps)) 0 w) := by
  obtain ⟨hok, hne⟩ := Sh.sp_ok h0
  have hs := Sh.ok_of hok
  have hl : s.cs.length ≤ 1000000000 := by have := hs.n; omega
  have hsm := Geo.valid_sm hv
  have hlen := Geo.valid_len hv
  have hT : -80000000 ≤ Geo.tot Geo.fanV ps ∧ Geo.tot Geo.fanV ps ≤ 80000000 := by
    have := tot_bd (f := Geo.fanV) (M := 8000000) hsm (fun s h1 h2 => by have := Geo.fan_bd h1 h2; omega)
    omega
  have HC : Hid (∀ W, Below w.heap.size w W → Calls Try.prog 41 #[.agg (shV s A c)] W (ErrPost 0 W)) := fun W hW => by
    have := shCheck_any s A c W hl ((hg.keep hW).wider hW.size)
    rw [Sh.chkE_yes hok] at this
    exact this
  have HT : Hid (∀ W, Below w.heap.size w W → Calls Try.prog 29 #[.slice A2 ps.length c2] W fun e w' => e = .returned (.tuple #[.int .i64 (Geo.tot Geo.fanV ps), .int .i64 0]) ∧ Below W.heap.size W w') := fun W hW => by
    have := Twice_any A2 c2 ps (by omega) W (prs_keep hP hW)
    rw [Geo.whenV_yes hv, Geo.errV_yes hv] at this
    exact this
  have HS : Hid (∀ W, Below w.heap.size w W → Calls Try.prog 60 #[.agg (shV s A c)] W (SpPost (shV s A c) 0 W)) := fun W hW => by
    have := spread_any s A c W hl ((hg.keep hW).wider hW.size)
    rw [Sh.spV_yes h0, h0] at this
    exact this
  have HBD : Hid (∀ B W, Below w.heap.size w W → BoxS W B 3 #[.int .i64 (Geo.tot Geo.fanV ps)] → Calls Try.prog 67 #[.agg (shV s A c), .func (.func 68) #[] #[.pointer (some ⟨B, 0, none⟩)]] W (SpanPost (Sh.areaLo s (Geo.tot Geo.fanV ps)) (Sh.areaHi s (Geo.tot Geo.fanV ps)) W)) := fun B W hW hBx =>
    bounds_any s hs A c 68 #[.pointer (some ⟨B, 0, none⟩)] (fun _ => Sh.areaN (Geo.tot Geo.fanV ps)) Sh.areaD (fun _ => by have := Sh.areaN_bd hT; omega) (fun x => by have := Sh.areaD_bd x; omega) W ((hg.keep hW).wider hW.size)
      (enters_of Try.func68 (by kernel_rfl) rfl) (fun x V hV => area1_any x (Geo.tot Geo.fanV ps) B V hT (hBx.below hV))
  generalize Sh.areaLo s (Geo.tot Geo.fanV ps) = lo at *
  generalize Sh.areaHi s (Geo.tot Geo.fanV ps) = hi at *
  generalize Geo.tot Geo.fanV ps = T at *
  clear hg hP hok hne hs hl hsm hlen hT hv h0
  obtain ⟨al, ah, bl, bh, cs, wrn⟩ := s
  unfold shV at HC HS HBD ⊢
  dsimp only at *
  go_enter Try.func23, Try.ntmps23
  go_wp2_with fail
  have bS1 := (BoxS.new w 26 #[.int .i64 al, .int .i64 ah, .int .i64 bl, .int .i64 bh, .slice A cs.length c, .int .i64 wrn]).alloc (.cells #[.int .i64 0, .int .i64 0] 23)
  have bR1 := BoxS.new (w.alloc (.cells #[.int .i64 al, .int .i64 ah, .int .i64 bl, .int .i64 bh, .slice A cs.length c, .int .i64 wrn] 26)) 23 #[.int .i64 0, .int .i64 0]
  have hB1 : Below w.heap.size w ((w.alloc (.cells #[.int .i64 al, .int .i64 ah, .int .i64 bl, .int .i64 bh, .slice A cs.length c, .int .i64 wrn] 26)).alloc (.cells #[.int .i64 0, .int .i64 0] 23)) := by (repeat' (first | (with_reducible exact Below.refl _ _) | (with_reducible assumption) | (with_reducible refine Below.alloc ?_ ?_ _) | (with_reducible refine Below.drew ?_) | (with_reducible refine Below.setCell ?_ ?_ _) | go_size | (exact (by simp)) | omega))
  rw [World.size_alloc] at bR1
  generalize World.alloc (World.alloc w _) _ = w1 at *
  refine (HC.out _ hB1).mono ?_
  rintro e w2 ⟨rfl, hb2⟩
  have bS2 := bS1.below hb2
  have bR2 := bR1.below hb2
  have hB2 := hB1.trans (hb2.mono hB1.size)
  clear bS1 bR1 hb2 hB1 HC
  go_wp2_with fail
  refine (HT.out _ hB2).mono ?_
  rintro e w3 ⟨rfl, hb3⟩
  have bS3 := bS2.below hb3
  have bR3 := bR2.below hb3
  have hB3 := hB2.trans (hb3.mono hB2.size)
  clear bS2 bR2 hb3 hB2 HT
  obtain ⟨⟨s0, s1, s2⟩, s3, s4, s5⟩ := boxS6 bS3
  have ls := bS3.lt
  go_wp2_with fail
  have bS4 := bS3.alloc (.cells #[.int .i64 T] 3)
  have bR4 := bR3.alloc (.cells #[.int .i64 T] 3)
  have bT4 := BoxS.new w3 3 #[.int .i64 T]
  have hB4 : Below w.heap.size w (w3.alloc (.cells #[.int .i64 T] 3)) := hB3.alloc hB3.size _
  clear s0 s1 s2 s3 s4 s5 bS3 bR3 
  generalize World.alloc w3 _ = w4 at *
  refine (HS.out _ hB4).mono ?_
  rintro e w5 ⟨rfl, hb5⟩
  have bR5 := bR4.below hb5
  have bT5 := bT4.below hb5
  have hB5 := hB4.trans (hb5.mono hB4.size)
  clear bS4 bR4 bT4 hb5 hB4 HS
  go_wp2_with fail
  have bR6 := bR5.alloc (.cells #[.int .i64 al, .int .i64 ah, .int .i64 bl, .int .i64 bh, .slice A cs.length c, .int .i64 wrn] 87)
  have bT6 := bT5.alloc (.cells #[.int .i64 al, .int .i64 ah, .int .i64 bl, .int .i64 bh, .slice A cs.length c, .int .i64 wrn] 87)
  have hB6 : Below w.heap.size w (w5.alloc (.cells #[.int .i64 al, .int .i64 ah, .int .i64 bl, .int .i64 bh, .slice A cs.length c, .int .i64 wrn] 87)) := hB5.alloc hB5.size _
  clear bR5 bT5 hB5
  generalize World.alloc w5 _ = w6 at *
  refine (HBD.out _ _ hB6 bT6).mono ?_
  rintro e w7 ⟨rfl, hb7⟩
  have bR7 := bR6.below hb7
  have hB7 := hB6.trans (hb7.mono hB6.size)
  clear bR6 bT6 hb7 hB6 HBD
  obtain ⟨r0, r1⟩ := boxS2 bR7
  have f0 := bR7.frozen 0
  have f1 := bR7.frozen 1
  go_wp2_with fail
  have bR8 := (two_put (two_put bR7 (.int .i64 lo)).1 (.int .i64 hi)).2
  have hB8 : Below w.heap.size w ((w7.setCell ⟨w.heap.size + 1, 0, none⟩ (.int .i64 lo)).setCell ⟨w.heap.size + 1, 1, none⟩ (.int .i64 hi)) := by (repeat' (first | (with_reducible exact Below.refl _ _) | (with_reducible assumption) | (with_reducible refine Below.alloc ?_ ?_ _) | (with_reducible refine Below.drew ?_) | (with_reducible refine Below.setCell ?_ ?_ _) | go_size | (exact (by simp)) | omega))
  clear r0 r1 f0 f1
  generalize World.setCell (World.setCell w7 _ _) _ _ = w8 at *
  obtain ⟨r0, r1⟩ := boxS2 bR8
  exact bodyPost_ret (v := .tuple #[.agg #[.int .i64 lo, .int .i64 hi], .int .i64 0]) (by simp [results, Try.results23, go_sem, r0, r1]) rfl ⟨rfl, hB8⟩
end Go.Proofs.Ytgpmnkdagpcffaa
