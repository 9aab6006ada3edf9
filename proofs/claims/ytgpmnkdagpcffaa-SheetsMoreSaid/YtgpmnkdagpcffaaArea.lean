/- Sheets: Area, with each error; the reference's Area and Length. -/
import Derived.Test.YtgpmnkdagpcffaaWid
namespace Go.Proofs.Ytgpmnkdagpcffaa
open Go.RowKit
namespace Sh
def areaLoE (s : Sheet) (ps : List Geo.Pt) : Int := if areaE s ps = 0 then areaLo s (Geo.tot Geo.fanV ps) else 0
def areaHiE (s : Sheet) (ps : List Geo.Pt) : Int := if areaE s ps = 0 then areaHi s (Geo.tot Geo.fanV ps) else 0
theorem areaE_kn (s : Sheet) (ps : List Geo.Pt) : areaE s ps = knE s (Geo.errV ps) true := by
  unfold areaE knE spE
  cases hok : okB s with
  | false => rfl
  | true =>
    rw [if_pos rfl, if_pos rfl]
    cases hv : Geo.validB ps with
    | true => rw [Geo.errV_yes hv, if_pos rfl]; rfl
    | false => rw [Geo.errV_no hv]; rfl
theorem lenE_kn (s : Sheet) (a b : Geo.Pt) : lenE s a b = knE s 0 (Geo.ptB a && Geo.ptB b) := by
  unfold lenE knE spE
  cases hok : okB s with
  | false => rfl
  | true =>
    rw [if_pos rfl, if_pos rfl]
    cases hv : Geo.ptB a && Geo.ptB b <;> rfl
end Sh
set_option maxRecDepth 100000 in
set_option maxHeartbeats 4000000 in
theorem Area_bad (s : Sheet) (A : Option Addr) (c : Nat) (A2 : Option Addr) (c2 : Nat) (ps : List Geo.Pt) (w : World) (hl : s.cs.length ≤ 1000000000) (hlp : ps.length ≤ 100) (hg : Cts w w.heap.size A s.cs) (hP : Prs w w.heap.size A2 ps) (hok : Sh.okB s = false) :
    Calls Try.prog 23 #[.agg (shV s A c), .slice A2 ps.length c2] w (SpanEPost 0 0 40 w) := by
  have HC : Hid (∀ W, Below w.heap.size w W → Calls Try.prog 41 #[.agg (shV s A c)] W (ErrPost (Sh.chkE s) W)) := fun W hW => shCheck_any s A c W hl ((hg.keep hW).wider hW.size)
  have HT : Hid (∀ W, Below w.heap.size w W → Calls Try.prog 29 #[.slice A2 ps.length c2] W (TwoPost (Geo.whenV ps (Geo.tot Geo.fanV ps)) (Geo.errV ps) W)) := fun W hW => Twice_any A2 c2 ps hlp W (prs_keep hP hW)
  have HS : Hid (∀ W, Below w.heap.size w W → Calls Try.prog 60 #[.agg (shV s A c)] W (SpPost (Sh.spV s A c) (Sh.spE s) W)) := fun W hW => spread_any s A c W hl ((hg.keep hW).wider hW.size)
  rw [Sh.chkE_no hok] at HC
  clear HT HS
  generalize Geo.tot Geo.fanV ps = T at *
  generalize ps.length = np at *
  clear hg hP hl hlp hok
  obtain ⟨al, ah, bl, bh, cs, wrn⟩ := s
  unfold shV at *
  dsimp only at *
  go_enter Try.func23, Try.ntmps23
  go_wp2_with fail
  have bS1 := (BoxS.new w 26 #[.int .i64 al, .int .i64 ah, .int .i64 bl, .int .i64 bh, .slice A cs.length c, .int .i64 wrn]).alloc (.cells #[.int .i64 0, .int .i64 0] 23)
  have bR1 := BoxS.new (w.alloc (.cells #[.int .i64 al, .int .i64 ah, .int .i64 bl, .int .i64 bh, .slice A cs.length c, .int .i64 wrn] 26)) 23 #[.int .i64 0, .int .i64 0]
  have hB1 : Below w.heap.size w ((w.alloc (.cells #[.int .i64 al, .int .i64 ah, .int .i64 bl, .int .i64 bh, .slice A cs.length c, .int .i64 wrn] 26)).alloc (.cells #[.int .i64 0, .int .i64 0] 23)) := by (repeat' (first | (with_reducible exact Below.refl _ _) | (with_reducible assumption) | (with_reducible refine Below.alloc ?_ ?_ _) | (with_reducible refine Below.drew ?_) | (with_reducible refine Below.setCell ?_ ?_ _) | go_size | (exact (by simp)) | omega))
  rw [World.size_alloc] at bR1
  generalize World.alloc (World.alloc w _) _ = w1 at *
  refine (HC.out _ hB1).mono ?_
  rintro e w2 ⟨rfl, hb2⟩
  have bS2 := bS1.below hb2
  have bR2 := bR1.below hb2
  have hB2 := hB1.trans (hb2.mono hB1.size)
  clear bS1 bR1 hb2 hB1 HC
  have r0 := bR2.cell 0 rfl
  have r1 := bR2.cell 1 rfl
  have f0 := bR2.frozen 0
  have f1 := bR2.frozen 1
  have lr := bR2.lt
  go_wp2_with fail
  have bRz := (two_put (two_put bR2 (.int .i64 0)).1 (.int .i64 0)).2
  have hBz : Below w.heap.size w ((w2.setCell ⟨w.heap.size + 1, 0, none⟩ (.int .i64 0)).setCell ⟨w.heap.size + 1, 1, none⟩ (.int .i64 0)) := by (repeat' (first | (with_reducible exact Below.refl _ _) | (with_reducible assumption) | (with_reducible refine Below.alloc ?_ ?_ _) | (with_reducible refine Below.drew ?_) | (with_reducible refine Below.setCell ?_ ?_ _) | go_size | (exact (by simp)) | omega))
  clear r0 r1 f0 f1
  generalize World.setCell (World.setCell w2 _ _) _ _ = wz at *
  obtain ⟨r0, r1⟩ := boxS2 bRz
  exact bodyPost_ret (v := .tuple #[.agg #[.int .i64 0, .int .i64 0], .int .i64 40]) (by simp [results, Try.results23, go_sem, r0, r1]) rfl ⟨rfl, hBz⟩

set_option maxRecDepth 100000 in
set_option maxHeartbeats 4000000 in
theorem Area_flat (s : Sheet) (A : Option Addr) (c : Nat) (A2 : Option Addr) (c2 : Nat) (ps : List Geo.Pt) (w : World) (hl : s.cs.length ≤ 1000000000) (hlp : ps.length ≤ 100) (hg : Cts w w.heap.size A s.cs) (hP : Prs w w.heap.size A2 ps) (hok : Sh.okB s = true) (hv : Geo.validB ps = false) :
    Calls Try.prog 23 #[.agg (shV s A c), .slice A2 ps.length c2] w (SpanEPost 0 0 20 w) := by
  have HC : Hid (∀ W, Below w.heap.size w W → Calls Try.prog 41 #[.agg (shV s A c)] W (ErrPost (Sh.chkE s) W)) := fun W hW => shCheck_any s A c W hl ((hg.keep hW).wider hW.size)
  have HT : Hid (∀ W, Below w.heap.size w W → Calls Try.prog 29 #[.slice A2 ps.length c2] W (TwoPost (Geo.whenV ps (Geo.tot Geo.fanV ps)) (Geo.errV ps) W)) := fun W hW => Twice_any A2 c2 ps hlp W (prs_keep hP hW)
  have HS : Hid (∀ W, Below w.heap.size w W → Calls Try.prog 60 #[.agg (shV s A c)] W (SpPost (Sh.spV s A c) (Sh.spE s) W)) := fun W hW => spread_any s A c W hl ((hg.keep hW).wider hW.size)
  rw [Sh.chkE_yes hok] at HC
  rw [Geo.whenV_no hv, Geo.errV_no hv] at HT
  clear HS
  generalize Geo.tot Geo.fanV ps = T at *
  generalize ps.length = np at *
  clear hg hP hl hlp hok hv
  obtain ⟨al, ah, bl, bh, cs, wrn⟩ := s
  unfold shV at *
  dsimp only at *
  go_enter Try.func23, Try.ntmps23
  go_wp2_with fail
  have bS1 := (BoxS.new w 26 #[.int .i64 al, .int .i64 ah, .int .i64 bl, .int .i64 bh, .slice A cs.length c, .int .i64 wrn]).alloc (.cells #[.int .i64 0, .int .i64 0] 23)
  have bR1 := BoxS.new (w.alloc (.cells #[.int .i64 al, .int .i64 ah, .int .i64 bl, .int .i64 bh, .slice A cs.length c, .int .i64 wrn] 26)) 23 #[.int .i64 0, .int .i64 0]
  have hB1 : Below w.heap.size w ((w.alloc (.cells #[.int .i64 al, .int .i64 ah, .int .i64 bl, .int .i64 bh, .slice A cs.length c, .int .i64 wrn] 26)).alloc (.cells #[.int .i64 0, .int .i64 0] 23)) := by (repeat' (first | (with_reducible exact Below.refl _ _) | (with_reducible assumption) | (with_reducible refine Below.alloc ?_ ?_ _) | (with_reducible refine Below.drew ?_) | (with_reducible refine Below.setCell ?_ ?_ _) | go_size | (exact (by simp)) | omega))
  rw [World.size_alloc] at bR1
  generalize World.alloc (World.alloc w _) _ = w1 at *
  refine (HC.out _ hB1).mono ?_
  rintro e w2 ⟨rfl, hb2⟩
  have bS2 := bS1.below hb2
  have bR2 := bR1.below hb2
  have hB2 := hB1.trans (hb2.mono hB1.size)
  clear bS1 bR1 hb2 hB1 HC
  go_wp2_with fail
  refine (HT.out _ hB2).mono ?_
  rintro e w3 ⟨rfl, hb3⟩
  have bS3 := bS2.below hb3
  have bR3 := bR2.below hb3
  have hB3 := hB2.trans (hb3.mono hB2.size)
  clear bS2 bR2 hb3 hB2 HT
  have r0 := bR3.cell 0 rfl
  have r1 := bR3.cell 1 rfl
  have f0 := bR3.frozen 0
  have f1 := bR3.frozen 1
  have lr := bR3.lt
  go_wp2_with fail
  have bRz := ((two_put (two_put bR3 (.int .i64 0)).1 (.int .i64 0)).2).alloc (.cells #[.int .i64 0] 3)
  have hBz : Below w.heap.size w (((w3.setCell ⟨w.heap.size + 1, 0, none⟩ (.int .i64 0)).setCell ⟨w.heap.size + 1, 1, none⟩ (.int .i64 0)).alloc (.cells #[.int .i64 0] 3)) := by (repeat' (first | (with_reducible exact Below.refl _ _) | (with_reducible assumption) | (with_reducible refine Below.alloc ?_ ?_ _) | (with_reducible refine Below.drew ?_) | (with_reducible refine Below.setCell ?_ ?_ _) | go_size | (exact (by simp)) | omega))
  clear r0 r1 f0 f1
  generalize World.alloc (World.setCell (World.setCell w3 _ _) _ _) _ = wz at *
  obtain ⟨r0, r1⟩ := boxS2 bRz
  exact bodyPost_ret (v := .tuple #[.agg #[.int .i64 0, .int .i64 0], .int .i64 20]) (by simp [results, Try.results23, go_sem, r0, r1]) rfl ⟨rfl, hBz⟩

set_option maxRecDepth 100000 in
set_option maxHeartbeats 4000000 in
theorem Area_none (s : Sheet) (A : Option Addr) (c : Nat) (A2 : Option Addr) (c2 : Nat) (ps : List Geo.Pt) (w : World) (hl : s.cs.length ≤ 1000000000) (hlp : ps.length ≤ 100) (hg : Cts w w.heap.size A s.cs) (hP : Prs w w.heap.size A2 ps) (hok : Sh.okB s = true) (hv : Geo.validB ps = true) (h3 : Sh.spE s = 3) :
    Calls Try.prog 23 #[.agg (shV s A c), .slice A2 ps.length c2] w (SpanEPost 0 0 3 w) := by
  have HC : Hid (∀ W, Below w.heap.size w W → Calls Try.prog 41 #[.agg (shV s A c)] W (ErrPost (Sh.chkE s) W)) := fun W hW => shCheck_any s A c W hl ((hg.keep hW).wider hW.size)
  have HT : Hid (∀ W, Below w.heap.size w W → Calls Try.prog 29 #[.slice A2 ps.length c2] W (TwoPost (Geo.whenV ps (Geo.tot Geo.fanV ps)) (Geo.errV ps) W)) := fun W hW => Twice_any A2 c2 ps hlp W (prs_keep hP hW)
  have HS : Hid (∀ W, Below w.heap.size w W → Calls Try.prog 60 #[.agg (shV s A c)] W (SpPost (Sh.spV s A c) (Sh.spE s) W)) := fun W hW => spread_any s A c W hl ((hg.keep hW).wider hW.size)
  rw [Sh.chkE_yes hok] at HC
  rw [Geo.whenV_yes hv, Geo.errV_yes hv] at HT
  rw [Sh.spV_no (by rw [h3]; decide), h3] at HS
  generalize Geo.tot Geo.fanV ps = T at *
  generalize ps.length = np at *
  clear hg hP hl hlp hok hv h3
  obtain ⟨al, ah, bl, bh, cs, wrn⟩ := s
  unfold shV at *
  dsimp only at *
  go_enter Try.func23, Try.ntmps23
  go_wp2_with fail
  have bS1 := (BoxS.new w 26 #[.int .i64 al, .int .i64 ah, .int .i64 bl, .int .i64 bh, .slice A cs.length c, .int .i64 wrn]).alloc (.cells #[.int .i64 0, .int .i64 0] 23)
  have bR1 := BoxS.new (w.alloc (.cells #[.int .i64 al, .int .i64 ah, .int .i64 bl, .int .i64 bh, .slice A cs.length c, .int .i64 wrn] 26)) 23 #[.int .i64 0, .int .i64 0]
  have hB1 : Below w.heap.size w ((w.alloc (.cells #[.int .i64 al, .int .i64 ah, .int .i64 bl, .int .i64 bh, .slice A cs.length c, .int .i64 wrn] 26)).alloc (.cells #[.int .i64 0, .int .i64 0] 23)) := by (repeat' (first | (with_reducible exact Below.refl _ _) | (with_reducible assumption) | (with_reducible refine Below.alloc ?_ ?_ _) | (with_reducible refine Below.drew ?_) | (with_reducible refine Below.setCell ?_ ?_ _) | go_size | (exact (by simp)) | omega))
  rw [World.size_alloc] at bR1
  generalize World.alloc (World.alloc w _) _ = w1 at *
  refine (HC.out _ hB1).mono ?_
  rintro e w2 ⟨rfl, hb2⟩
  have bS2 := bS1.below hb2
  have bR2 := bR1.below hb2
  have hB2 := hB1.trans (hb2.mono hB1.size)
  clear bS1 bR1 hb2 hB1 HC
  go_wp2_with fail
  refine (HT.out _ hB2).mono ?_
  rintro e w3 ⟨rfl, hb3⟩
  have bS3 := bS2.below hb3
  have bR3 := bR2.below hb3
  have hB3 := hB2.trans (hb3.mono hB2.size)
  clear bS2 bR2 hb3 hB2 HT
  obtain ⟨⟨s0, s1, s2⟩, s3, s4, s5⟩ := boxS6 bS3
  have ls := bS3.lt
  have lr3 := bR3.lt
  go_wp2_with fail
  have bR4 := bR3.alloc (.cells #[.int .i64 T] 3)
  have hB4 : Below w.heap.size w (w3.alloc (.cells #[.int .i64 T] 3)) := hB3.alloc hB3.size _
  clear s0 s1 s2 s3 s4 s5 bS3 bR3 lr3 ls
  generalize World.alloc w3 _ = w4 at *
  refine (HS.out _ hB4).mono ?_
  rintro e w5 ⟨rfl, hb5⟩
  have bR5 := bR4.below hb5
  have hB5 := hB4.trans (hb5.mono hB4.size)
  clear bR4 hb5 hB4 HS
  have r0 := bR5.cell 0 rfl
  have r1 := bR5.cell 1 rfl
  have f0 := bR5.frozen 0
  have f1 := bR5.frozen 1
  have lr := bR5.lt
  go_wp2_with fail
  have bRz := ((two_put (two_put bR5 (.int .i64 0)).1 (.int .i64 0)).2).alloc (.cells #[.int .i64 0, .int .i64 0, .int .i64 0, .int .i64 0, .slice none 0 0, .int .i64 0] 87)
  have hBz : Below w.heap.size w (((w5.setCell ⟨w.heap.size + 1, 0, none⟩ (.int .i64 0)).setCell ⟨w.heap.size + 1, 1, none⟩ (.int .i64 0)).alloc (.cells #[.int .i64 0, .int .i64 0, .int .i64 0, .int .i64 0, .slice none 0 0, .int .i64 0] 87)) := by (repeat' (first | (with_reducible exact Below.refl _ _) | (with_reducible assumption) | (with_reducible refine Below.alloc ?_ ?_ _) | (with_reducible refine Below.drew ?_) | (with_reducible refine Below.setCell ?_ ?_ _) | go_size | (exact (by simp)) | omega))
  clear r0 r1 f0 f1
  generalize World.alloc (World.setCell (World.setCell w5 _ _) _ _) _ = wz at *
  obtain ⟨r0, r1⟩ := boxS2 bRz
  exact bodyPost_ret (v := .tuple #[.agg #[.int .i64 0, .int .i64 0], .int .i64 3]) (by simp [results, Try.results23, go_sem, r0, r1]) rfl ⟨rfl, hBz⟩

theorem Area_any (s : Sheet) (A : Option Addr) (c : Nat) (A2 : Option Addr) (c2 : Nat) (ps : List Geo.Pt) (w : World) (hl : s.cs.length ≤ 1000000000) (hlp : ps.length ≤ 100) (hg : Cts w w.heap.size A s.cs) (hP : Prs w w.heap.size A2 ps) :
    Calls Try.prog 23 #[.agg (shV s A c), .slice A2 ps.length c2] w (SpanEPost (Sh.areaLoE s ps) (Sh.areaHiE s ps) (Sh.areaE s ps) w) := by
  have he : Sh.areaE s ps = if Sh.okB s then (if Geo.validB ps then Sh.spE s else Geo.errV ps) else 40 := rfl
  unfold Sh.areaLoE Sh.areaHiE
  cases hok : Sh.okB s with
  | false =>
    rw [hok] at he
    rw [he]
    exact Area_bad s A c A2 c2 ps w hl hlp hg hP hok
  | true =>
    rw [hok, if_pos rfl] at he
    cases hv : Geo.validB ps with
    | false =>
      rw [hv, Geo.errV_no hv] at he
      rw [he]
      exact Area_flat s A c A2 c2 ps w hl hlp hg hP hok hv
    | true =>
      rw [hv, if_pos rfl] at he
      rw [he]
      rcases Sh.sp_three s with h | h | h
      · rw [if_pos h, if_pos h, h]
        exact Area_yes s h A c A2 c2 ps hv w hg hP
      · rw [h]
        exact Area_none s A c A2 c2 ps w hl hlp hg hP hok hv h
      · exfalso
        unfold Sh.spE at h
        rw [hok] at h
        by_cases h2 : Sh.truthsL s = [] <;> simp [h2] at h

set_option maxRecDepth 100000 in
set_option maxHeartbeats 8000000 in
theorem Area4_any (s : Sheet) (A : Option Addr) (c : Nat) (A2 : Option Addr) (c2 : Nat) (ps : List Geo.Pt) (w : World) (hl : s.cs.length ≤ 1000000000) (hlp : ps.length ≤ 100) (hg : Cts w w.heap.size A s.cs) (hP : Prs w w.heap.size A2 ps) :
    Calls Try.prog 50 #[.agg (shV s A c), .slice A2 ps.length c2] w (SpanEPost (Sh.areaLoE s ps) (Sh.areaHiE s ps) (Sh.areaE s ps) w) := by
  have HK : Hid (∀ W, Below w.heap.size w W → Calls Try.prog 87 #[.agg (shV s A c), .int .i64 (Geo.errV ps), .bool true] W (PrsEPost (Sh.knL s (Geo.errV ps) true) (Sh.areaE s ps) W)) := fun W hW => by rw [Sh.areaE_kn]; exact known4_any s A c _ _ W hl ((hg.keep hW).wider hW.size)
  have HCK : Hid (∀ W, Below w.heap.size w W → Calls Try.prog 36 #[.slice A2 ps.length c2] W (ErrPost (Geo.errV ps) W)) := fun W hW => by have := refchk_any A2 c2 ps hlp W (prs_keep hP hW); rw [Geo.refV_errV] at this; exact this
  have HTW : Hid (Geo.validB ps = true → ∀ W, Below w.heap.size w W → Calls Try.prog 32 #[.slice A2 ps.length c2] W fun e w' => e = .returned (.int .i64 (Geo.tot Geo.fanV ps)) ∧ Below W.heap.size W w') := fun hv W hW => by
    have hlen := Geo.valid_len hv
    have := TwiceOf_any A2 c2 ps (Geo.valid_sm hv) (by omega) (by omega) W (prs_keep hP hW)
    rw [← Geo.twice_eq ps (by omega)] at this
    exact this
  by_cases h0 : Sh.areaE s ps = 0
  · have h0' := h0
    rw [Sh.areaE_kn] at h0'
    obtain ⟨hok, he, -, hne, hsp⟩ := Sh.kn_ok h0' (Sh.err_two ps)
    have hv := Sh.err_zero he
    have hs := Sh.ok_of hok
    have hT : -80000000 ≤ Geo.tot Geo.fanV ps ∧ Geo.tot Geo.fanV ps ≤ 80000000 := by
      have := tot_bd (f := Geo.fanV) (M := 8000000) (Geo.valid_sm hv) (fun s h1 h2 => by have := Geo.fan_bd h1 h2; omega)
      have := Geo.valid_len hv
      omega
    have HTW2 := Lib.hid (HTW.out hv)
    have hL : Sh.knL s (Geo.errV ps) true = Sh.vals (Sh.truthsL s) := by unfold Sh.knL; rw [if_pos h0']
    have hN : ∀ x : Sh.FaS, 0 ≤ (fun _ => Sh.areaN (Geo.tot Geo.fanV ps)) x ∧ (fun _ => Sh.areaN (Geo.tot Geo.fanV ps)) x ≤ 2000000000000000000 := fun x => by have := Sh.areaN_bd hT; dsimp only; omega
    have HST : Hid (∀ k (hk : k < (Sh.truthsL s).length), Sh.widLo (Sh.loK (fun _ => Sh.areaN (Geo.tot Geo.fanV ps)) Sh.areaD (Sh.truthsL s) k) (Sh.areaN (Geo.tot Geo.fanV ps)) ((Geo.ptAt (Sh.vals (Sh.truthsL s)) k).1 * (Geo.ptAt (Sh.vals (Sh.truthsL s)) k).2) (decide (k = 0)) = Sh.loK (fun _ => Sh.areaN (Geo.tot Geo.fanV ps)) Sh.areaD (Sh.truthsL s) (k + 1) ∧ Sh.widHi (Sh.hiK (fun _ => Sh.areaN (Geo.tot Geo.fanV ps)) Sh.areaD (Sh.truthsL s) k) (Sh.areaN (Geo.tot Geo.fanV ps)) ((Geo.ptAt (Sh.vals (Sh.truthsL s)) k).1 * (Geo.ptAt (Sh.vals (Sh.truthsL s)) k).2) (decide (k = 0)) = Sh.hiK (fun _ => Sh.areaN (Geo.tot Geo.fanV ps)) Sh.areaD (Sh.truthsL s) (k + 1)) := fun k hk => by
      rw [Sh.vals_at hk]
      exact Sh.wid_step (fun _ => Sh.areaN (Geo.tot Geo.fanV ps)) Sh.areaD (Sh.truthsL s) hN (fun x => (Sh.areaD_bd x).1) hk
    have HDB : Hid (∀ k, k < (Sh.truthsL s).length → (1 ≤ (Geo.ptAt (Sh.vals (Sh.truthsL s)) k).1 * (Geo.ptAt (Sh.vals (Sh.truthsL s)) k).2 ∧ (Geo.ptAt (Sh.vals (Sh.truthsL s)) k).1 * (Geo.ptAt (Sh.vals (Sh.truthsL s)) k).2 ≤ 4000000)) := fun k hk => by rw [Sh.vals_at hk]; exact Sh.fa_sm _
    have HLO : Hid (Sh.loK (fun _ => Sh.areaN (Geo.tot Geo.fanV ps)) Sh.areaD (Sh.truthsL s) (Sh.truthsL s).length = Sh.areaLoE s ps ∧ Sh.hiK (fun _ => Sh.areaN (Geo.tot Geo.fanV ps)) Sh.areaD (Sh.truthsL s) (Sh.truthsL s).length = Sh.areaHiE s ps) := by
      unfold Hid Sh.areaLoE Sh.areaHiE
      rw [if_pos h0, if_pos h0]
      exact Sh.lo_end _ _ hne
    have HAN : Hid (Sh.areaN (Geo.tot Geo.fanV ps) = Sh.absV (Geo.tot Geo.fanV ps) * 1000000) := Sh.area_abs _
    have HAB : Hid (∀ W, Calls Try.prog 103 #[.int .i64 (Geo.tot Geo.fanV ps)] W fun e w' => e = .returned (.int .i64 (Sh.absV (Geo.tot Geo.fanV ps))) ∧ w' = W) := fun W => absR_any _ W (by omega)
    have hnn := Sh.areaN_bd hT
    have hlen := Sh.truthsL_len s hs
    have HW0 : Hid (∀ l h n d first W, (0 ≤ n ∧ n ≤ 2000000000000000000) → (1 ≤ d ∧ d ≤ 100000000000000) → Calls Try.prog 102 #[.agg #[.int .i64 l, .int .i64 h], .int .i64 n, .int .i64 d, .bool first] W (SpanPost (Sh.widLo l n d first) (Sh.widHi h n d first) W)) := fun l h n d first W h1 h2 => wider4_any l h n d first W h1 h2
    rw [hL, h0] at HK
    rw [h0]
    have hvl : (Sh.truthsL s).length = (Sh.vals (Sh.truthsL s)).length := (Sh.vals_len _).symm
    obtain ⟨LO, hLO⟩ : ∃ LO : Nat → Int, LO = Sh.loK (fun _ => Sh.areaN (Geo.tot Geo.fanV ps)) Sh.areaD (Sh.truthsL s) := ⟨_, rfl⟩
    obtain ⟨HI, hHI⟩ : ∃ HI : Nat → Int, HI = Sh.hiK (fun _ => Sh.areaN (Geo.tot Geo.fanV ps)) Sh.areaD (Sh.truthsL s) := ⟨_, rfl⟩
    have hz1 : LO 0 = 0 := by rw [hLO]; rfl
    have hz2 : HI 0 = 0 := by rw [hHI]; rfl
    rw [← hLO, ← hHI] at HST HLO
    rw [hvl] at hlen HST HDB HLO
    generalize Sh.areaN (Geo.tot Geo.fanV ps) = NN at *
    generalize Sh.vals (Sh.truthsL s) = P at *
    generalize Sh.areaLoE s ps = lo at *
    generalize Sh.areaHiE s ps = hi at *
    generalize Geo.tot Geo.fanV ps = T at *
    generalize Geo.errV ps = EP at *
    generalize ps.length = np at *
    generalize Sh.absV T = aT at *
    have hw0 : IntKind.i64.wrap (aT * 1000000) = NN := by rw [← HAN.out]; exact IntWalk.i64_in _ (by omega)
    clear hg hl hlp hok hs hne h0 h0' hL hvl HTW hP hv hT he hsp hN hLO hHI HAN
    obtain ⟨al, ah, bl, bh, cs, wrn⟩ := s
    unfold shV at HK ⊢
    dsimp only at *
    go_enter Try.func50, Try.ntmps50
    go_wp2_with fail
    have hB1 : Below w.heap.size w ((w.alloc (.cells #[.int .i64 al, .int .i64 ah, .int .i64 bl, .int .i64 bh, .slice A cs.length c, .int .i64 wrn] 26)).alloc (.cells #[.int .i64 0, .int .i64 0] 23)) := by (repeat' (first | (with_reducible exact Below.refl _ _) | (with_reducible assumption) | (with_reducible refine Below.alloc ?_ ?_ _) | (with_reducible refine Below.drew ?_) | (with_reducible refine Below.setCell ?_ ?_ _) | go_size | (exact (by simp)) | omega))
    have bS1 := (BoxS.new w 26 #[.int .i64 al, .int .i64 ah, .int .i64 bl, .int .i64 bh, .slice A cs.length c, .int .i64 wrn]).alloc (.cells #[.int .i64 0, .int .i64 0] 23)
    have bR1 := BoxS.new (w.alloc (.cells #[.int .i64 al, .int .i64 ah, .int .i64 bl, .int .i64 bh, .slice A cs.length c, .int .i64 wrn] 26)) 23 #[.int .i64 0, .int .i64 0]
    rw [World.size_alloc] at bR1
    generalize World.alloc (World.alloc w _) _ = w1 at *
    refine (wpIn_wide (n := 4)).1 ?_
    have hmo : Try.prog.follows .mixedOrders = true := by kernel_rfl
    have q0 : Below w1.heap.size w1 w1.drew := (Below.refl _ _).drew
    have KC : Hid (∀ W', Below w1.heap.size w1 W' → ((W'.cell? ⟨w.heap.size, 0, none⟩ = some (.int .i64 al) ∧ W'.cell? ⟨w.heap.size, 1, none⟩ = some (.int .i64 ah) ∧ W'.cell? ⟨w.heap.size, 2, none⟩ = some (.int .i64 bl)) ∧ W'.cell? ⟨w.heap.size, 3, none⟩ = some (.int .i64 bh) ∧ W'.cell? ⟨w.heap.size, 4, none⟩ = some (.slice A cs.length c) ∧ W'.cell? ⟨w.heap.size, 5, none⟩ = some (.int .i64 wrn))) := fun W' h => boxS6 (bS1.below h)
    have HCK2 : Hid (∀ W, Below w1.heap.size w1 W → Calls Try.prog 36 #[.slice A2 np c2] W (ErrPost EP W)) := fun W hW => HCK.out W (hB1.trans (hW.mono hB1.size))
    have HK2 := Lib.hid (fun W (hW : Below w1.heap.size w1 W) => HK.out W (hB1.trans (hW.mono hB1.size)))
    refine wpIn_region_held (fun W' => Below w1.heap.size w1 W') 30 hmo ?_
    refine wpHeldIn_take (i := 0) (v := ?_) (plain_of (by kernel_rfl)) rfl (by kernel_rfl) (fun _ _ _ h => h) (yieldsSoIn_of (by kernel_rfl) ?_ (fun _ => rfl)) q0 ?_; rotate_left; focus (intro wq hw; have kq := KC.out wq hw; clear hw; go_simp; try (with_reducible rfl))
    refine wpHeldIn_take (i := 1) (v := ?_) (plain_of (by kernel_rfl)) rfl (by kernel_rfl) (fun _ _ _ h => h) (yieldsSoIn_of (by kernel_rfl) ?_ (fun _ => rfl)) q0 ?_; rotate_left; focus (intro wq hw; clear hw; go_simp; try (with_reducible rfl))
    refine wpHeldIn_one (i := 2) (by kernel_rfl) (by kernel_rfl) rfl (by kernel_rfl) (fun K1 hK1 => ?_)
    go_simp
    refine ⟨trivial, (callsIn_wide.2 (HCK2.out _ q0)).mono ?_⟩
    rintro e2 w2 ⟨rfl, hb2⟩
    have q1 := q0.trans (hb2.mono q0.size)
    refine hK1 _ _ q1 ?_
    refine wpHeldIn_one (i := 3) (by kernel_rfl) (by kernel_rfl) rfl (by kernel_rfl) (fun K3 hK3 => ?_)
    go_simp
    refine ⟨trivial, (callsIn_wide.2 (HK2.out _ q1)).mono ?_⟩
    rintro e4 w4 ⟨A4, c4, rfl, hP4, hb4⟩
    have q2 := q1.trans (hb4.mono q1.size)
    refine hK3 _ _ q2 ?_
    refine wpHeldIn_take (i := 4) (v := ?_) (plain_of (by kernel_rfl)) rfl (by kernel_rfl) (fun _ _ _ h => h) (yieldsSoIn_of (by kernel_rfl) ?_ (fun _ => rfl)) q2 ?_; rotate_left; focus (intro wq hw; clear hw; go_simp; try (with_reducible rfl))
    refine wpHeldIn_take (i := 5) (v := ?_) (plain_of (by kernel_rfl)) rfl (by kernel_rfl) (fun _ _ _ h => h) (yieldsSoIn_of (by kernel_rfl) ?_ (fun _ => rfl)) q2 ?_; rotate_left; focus (intro wq hw; clear hw; go_simp; try (with_reducible rfl))
    refine wpHeldIn_take (i := 6) (v := ?_) (plain_of (by kernel_rfl)) rfl (by kernel_rfl) (fun _ _ _ h => h) (yieldsSoIn_of (by kernel_rfl) ?_ (fun _ => rfl)) q2 ?_; rotate_left; focus (intro wq hw; clear hw; go_simp; try (with_reducible rfl))
    refine wpHeldIn_take (i := 7) (v := ?_) (plain_of (by kernel_rfl)) rfl (by kernel_rfl) (fun _ _ _ h => h) (yieldsSoIn_of (by kernel_rfl) ?_ (fun _ => rfl)) q2 ?_; rotate_left; focus (intro wq hw; clear hw; go_simp; try (with_reducible rfl))
    refine wpHeldIn_take (i := 8) (v := ?_) (plain_of (by kernel_rfl)) rfl (by kernel_rfl) (fun _ _ _ h => h) (yieldsSoIn_of (by kernel_rfl) ?_ (fun _ => rfl)) q2 ?_; rotate_left; focus (intro wq hw; clear hw; go_simp; try (with_reducible rfl))
    refine wpHeldIn_done (by kernel_rfl) ?_ _
    go_simp
    have hB4 := hB1.trans (q2.mono hB1.size)
    have bR4 := bR1.below q2
    clear hb2 hb4 q2 KC q0 q1 HCK2 HK2 HCK HK bS1 bR1 hB1
    go_wp2_with fail
    have bO5 := BoxS.new w4 23 #[.int .i64 0, .int .i64 0]
    have hbx : Below w4.heap.size w4 (w4.alloc (.cells #[.int .i64 0, .int .i64 0] 23)) := (Below.refl _ _).alloc (Nat.le_refl _) _
    have bR5 := bR4.below hbx
    have hB5 := hB4.trans (hbx.mono hB4.size)
    obtain ⟨BO, hBO⟩ : ∃ B, B = w4.heap.size := ⟨_, rfl⟩
    have hP5 : Hid (Prs (w4.alloc (.cells #[.int .i64 0, .int .i64 0] 23)) BO A4 P) := by rw [hBO]; exact hP4.out.keep hbx
    have k1 : w.heap.size + 1 < BO := by have := bR4.lt; omega
    rw [← hBO] at bO5 ⊢
    clear hP4 bR4 hB4 hbx hBO
    generalize World.alloc w4 _ = w5 at *
    go_loopg [9] P.length (fun g x9 wx => ∃ k : Nat, Hid (k + g = P.length) ∧ (k : Int) ≤ P.length ∧ x9 = .int .i64 k ∧ Below w.heap.size w wx ∧ Below BO w5 wx ∧ BoxS wx BO 23 #[.int .i64 (LO k), .int .i64 (HI k)])
    case atStart => exact ⟨0, by simp [Hid], by omega, rfl, hB5, Below.refl _ _, by rw [hz1, hz2]; exact bO5⟩
    case round =>
      obtain ⟨k, hk, hk1, rfl, hB, hbb, bO⟩ := hrel
      have hk0 := Int.natCast_nonneg k
      by_cases hlt : (k : Int) < P.length
      · clear hB5 bO5
        have hkn : k < P.length := by omega
        have hPk : P[k]? = some (Geo.ptAt P k) := by unfold Geo.ptAt; rw [List.getElem?_eq_getElem hkn]; rfl
        obtain ⟨bp, op, rfl, hbp, hcp⟩ := hP5.out (by omega)
        obtain ⟨h0, h1⟩ := hcp k _ hPk
        have HCC : Hid (∀ W', Below wr.heap.size wr W' → (W'.cell? ⟨bp, op + k * 2, none⟩ = some (.int .i64 (Geo.ptAt P k).1) ∧ W'.cell? ⟨bp, op + k * 2 + 1, none⟩ = some (.int .i64 (Geo.ptAt P k).2)) ∧ (W'.cell? ⟨BO, 0, none⟩ = some (.int .i64 (LO k)) ∧ W'.cell? ⟨BO, 1, none⟩ = some (.int .i64 (HI k)))) := fun W' hW => by
          have hBW := hbb.trans (hW.mono (by have := bO.lt; omega))
          exact ⟨⟨(hBW.cell (p := ⟨bp, _, none⟩) hbp).trans h0, (hBW.cell (p := ⟨bp, _, none⟩) hbp).trans h1⟩, boxS2 (bO.below hW)⟩
        obtain ⟨st1, st2⟩ := HST.out k hkn
        have hdb := HDB.out k hkn
        have hw1 : IntKind.i64.wrap ((k : Int) + 1) = (k : Int) + 1 := IntWalk.i64_in _ (by omega)
        have HTW3 : Hid (∀ W, Below wr.heap.size wr W → Calls Try.prog 32 #[.slice A2 np c2] W fun e w' => e = .returned (.int .i64 T) ∧ Below W.heap.size W w') := fun W hW => HTW2.out W (hB.trans (hW.mono hB.size))
        have e0 : ((k : Int) == 0) = decide (k = 0) := by by_cases h : k = 0 <;> simp [h]
        have lO := bO.lt
        clear h0 h1 hcp hPk
        generalize decide (k = 0) = fst at *
        generalize Geo.ptAt P k = q at *
        obtain ⟨q1, q2⟩ := q
        dsimp only at HCC st1 st2 hdb
        obtain ⟨D, hD⟩ : ∃ D, D = q1 * q2 := ⟨_, rfl⟩
        rw [← hD] at st1 st2 hdb
        have hw2 : IntKind.i64.wrap (q1 * q2) = D := by rw [← hD]; exact IntWalk.i64_in _ (by omega)
        have HW1 : Hid (∀ W, Calls Try.prog 102 #[.agg #[.int .i64 (LO k), .int .i64 (HI k)], .int .i64 NN, .int .i64 D, .bool fst] W (SpanPost (LO (k + 1)) (HI (k + 1)) W)) := fun W => by
          rw [← st1, ← st2]
          exact HW0.out _ _ NN D fst W (by omega) (by omega)
        clear st1 st2 hD hdb
        go_wp2_with fail
        refine (wpIn_wide (n := 4)).1 ?_
        have hmo : Try.prog.follows .mixedOrders = true := by kernel_rfl
        have q0 : Below wr.heap.size wr wr.drew := (Below.refl _ _).drew
        refine wpIn_region_held (fun W' => Below wr.heap.size wr W') 19 hmo ?_
        refine wpHeldIn_take (i := 0) (v := ?_) (plain_of (by kernel_rfl)) rfl (by kernel_rfl) (fun _ _ _ h => h) (yieldsSoIn_of (by kernel_rfl) ?_ (fun _ => rfl)) q0 ?_; rotate_left; focus (intro wq hw; have kq := HCC.out wq hw; clear hw; go_simp; try (with_reducible rfl))
        refine wpHeldIn_take (i := 1) (v := ?_) (plain_of (by kernel_rfl)) rfl (by kernel_rfl) (fun _ _ _ h => h) (yieldsSoIn_of (by kernel_rfl) ?_ (fun _ => rfl)) q0 ?_; rotate_left; focus (intro wq hw; clear hw; go_simp; try (with_reducible rfl))
        refine wpHeldIn_take (i := 5) (v := ?_) (plain_of (by kernel_rfl)) rfl (by kernel_rfl) (fun _ _ _ h => h) (yieldsSoIn_of (by kernel_rfl) ?_ (fun _ => rfl)) q0 ?_; rotate_left; focus (intro wq hw; clear hw; go_simp; try (with_reducible rfl))
        refine wpHeldIn_take (i := 6) (v := ?_) (plain_of (by kernel_rfl)) rfl (by kernel_rfl) (fun _ _ _ h => h) (yieldsSoIn_of (by kernel_rfl) ?_ (fun _ => rfl)) q0 ?_; rotate_left; focus (intro wq hw; clear hw; go_simp; try (with_reducible rfl))
        refine wpHeldIn_take (i := 7) (v := ?_) (plain_of (by kernel_rfl)) rfl (by kernel_rfl) (fun _ _ _ h => h) (yieldsSoIn_of (by kernel_rfl) ?_ (fun _ => rfl)) q0 ?_; rotate_left; focus (intro wq hw; clear hw; go_simp; try (with_reducible rfl))
        refine wpHeldIn_take (i := 8) (v := ?_) (plain_of (by kernel_rfl)) rfl (by kernel_rfl) (fun _ _ _ h => h) (yieldsSoIn_of (by kernel_rfl) ?_ (fun _ => rfl)) q0 ?_; rotate_left; focus (intro wq hw; clear hw; go_simp; try (with_reducible rfl))
        refine wpHeldIn_take (i := 9) (v := ?_) (plain_of (by kernel_rfl)) rfl (by kernel_rfl) (fun _ _ _ h => h) (yieldsSoIn_of (by kernel_rfl) ?_ (fun _ => rfl)) q0 ?_; rotate_left; focus (intro wq hw; have kq := HCC.out wq hw; clear hw; go_simp; try (with_reducible rfl))
        refine wpHeldIn_take (i := 10) (v := ?_) (plain_of (by kernel_rfl)) rfl (by kernel_rfl) (fun _ _ _ h => h) (yieldsSoIn_of (by kernel_rfl) ?_ (fun _ => rfl)) q0 ?_; rotate_left; focus (intro wq hw; clear hw; go_simp; try (with_reducible rfl))
        refine wpHeldIn_take (i := 11) (v := ?_) (plain_of (by kernel_rfl)) rfl (by kernel_rfl) (fun _ _ _ h => h) (yieldsSoIn_of (by kernel_rfl) ?_ (fun _ => rfl)) q0 ?_; rotate_left; focus (intro wq hw; clear hw; go_simp; try (with_reducible rfl))
        refine wpHeldIn_take (i := 12) (v := ?_) (plain_of (by kernel_rfl)) rfl (by kernel_rfl) (fun _ _ _ h => h) (yieldsSoIn_of (by kernel_rfl) ?_ (fun _ => rfl)) q0 ?_; rotate_left; focus (intro wq hw; clear hw; go_simp; try (with_reducible rfl))
        refine wpHeldIn_take (i := 13) (v := ?_) (plain_of (by kernel_rfl)) rfl (by kernel_rfl) (fun _ _ _ h => h) (yieldsSoIn_of (by kernel_rfl) ?_ (fun _ => rfl)) q0 ?_; rotate_left; focus (intro wq hw; clear hw; go_simp; try (with_reducible rfl))
        refine wpHeldIn_take (i := 14) (v := ?_) (plain_of (by kernel_rfl)) rfl (by kernel_rfl) (fun _ _ _ h => h) (yieldsSoIn_of (by kernel_rfl) ?_ (fun _ => rfl)) q0 ?_; rotate_left; focus (intro wq hw; have kq := HCC.out wq hw; clear hw; go_simp; try (with_reducible rfl))
        refine wpHeldIn_take (i := 15) (v := ?_) (plain_of (by kernel_rfl)) rfl (by kernel_rfl) (fun _ _ _ h => h) (yieldsSoIn_of (by kernel_rfl) ?_ (fun _ => rfl)) q0 ?_; rotate_left; focus (intro wq hw; clear hw; go_simp; try (with_reducible rfl))
        refine wpHeldIn_take (i := 16) (v := ?_) (plain_of (by kernel_rfl)) rfl (by kernel_rfl) (fun _ _ _ h => h) (yieldsSoIn_of (by kernel_rfl) ?_ (fun _ => rfl)) q0 ?_; rotate_left; focus (intro wq hw; clear hw; go_simp; try (with_reducible rfl))
        refine wpHeldIn_take (i := 17) (v := ?_) (plain_of (by kernel_rfl)) rfl (by kernel_rfl) (fun _ _ _ h => h) (yieldsSoIn_of (by kernel_rfl) ?_ (fun _ => rfl)) q0 ?_; rotate_left; focus (intro wq hw; clear hw; go_simp; try (with_reducible rfl))
        refine wpHeldIn_one (i := 2) (by kernel_rfl) (by kernel_rfl) rfl (by kernel_rfl) (fun K1 hK1 => ?_)
        go_simp
        refine ⟨trivial, (callsIn_wide.2 (HTW3.out _ q0)).mono ?_⟩
        rintro e6 w6 ⟨rfl, hb6⟩
        have q1' := q0.trans (hb6.mono q0.size)
        refine hK1 _ _ q1' ?_
        refine wpHeldIn_one (i := 3) (by kernel_rfl) (by kernel_rfl) rfl (by kernel_rfl) (fun K2 hK2 => ?_)
        go_simp
        refine ⟨trivial, (callsIn_wide.2 (HAB.out _)).mono ?_⟩
        rintro e7 w7 ⟨rfl, rfl⟩
        refine hK2 _ _ q1' ?_
        refine wpHeldIn_take (i := 4) (v := ?_) (plain_of (by kernel_rfl)) rfl (by kernel_rfl) (fun _ _ _ h => h) (yieldsSoIn_of (by kernel_rfl) ?_ (fun _ => rfl)) q1' ?_; rotate_left; focus (intro wq hw; clear hw; go_simp; try (with_reducible rfl))
        try rw [e0]
        refine wpHeldIn_one (i := 18) (by kernel_rfl) (by kernel_rfl) rfl (by kernel_rfl) (fun K3 hK3 => ?_)
        go_simp
        try rw [e0]
        refine ⟨trivial, (callsIn_wide.2 (HW1.out _)).mono ?_⟩
        rintro e8 w8 ⟨rfl, hb8⟩
        have q2' := q1'.trans (hb8.mono q1'.size)
        refine hK3 _ _ q2' ?_
        have bO8 := bO.below q2'
        have hB8 := hB.trans (q2'.mono hB.size)
        have hbb8 := hbb.trans (q2'.mono (by omega))
        have lO8 := bO8.lt
        have o0 := bO8.cell 0 rfl
        have o1 := bO8.cell 1 rfl
        have g0 := bO8.frozen 0
        have g1 := bO8.frozen 1
        clear q0 q1' q2' hb6 hb8 HCC HW1 HTW3 bO hB hbb
        refine wpHeldIn_last (by kernel_rfl) rfl (by kernel_rfl) (fun K4 hK4 => ?_)
        go_simp
        refine hK4 _ _ ?_
        refine wpHeldIn_done (by kernel_rfl) ?_ _
        go_simp
        have bO9 : BoxS ((w8.setCell ⟨BO, 0, none⟩ (.int .i64 (LO (k + 1)))).setCell ⟨BO, 1, none⟩ (.int .i64 (HI (k + 1)))) BO 23 #[.int .i64 (LO (k + 1)), .int .i64 (HI (k + 1))] := (two_put (two_put bO8 _).1 _).2
        have hB9 : Below w.heap.size w ((w8.setCell ⟨BO, 0, none⟩ (.int .i64 (LO (k + 1)))).setCell ⟨BO, 1, none⟩ (.int .i64 (HI (k + 1)))) := Below.setCell (Below.setCell hB8 (by simp; omega) _) (by simp; omega) _
        have hbb9 : Below BO w5 ((w8.setCell ⟨BO, 0, none⟩ (.int .i64 (LO (k + 1)))).setCell ⟨BO, 1, none⟩ (.int .i64 (HI (k + 1)))) := Below.setCell (Below.setCell hbb8 (by simp) _) (by simp) _
        clear o0 o1 g0 g1 bO8 hB8 hbb8
        generalize World.setCell (World.setCell w8 _ _) _ _ = w9 at *
        go_wp2_with fail
        obtain ⟨g', hg'⟩ : ∃ g', gk = g' + 1 := ⟨gk - 1, by have := hk.out; omega⟩
        go_roundg g'
        case measure => omega
        case rel => exact ⟨k + 1, by have := hk.out; simp only [Hid]; omega, by omega, by go_num, by first | exact hB9 | exact hB9.drew, by first | exact hbb9 | exact hbb9.drew, bO9⟩
      · obtain rfl : k = P.length := by omega
        rw [HLO.out.1, HLO.out.2] at bO
        have bR := (show BoxS wr (w.heap.size + 1) 23 #[.int .i64 0, .int .i64 0] from (hbb.block _ (by omega)).trans bR5)
        have lR := bR.lt
        obtain ⟨o0, o1⟩ := boxS2 bO
        obtain ⟨r0, r1⟩ := boxS2 bR
        have g0 := bR.frozen 0
        have g1 := bR.frozen 1
        go_wp2_with fail
        have bRz := (two_put (two_put bR (.int .i64 lo)).1 (.int .i64 hi)).2
        have hBz : Below w.heap.size w ((wr.setCell ⟨w.heap.size + 1, 0, none⟩ (.int .i64 lo)).setCell ⟨w.heap.size + 1, 1, none⟩ (.int .i64 hi)) := by (repeat' (first | (with_reducible exact Below.refl _ _) | (with_reducible assumption) | (with_reducible refine Below.alloc ?_ ?_ _) | (with_reducible refine Below.drew ?_) | (with_reducible refine Below.setCell ?_ ?_ _) | go_size | (exact (by simp)) | omega))
        clear o0 o1 r0 r1 g0 g1
        generalize World.setCell (World.setCell wr _ _) _ _ = wz at *
        obtain ⟨r0, r1⟩ := boxS2 bRz
        exact bodyPost_ret (v := .tuple #[.agg #[.int .i64 lo, .int .i64 hi], .int .i64 0]) (by simp [results, Try.results50, go_sem, r0, r1]) rfl ⟨rfl, hBz⟩
  · have hne : (Sh.areaE s ps != 0) = true := by simpa using h0
    have hL : Sh.knL s (Geo.errV ps) true = [] := Sh.kn_of (Sh.areaE_kn s ps).symm h0
    unfold Sh.areaLoE Sh.areaHiE
    rw [if_neg h0, if_neg h0]
    rw [hL] at HK
    generalize Sh.areaE s ps = E at *
    generalize Geo.errV ps = EP at *
    generalize ps.length = np at *
    clear hg hl hlp h0 hL HTW hP
    obtain ⟨al, ah, bl, bh, cs, wrn⟩ := s
    unfold shV at HK ⊢
    dsimp only at *
    go_enter Try.func50, Try.ntmps50
    go_wp2_with fail
    have hB1 : Below w.heap.size w ((w.alloc (.cells #[.int .i64 al, .int .i64 ah, .int .i64 bl, .int .i64 bh, .slice A cs.length c, .int .i64 wrn] 26)).alloc (.cells #[.int .i64 0, .int .i64 0] 23)) := by (repeat' (first | (with_reducible exact Below.refl _ _) | (with_reducible assumption) | (with_reducible refine Below.alloc ?_ ?_ _) | (with_reducible refine Below.drew ?_) | (with_reducible refine Below.setCell ?_ ?_ _) | go_size | (exact (by simp)) | omega))
    have bS1 := (BoxS.new w 26 #[.int .i64 al, .int .i64 ah, .int .i64 bl, .int .i64 bh, .slice A cs.length c, .int .i64 wrn]).alloc (.cells #[.int .i64 0, .int .i64 0] 23)
    have bR1 := BoxS.new (w.alloc (.cells #[.int .i64 al, .int .i64 ah, .int .i64 bl, .int .i64 bh, .slice A cs.length c, .int .i64 wrn] 26)) 23 #[.int .i64 0, .int .i64 0]
    rw [World.size_alloc] at bR1
    generalize World.alloc (World.alloc w _) _ = w1 at *
    refine (wpIn_wide (n := 4)).1 ?_
    have hmo : Try.prog.follows .mixedOrders = true := by kernel_rfl
    have q0 : Below w1.heap.size w1 w1.drew := (Below.refl _ _).drew
    have KC : Hid (∀ W', Below w1.heap.size w1 W' → ((W'.cell? ⟨w.heap.size, 0, none⟩ = some (.int .i64 al) ∧ W'.cell? ⟨w.heap.size, 1, none⟩ = some (.int .i64 ah) ∧ W'.cell? ⟨w.heap.size, 2, none⟩ = some (.int .i64 bl)) ∧ W'.cell? ⟨w.heap.size, 3, none⟩ = some (.int .i64 bh) ∧ W'.cell? ⟨w.heap.size, 4, none⟩ = some (.slice A cs.length c) ∧ W'.cell? ⟨w.heap.size, 5, none⟩ = some (.int .i64 wrn))) := fun W' h => boxS6 (bS1.below h)
    have HCK2 : Hid (∀ W, Below w1.heap.size w1 W → Calls Try.prog 36 #[.slice A2 np c2] W (ErrPost EP W)) := fun W hW => HCK.out W (hB1.trans (hW.mono hB1.size))
    have HK2 := Lib.hid (fun W (hW : Below w1.heap.size w1 W) => HK.out W (hB1.trans (hW.mono hB1.size)))
    refine wpIn_region_held (fun W' => Below w1.heap.size w1 W') 30 hmo ?_
    refine wpHeldIn_take (i := 0) (v := ?_) (plain_of (by kernel_rfl)) rfl (by kernel_rfl) (fun _ _ _ h => h) (yieldsSoIn_of (by kernel_rfl) ?_ (fun _ => rfl)) q0 ?_; rotate_left; focus (intro wq hw; have kq := KC.out wq hw; clear hw; go_simp; try (with_reducible rfl))
    refine wpHeldIn_take (i := 1) (v := ?_) (plain_of (by kernel_rfl)) rfl (by kernel_rfl) (fun _ _ _ h => h) (yieldsSoIn_of (by kernel_rfl) ?_ (fun _ => rfl)) q0 ?_; rotate_left; focus (intro wq hw; clear hw; go_simp; try (with_reducible rfl))
    refine wpHeldIn_one (i := 2) (by kernel_rfl) (by kernel_rfl) rfl (by kernel_rfl) (fun K1 hK1 => ?_)
    go_simp
    refine ⟨trivial, (callsIn_wide.2 (HCK2.out _ q0)).mono ?_⟩
    rintro e2 w2 ⟨rfl, hb2⟩
    have q1 := q0.trans (hb2.mono q0.size)
    refine hK1 _ _ q1 ?_
    refine wpHeldIn_one (i := 3) (by kernel_rfl) (by kernel_rfl) rfl (by kernel_rfl) (fun K3 hK3 => ?_)
    go_simp
    refine ⟨trivial, (callsIn_wide.2 (HK2.out _ q1)).mono ?_⟩
    rintro e4 w4 ⟨A4, c4, rfl, hP4, hb4⟩
    have q2 := q1.trans (hb4.mono q1.size)
    refine hK3 _ _ q2 ?_
    refine wpHeldIn_take (i := 4) (v := ?_) (plain_of (by kernel_rfl)) rfl (by kernel_rfl) (fun _ _ _ h => h) (yieldsSoIn_of (by kernel_rfl) ?_ (fun _ => rfl)) q2 ?_; rotate_left; focus (intro wq hw; clear hw; go_simp; try (with_reducible rfl))
    refine wpHeldIn_take (i := 5) (v := ?_) (plain_of (by kernel_rfl)) rfl (by kernel_rfl) (fun _ _ _ h => h) (yieldsSoIn_of (by kernel_rfl) ?_ (fun _ => rfl)) q2 ?_; rotate_left; focus (intro wq hw; clear hw; go_simp; try (with_reducible rfl))
    refine wpHeldIn_take (i := 6) (v := ?_) (plain_of (by kernel_rfl)) rfl (by kernel_rfl) (fun _ _ _ h => h) (yieldsSoIn_of (by kernel_rfl) ?_ (fun _ => rfl)) q2 ?_; rotate_left; focus (intro wq hw; clear hw; go_simp; try (with_reducible rfl))
    refine wpHeldIn_take (i := 7) (v := ?_) (plain_of (by kernel_rfl)) rfl (by kernel_rfl) (fun _ _ _ h => h) (yieldsSoIn_of (by kernel_rfl) ?_ (fun _ => rfl)) q2 ?_; rotate_left; focus (intro wq hw; clear hw; go_simp; try (with_reducible rfl))
    refine wpHeldIn_take (i := 8) (v := ?_) (plain_of (by kernel_rfl)) rfl (by kernel_rfl) (fun _ _ _ h => h) (yieldsSoIn_of (by kernel_rfl) ?_ (fun _ => rfl)) q2 ?_; rotate_left; focus (intro wq hw; clear hw; go_simp; try (with_reducible rfl))
    refine wpHeldIn_done (by kernel_rfl) ?_ _
    go_simp
    have hB4 := hB1.trans (q2.mono hB1.size)
    have bR4 := bR1.below q2
    clear hb2 hb4 q2 KC q0 q1 HCK2 HK2 HCK HK bS1 bR1 hB1
    go_wp2_with fail
    have bO5 := BoxS.new w4 23 #[.int .i64 0, .int .i64 0]
    have hbx : Below w4.heap.size w4 (w4.alloc (.cells #[.int .i64 0, .int .i64 0] 23)) := (Below.refl _ _).alloc (Nat.le_refl _) _
    have bR5 := bR4.below hbx
    have hB5 := hB4.trans (hbx.mono hB4.size)
    obtain ⟨BO, hBO⟩ : ∃ B, B = w4.heap.size := ⟨_, rfl⟩
    have k1 : w.heap.size + 1 < BO := by have := bR4.lt; omega
    rw [← hBO] at bO5 ⊢
    clear hP4 bR4 hB4 hbx hBO
    generalize World.alloc w4 _ = w5 at *
    go_loopg [9] 0 (fun g x9 wx => x9 = .int .i64 0 ∧ wx = w5)
    case atStart => exact ⟨rfl, rfl⟩
    case round =>
      obtain ⟨rfl, rfl⟩ := hrel
      have bO := bO5
      have bR := bR5
      have hB := hB5
      have lR := bR.lt
      obtain ⟨o0, o1⟩ := boxS2 bO
      obtain ⟨r0, r1⟩ := boxS2 bR
      have g0 := bR.frozen 0
      have g1 := bR.frozen 1
      go_wp2_with fail
      have bRz := (two_put (two_put bR (.int .i64 0)).1 (.int .i64 0)).2
      have hBz : Below w.heap.size w ((wr.setCell ⟨w.heap.size + 1, 0, none⟩ (.int .i64 0)).setCell ⟨w.heap.size + 1, 1, none⟩ (.int .i64 0)) := by (repeat' (first | (with_reducible exact Below.refl _ _) | (with_reducible assumption) | (with_reducible refine Below.alloc ?_ ?_ _) | (with_reducible refine Below.drew ?_) | (with_reducible refine Below.setCell ?_ ?_ _) | go_size | (exact (by simp)) | omega))
      clear o0 o1 r0 r1 g0 g1
      generalize World.setCell (World.setCell wr _ _) _ _ = wz at *
      obtain ⟨r0, r1⟩ := boxS2 bRz
      exact bodyPost_ret (v := .tuple #[.agg #[.int .i64 0, .int .i64 0], .int .i64 E]) (by simp [results, Try.results50, go_sem, r0, r1]) rfl ⟨rfl, hBz⟩
end Go.Proofs.Ytgpmnkdagpcffaa
