/- Sheets: Agrees, with each error. -/
import Derived.Test.YtgpmnkdagpcffaaKn
namespace Go.Proofs.Ytgpmnkdagpcffaa
open Go.RowKit
set_option maxRecDepth 100000 in
set_option maxHeartbeats 4000000 in
theorem Agrees_bad (s : Sheet) (A : Option Addr) (c : Nat) (A2 : Option Addr) (c2 : Nat) (ps : List Geo.Pt) (deed off : Int) (w : World) (hl : s.cs.length ≤ 1000000000) (hlp : ps.length ≤ 100) (hg : Cts w w.heap.size A s.cs) (hP : Prs w w.heap.size A2 ps) (hok : Sh.okB s = false) :
    Calls Try.prog 30 #[.agg (shV s A c), .slice A2 ps.length c2, .int .i64 deed, .int .i64 off] w (TwoPost 0 40 w) := by
  have HC : Hid (∀ W, Below w.heap.size w W → Calls Try.prog 41 #[.agg (shV s A c)] W (ErrPost (Sh.chkE s) W)) := fun W hW => shCheck_any s A c W hl ((hg.keep hW).wider hW.size)
  have HT : Hid (∀ W, Below w.heap.size w W → Calls Try.prog 29 #[.slice A2 ps.length c2] W (TwoPost (Geo.whenV ps (Geo.tot Geo.fanV ps)) (Geo.errV ps) W)) := fun W hW => Twice_any A2 c2 ps hlp W (prs_keep hP hW)
  have HS : Hid (∀ W, Below w.heap.size w W → Calls Try.prog 60 #[.agg (shV s A c)] W (SpPost (Sh.spV s A c) (Sh.spE s) W)) := fun W hW => spread_any s A c W hl ((hg.keep hW).wider hW.size)
  have HI1 : Hid (∀ W, Calls Try.prog 82 #[.int .i64 deed, .int .i64 0, .int .i64 999999] W fun e w' => e = .returned (.bool (inB deed 0 999999)) ∧ w' = W) := fun W => within_any deed 0 999999 W
  have HI2 : Hid (∀ W, Calls Try.prog 82 #[.int .i64 off, .int .i64 0, .int .i64 999999] W fun e w' => e = .returned (.bool (inB off 0 999999)) ∧ w' = W) := fun W => within_any off 0 999999 W
  rw [Sh.chkE_no hok] at HC
  clear HT HS HI1 HI2
  generalize Geo.tot Geo.fanV ps = T at *
  generalize ps.length = np at *
  clear hg hP hl hlp hok
  obtain ⟨al, ah, bl, bh, cs, wrn⟩ := s
  unfold shV at *
  dsimp only at *
  go_enter Try.func30, Try.ntmps30
  go_wp2_with fail
  have bS1 := ((BoxS.new w 26 #[.int .i64 al, .int .i64 ah, .int .i64 bl, .int .i64 bh, .slice A cs.length c, .int .i64 wrn]).alloc (.cells #[.int .i64 deed] 3)).alloc (.cells #[.int .i64 off] 3)
  have bD1 := (BoxS.new (w.alloc (.cells #[.int .i64 al, .int .i64 ah, .int .i64 bl, .int .i64 bh, .slice A cs.length c, .int .i64 wrn] 26)) 3 #[.int .i64 deed]).alloc (.cells #[.int .i64 off] 3)
  have bO1 := BoxS.new ((w.alloc (.cells #[.int .i64 al, .int .i64 ah, .int .i64 bl, .int .i64 bh, .slice A cs.length c, .int .i64 wrn] 26)).alloc (.cells #[.int .i64 deed] 3)) 3 #[.int .i64 off]
  have hB1 : Below w.heap.size w (((w.alloc (.cells #[.int .i64 al, .int .i64 ah, .int .i64 bl, .int .i64 bh, .slice A cs.length c, .int .i64 wrn] 26)).alloc (.cells #[.int .i64 deed] 3)).alloc (.cells #[.int .i64 off] 3)) := by (repeat' (first | (with_reducible exact Below.refl _ _) | (with_reducible assumption) | (with_reducible refine Below.alloc ?_ ?_ _) | (with_reducible refine Below.drew ?_) | (with_reducible refine Below.setCell ?_ ?_ _) | go_size | (exact (by simp)) | omega))
  simp only [World.size_alloc] at bD1 bO1
  generalize World.alloc (World.alloc (World.alloc w _) _) _ = w1 at *
  refine (HC.out _ hB1).mono ?_
  rintro e w2 ⟨rfl, hb2⟩
  have bS2 := bS1.below hb2
  have bD2 := bD1.below hb2
  have bO2 := bO1.below hb2
  have hB2 := hB1.trans (hb2.mono hB1.size)
  clear bS1 bD1 bO1 hb2 hB1 HC
  go_wp2_with fail
  go_returns
  exact ⟨rfl, hB2⟩

set_option maxRecDepth 100000 in
set_option maxHeartbeats 4000000 in
theorem Agrees_flat (s : Sheet) (A : Option Addr) (c : Nat) (A2 : Option Addr) (c2 : Nat) (ps : List Geo.Pt) (deed off : Int) (w : World) (hl : s.cs.length ≤ 1000000000) (hlp : ps.length ≤ 100) (hg : Cts w w.heap.size A s.cs) (hP : Prs w w.heap.size A2 ps) (hok : Sh.okB s = true) (hv : Geo.validB ps = false) :
    Calls Try.prog 30 #[.agg (shV s A c), .slice A2 ps.length c2, .int .i64 deed, .int .i64 off] w (TwoPost 0 20 w) := by
  have HC : Hid (∀ W, Below w.heap.size w W → Calls Try.prog 41 #[.agg (shV s A c)] W (ErrPost (Sh.chkE s) W)) := fun W hW => shCheck_any s A c W hl ((hg.keep hW).wider hW.size)
  have HT : Hid (∀ W, Below w.heap.size w W → Calls Try.prog 29 #[.slice A2 ps.length c2] W (TwoPost (Geo.whenV ps (Geo.tot Geo.fanV ps)) (Geo.errV ps) W)) := fun W hW => Twice_any A2 c2 ps hlp W (prs_keep hP hW)
  have HS : Hid (∀ W, Below w.heap.size w W → Calls Try.prog 60 #[.agg (shV s A c)] W (SpPost (Sh.spV s A c) (Sh.spE s) W)) := fun W hW => spread_any s A c W hl ((hg.keep hW).wider hW.size)
  have HI1 : Hid (∀ W, Calls Try.prog 82 #[.int .i64 deed, .int .i64 0, .int .i64 999999] W fun e w' => e = .returned (.bool (inB deed 0 999999)) ∧ w' = W) := fun W => within_any deed 0 999999 W
  have HI2 : Hid (∀ W, Calls Try.prog 82 #[.int .i64 off, .int .i64 0, .int .i64 999999] W fun e w' => e = .returned (.bool (inB off 0 999999)) ∧ w' = W) := fun W => within_any off 0 999999 W
  rw [Sh.chkE_yes hok] at HC
  rw [Geo.whenV_no hv, Geo.errV_no hv] at HT
  clear HS HI1 HI2
  generalize Geo.tot Geo.fanV ps = T at *
  generalize ps.length = np at *
  clear hg hP hl hlp hok hv
  obtain ⟨al, ah, bl, bh, cs, wrn⟩ := s
  unfold shV at *
  dsimp only at *
  go_enter Try.func30, Try.ntmps30
  go_wp2_with fail
  have bS1 := ((BoxS.new w 26 #[.int .i64 al, .int .i64 ah, .int .i64 bl, .int .i64 bh, .slice A cs.length c, .int .i64 wrn]).alloc (.cells #[.int .i64 deed] 3)).alloc (.cells #[.int .i64 off] 3)
  have bD1 := (BoxS.new (w.alloc (.cells #[.int .i64 al, .int .i64 ah, .int .i64 bl, .int .i64 bh, .slice A cs.length c, .int .i64 wrn] 26)) 3 #[.int .i64 deed]).alloc (.cells #[.int .i64 off] 3)
  have bO1 := BoxS.new ((w.alloc (.cells #[.int .i64 al, .int .i64 ah, .int .i64 bl, .int .i64 bh, .slice A cs.length c, .int .i64 wrn] 26)).alloc (.cells #[.int .i64 deed] 3)) 3 #[.int .i64 off]
  have hB1 : Below w.heap.size w (((w.alloc (.cells #[.int .i64 al, .int .i64 ah, .int .i64 bl, .int .i64 bh, .slice A cs.length c, .int .i64 wrn] 26)).alloc (.cells #[.int .i64 deed] 3)).alloc (.cells #[.int .i64 off] 3)) := by (repeat' (first | (with_reducible exact Below.refl _ _) | (with_reducible assumption) | (with_reducible refine Below.alloc ?_ ?_ _) | (with_reducible refine Below.drew ?_) | (with_reducible refine Below.setCell ?_ ?_ _) | go_size | (exact (by simp)) | omega))
  simp only [World.size_alloc] at bD1 bO1
  generalize World.alloc (World.alloc (World.alloc w _) _) _ = w1 at *
  refine (HC.out _ hB1).mono ?_
  rintro e w2 ⟨rfl, hb2⟩
  have bS2 := bS1.below hb2
  have bD2 := bD1.below hb2
  have bO2 := bO1.below hb2
  have hB2 := hB1.trans (hb2.mono hB1.size)
  clear bS1 bD1 bO1 hb2 hB1 HC
  go_wp2_with fail
  refine (HT.out _ hB2).mono ?_
  rintro e w3 ⟨rfl, hb3⟩
  have bS3 := bS2.below hb3
  have bD3 := bD2.below hb3
  have bO3 := bO2.below hb3
  have hB3 := hB2.trans (hb3.mono hB2.size)
  clear bS2 bD2 bO2 hb3 hB2 HT
  obtain ⟨⟨s0, s1, s2⟩, s3, s4, s5⟩ := boxS6 bS3
  have d0 := bD3.cell 0 rfl
  have o0 := bO3.cell 0 rfl
  have ls := bO3.lt
  have ld := bD3.lt
  have lss := bS3.lt
  clear s0 s1 s2 s3 s4 s5 d0 o0
  go_wp2_with fail
  go_returns
  exact ⟨rfl, (hB3.alloc hB3.size _)⟩

set_option maxRecDepth 100000 in
set_option maxHeartbeats 4000000 in
theorem Agrees_deed (s : Sheet) (A : Option Addr) (c : Nat) (A2 : Option Addr) (c2 : Nat) (ps : List Geo.Pt) (deed off : Int) (w : World) (hl : s.cs.length ≤ 1000000000) (hlp : ps.length ≤ 100) (hg : Cts w w.heap.size A s.cs) (hP : Prs w w.heap.size A2 ps) (hok : Sh.okB s = true) (hv : Geo.validB ps = true) (hd : inB deed 0 999999 = false) :
    Calls Try.prog 30 #[.agg (shV s A c), .slice A2 ps.length c2, .int .i64 deed, .int .i64 off] w (TwoPost 0 1 w) := by
  have HC : Hid (∀ W, Below w.heap.size w W → Calls Try.prog 41 #[.agg (shV s A c)] W (ErrPost (Sh.chkE s) W)) := fun W hW => shCheck_any s A c W hl ((hg.keep hW).wider hW.size)
  have HT : Hid (∀ W, Below w.heap.size w W → Calls Try.prog 29 #[.slice A2 ps.length c2] W (TwoPost (Geo.whenV ps (Geo.tot Geo.fanV ps)) (Geo.errV ps) W)) := fun W hW => Twice_any A2 c2 ps hlp W (prs_keep hP hW)
  have HS : Hid (∀ W, Below w.heap.size w W → Calls Try.prog 60 #[.agg (shV s A c)] W (SpPost (Sh.spV s A c) (Sh.spE s) W)) := fun W hW => spread_any s A c W hl ((hg.keep hW).wider hW.size)
  have HI1 : Hid (∀ W, Calls Try.prog 82 #[.int .i64 deed, .int .i64 0, .int .i64 999999] W fun e w' => e = .returned (.bool (inB deed 0 999999)) ∧ w' = W) := fun W => within_any deed 0 999999 W
  have HI2 : Hid (∀ W, Calls Try.prog 82 #[.int .i64 off, .int .i64 0, .int .i64 999999] W fun e w' => e = .returned (.bool (inB off 0 999999)) ∧ w' = W) := fun W => within_any off 0 999999 W
  rw [Sh.chkE_yes hok] at HC
  rw [Geo.whenV_yes hv, Geo.errV_yes hv] at HT
  rw [hd] at HI1
  clear HS HI2
  generalize Geo.tot Geo.fanV ps = T at *
  generalize ps.length = np at *
  clear hg hP hl hlp hok hv hd
  obtain ⟨al, ah, bl, bh, cs, wrn⟩ := s
  unfold shV at *
  dsimp only at *
  go_enter Try.func30, Try.ntmps30
  go_wp2_with fail
  have bS1 := ((BoxS.new w 26 #[.int .i64 al, .int .i64 ah, .int .i64 bl, .int .i64 bh, .slice A cs.length c, .int .i64 wrn]).alloc (.cells #[.int .i64 deed] 3)).alloc (.cells #[.int .i64 off] 3)
  have bD1 := (BoxS.new (w.alloc (.cells #[.int .i64 al, .int .i64 ah, .int .i64 bl, .int .i64 bh, .slice A cs.length c, .int .i64 wrn] 26)) 3 #[.int .i64 deed]).alloc (.cells #[.int .i64 off] 3)
  have bO1 := BoxS.new ((w.alloc (.cells #[.int .i64 al, .int .i64 ah, .int .i64 bl, .int .i64 bh, .slice A cs.length c, .int .i64 wrn] 26)).alloc (.cells #[.int .i64 deed] 3)) 3 #[.int .i64 off]
  have hB1 : Below w.heap.size w (((w.alloc (.cells #[.int .i64 al, .int .i64 ah, .int .i64 bl, .int .i64 bh, .slice A cs.length c, .int .i64 wrn] 26)).alloc (.cells #[.int .i64 deed] 3)).alloc (.cells #[.int .i64 off] 3)) := by (repeat' (first | (with_reducible exact Below.refl _ _) | (with_reducible assumption) | (with_reducible refine Below.alloc ?_ ?_ _) | (with_reducible refine Below.drew ?_) | (with_reducible refine Below.setCell ?_ ?_ _) | go_size | (exact (by simp)) | omega))
  simp only [World.size_alloc] at bD1 bO1
  generalize World.alloc (World.alloc (World.alloc w _) _) _ = w1 at *
  refine (HC.out _ hB1).mono ?_
  rintro e w2 ⟨rfl, hb2⟩
  have bS2 := bS1.below hb2
  have bD2 := bD1.below hb2
  have bO2 := bO1.below hb2
  have hB2 := hB1.trans (hb2.mono hB1.size)
  clear bS1 bD1 bO1 hb2 hB1 HC
  go_wp2_with fail
  refine (HT.out _ hB2).mono ?_
  rintro e w3 ⟨rfl, hb3⟩
  have bS3 := bS2.below hb3
  have bD3 := bD2.below hb3
  have bO3 := bO2.below hb3
  have hB3 := hB2.trans (hb3.mono hB2.size)
  clear bS2 bD2 bO2 hb3 hB2 HT
  obtain ⟨⟨s0, s1, s2⟩, s3, s4, s5⟩ := boxS6 bS3
  have d0 := bD3.cell 0 rfl
  have o0 := bO3.cell 0 rfl
  have ls := bO3.lt
  have ld := bD3.lt
  have lss := bS3.lt
  go_wp2_with fail
  have bS4 := bS3.alloc (.cells #[.int .i64 T] 3)
  have bD4 := bD3.alloc (.cells #[.int .i64 T] 3)
  have bO4 := bO3.alloc (.cells #[.int .i64 T] 3)
  have hB4 : Below w.heap.size w (w3.alloc (.cells #[.int .i64 T] 3)) := hB3.alloc hB3.size _
  clear s0 s1 s2 s3 s4 s5 bS3 bD3 bO3 d0 o0
  generalize World.alloc w3 _ = w4 at *
  refine (HI1.out _).mono ?_
  rintro e w4b ⟨rfl, rfl⟩
  obtain ⟨⟨s0, s1, s2⟩, s3, s4, s5⟩ := boxS6 bS4
  have o0 := bO4.cell 0 rfl
  go_wp2_with fail
  go_returns
  exact ⟨rfl, hB4⟩

set_option maxRecDepth 100000 in
set_option maxHeartbeats 4000000 in
theorem Agrees_off (s : Sheet) (A : Option Addr) (c : Nat) (A2 : Option Addr) (c2 : Nat) (ps : List Geo.Pt) (deed off : Int) (w : World) (hl : s.cs.length ≤ 1000000000) (hlp : ps.length ≤ 100) (hg : Cts w w.heap.size A s.cs) (hP : Prs w w.heap.size A2 ps) (hok : Sh.okB s = true) (hv : Geo.validB ps = true) (hd : inB deed 0 999999 = true) (ho : inB off 0 999999 = false) :
    Calls Try.prog 30 #[.agg (shV s A c), .slice A2 ps.length c2, .int .i64 deed, .int .i64 off] w (TwoPost 0 1 w) := by
  have HC : Hid (∀ W, Below w.heap.size w W → Calls Try.prog 41 #[.agg (shV s A c)] W (ErrPost (Sh.chkE s) W)) := fun W hW => shCheck_any s A c W hl ((hg.keep hW).wider hW.size)
  have HT : Hid (∀ W, Below w.heap.size w W → Calls Try.prog 29 #[.slice A2 ps.length c2] W (TwoPost (Geo.whenV ps (Geo.tot Geo.fanV ps)) (Geo.errV ps) W)) := fun W hW => Twice_any A2 c2 ps hlp W (prs_keep hP hW)
  have HS : Hid (∀ W, Below w.heap.size w W → Calls Try.prog 60 #[.agg (shV s A c)] W (SpPost (Sh.spV s A c) (Sh.spE s) W)) := fun W hW => spread_any s A c W hl ((hg.keep hW).wider hW.size)
  have HI1 : Hid (∀ W, Calls Try.prog 82 #[.int .i64 deed, .int .i64 0, .int .i64 999999] W fun e w' => e = .returned (.bool (inB deed 0 999999)) ∧ w' = W) := fun W => within_any deed 0 999999 W
  have HI2 : Hid (∀ W, Calls Try.prog 82 #[.int .i64 off, .int .i64 0, .int .i64 999999] W fun e w' => e = .returned (.bool (inB off 0 999999)) ∧ w' = W) := fun W => within_any off 0 999999 W
  rw [Sh.chkE_yes hok] at HC
  rw [Geo.whenV_yes hv, Geo.errV_yes hv] at HT
  rw [hd] at HI1
  rw [ho] at HI2
  clear HS
  generalize Geo.tot Geo.fanV ps = T at *
  generalize ps.length = np at *
  clear hg hP hl hlp hok hv hd ho
  obtain ⟨al, ah, bl, bh, cs, wrn⟩ := s
  unfold shV at *
  dsimp only at *
  go_enter Try.func30, Try.ntmps30
  go_wp2_with fail
  have bS1 := ((BoxS.new w 26 #[.int .i64 al, .int .i64 ah, .int .i64 bl, .int .i64 bh, .slice A cs.length c, .int .i64 wrn]).alloc (.cells #[.int .i64 deed] 3)).alloc (.cells #[.int .i64 off] 3)
  have bD1 := (BoxS.new (w.alloc (.cells #[.int .i64 al, .int .i64 ah, .int .i64 bl, .int .i64 bh, .slice A cs.length c, .int .i64 wrn] 26)) 3 #[.int .i64 deed]).alloc (.cells #[.int .i64 off] 3)
  have bO1 := BoxS.new ((w.alloc (.cells #[.int .i64 al, .int .i64 ah, .int .i64 bl, .int .i64 bh, .slice A cs.length c, .int .i64 wrn] 26)).alloc (.cells #[.int .i64 deed] 3)) 3 #[.int .i64 off]
  have hB1 : Below w.heap.size w (((w.alloc (.cells #[.int .i64 al, .int .i64 ah, .int .i64 bl, .int .i64 bh, .slice A cs.length c, .int .i64 wrn] 26)).alloc (.cells #[.int .i64 deed] 3)).alloc (.cells #[.int .i64 off] 3)) := by (repeat' (first | (with_reducible exact Below.refl _ _) | (with_reducible assumption) | (with_reducible refine Below.alloc ?_ ?_ _) | (with_reducible refine Below.drew ?_) | (with_reducible refine Below.setCell ?_ ?_ _) | go_size | (exact (by simp)) | omega))
  simp only [World.size_alloc] at bD1 bO1
  generalize World.alloc (World.alloc (World.alloc w _) _) _ = w1 at *
  refine (HC.out _ hB1).mono ?_
  rintro e w2 ⟨rfl, hb2⟩
  have bS2 := bS1.below hb2
  have bD2 := bD1.below hb2
  have bO2 := bO1.below hb2
  have hB2 := hB1.trans (hb2.mono hB1.size)
  clear bS1 bD1 bO1 hb2 hB1 HC
  go_wp2_with fail
  refine (HT.out _ hB2).mono ?_
  rintro e w3 ⟨rfl, hb3⟩
  have bS3 := bS2.below hb3
  have bD3 := bD2.below hb3
  have bO3 := bO2.below hb3
  have hB3 := hB2.trans (hb3.mono hB2.size)
  clear bS2 bD2 bO2 hb3 hB2 HT
  obtain ⟨⟨s0, s1, s2⟩, s3, s4, s5⟩ := boxS6 bS3
  have d0 := bD3.cell 0 rfl
  have o0 := bO3.cell 0 rfl
  have ls := bO3.lt
  have ld := bD3.lt
  have lss := bS3.lt
  go_wp2_with fail
  have bS4 := bS3.alloc (.cells #[.int .i64 T] 3)
  have bD4 := bD3.alloc (.cells #[.int .i64 T] 3)
  have bO4 := bO3.alloc (.cells #[.int .i64 T] 3)
  have hB4 : Below w.heap.size w (w3.alloc (.cells #[.int .i64 T] 3)) := hB3.alloc hB3.size _
  clear s0 s1 s2 s3 s4 s5 bS3 bD3 bO3 d0 o0
  generalize World.alloc w3 _ = w4 at *
  refine (HI1.out _).mono ?_
  rintro e w4b ⟨rfl, rfl⟩
  obtain ⟨⟨s0, s1, s2⟩, s3, s4, s5⟩ := boxS6 bS4
  have o0 := bO4.cell 0 rfl
  go_wp2_with fail
  refine (HI2.out _).mono ?_
  rintro e w4c ⟨rfl, rfl⟩
  go_wp2_with fail
  go_returns
  exact ⟨rfl, hB4⟩

set_option maxRecDepth 100000 in
set_option maxHeartbeats 4000000 in
theorem Agrees_none (s : Sheet) (A : Option Addr) (c : Nat) (A2 : Option Addr) (c2 : Nat) (ps : List Geo.Pt) (deed off : Int) (w : World) (hl : s.cs.length ≤ 1000000000) (hlp : ps.length ≤ 100) (hg : Cts w w.heap.size A s.cs) (hP : Prs w w.heap.size A2 ps) (hok : Sh.okB s = true) (hv : Geo.validB ps = true) (hd : inB deed 0 999999 = true) (ho : inB off 0 999999 = true) (h3 : Sh.spE s = 3) :
    Calls Try.prog 30 #[.agg (shV s A c), .slice A2 ps.length c2, .int .i64 deed, .int .i64 off] w (TwoPost 0 3 w) := by
  have HC : Hid (∀ W, Below w.heap.size w W → Calls Try.prog 41 #[.agg (shV s A c)] W (ErrPost (Sh.chkE s) W)) := fun W hW => shCheck_any s A c W hl ((hg.keep hW).wider hW.size)
  have HT : Hid (∀ W, Below w.heap.size w W → Calls Try.prog 29 #[.slice A2 ps.length c2] W (TwoPost (Geo.whenV ps (Geo.tot Geo.fanV ps)) (Geo.errV ps) W)) := fun W hW => Twice_any A2 c2 ps hlp W (prs_keep hP hW)
  have HS : Hid (∀ W, Below w.heap.size w W → Calls Try.prog 60 #[.agg (shV s A c)] W (SpPost (Sh.spV s A c) (Sh.spE s) W)) := fun W hW => spread_any s A c W hl ((hg.keep hW).wider hW.size)
  have HI1 : Hid (∀ W, Calls Try.prog 82 #[.int .i64 deed, .int .i64 0, .int .i64 999999] W fun e w' => e = .returned (.bool (inB deed 0 999999)) ∧ w' = W) := fun W => within_any deed 0 999999 W
  have HI2 : Hid (∀ W, Calls Try.prog 82 #[.int .i64 off, .int .i64 0, .int .i64 999999] W fun e w' => e = .returned (.bool (inB off 0 999999)) ∧ w' = W) := fun W => within_any off 0 999999 W
  rw [Sh.chkE_yes hok] at HC
  rw [Geo.whenV_yes hv, Geo.errV_yes hv] at HT
  rw [hd] at HI1
  rw [ho] at HI2
  rw [Sh.spV_no (by rw [h3]; decide), h3] at HS
  generalize Geo.tot Geo.fanV ps = T at *
  generalize ps.length = np at *
  clear hg hP hl hlp hok hv hd ho h3
  obtain ⟨al, ah, bl, bh, cs, wrn⟩ := s
  unfold shV at *
  dsimp only at *
  go_enter Try.func30, Try.ntmps30
  go_wp2_with fail
  have bS1 := ((BoxS.new w 26 #[.int .i64 al, .int .i64 ah, .int .i64 bl, .int .i64 bh, .slice A cs.length c, .int .i64 wrn]).alloc (.cells #[.int .i64 deed] 3)).alloc (.cells #[.int .i64 off] 3)
  have bD1 := (BoxS.new (w.alloc (.cells #[.int .i64 al, .int .i64 ah, .int .i64 bl, .int .i64 bh, .slice A cs.length c, .int .i64 wrn] 26)) 3 #[.int .i64 deed]).alloc (.cells #[.int .i64 off] 3)
  have bO1 := BoxS.new ((w.alloc (.cells #[.int .i64 al, .int .i64 ah, .int .i64 bl, .int .i64 bh, .slice A cs.length c, .int .i64 wrn] 26)).alloc (.cells #[.int .i64 deed] 3)) 3 #[.int .i64 off]
  have hB1 : Below w.heap.size w (((w.alloc (.cells #[.int .i64 al, .int .i64 ah, .int .i64 bl, .int .i64 bh, .slice A cs.length c, .int .i64 wrn] 26)).alloc (.cells #[.int .i64 deed] 3)).alloc (.cells #[.int .i64 off] 3)) := by (repeat' (first | (with_reducible exact Below.refl _ _) | (with_reducible assumption) | (with_reducible refine Below.alloc ?_ ?_ _) | (with_reducible refine Below.drew ?_) | (with_reducible refine Below.setCell ?_ ?_ _) | go_size | (exact (by simp)) | omega))
  simp only [World.size_alloc] at bD1 bO1
  generalize World.alloc (World.alloc (World.alloc w _) _) _ = w1 at *
  refine (HC.out _ hB1).mono ?_
  rintro e w2 ⟨rfl, hb2⟩
  have bS2 := bS1.below hb2
  have bD2 := bD1.below hb2
  have bO2 := bO1.below hb2
  have hB2 := hB1.trans (hb2.mono hB1.size)
  clear bS1 bD1 bO1 hb2 hB1 HC
  go_wp2_with fail
  refine (HT.out _ hB2).mono ?_
  rintro e w3 ⟨rfl, hb3⟩
  have bS3 := bS2.below hb3
  have bD3 := bD2.below hb3
  have bO3 := bO2.below hb3
  have hB3 := hB2.trans (hb3.mono hB2.size)
  clear bS2 bD2 bO2 hb3 hB2 HT
  obtain ⟨⟨s0, s1, s2⟩, s3, s4, s5⟩ := boxS6 bS3
  have d0 := bD3.cell 0 rfl
  have o0 := bO3.cell 0 rfl
  have ls := bO3.lt
  have ld := bD3.lt
  have lss := bS3.lt
  go_wp2_with fail
  have bS4 := bS3.alloc (.cells #[.int .i64 T] 3)
  have bD4 := bD3.alloc (.cells #[.int .i64 T] 3)
  have bO4 := bO3.alloc (.cells #[.int .i64 T] 3)
  have hB4 : Below w.heap.size w (w3.alloc (.cells #[.int .i64 T] 3)) := hB3.alloc hB3.size _
  clear s0 s1 s2 s3 s4 s5 bS3 bD3 bO3 d0 o0
  generalize World.alloc w3 _ = w4 at *
  refine (HI1.out _).mono ?_
  rintro e w4b ⟨rfl, rfl⟩
  obtain ⟨⟨s0, s1, s2⟩, s3, s4, s5⟩ := boxS6 bS4
  have o0 := bO4.cell 0 rfl
  go_wp2_with fail
  refine (HI2.out _).mono ?_
  rintro e w4c ⟨rfl, rfl⟩
  go_wp2_with fail
  refine (HS.out _ hB4).mono ?_
  rintro e w5 ⟨rfl, hb5⟩
  have hB5 := hB4.trans (hb5.mono hB4.size)
  clear hb5 hB4 HS s0 s1 s2 s3 s4 s5 o0
  go_wp2_with fail
  go_returns
  exact ⟨rfl, (hB5.alloc hB5.size _)⟩

theorem Agrees_any (s : Sheet) (A : Option Addr) (c : Nat) (A2 : Option Addr) (c2 : Nat) (ps : List Geo.Pt) (deed off : Int) (w : World) (hl : s.cs.length ≤ 1000000000) (hlp : ps.length ≤ 100) (hg : Cts w w.heap.size A s.cs) (hP : Prs w w.heap.size A2 ps) :
    Calls Try.prog 30 #[.agg (shV s A c), .slice A2 ps.length c2, .int .i64 deed, .int .i64 off] w (TwoPost (Sh.agV s ps deed off) (Sh.agE s ps deed off) w) := by
  have he : Sh.agE s ps deed off = if Sh.okB s then (if Geo.errV ps = 0 then (if Sh.deedB deed off then (if Sh.truthsL s = [] then 3 else 0) else 1) else Geo.errV ps) else 40 := rfl
  have hv0 : ∀ x, Sh.agE s ps deed off = x → x ≠ 0 → Sh.agV s ps deed off = 0 := fun x h hx => by unfold Sh.agV; rw [h, if_neg hx]
  cases hok : Sh.okB s with
  | false =>
    have h1 : Sh.agE s ps deed off = 40 := by rw [he, hok]; rfl
    rw [hv0 _ h1 (by decide), h1]
    exact Agrees_bad s A c A2 c2 ps deed off w hl hlp hg hP hok
  | true =>
    rw [hok, if_pos rfl] at he
    cases hv : Geo.validB ps with
    | false =>
      have h1 : Sh.agE s ps deed off = 20 := by rw [he, Geo.errV_no hv]; rfl
      rw [hv0 _ h1 (by decide), h1]
      exact Agrees_flat s A c A2 c2 ps deed off w hl hlp hg hP hok hv
    | true =>
      rw [Geo.errV_yes hv, if_pos rfl] at he
      have hdb : Sh.deedB deed off = (inB deed 0 999999 && inB off 0 999999) := rfl
      cases hd : inB deed 0 999999 with
      | false =>
        have h1 : Sh.agE s ps deed off = 1 := by rw [he, hdb, hd]; rfl
        rw [hv0 _ h1 (by decide), h1]
        exact Agrees_deed s A c A2 c2 ps deed off w hl hlp hg hP hok hv hd
      | true =>
        cases ho : inB off 0 999999 with
        | false =>
          have h1 : Sh.agE s ps deed off = 1 := by rw [he, hdb, hd, ho]; rfl
          rw [hv0 _ h1 (by decide), h1]
          exact Agrees_off s A c A2 c2 ps deed off w hl hlp hg hP hok hv hd ho
        | true =>
          rw [hdb, hd, ho] at he
          replace he : Sh.agE s ps deed off = if Sh.truthsL s = [] then 3 else 0 := he
          by_cases ht : Sh.truthsL s = []
          · rw [if_pos ht] at he
            rw [hv0 _ he (by decide), he]
            exact Agrees_none s A c A2 c2 ps deed off w hl hlp hg hP hok hv hd ho (Sh.sp_none hok ht)
          · rw [if_neg ht] at he
            have h1 : Sh.agV s ps deed off = Sh.knownV (Sh.agreeB (Geo.tot Geo.fanV ps) deed off) (Sh.truthsL s) := by unfold Sh.agV; rw [if_pos he]
            rw [h1, he]
            exact Agrees_yes s (Sh.sp_yes hok ht) A c A2 c2 ps hv deed off (inB_true.1 hd) (inB_true.1 ho) w hg hP
end Go.Proofs.Ytgpmnkdagpcffaa

namespace Go.Proofs.Ytgpmnkdagpcffaa
open Go.RowKit
theorem point_info : (Try.prog.info? 43).map (fun i => (i.zero, i.size, i.bytes)) = some (some (.agg #[.int .i64 0, .int .i64 0]), 2, 16) := by kernel_rfl
theorem own_formP {w : World} {B : Nat} {e : TypeId} {v : Value} {n : Nat} {xs : List Value} (h : w.ownsRow B e 2 v n xs) : ∃ A c, v = .slice A n c := by
  rcases h.2 with ⟨rfl, rfl⟩ | ⟨g, cap, cur, rfl, _⟩
  · exact ⟨none, 0, rfl⟩
  · exact ⟨some ⟨g, 0, none⟩, cap, rfl⟩
theorem prsP_of_own {w : World} {B : Nat} {e : TypeId} {A : Option Addr} {c : Nat} {gs : List (Int × Int)} (h : w.ownsRow B e 2 (.slice A gs.length c) gs.length (flat gs)) : Prs w w.heap.size A gs :=
  Prs.of_reads (Reads.of_own h)
/-- 'append([]Point{}, l...)': a copy in new memory. -/
theorem wpList_copy {ops : Array Oper} {rest : List Oper} {o : Oper} {a : Act} {Q : Exit → Act → World → Prop} {wr : World} (hgd : o.guard = none) (s y : Operand)
    (ho : o.op = .call { callee := .builtin .append, args := #[s, y], argTypes := #[27, 27] }) (A : Option Addr) (c : Nat) (gs : List (Int × Int)) (g : Nat) (hsz : g = wr.heap.size)
    (hs : a.eval s = .slice (some ⟨g, 0, none⟩) 0 0) (hx : a.eval y = .slice A gs.length c) (hg : Prs wr wr.heap.size A gs) (hn : gs.length ≤ 1000000000)
    (h : ∀ A' c' w', w'.ownsRow wr.heap.size 43 2 (.slice A' gs.length c') gs.length (flat gs) → Below wr.heap.size wr w' → wpList Try.prog ops Q rest (a.put o.dst (.slice A' gs.length c')) w') :
    wpList Try.prog ops Q (o :: rest) a (wr.alloc (.cells #[] 43)) := by
  subst hsz
  obtain ⟨i0, hi0, hz0, hz1, hz2⟩ := info_partsQ point_info
  have hb0 : Below wr.heap.size wr (wr.alloc (.cells #[] 43)) := (Below.refl _ _).alloc (Nat.le_refl _) _
  refine wpList_append_any _ hgd s y 27 ho wr.heap.size 43 i0 (.agg #[.int .i64 0, .int .i64 0]) 2 16 Try.underlying27 hi0 hz0 hz1 hz2 rfl (by decide) (.slice (some ⟨wr.heap.size, 0, none⟩) 0 0) 0 [] hs
    (World.ownsRow_made wr #[] 0 (Nat.le_refl _) (by simp [maxLen]) rfl) wr.heap.size A gs.length c (flat gs) hx (hg.keep hb0).reads (flat_one gs) (by simp only [maxLen]; omega) (by omega) (by simp) ?_
  intro v' w' hown hgr hat
  rw [Nat.zero_add, List.nil_append] at hown
  obtain ⟨A', c', rfl⟩ := own_formP hown
  exact h A' c' w' hown (hb0.grown hgr (by simp) (fun j hj => by
    have : j = wr.heap.size := by simpa [Value.ownBlock] using hj.symm
    omega))
def CopyPost (ps : List (Int × Int)) (w : World) (e : Ending) (w' : World) : Prop := ∃ A c, e = .returned (.slice A ps.length c) ∧ Prs w' w'.heap.size A ps ∧ Below w.heap.size w w'

set_option maxHeartbeats 1000000 in
theorem Copy_any (A : Option Addr) (c : Nat) (ps : List (Int × Int)) (hl : ps.length ≤ 1000000000) (w : World) (hP : Prs w w.heap.size A ps) :
    Calls Try.prog 49 #[.slice A ps.length c] w (CopyPost ps w) := by
  have HP := Lib.hid hP
  clear hP
  go_enter Try.func49, Try.ntmps49
  go_wp2_with (at_builtin; go_must (refine wpList_copy rfl (.tmp 3) (.tmp 4) rfl A c ps w.heap.size rfl rfl rfl HP.out hl ?_; intro A' c' w1 hown1 hb1; have HO1 := Lib.hid (prsP_of_own hown1); clear hown1))
  go_returns
  exact ⟨A', c', rfl, HO1.out, hb1⟩

set_option maxRecDepth 100000 in
set_option maxHeartbeats 1000000 in
theorem Same_yes (A A2 : Option Addr) (c c2 : Nat) (ps : List (Int × Int)) (hl : ps.length ≤ 100) (w : World) (hP : Prs w w.heap.size A ps) (hP2 : Prs w w.heap.size A2 ps) :
    Calls Try.prog 52 #[.slice A ps.length c, .slice A2 ps.length c2] w fun e w' => e = .returned (.bool true) ∧ Below w.heap.size w w' := by
  have H1 := Lib.hid hP
  have H2 := Lib.hid hP2
  have hll : (ps.length : Int) ≤ 100 := by omega
  clear hP hP2
  go_enter Try.func52, Try.ntmps52
  go_wp2_with fail
  go_loopw [5] (fun x wr => ∃ k : Nat, (k : Int) ≤ ps.length ∧ x = .int .i64 k ∧ Below w.heap.size w wr) (fun x _ => (ps.length - intOf x).toNat)
  case atStart => exact ⟨0, by omega, rfl, Below.refl _ _⟩
  case round =>
    obtain ⟨k, hk, rfl, hB⟩ := hrel
    have hk0 := Int.natCast_nonneg k
    by_cases hlt : (k : Int) < ps.length
    · have hkl : k < ps.length := by omega
      have hg : ps[k]? = some ps[k] := List.getElem?_eq_getElem hkl
      obtain ⟨b, off, rfl, hb, hc⟩ := H1.out (by omega)
      obtain ⟨b2, off2, rfl, hb2, hc2⟩ := H2.out (by omega)
      have d0 := (hB.cell (p := ⟨b, off + k * 2, none⟩) hb).trans (hc k _ hg).1
      have d1 := (hB.cell (p := ⟨b, off + k * 2 + 1, none⟩) hb).trans (hc k _ hg).2
      have d2 := (hB.cell (p := ⟨b2, off2 + k * 2, none⟩) hb2).trans (hc2 k _ hg).1
      have d3 := (hB.cell (p := ⟨b2, off2 + k * 2 + 1, none⟩) hb2).trans (hc2 k _ hg).2
      clear hc hc2 hg H1 H2
      generalize ps[k] = p at *
      obtain ⟨x, y⟩ := p
      dsimp only at d0 d1 d2 d3
      go_wp2_with fail
      go_quiet (fail)
      go_wp2_with fail
      go_roundw
      case rel => exact ⟨k + 1, by omega, by go_num, by (repeat' (first | (with_reducible exact Below.refl _ _) | (with_reducible assumption) | (with_reducible refine Below.alloc ?_ ?_ _) | (with_reducible refine below_drewN ?_ _) | (with_reducible refine Below.drew ?_) | (with_reducible refine Below.setCell ?_ ?_ _) | go_size))⟩
      case measure => simp [intOf]; omega
    · go_wp2_with fail
      go_returns
      exact ⟨rfl, hB⟩

end Go.Proofs.Ytgpmnkdagpcffaa
