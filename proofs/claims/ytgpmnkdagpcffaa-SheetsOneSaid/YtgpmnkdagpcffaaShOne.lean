/- Sheets: the walk of SheetsOne. -/
import Derived.Test.YtgpmnkdagpcffaaShOB
namespace Go.Proofs.Ytgpmnkdagpcffaa
open Go.RowKit
theorem boxS8 {W : World} {B : Nat} {t : TypeId} {a b c d e f g h : Value} (H : BoxS W B t #[a, b, c, d, e, f, g, h]) : (W.cell? ⟨B, 0, none⟩ = some a ∧ W.cell? ⟨B, 1, none⟩ = some b) ∧ W.cell? ⟨B, 2, none⟩ = some c ∧ W.cell? ⟨B, 3, none⟩ = some d := ⟨⟨H.cell 0 rfl, H.cell 1 rfl⟩, H.cell 2 rfl, H.cell 3 rfl⟩
namespace Sh
theorem area_abs (t : Int) : areaN t = absV t * 1000000 := by unfold areaN dist absV; omega
end Sh
def TruePost (w : World) (e : Ending) (w' : World) : Prop := e = .returned (.bool true) ∧ Below w.heap.size w w'

set_option maxRecDepth 100000 in
set_option maxHeartbeats 8000000 in
theorem SheetsOne_walk (s : Sheet) (A : Option Addr) (c : Nat) (ps : List Geo.Pt) (A2 : Option Addr) (c2 : Nat) (f1 f2 tw off ax ay bx by1 : Int) (w : World) (hg : Cts w w.heap.size A s.cs) (hP : Prs w w.heap.size A2 ps) :
    Calls Try.prog 7 #[.agg (shV s A c), .slice A2 ps.length c2, .agg #[.int .i64 f1, .int .i64 f2, .int .i64 tw, .int .i64 off, .int .i64 ax, .int .i64 ay, .int .i64 bx, .int .i64 by1]] w (TruePost w) := by
  have HRD : Hid (∀ W, Below w.heap.size w W → Calls Try.prog 13 #[.agg (shV s A c)] W fun e w' => e = .returned (.bool (Sh.readyB s)) ∧ Below W.heap.size W w') := fun W hW => ready4_any s A c W ((hg.keep hW).wider hW.size)
  have HPO : Hid (∀ W, Below w.heap.size w W → Calls Try.prog 14 #[.slice A2 ps.length c2] W fun e w' => e = .returned (.bool (Sh.polyB ps)) ∧ Below W.heap.size W w') := fun W hW => isPoly_any A2 c2 ps W (prs_keep hP hW)
  have HOK : Hid (Sh.readyB s = true → Sh.Ok s) := fun h => Sh.ok_of (by unfold Sh.readyB at h; exact (Bool.and_eq_true_iff.1 h).2)
  have HTR : Hid (Sh.readyB s = true → ∀ W, Below w.heap.size w W → Calls Try.prog 37 #[.agg (shV s A c), .agg #[.int .i64 f1, .int .i64 f2]] W fun e w' => e = .returned (.bool (Sh.truthB s (f1, f2))) ∧ Below W.heap.size W w') := fun h W hW => IsTruth4_any s (HOK.out h) A c (f1, f2) W ((hg.keep hW).wider hW.size)
  have HDE : Hid (∀ W, Calls Try.prog 38 #[.int .i64 tw, .int .i64 off] W fun e w' => e = .returned (.bool (Sh.deedB tw off)) ∧ w' = W) := fun W => IsDeed_any tw off W
  have HWK : Hid (∀ W, Calls Try.prog 15 #[] W fun e w' => e = .returned (.bool true) ∧ Below W.heap.size W w') := works_any
  have HCO : Hid (Sh.readyB s = true → ∀ W, Below w.heap.size w W → Calls Try.prog 19 #[.agg (shV s A c)] W (Copy4Post s W)) := fun h W hW => Copy4_any s A c (by have := (HOK.out h).n; omega) W ((hg.keep hW).wider hW.size)
  have HMA : Hid (Sh.readyB s = true → Sh.truthB s (f1, f2) = true → ∀ A c W, Cts W W.heap.size A s.cs → Calls Try.prog 17 #[.agg #[.int .i64 f1, .int .i64 f1, .int .i64 f2, .int .i64 f2, .slice A s.cs.length c, .int .i64 s.wr]] W (TwoPost 1 0 W)) := fun h h2 A c W hC => by
    have := Many_any (Sh.oneS s (f1, f2)) A c W (by have := (HOK.out h).n; show s.cs.length ≤ _; omega) hC
    rw [Sh.one_many (HOK.out h) h2, Sh.one_sp (HOK.out h) h2] at this
    exact this
  have HAR : Hid (Sh.readyB s = true → Sh.truthB s (f1, f2) = true → Sh.polyB ps = true → ∀ A c W, Cts W W.heap.size A s.cs → Below w.heap.size w W → Calls Try.prog 23 #[.agg #[.int .i64 f1, .int .i64 f1, .int .i64 f2, .int .i64 f2, .slice A s.cs.length c, .int .i64 s.wr], .slice A2 ps.length c2] W (SpanEPost (Sh.areaLo (Sh.oneS s (f1, f2)) (Geo.tot Geo.fanV ps)) (Sh.areaHi (Sh.oneS s (f1, f2)) (Geo.tot Geo.fanV ps)) 0 W)) := fun h h2 h3 A c W hC hW =>
    Area_yes (Sh.oneS s (f1, f2)) (Sh.one_sp (HOK.out h) h2) A c A2 c2 ps (Bool.and_eq_true_iff.1 h3).2 W hC (prs_keep hP hW)
  have HAL : Hid (Sh.readyB s = true → Sh.truthB s (f1, f2) = true → ∀ A c W, Cts W W.heap.size A s.cs → Calls Try.prog 39 #[.agg #[.int .i64 f1, .int .i64 f1, .int .i64 f2, .int .i64 f2, .slice A s.cs.length c, .int .i64 s.wr]] W (TwoPost (Sh.knownV Sh.alikeB (Sh.truthsL (Sh.oneS s (f1, f2)))) 0 W)) := fun h h2 A c W hC =>
    Alike_yes (Sh.oneS s (f1, f2)) (Sh.one_sp (HOK.out h) h2) A c W hC
  have HAG : Hid (Sh.readyB s = true → Sh.truthB s (f1, f2) = true → Sh.polyB ps = true → Sh.deedB tw off = true → ∀ A c W, Cts W W.heap.size A s.cs → Below w.heap.size w W → Calls Try.prog 30 #[.agg #[.int .i64 f1, .int .i64 f1, .int .i64 f2, .int .i64 f2, .slice A s.cs.length c, .int .i64 s.wr], .slice A2 ps.length c2, .int .i64 tw, .int .i64 off] W (TwoPost (Sh.knownV (Sh.agreeB (Geo.tot Geo.fanV ps) tw off) (Sh.truthsL (Sh.oneS s (f1, f2)))) 0 W)) := fun h h2 h3 h4 A c W hC hW => by
    have hd := Bool.and_eq_true_iff.1 h4
    exact Agrees_yes (Sh.oneS s (f1, f2)) (Sh.one_sp (HOK.out h) h2) A c A2 c2 ps (Bool.and_eq_true_iff.1 h3).2 tw off (inB_true.1 hd.1) (inB_true.1 hd.2) W hC (prs_keep hP hW)
  have HK1 : Hid (Sh.readyB s = true → Sh.truthB s (f1, f2) = true → ∀ b, ¬ Sh.knownV b (Sh.truthsL (Sh.oneS s (f1, f2))) = 3) := fun h h2 b e => by rcases Sh.one_known (HOK.out h) h2 b with e2 | e2 <;> rw [e2] at e <;> cases e
  have HT : Hid (Sh.polyB ps = true → -80000000 ≤ Geo.tot Geo.fanV ps ∧ Geo.tot Geo.fanV ps ≤ 80000000) := fun h => by
    have hv := (Bool.and_eq_true_iff.1 h).2
    have := tot_bd (f := Geo.fanV) (M := 8000000) (Geo.valid_sm hv) (fun s h1 h2 => by have := Geo.fan_bd h1 h2; omega)
    have := Geo.valid_len hv
    omega
  have HAF : Hid (Sh.readyB s = true → Sh.truthB s (f1, f2) = true → Sh.polyB ps = true → (0 ≤ Sh.areaLo (Sh.oneS s (f1, f2)) (Geo.tot Geo.fanV ps) ∧ Sh.areaLo (Sh.oneS s (f1, f2)) (Geo.tot Geo.fanV ps) ≤ Sh.areaHi (Sh.oneS s (f1, f2)) (Geo.tot Geo.fanV ps) ∧ Sh.areaHi (Sh.oneS s (f1, f2)) (Geo.tot Geo.fanV ps) < 1073741824 ∧ Sh.areaHi (Sh.oneS s (f1, f2)) (Geo.tot Geo.fanV ps) - Sh.areaLo (Sh.oneS s (f1, f2)) (Geo.tot Geo.fanV ps) ≤ 1) ∧ Sh.areaLo (Sh.oneS s (f1, f2)) (Geo.tot Geo.fanV ps) * (f1 * f2) ≤ Sh.areaN (Geo.tot Geo.fanV ps) ∧ Sh.areaN (Geo.tot Geo.fanV ps) ≤ Sh.areaHi (Sh.oneS s (f1, f2)) (Geo.tot Geo.fanV ps) * (f1 * f2) ∧ (810000 ≤ f1 * f2 ∧ f1 * f2 ≤ 1210000)) := fun h h2 h3 => Sh.one_area (HOK.out h) h2 (HT.out h3)
  have HTW : Hid (Sh.polyB ps = true → ∀ W, Below w.heap.size w W → Calls Try.prog 32 #[.slice A2 ps.length c2] W fun e w' => e = .returned (.int .i64 (Geo.tot Geo.fanV ps)) ∧ Below W.heap.size W w') := fun h W hW => by
    have hv := (Bool.and_eq_true_iff.1 h).2
    have hlen := Geo.valid_len hv
    have := TwiceOf_any A2 c2 ps (Geo.valid_sm hv) (by omega) (by omega) W (prs_keep hP hW)
    rw [← Geo.twice_eq ps (by omega)] at this
    exact this
  generalize Geo.tot Geo.fanV ps = T at *
  clear hg hP HOK
  unfold Copy4Post at HCO
  obtain ⟨al, ah, bl, bh, cs, wrn⟩ := s
  unfold shV at HRD HTR HCO ⊢
  dsimp only at *
  generalize Sh.areaLo (Sh.oneS ⟨al, ah, bl, bh, cs, wrn⟩ (f1, f2)) T = lo at *
  generalize Sh.areaHi (Sh.oneS ⟨al, ah, bl, bh, cs, wrn⟩ (f1, f2)) T = hi at *
  have HK2 := Lib.hid (fun h h2 => HK1.out h h2 (Sh.agreeB T tw off))
  have HK3 := Lib.hid (fun h h2 => HK1.out h h2 Sh.alikeB)
  clear HK1
  generalize Sh.knownV Sh.alikeB (Sh.truthsL (Sh.oneS ⟨al, ah, bl, bh, cs, wrn⟩ (f1, f2))) = kv1 at *
  generalize Sh.knownV (Sh.agreeB T tw off) (Sh.truthsL (Sh.oneS ⟨al, ah, bl, bh, cs, wrn⟩ (f1, f2))) = kv2 at *
  generalize Sh.readyB ⟨al, ah, bl, bh, cs, wrn⟩ = RB at *
  generalize Sh.truthB ⟨al, ah, bl, bh, cs, wrn⟩ (f1, f2) = TB at *
  generalize Sh.polyB ps = PB at *
  generalize Sh.deedB tw off = DB at *
  generalize ps.length = np at *
  cases RB with
  | false =>
    go_enter Try.func7, Try.ntmps7
    go_wp2_with fail
    have bS1 := (BoxS.new w 26 #[.int .i64 al, .int .i64 ah, .int .i64 bl, .int .i64 bh, .slice A cs.length c, .int .i64 wrn]).alloc (.cells #[.int .i64 f1, .int .i64 f2, .int .i64 tw, .int .i64 off, .int .i64 ax, .int .i64 ay, .int .i64 bx, .int .i64 by1] 74)
    have bT1 := BoxS.new (w.alloc (.cells #[.int .i64 al, .int .i64 ah, .int .i64 bl, .int .i64 bh, .slice A cs.length c, .int .i64 wrn] 26)) 74 #[.int .i64 f1, .int .i64 f2, .int .i64 tw, .int .i64 off, .int .i64 ax, .int .i64 ay, .int .i64 bx, .int .i64 by1]
    rw [World.size_alloc] at bT1
    have hB1 : Below w.heap.size w ((w.alloc (.cells #[.int .i64 al, .int .i64 ah, .int .i64 bl, .int .i64 bh, .slice A cs.length c, .int .i64 wrn] 26)).alloc (.cells #[.int .i64 f1, .int .i64 f2, .int .i64 tw, .int .i64 off, .int .i64 ax, .int .i64 ay, .int .i64 bx, .int .i64 by1] 74)) := by (repeat' (first | (with_reducible exact Below.refl _ _) | (with_reducible assumption) | (with_reducible refine Below.alloc ?_ ?_ _) | (with_reducible refine Below.drew ?_) | (with_reducible refine Below.setCell ?_ ?_ _) | go_size | (exact (by simp)) | omega))
    generalize World.alloc (World.alloc w _) _ = w1 at *
    refine (HRD.out _ hB1).mono ?_
    rintro e w2 ⟨rfl, hb2⟩
    have bS2 := bS1.below hb2
    have bT2 := bT1.below hb2
    have hB2 := hB1.trans (hb2.mono hB1.size)
    clear bS1 bT1 hb2 hB1
    obtain ⟨⟨s0, s1, s2⟩, s3, s4, s5⟩ := boxS6 bS2
    obtain ⟨⟨t0, t1⟩, t2, t3⟩ := boxS8 bT2
    go_wp2_with fail
    refine (HWK.out _).mono ?_
    rintro e w9 ⟨rfl, hb9⟩
    have hB9 := hB2.trans (hb9.mono hB2.size)
    go_wp2_with fail
    go_returns
    exact ⟨rfl, hB9⟩
  | true =>
    have HTR2 := Lib.hid (HTR.out rfl)
    clear HTR
    cases PB with
    | false =>
      go_enter Try.func7, Try.ntmps7
      go_wp2_with fail
      have bS1 := (BoxS.new w 26 #[.int .i64 al, .int .i64 ah, .int .i64 bl, .int .i64 bh, .slice A cs.length c, .int .i64 wrn]).alloc (.cells #[.int .i64 f1, .int .i64 f2, .int .i64 tw, .int .i64 off, .int .i64 ax, .int .i64 ay, .int .i64 bx, .int .i64 by1] 74)
      have bT1 := BoxS.new (w.alloc (.cells #[.int .i64 al, .int .i64 ah, .int .i64 bl, .int .i64 bh, .slice A cs.length c, .int .i64 wrn] 26)) 74 #[.int .i64 f1, .int .i64 f2, .int .i64 tw, .int .i64 off, .int .i64 ax, .int .i64 ay, .int .i64 bx, .int .i64 by1]
      rw [World.size_alloc] at bT1
      have hB1 : Below w.heap.size w ((w.alloc (.cells #[.int .i64 al, .int .i64 ah, .int .i64 bl, .int .i64 bh, .slice A cs.length c, .int .i64 wrn] 26)).alloc (.cells #[.int .i64 f1, .int .i64 f2, .int .i64 tw, .int .i64 off, .int .i64 ax, .int .i64 ay, .int .i64 bx, .int .i64 by1] 74)) := by (repeat' (first | (with_reducible exact Below.refl _ _) | (with_reducible assumption) | (with_reducible refine Below.alloc ?_ ?_ _) | (with_reducible refine Below.drew ?_) | (with_reducible refine Below.setCell ?_ ?_ _) | go_size | (exact (by simp)) | omega))
      generalize World.alloc (World.alloc w _) _ = w1 at *
      refine (HRD.out _ hB1).mono ?_
      rintro e w2 ⟨rfl, hb2⟩
      have bS2 := bS1.below hb2
      have bT2 := bT1.below hb2
      have hB2 := hB1.trans (hb2.mono hB1.size)
      clear bS1 bT1 hb2 hB1
      obtain ⟨⟨s0, s1, s2⟩, s3, s4, s5⟩ := boxS6 bS2
      obtain ⟨⟨t0, t1⟩, t2, t3⟩ := boxS8 bT2
      go_wp2_with fail
      refine (HPO.out _ hB2).mono ?_
      rintro e w3 ⟨rfl, hb3⟩
      have bS3 := bS2.below hb3
      have bT3 := bT2.below hb3
      have hB3 := hB2.trans (hb3.mono hB2.size)
      clear s0 s1 s2 s3 s4 s5 t0 t1 t2 t3 bS2 bT2 hb3 hB2
      obtain ⟨⟨s0, s1, s2⟩, s3, s4, s5⟩ := boxS6 bS3
      obtain ⟨⟨t0, t1⟩, t2, t3⟩ := boxS8 bT3
      go_wp2_with fail
      refine (HWK.out _).mono ?_
      rintro e w9 ⟨rfl, hb9⟩
      have hB9 := hB3.trans (hb9.mono hB3.size)
      go_wp2_with fail
      go_returns
      exact ⟨rfl, hB9⟩
    | true =>
      cases TB with
      | false =>
        go_enter Try.func7, Try.ntmps7
        go_wp2_with fail
        have bS1 := (BoxS.new w 26 #[.int .i64 al, .int .i64 ah, .int .i64 bl, .int .i64 bh, .slice A cs.length c, .int .i64 wrn]).alloc (.cells #[.int .i64 f1, .int .i64 f2, .int .i64 tw, .int .i64 off, .int .i64 ax, .int .i64 ay, .int .i64 bx, .int .i64 by1] 74)
        have bT1 := BoxS.new (w.alloc (.cells #[.int .i64 al, .int .i64 ah, .int .i64 bl, .int .i64 bh, .slice A cs.length c, .int .i64 wrn] 26)) 74 #[.int .i64 f1, .int .i64 f2, .int .i64 tw, .int .i64 off, .int .i64 ax, .int .i64 ay, .int .i64 bx, .int .i64 by1]
        rw [World.size_alloc] at bT1
        have hB1 : Below w.heap.size w ((w.alloc (.cells #[.int .i64 al, .int .i64 ah, .int .i64 bl, .int .i64 bh, .slice A cs.length c, .int .i64 wrn] 26)).alloc (.cells #[.int .i64 f1, .int .i64 f2, .int .i64 tw, .int .i64 off, .int .i64 ax, .int .i64 ay, .int .i64 bx, .int .i64 by1] 74)) := by (repeat' (first | (with_reducible exact Below.refl _ _) | (with_reducible assumption) | (with_reducible refine Below.alloc ?_ ?_ _) | (with_reducible refine Below.drew ?_) | (with_reducible refine Below.setCell ?_ ?_ _) | go_size | (exact (by simp)) | omega))
        generalize World.alloc (World.alloc w _) _ = w1 at *
        refine (HRD.out _ hB1).mono ?_
        rintro e w2 ⟨rfl, hb2⟩
        have bS2 := bS1.below hb2
        have bT2 := bT1.below hb2
        have hB2 := hB1.trans (hb2.mono hB1.size)
        clear bS1 bT1 hb2 hB1
        obtain ⟨⟨s0, s1, s2⟩, s3, s4, s5⟩ := boxS6 bS2
        obtain ⟨⟨t0, t1⟩, t2, t3⟩ := boxS8 bT2
        go_wp2_with fail
        refine (HPO.out _ hB2).mono ?_
        rintro e w3 ⟨rfl, hb3⟩
        have bS3 := bS2.below hb3
        have bT3 := bT2.below hb3
        have hB3 := hB2.trans (hb3.mono hB2.size)
        clear s0 s1 s2 s3 s4 s5 t0 t1 t2 t3 bS2 bT2 hb3 hB2
        obtain ⟨⟨s0, s1, s2⟩, s3, s4, s5⟩ := boxS6 bS3
        obtain ⟨⟨t0, t1⟩, t2, t3⟩ := boxS8 bT3
        go_wp2_with fail
        refine (HTR2.out _ hB3).mono ?_
        rintro e w4 ⟨rfl, hb4⟩
        have bS4 := bS3.below hb4
        have bT4 := bT3.below hb4
        have hB4 := hB3.trans (hb4.mono hB3.size)
        clear s0 s1 s2 s3 s4 s5 t0 t1 t2 t3 bS3 bT3 hb4 hB3
        obtain ⟨⟨s0, s1, s2⟩, s3, s4, s5⟩ := boxS6 bS4
        obtain ⟨⟨t0, t1⟩, t2, t3⟩ := boxS8 bT4
        go_wp2_with fail
        refine (HWK.out _).mono ?_
        rintro e w9 ⟨rfl, hb9⟩
        have hB9 := hB4.trans (hb9.mono hB4.size)
        go_wp2_with fail
        go_returns
        exact ⟨rfl, hB9⟩
      | true =>
        cases DB with
        | false =>
          go_enter Try.func7, Try.ntmps7
          go_wp2_with fail
          have bS1 := (BoxS.new w 26 #[.int .i64 al, .int .i64 ah, .int .i64 bl, .int .i64 bh, .slice A cs.length c, .int .i64 wrn]).alloc (.cells #[.int .i64 f1, .int .i64 f2, .int .i64 tw, .int .i64 off, .int .i64 ax, .int .i64 ay, .int .i64 bx, .int .i64 by1] 74)
          have bT1 := BoxS.new (w.alloc (.cells #[.int .i64 al, .int .i64 ah, .int .i64 bl, .int .i64 bh, .slice A cs.length c, .int .i64 wrn] 26)) 74 #[.int .i64 f1, .int .i64 f2, .int .i64 tw, .int .i64 off, .int .i64 ax, .int .i64 ay, .int .i64 bx, .int .i64 by1]
          rw [World.size_alloc] at bT1
          have hB1 : Below w.heap.size w ((w.alloc (.cells #[.int .i64 al, .int .i64 ah, .int .i64 bl, .int .i64 bh, .slice A cs.length c, .int .i64 wrn] 26)).alloc (.cells #[.int .i64 f1, .int .i64 f2, .int .i64 tw, .int .i64 off, .int .i64 ax, .int .i64 ay, .int .i64 bx, .int .i64 by1] 74)) := by (repeat' (first | (with_reducible exact Below.refl _ _) | (with_reducible assumption) | (with_reducible refine Below.alloc ?_ ?_ _) | (with_reducible refine Below.drew ?_) | (with_reducible refine Below.setCell ?_ ?_ _) | go_size | (exact (by simp)) | omega))
          generalize World.alloc (World.alloc w _) _ = w1 at *
          refine (HRD.out _ hB1).mono ?_
          rintro e w2 ⟨rfl, hb2⟩
          have bS2 := bS1.below hb2
          have bT2 := bT1.below hb2
          have hB2 := hB1.trans (hb2.mono hB1.size)
          clear bS1 bT1 hb2 hB1
          obtain ⟨⟨s0, s1, s2⟩, s3, s4, s5⟩ := boxS6 bS2
          obtain ⟨⟨t0, t1⟩, t2, t3⟩ := boxS8 bT2
          go_wp2_with fail
          refine (HPO.out _ hB2).mono ?_
          rintro e w3 ⟨rfl, hb3⟩
          have bS3 := bS2.below hb3
          have bT3 := bT2.below hb3
          have hB3 := hB2.trans (hb3.mono hB2.size)
          clear s0 s1 s2 s3 s4 s5 t0 t1 t2 t3 bS2 bT2 hb3 hB2
          obtain ⟨⟨s0, s1, s2⟩, s3, s4, s5⟩ := boxS6 bS3
          obtain ⟨⟨t0, t1⟩, t2, t3⟩ := boxS8 bT3
          go_wp2_with fail
          refine (HTR2.out _ hB3).mono ?_
          rintro e w4 ⟨rfl, hb4⟩
          have bS4 := bS3.below hb4
          have bT4 := bT3.below hb4
          have hB4 := hB3.trans (hb4.mono hB3.size)
          clear s0 s1 s2 s3 s4 s5 t0 t1 t2 t3 bS3 bT3 hb4 hB3
          obtain ⟨⟨s0, s1, s2⟩, s3, s4, s5⟩ := boxS6 bS4
          obtain ⟨⟨t0, t1⟩, t2, t3⟩ := boxS8 bT4
          go_wp2_with fail
          refine (HDE.out _).mono ?_
          rintro e wd ⟨rfl, rfl⟩
          go_wp2_with fail
          refine (HWK.out _).mono ?_
          rintro e w9 ⟨rfl, hb9⟩
          have hB9 := hB4.trans (hb9.mono hB4.size)
          go_wp2_with fail
          go_returns
          exact ⟨rfl, hB9⟩
        | true =>
          have HCO2 := Lib.hid (HCO.out rfl)
          have HMA2 := Lib.hid (HMA.out rfl rfl)
          have HAR2 := Lib.hid (HAR.out rfl rfl rfl)
          have HAL2 := Lib.hid (HAL.out rfl rfl)
          have HAG2 := Lib.hid (HAG.out rfl rfl rfl rfl)
          have HTW2 := Lib.hid (HTW.out rfl)
          have k1 : (kv1 == 3) = false := by have := HK3.out rfl rfl; simpa using this
          have k2 : (kv2 == 3) = false := by have := HK2.out rfl rfl; simpa using this
          obtain ⟨⟨a1, a2, a3, a4⟩, b1, b2, d1, d2⟩ := HAF.out rfl rfl rfl
          have hT := HT.out rfl
          clear HCO HMA HAR HAL HAG HTW HK3 HK2 HAF HT
          have HAB : Hid (∀ W, Calls Try.prog 31 #[.int .i64 T] W fun e w' => e = .returned (.int .i64 (Sh.absV T)) ∧ w' = W) := fun W => absL_any T W (by omega)
          have hN0 : 0 ≤ Sh.absV T ∧ Sh.absV T ≤ 80000000 := by unfold Sh.absV; omega
          rw [Sh.area_abs] at b1 b2
          generalize Sh.absV T = aT at *
          obtain ⟨D, hD⟩ : ∃ D, D = f1 * f2 := ⟨_, rfl⟩
          rw [← hD] at b1 b2 d1 d2
          have hw1 : IntKind.i64.wrap (f1 * f2) = D := by rw [← hD]; exact IntWalk.i64_in _ (by omega)
          clear hD
          obtain ⟨N, hN⟩ : ∃ N, N = aT * 1000000 := ⟨_, rfl⟩
          rw [← hN] at b1 b2
          have hw2 : IntKind.i64.wrap (aT * 1000000) = N := by rw [← hN]; exact IntWalk.i64_in _ (by omega)
          have m1 := mul_bd (a := lo) (b := D) (x := 1073741824) (y := 1210000) (by omega) (by omega) (by omega) (by omega)
          have m2 := mul_bd (a := hi) (b := D) (x := 1073741824) (y := 1210000) (by omega) (by omega) (by omega) (by omega)
          obtain ⟨X, hX⟩ : ∃ X, X = lo * D := ⟨_, rfl⟩
          obtain ⟨Y, hY⟩ : ∃ Y, Y = hi * D := ⟨_, rfl⟩
          rw [← hX] at b1 m1
          rw [← hY] at b2 m2
          have hw3 : IntKind.i64.wrap (lo * D) = X := by rw [← hX]; exact IntWalk.i64_in _ (by omega)
          have hw4 : IntKind.i64.wrap (hi * D) = Y := by rw [← hY]; exact IntWalk.i64_in _ (by omega)
          have HSA : Hid (∀ W, Calls Try.prog 35 #[.agg #[.int .i64 lo, .int .i64 hi]] W fun e w' => e = .returned (.bool true) ∧ Below W.heap.size W w') := fun W => by
            have := sane4_any lo hi W
            rw [show Sh.saneB lo hi = true from by unfold Sh.saneB; simp only [Bool.and_eq_true, decide_eq_true_eq]; omega] at this
            exact this
          obtain ⟨Z, hZ⟩ : ∃ Z, Z = hi - lo := ⟨_, rfl⟩
          have hw5 : IntKind.i64.wrap (hi - lo) = Z := by rw [← hZ]; exact IntWalk.i64_in _ (by omega)
          have z1 : decide (1 < Z) = false := decide_eq_false (by omega)
          have x1 : decide (X ≤ N) = true := decide_eq_true (by omega)
          have x2 : decide (N ≤ Y) = true := decide_eq_true (by omega)
          clear hX hY hN hZ m1 m2 a1 a2 a3 a4 d1 d2 hT hN0
          go_enter Try.func7, Try.ntmps7
          go_wp2_with fail
          have bS1 := (BoxS.new w 26 #[.int .i64 al, .int .i64 ah, .int .i64 bl, .int .i64 bh, .slice A cs.length c, .int .i64 wrn]).alloc (.cells #[.int .i64 f1, .int .i64 f2, .int .i64 tw, .int .i64 off, .int .i64 ax, .int .i64 ay, .int .i64 bx, .int .i64 by1] 74)
          have bT1 := BoxS.new (w.alloc (.cells #[.int .i64 al, .int .i64 ah, .int .i64 bl, .int .i64 bh, .slice A cs.length c, .int .i64 wrn] 26)) 74 #[.int .i64 f1, .int .i64 f2, .int .i64 tw, .int .i64 off, .int .i64 ax, .int .i64 ay, .int .i64 bx, .int .i64 by1]
          rw [World.size_alloc] at bT1
          have hB1 : Below w.heap.size w ((w.alloc (.cells #[.int .i64 al, .int .i64 ah, .int .i64 bl, .int .i64 bh, .slice A cs.length c, .int .i64 wrn] 26)).alloc (.cells #[.int .i64 f1, .int .i64 f2, .int .i64 tw, .int .i64 off, .int .i64 ax, .int .i64 ay, .int .i64 bx, .int .i64 by1] 74)) := by (repeat' (first | (with_reducible exact Below.refl _ _) | (with_reducible assumption) | (with_reducible refine Below.alloc ?_ ?_ _) | (with_reducible refine Below.drew ?_) | (with_reducible refine Below.setCell ?_ ?_ _) | go_size | (exact (by simp)) | omega))
          generalize World.alloc (World.alloc w _) _ = w1 at *
          refine (HRD.out _ hB1).mono ?_
          rintro e w2 ⟨rfl, hb2⟩
          have bS2 := bS1.below hb2
          have bT2 := bT1.below hb2
          have hB2 := hB1.trans (hb2.mono hB1.size)
          clear bS1 bT1 hb2 hB1
          obtain ⟨⟨s0, s1, s2⟩, s3, s4, s5⟩ := boxS6 bS2
          obtain ⟨⟨t0, t1⟩, t2, t3⟩ := boxS8 bT2
          go_wp2_with fail
          refine (HPO.out _ hB2).mono ?_
          rintro e w3 ⟨rfl, hb3⟩
          have bS3 := bS2.below hb3
          have bT3 := bT2.below hb3
          have hB3 := hB2.trans (hb3.mono hB2.size)
          clear s0 s1 s2 s3 s4 s5 t0 t1 t2 t3 bS2 bT2 hb3 hB2
          obtain ⟨⟨s0, s1, s2⟩, s3, s4, s5⟩ := boxS6 bS3
          obtain ⟨⟨t0, t1⟩, t2, t3⟩ := boxS8 bT3
          go_wp2_with fail
          refine (HTR2.out _ hB3).mono ?_
          rintro e w4 ⟨rfl, hb4⟩
          have bS4 := bS3.below hb4
          have bT4 := bT3.below hb4
          have hB4 := hB3.trans (hb4.mono hB3.size)
          clear s0 s1 s2 s3 s4 s5 t0 t1 t2 t3 bS3 bT3 hb4 hB3
          obtain ⟨⟨s0, s1, s2⟩, s3, s4, s5⟩ := boxS6 bS4
          obtain ⟨⟨t0, t1⟩, t2, t3⟩ := boxS8 bT4
          go_wp2_with fail
          refine (HDE.out _).mono ?_
          rintro e wd ⟨rfl, rfl⟩
          go_wp2_with fail
          refine (HCO2.out _ hB4).mono ?_
          rintro e w5 ⟨A', c', rfl, hC5, hb5⟩
          have HC5 := Lib.hid hC5
          have bT5 := bT4.below hb5
          have hB5 := hB4.trans (hb5.mono hB4.size)
          clear s0 s1 s2 s3 s4 s5 t0 t1 t2 t3 bS4 bT4 hb5 hB4 hC5 HCO2 HRD HPO HTR2 HDE
          obtain ⟨⟨t0, t1⟩, t2, t3⟩ := boxS8 bT5
          have lt5 := bT5.lt
          go_wp2_with fail
          have bO6 := BoxS.new w5 26 #[.int .i64 f1, .int .i64 f1, .int .i64 f2, .int .i64 f2, .slice A' cs.length c', .int .i64 wrn]
          have bT6 := bT5.alloc (.cells #[.int .i64 f1, .int .i64 f1, .int .i64 f2, .int .i64 f2, .slice A' cs.length c', .int .i64 wrn] 26)
          have hB6 : Below w.heap.size w (w5.alloc (.cells #[.int .i64 f1, .int .i64 f1, .int .i64 f2, .int .i64 f2, .slice A' cs.length c', .int .i64 wrn] 26)) := hB5.alloc hB5.size _
          have HC6 : Hid (Cts (w5.alloc (.cells #[.int .i64 f1, .int .i64 f1, .int .i64 f2, .int .i64 f2, .slice A' cs.length c', .int .i64 wrn] 26)) (w5.alloc (.cells #[.int .i64 f1, .int .i64 f1, .int .i64 f2, .int .i64 f2, .slice A' cs.length c', .int .i64 wrn] 26)).heap.size A' cs) := (HC5.out.keep ((Below.refl _ _).alloc (Nat.le_refl _) _)).wider (by simp)
          clear t0 t1 t2 t3 bT5 hB5 HC5
          generalize World.alloc w5 _ = w6 at *
          refine (HMA2.out A' c' _ HC6.out).mono ?_
          rintro e w7 ⟨rfl, hb7⟩
          have bO7 := bO6.below hb7
          have bT7 := bT6.below hb7
          have hB7 := hB6.trans (hb7.mono hB6.size)
          have HC7 : Hid (Cts w7 w7.heap.size A' cs) := (HC6.out.keep hb7).wider hb7.size
          clear bO6 bT6 hB6 HC6 hb7 HMA2
          obtain ⟨⟨s0, s1, s2⟩, s3, s4, s5⟩ := boxS6 bO7
          go_wp2_with fail
          refine (HAR2.out A' c' _ HC7.out hB7).mono ?_
          rintro e w8 ⟨rfl, hb8⟩
          have bO8 := bO7.below hb8
          have bT8 := bT7.below hb8
          have hB8 := hB7.trans (hb8.mono hB7.size)
          have HC8 : Hid (Cts w8 w8.heap.size A' cs) := (HC7.out.keep hb8).wider hb8.size
          clear s0 s1 s2 s3 s4 s5 bO7 bT7 hB7 HC7 hb8 HAR2
          obtain ⟨⟨s0, s1, s2⟩, s3, s4, s5⟩ := boxS6 bO8
          have lo8 := bO8.lt
          have lt8 := bT8.lt
          go_wp2_with fail
          have bP9 := BoxS.new w8 23 #[.int .i64 lo, .int .i64 hi]
          have hbx : Below w8.heap.size w8 (w8.alloc (.cells #[.int .i64 lo, .int .i64 hi] 23)) := (Below.refl _ _).alloc (Nat.le_refl _) _
          have bO9 := bO8.below hbx
          have bT9 := bT8.below hbx
          have hB9 := hB8.trans (hbx.mono hB8.size)
          have HC9 : Hid (Cts (w8.alloc (.cells #[.int .i64 lo, .int .i64 hi] 23)) (w8.alloc (.cells #[.int .i64 lo, .int .i64 hi] 23)).heap.size A' cs) := (HC8.out.keep hbx).wider hbx.size
          clear s0 s1 s2 s3 s4 s5 bO8 bT8 hB8 HC8 hbx
          generalize World.alloc w8 _ = w9 at *
          refine (HAL2.out A' c' _ HC9.out).mono ?_
          rintro e w10 ⟨rfl, hb10⟩
          have bO10 := bO9.below hb10
          have bT10 := bT9.below hb10
          have bP10 := bP9.below hb10
          have hB10 := hB9.trans (hb10.mono hB9.size)
          have HC10 : Hid (Cts w10 w10.heap.size A' cs) := (HC9.out.keep hb10).wider hb10.size
          clear bO9 bT9 bP9 hB9 HC9 hb10 HAL2
          obtain ⟨⟨s0, s1, s2⟩, s3, s4, s5⟩ := boxS6 bO10
          obtain ⟨⟨t0, t1⟩, t2, t3⟩ := boxS8 bT10
          go_wp2_with fail
          refine (HAG2.out A' c' _ HC10.out hB10).mono ?_
          rintro e w11 ⟨rfl, hb11⟩
          have bT11 := bT10.below hb11
          have bP11 := bP10.below hb11
          have hB11 := hB10.trans (hb11.mono hB10.size)
          clear s0 s1 s2 s3 s4 s5 t0 t1 t2 t3 bO10 bT10 bP10 hB10 HC10 hb11 HAG2
          obtain ⟨p0, p1⟩ := boxS2 bP11
          go_wp2_with fail
          refine (HSA.out _).mono ?_
          rintro e w12 ⟨rfl, hb12⟩
          have bT12 := bT11.below hb12
          have bP12 := bP11.below hb12
          have hB12 := hB11.trans (hb12.mono hB11.size)
          clear p0 p1 bT11 bP11 hB11 hb12 HSA
          obtain ⟨p0, p1⟩ := boxS2 bP12
          go_wp2_with fail
          refine (wpIn_wide (n := 4)).1 ?_
          have hmo : Try.prog.follows .mixedOrders = true := by kernel_rfl
          have q0 : Below w12.heap.size w12 w12.drew := (Below.refl _ _).drew
          have KC : Hid (∀ W', Below w12.heap.size w12 W' → (W'.cell? ⟨w.heap.size + 1, 0, none⟩ = some (.int .i64 f1) ∧ W'.cell? ⟨w.heap.size + 1, 1, none⟩ = some (.int .i64 f2))) := fun W' h => (boxS8 (bT12.below h)).1
          have HTW3 : Hid (∀ W, Below w12.heap.size w12 W → Calls Try.prog 32 #[.slice A2 np c2] W fun e w' => e = .returned (.int .i64 T) ∧ Below W.heap.size W w') := fun W hW => HTW2.out W (hB12.trans (hW.mono hB12.size))
          refine wpIn_region_held (fun W' => Below w12.heap.size w12 W') 60 hmo ?_
          refine wpHeldIn_take (i := 0) (v := ?_) (plain_of (by kernel_rfl)) rfl (by kernel_rfl) (fun _ _ _ h => h) (yieldsSoIn_of (by kernel_rfl) ?_ (fun _ => rfl)) q0 ?_; rotate_left; focus (intro wq hw; clear hw; go_simp; try (with_reducible rfl))
          refine wpHeldIn_take (i := 1) (v := ?_) (plain_of (by kernel_rfl)) rfl (by kernel_rfl) (fun _ _ _ h => h) (yieldsSoIn_of (by kernel_rfl) ?_ (fun _ => rfl)) q0 ?_; rotate_left; focus (intro wq hw; clear hw; go_simp; try (with_reducible rfl))
          refine wpHeldIn_take (i := 2) (v := ?_) (plain_of (by kernel_rfl)) rfl (by kernel_rfl) (fun _ _ _ h => h) (yieldsSoIn_of (by kernel_rfl) ?_ (fun _ => rfl)) q0 ?_; rotate_left; focus (intro wq hw; have kq := KC.out wq hw; clear hw; go_simp; try (with_reducible rfl))
          refine wpHeldIn_take (i := 3) (v := ?_) (plain_of (by kernel_rfl)) rfl (by kernel_rfl) (fun _ _ _ h => h) (yieldsSoIn_of (by kernel_rfl) ?_ (fun _ => rfl)) q0 ?_; rotate_left; focus (intro wq hw; clear hw; go_simp; try (with_reducible rfl))
          refine wpHeldIn_take (i := 4) (v := ?_) (plain_of (by kernel_rfl)) rfl (by kernel_rfl) (fun _ _ _ h => h) (yieldsSoIn_of (by kernel_rfl) ?_ (fun _ => rfl)) q0 ?_; rotate_left; focus (intro wq hw; clear hw; go_simp; try (with_reducible rfl))
          refine wpHeldIn_take (i := 5) (v := ?_) (plain_of (by kernel_rfl)) rfl (by kernel_rfl) (fun _ _ _ h => h) (yieldsSoIn_of (by kernel_rfl) ?_ (fun _ => rfl)) q0 ?_; rotate_left; focus (intro wq hw; have kq := KC.out wq hw; clear hw; go_simp; try (with_reducible rfl))
          refine wpHeldIn_take (i := 6) (v := ?_) (plain_of (by kernel_rfl)) rfl (by kernel_rfl) (fun _ _ _ h => h) (yieldsSoIn_of (by kernel_rfl) ?_ (fun _ => rfl)) q0 ?_; rotate_left; focus (intro wq hw; clear hw; go_simp; try (with_reducible rfl))
          refine wpHeldIn_take (i := 7) (v := ?_) (plain_of (by kernel_rfl)) rfl (by kernel_rfl) (fun _ _ _ h => h) (yieldsSoIn_of (by kernel_rfl) ?_ (fun _ => rfl)) q0 ?_; rotate_left; focus (intro wq hw; clear hw; go_simp; try (with_reducible rfl))
          refine wpHeldIn_one (i := 8) (by kernel_rfl) (by kernel_rfl) rfl (by kernel_rfl) (fun K1 hK1 => ?_)
          go_simp
          refine ⟨trivial, (callsIn_wide.2 (HTW3.out _ q0)).mono ?_⟩
          rintro e w13 ⟨rfl, hb13⟩
          have q1 := q0.trans (hb13.mono q0.size)
          refine hK1 _ _ q1 ?_
          refine wpHeldIn_one (i := 9) (by kernel_rfl) (by kernel_rfl) rfl (by kernel_rfl) (fun K2 hK2 => ?_)
          go_simp
          refine ⟨trivial, (callsIn_wide.2 (HAB.out _)).mono ?_⟩
          rintro e w14 ⟨rfl, rfl⟩
          refine hK2 _ _ q1 ?_
          refine wpHeldIn_take (i := 10) (v := ?_) (plain_of (by kernel_rfl)) rfl (by kernel_rfl) (fun _ _ _ h => h) (yieldsSoIn_of (by kernel_rfl) ?_ (fun _ => rfl)) q1 ?_; rotate_left; focus (intro wq hw; clear hw; go_simp; try (with_reducible rfl))
          refine wpHeldIn_take (i := 11) (v := ?_) (plain_of (by kernel_rfl)) rfl (by kernel_rfl) (fun _ _ _ h => h) (yieldsSoIn_of (by kernel_rfl) ?_ (fun _ => rfl)) q1 ?_; rotate_left; focus (intro wq hw; clear hw; go_simp; try (with_reducible rfl))
          refine wpHeldIn_take (i := 12) (v := ?_) (plain_of (by kernel_rfl)) rfl (by kernel_rfl) (fun _ _ _ h => h) (yieldsSoIn_of (by kernel_rfl) ?_ (fun _ => rfl)) q1 ?_; rotate_left; focus (intro wq hw; clear hw; go_simp; try (with_reducible rfl))
          refine wpHeldIn_done (by kernel_rfl) ?_ _
          go_simp
          have bP14 := bP12.below q1
          have hB14 := hB12.trans (q1.mono hB12.size)
          clear KC HTW3 HTW2 HAB q0 q1 bP12 bT12 hB12 p0 p1
          obtain ⟨p0, p1⟩ := boxS2 bP14
          go_wp2_with fail
          refine (HWK.out _).mono ?_
          rintro e w15 ⟨rfl, hb15⟩
          have hB15 := hB14.trans (hb15.mono hB14.size)
          go_wp2_with fail
          go_returns
          exact ⟨rfl, hB15⟩
end Go.Proofs.Ytgpmnkdagpcffaa
