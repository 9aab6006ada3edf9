/- Sheets: the law SheetsAgrees: Agrees answers as the document says, for any sheet, polygon and deed. -/
import Derived.Test.YtgpmnkdagpcffaaAgr
namespace Go.Proofs.Ytgpmnkdagpcffaa
open Go.RowKit
namespace Sh
theorem far_len {s : Sheet} (h : farB s = false) : s.cs.length ≤ 40 := by
  unfold farB at h
  rw [Bool.or_eq_false_iff] at h
  have := of_decide_eq_false h.1
  omega
end Sh
set_option maxRecDepth 100000 in
set_option maxHeartbeats 8000000 in
theorem SheetsAgrees_walk (s : Sheet) (A : Option Addr) (c : Nat) (A2 : Option Addr) (c2 : Nat) (ps : List Geo.Pt) (d o : Int) (w : World) (hg : Cts w w.heap.size A s.cs) (hP : Prs w w.heap.size A2 ps) :
    Calls Try.prog 11 #[.agg (shV s A c), .slice A2 ps.length c2, .agg #[.int .i64 d, .int .i64 o]] w (TruePost w) := by
  have HWK : Hid (∀ W, Calls Try.prog 15 #[] W fun e w' => e = .returned (.bool true) ∧ Below W.heap.size W w') := works_any
  have HF1 : Hid (∀ W, Below w.heap.size w W → Calls Try.prog 40 #[.agg (shV s A c)] W fun e w' => e = .returned (.bool (Sh.farB s)) ∧ Below W.heap.size W w') := fun W hW => Far4_any s A c W ((hg.keep hW).wider hW.size)
  have HF2 : Hid (∀ W, Calls Try.prog 48 #[.slice A2 ps.length c2] W fun e w' => e = .returned (.bool (decide (40 < ps.length))) ∧ w' = W) := fun W => Far2_any A2 c2 ps W
  have HCO : Hid (Sh.farB s = false → ∀ W, Below w.heap.size w W → Calls Try.prog 19 #[.agg (shV s A c)] W (Copy4Post s W)) := fun h W hW => Copy4_any s A c (by have := Sh.far_len h; omega) W ((hg.keep hW).wider hW.size)
  have HCP : Hid (ps.length ≤ 40 → ∀ W, Below w.heap.size w W → Calls Try.prog 49 #[.slice A2 ps.length c2] W (CopyPost ps W)) := fun h W hW => Copy_any A2 c2 ps (by omega) W (prs_keep hP hW)
  have HAG : Hid (Sh.farB s = false → ps.length ≤ 40 → ∀ A c A2 c2 W, Cts W W.heap.size A s.cs → Prs W W.heap.size A2 ps → Calls Try.prog 30 #[.agg (shV s A c), .slice A2 ps.length c2, .int .i64 d, .int .i64 o] W (TwoPost (Sh.agV s ps d o) (Sh.agE s ps d o) W)) := fun h h2 A c A2 c2 W hC hQ => Agrees_any s A c A2 c2 ps d o W (by have := Sh.far_len h; omega) (by omega) hC hQ
  have HAR : Hid (Sh.farB s = false → ps.length ≤ 40 → ∀ W, Below w.heap.size w W → Calls Try.prog 53 #[.agg (shV s A c), .slice A2 ps.length c2, .int .i64 d, .int .i64 o] W (TwoPost (Sh.agV s ps d o) (Sh.agE s ps d o) W)) := fun h h2 W hW => Agrees4_any s A c A2 c2 ps d o W (by have := Sh.far_len h; omega) (by omega) ((hg.keep hW).wider hW.size) (prs_keep hP hW)
  have HLP : Hid (decide (40 < ps.length) = false → ps.length ≤ 40) := fun h => by have := of_decide_eq_false h; omega
  unfold Copy4Post at HCO
  unfold CopyPost at HCP
  generalize decide (40 < ps.length) = FP at *
  generalize Sh.agV s ps d o = AV at *
  generalize Sh.agE s ps d o = AE at *
  generalize Sh.farB s = FB at *
  clear hg hP
  obtain ⟨al, ah, bl, bh, cs, wrn⟩ := s
  unfold shV at *
  dsimp only at *
  cases FB with
  | true =>
    go_enter Try.func11, Try.ntmps11
    go_wp2_with fail
    have bS1 := (BoxS.new w 26 #[.int .i64 al, .int .i64 ah, .int .i64 bl, .int .i64 bh, .slice A cs.length c, .int .i64 wrn]).alloc (.cells #[.int .i64 d, .int .i64 o] 72)
    have bD1 := BoxS.new (w.alloc (.cells #[.int .i64 al, .int .i64 ah, .int .i64 bl, .int .i64 bh, .slice A cs.length c, .int .i64 wrn] 26)) 72 #[.int .i64 d, .int .i64 o]
    rw [World.size_alloc] at bD1
    have hB1 : Below w.heap.size w ((w.alloc (.cells #[.int .i64 al, .int .i64 ah, .int .i64 bl, .int .i64 bh, .slice A cs.length c, .int .i64 wrn] 26)).alloc (.cells #[.int .i64 d, .int .i64 o] 72)) := by (repeat' (first | (with_reducible exact Below.refl _ _) | (with_reducible assumption) | (with_reducible refine Below.alloc ?_ ?_ _) | (with_reducible refine Below.drew ?_) | (with_reducible refine Below.setCell ?_ ?_ _) | go_size | (exact (by simp)) | omega))
    generalize World.alloc (World.alloc w _) _ = w1 at *
    refine (HF1.out _ hB1).mono ?_
    rintro e w2 ⟨rfl, hb2⟩
    have bS2 := bS1.below hb2
    have bD2 := bD1.below hb2
    have hB2 := hB1.trans (hb2.mono hB1.size)
    clear bS1 bD1 hb2 hB1
    obtain ⟨⟨s0, s1, s2⟩, s3, s4, s5⟩ := boxS6 bS2
    obtain ⟨d0, d1⟩ := boxS2 bD2
    go_wp2_with fail
    refine (HWK.out _).mono ?_
    rintro e w9 ⟨rfl, hb9⟩
    have hB9 := hB2.trans (hb9.mono hB2.size)
    go_wp2_with fail
    go_returns
    exact ⟨rfl, hB9⟩
  | false =>
    have HCO2 := Lib.hid (HCO.out rfl)
    cases FP with
    | true =>
      go_enter Try.func11, Try.ntmps11
      go_wp2_with fail
      have bS1 := (BoxS.new w 26 #[.int .i64 al, .int .i64 ah, .int .i64 bl, .int .i64 bh, .slice A cs.length c, .int .i64 wrn]).alloc (.cells #[.int .i64 d, .int .i64 o] 72)
      have bD1 := BoxS.new (w.alloc (.cells #[.int .i64 al, .int .i64 ah, .int .i64 bl, .int .i64 bh, .slice A cs.length c, .int .i64 wrn] 26)) 72 #[.int .i64 d, .int .i64 o]
      rw [World.size_alloc] at bD1
      have hB1 : Below w.heap.size w ((w.alloc (.cells #[.int .i64 al, .int .i64 ah, .int .i64 bl, .int .i64 bh, .slice A cs.length c, .int .i64 wrn] 26)).alloc (.cells #[.int .i64 d, .int .i64 o] 72)) := by (repeat' (first | (with_reducible exact Below.refl _ _) | (with_reducible assumption) | (with_reducible refine Below.alloc ?_ ?_ _) | (with_reducible refine Below.drew ?_) | (with_reducible refine Below.setCell ?_ ?_ _) | go_size | (exact (by simp)) | omega))
      generalize World.alloc (World.alloc w _) _ = w1 at *
      refine (HF1.out _ hB1).mono ?_
      rintro e w2 ⟨rfl, hb2⟩
      have bS2 := bS1.below hb2
      have bD2 := bD1.below hb2
      have hB2 := hB1.trans (hb2.mono hB1.size)
      clear bS1 bD1 hb2 hB1
      obtain ⟨⟨s0, s1, s2⟩, s3, s4, s5⟩ := boxS6 bS2
      obtain ⟨d0, d1⟩ := boxS2 bD2
      go_wp2_with fail
      refine (HF2.out _).mono ?_
      rintro e w3 ⟨rfl, rfl⟩
      go_wp2_with fail
      refine (HWK.out _).mono ?_
      rintro e w9 ⟨rfl, hb9⟩
      have hB9 := hB2.trans (hb9.mono hB2.size)
      go_wp2_with fail
      go_returns
      exact ⟨rfl, hB9⟩
    | false =>
      have hlp := HLP.out rfl
      have HCP2 := Lib.hid (HCP.out hlp)
      have HAG2 := Lib.hid (HAG.out rfl hlp)
      have HAR2 := Lib.hid (HAR.out rfl hlp)
      clear HCO HCP HAG HAR HLP hlp
      go_enter Try.func11, Try.ntmps11
      go_wp2_with fail
      have bS1 := (BoxS.new w 26 #[.int .i64 al, .int .i64 ah, .int .i64 bl, .int .i64 bh, .slice A cs.length c, .int .i64 wrn]).alloc (.cells #[.int .i64 d, .int .i64 o] 72)
      have bD1 := BoxS.new (w.alloc (.cells #[.int .i64 al, .int .i64 ah, .int .i64 bl, .int .i64 bh, .slice A cs.length c, .int .i64 wrn] 26)) 72 #[.int .i64 d, .int .i64 o]
      rw [World.size_alloc] at bD1
      have hB1 : Below w.heap.size w ((w.alloc (.cells #[.int .i64 al, .int .i64 ah, .int .i64 bl, .int .i64 bh, .slice A cs.length c, .int .i64 wrn] 26)).alloc (.cells #[.int .i64 d, .int .i64 o] 72)) := by (repeat' (first | (with_reducible exact Below.refl _ _) | (with_reducible assumption) | (with_reducible refine Below.alloc ?_ ?_ _) | (with_reducible refine Below.drew ?_) | (with_reducible refine Below.setCell ?_ ?_ _) | go_size | (exact (by simp)) | omega))
      generalize World.alloc (World.alloc w _) _ = w1 at *
      refine (HF1.out _ hB1).mono ?_
      rintro e w2 ⟨rfl, hb2⟩
      have bS2 := bS1.below hb2
      have bD2 := bD1.below hb2
      have hB2 := hB1.trans (hb2.mono hB1.size)
      clear bS1 bD1 hb2 hB1
      obtain ⟨⟨s0, s1, s2⟩, s3, s4, s5⟩ := boxS6 bS2
      obtain ⟨d0, d1⟩ := boxS2 bD2
      go_wp2_with fail
      refine (HF2.out _).mono ?_
      rintro e w3 ⟨rfl, rfl⟩
      go_wp2_with fail
      refine (wpIn_wide (n := 4)).1 ?_
      have hmo : Try.prog.follows .mixedOrders = true := by kernel_rfl
      have q0 : Below w3.heap.size w3 w3.drew := (Below.refl _ _).drew
      have KC : Hid (∀ W', Below w3.heap.size w3 W' → ((W'.cell? ⟨w.heap.size, 0, none⟩ = some (.int .i64 al) ∧ W'.cell? ⟨w.heap.size, 1, none⟩ = some (.int .i64 ah) ∧ W'.cell? ⟨w.heap.size, 2, none⟩ = some (.int .i64 bl)) ∧ W'.cell? ⟨w.heap.size, 3, none⟩ = some (.int .i64 bh) ∧ W'.cell? ⟨w.heap.size, 4, none⟩ = some (.slice A cs.length c) ∧ W'.cell? ⟨w.heap.size, 5, none⟩ = some (.int .i64 wrn)) ∧ (W'.cell? ⟨w.heap.size + 1, 0, none⟩ = some (.int .i64 d) ∧ W'.cell? ⟨w.heap.size + 1, 1, none⟩ = some (.int .i64 o))) := fun W' h => ⟨boxS6 (bS2.below h), boxS2 (bD2.below h)⟩
      have HCO3 := Lib.hid (fun W (hW : Below w3.heap.size w3 W) => HCO2.out W (hB2.trans (hW.mono hB2.size)))
      have HCP3 := Lib.hid (fun W (hW : Below w3.heap.size w3 W) => HCP2.out W (hB2.trans (hW.mono hB2.size)))
      clear s0 s1 s2 s3 s4 s5 d0 d1
      refine wpIn_region_held (fun W' => Below w3.heap.size w3 W') 40 hmo ?_
      refine wpHeldIn_take (i := 0) (v := ?_) (plain_of (by kernel_rfl)) rfl (by kernel_rfl) (fun _ _ _ h => h) (yieldsSoIn_of (by kernel_rfl) ?_ (fun _ => rfl)) q0 ?_; rotate_left; focus (intro wq hw; have kq := KC.out wq hw; clear hw; go_simp; try (with_reducible rfl))
      refine wpHeldIn_take (i := 2) (v := ?_) (plain_of (by kernel_rfl)) rfl (by kernel_rfl) (fun _ _ _ h => h) (yieldsSoIn_of (by kernel_rfl) ?_ (fun _ => rfl)) q0 ?_; rotate_left; focus (intro wq hw; clear hw; go_simp; try (with_reducible rfl))
      refine wpHeldIn_take (i := 4) (v := ?_) (plain_of (by kernel_rfl)) rfl (by kernel_rfl) (fun _ _ _ h => h) (yieldsSoIn_of (by kernel_rfl) ?_ (fun _ => rfl)) q0 ?_; rotate_left; focus (intro wq hw; clear hw; go_simp; try (with_reducible rfl))
      refine wpHeldIn_take (i := 5) (v := ?_) (plain_of (by kernel_rfl)) rfl (by kernel_rfl) (fun _ _ _ h => h) (yieldsSoIn_of (by kernel_rfl) ?_ (fun _ => rfl)) q0 ?_; rotate_left; focus (intro wq hw; have kq := KC.out wq hw; clear hw; go_simp; try (with_reducible rfl))
      refine wpHeldIn_take (i := 6) (v := ?_) (plain_of (by kernel_rfl)) rfl (by kernel_rfl) (fun _ _ _ h => h) (yieldsSoIn_of (by kernel_rfl) ?_ (fun _ => rfl)) q0 ?_; rotate_left; focus (intro wq hw; clear hw; go_simp; try (with_reducible rfl))
      refine wpHeldIn_take (i := 7) (v := ?_) (plain_of (by kernel_rfl)) rfl (by kernel_rfl) (fun _ _ _ h => h) (yieldsSoIn_of (by kernel_rfl) ?_ (fun _ => rfl)) q0 ?_; rotate_left; focus (intro wq hw; have kq := KC.out wq hw; clear hw; go_simp; try (with_reducible rfl))
      refine wpHeldIn_one (i := 1) (by kernel_rfl) (by kernel_rfl) rfl (by kernel_rfl) (fun K1 hK1 => ?_)
      go_simp
      refine ⟨trivial, (callsIn_wide.2 (HCO3.out _ q0)).mono ?_⟩
      rintro e4 w4 ⟨A4, c4, rfl, hC4, hb4⟩
      have q1 := q0.trans (hb4.mono q0.size)
      refine hK1 _ _ q1 ?_
      refine wpHeldIn_one (i := 3) (by kernel_rfl) (by kernel_rfl) rfl (by kernel_rfl) (fun K2 hK2 => ?_)
      go_simp
      refine ⟨trivial, (callsIn_wide.2 (HCP3.out _ q1)).mono ?_⟩
      rintro e5 w5 ⟨A5, c5, rfl, hP5, hb5⟩
      have q2 := q1.trans (hb5.mono q1.size)
      have HC5 : Hid (Cts w5 w5.heap.size A4 cs) := (hC4.keep hb5).wider hb5.size
      have HP5 := Lib.hid hP5
      clear hC4 hP5
      refine hK2 _ _ q2 ?_
      refine wpHeldIn_one (i := 8) (by kernel_rfl) (by kernel_rfl) rfl (by kernel_rfl) (fun K3 hK3 => ?_)
      go_simp
      refine ⟨trivial, (callsIn_wide.2 (HAG2.out A4 c4 A5 c5 _ HC5.out HP5.out)).mono ?_⟩
      rintro e6 w6 ⟨rfl, hb6⟩
      have q3 := q2.trans (hb6.mono q2.size)
      refine hK3 _ _ q3 ?_
      refine wpHeldIn_take (i := 9) (v := ?_) (plain_of (by kernel_rfl)) rfl (by kernel_rfl) (fun _ _ _ h => h) (yieldsSoIn_of (by kernel_rfl) ?_ (fun _ => rfl)) q3 ?_; rotate_left; focus (intro wq hw; clear hw; go_simp; try (with_reducible rfl))
      refine wpHeldIn_take (i := 10) (v := ?_) (plain_of (by kernel_rfl)) rfl (by kernel_rfl) (fun _ _ _ h => h) (yieldsSoIn_of (by kernel_rfl) ?_ (fun _ => rfl)) q3 ?_; rotate_left; focus (intro wq hw; clear hw; go_simp; try (with_reducible rfl))
      refine wpHeldIn_take (i := 11) (v := ?_) (plain_of (by kernel_rfl)) rfl (by kernel_rfl) (fun _ _ _ h => h) (yieldsSoIn_of (by kernel_rfl) ?_ (fun _ => rfl)) q3 ?_; rotate_left; focus (intro wq hw; clear hw; go_simp; try (with_reducible rfl))
      refine wpHeldIn_take (i := 12) (v := ?_) (plain_of (by kernel_rfl)) rfl (by kernel_rfl) (fun _ _ _ h => h) (yieldsSoIn_of (by kernel_rfl) ?_ (fun _ => rfl)) q3 ?_; rotate_left; focus (intro wq hw; clear hw; go_simp; try (with_reducible rfl))
      refine wpHeldIn_take (i := 13) (v := ?_) (plain_of (by kernel_rfl)) rfl (by kernel_rfl) (fun _ _ _ h => h) (yieldsSoIn_of (by kernel_rfl) ?_ (fun _ => rfl)) q3 ?_; rotate_left; focus (intro wq hw; clear hw; go_simp; try (with_reducible rfl))
      refine wpHeldIn_done (by kernel_rfl) ?_ _
      go_simp
      have bS6 := bS2.below q3
      have bD6 := bD2.below q3
      have hB6 := hB2.trans (q3.mono hB2.size)
      clear KC q0 q1 q2 q3 hb4 hb5 hb6 HCO3 HCP3 HCO2 HCP2 HAG2 HC5 HP5 bS2 bD2 hB2
      obtain ⟨⟨s0, s1, s2⟩, s3, s4, s5⟩ := boxS6 bS6
      obtain ⟨d0, d1⟩ := boxS2 bD6
      go_wp2_with fail
      refine (HAR2.out _ hB6).mono ?_
      rintro e w7 ⟨rfl, hb7⟩
      have hB7 := hB6.trans (hb7.mono hB6.size)
      clear hb7 hB6 s0 s1 s2 s3 s4 s5 d0 d1 bS6 bD6
      go_wp2_with fail
      refine (HWK.out _).mono ?_
      rintro e w9 ⟨rfl, hb9⟩
      have hB9 := hB7.trans (hb9.mono hB7.size)
      go_wp2_with fail
      go_returns
      exact ⟨rfl, hB9⟩

open Go.ChangeShapes Go.WideShapes Go.ChangeAt Go.RowKit Go.Joins Go.Deep
theorem lawAgrees_walk (s : Sheet) (A : Option Addr) (c : Nat) (A2 : Option Addr) (c2 : Nat) (ps : List (Int × Int)) (d o : Int) (w : World) (_hl : ps.length ≤ maxLen) (hP : Prs w w.heap.size A2 ps) (hg : Cts w w.heap.size A s.cs) :
    Calls Try.prog 11 #[.agg (shV s A c), .slice A2 ps.length c2, .agg #[.int .i64 d, .int .i64 o]] w (TruePost w) :=
  SheetsAgrees_walk s A c A2 c2 ps d o w hg hP
section
variable {H : Type} {enc : TypeId × Value → H} {w : World} {base : Nat} {spare : Nat → Bool} {held : Bool} {r : Reach} {b0 : Nat} {v : Value} {d : DataW H} {p : List MemPlace}
set_option maxRecDepth 100000 in
theorem open_Deed (hv : Value.okWide Try.prog w r b0 72 v) (h : DataW.Trod enc Try.prog w base spare held 72 v d p) : ∃ a b : Int, v = .agg #[.int .i64 a, .int .i64 b] := by
  obtain ⟨c0, c1, y0, y1, m, rfl, rfl, rfl, hy0, hy1⟩ := open_agg2 Try.underlying72 (by kernel_rfl) (by kernel_rfl : Try.prog.cellsOf 72 = 2) hv h
  obtain ⟨a, e0, rfl, wa⟩ := DataW.trod_int Try.underlying3 hy0
  obtain ⟨b, e1, rfl, wb⟩ := DataW.trod_int Try.underlying3 hy1
  simp at e0 e1
  subst e0 e1
  exact ⟨a, b, rfl⟩
end

open Go.ChangeShapes Go.WideShapes Go.ChangeAt Go.RowKit Go.Joins

set_option maxRecDepth 100000 in
theorem agrees_lifted (os : Os) (started : os.Started) (H : Type) (enc : TypeId × Value → H) :
    ReturnsInHanded {} Try.checked os 11 .any (Rows.sheetsAgreesSpec.pre6 enc Try.prog Try.f11 Rows.sheetsAgreesRow.domain false) (Rows.sheetsAgreesSpec.post enc Try.prog Try.f11 false true false false) := by
  refine returnsInHanded_of_change (C := Try.checked) own started (by kernel_rfl) Try.func11
    (ChangeSpec.witness6 (enc := enc) (C := Try.checked) false ⟨#[], #[.agg #[.int .i64 0, .int .i64 0, .int .i64 0, .int .i64 0, .slice none 0 0, .int .i64 0], .slice none 0 0, .agg #[.int .i64 0, .int .i64 0]], []⟩ 8 (by kernel_rfl) (by kernel_rfl) (by kernel_rfl) (by kernel_rfl)) ?_
  intro W base args ds gs before hval0 hW hcnd _
  have hval : ∀ (j : Nat) t v, Try.f11.params[j]? = some t → args[j]? = some v → Value.okWide Try.prog W .any base t v := hval0
  have hW' := hW
  obtain ⟨p, q, hA0, hV, rfl, hfz, hnd⟩ := hW
  have hA : DataW.TrodAll enc Try.prog W 0 (fun _ => true) true Try.f11.params.toList args.toList ds p := hA0
  rw [Try.params11] at hA hval
  obtain ⟨v0, v1, v2, d0, d1, d2, p0, p1, p2, rfl, rfl, rfl, h0, h1, h2⟩ := trodAll_three hA
  obtain ⟨rfl, rfl⟩ := trodVars_none hV
  obtain ⟨s, A, c, rfl, hg_s, hl_s⟩ := open_Sheet (hval 0 26 v0 rfl rfl) h0
  obtain ⟨A2, c2, ps, rfl, hg_ps, hl_ps⟩ := open_prs Try.underlying27 Try.underlying43 (by kernel_rfl) (by kernel_rfl) (by kernel_rfl) (by kernel_rfl) (by kernel_rfl) Try.underlying3 Try.underlying3 (hval 1 27 v1 rfl rfl) h1
  obtain ⟨d, o, rfl⟩ := open_Deed (hval 2 72 v2 rfl rfl) h2
  refine (lawAgrees_walk s A c A2 c2 ps d o W hl_ps hg_ps hg_s).mono fun e W' ⟨he, hb⟩ => ?_
  subst he
  exact ⟨_, rfl, law_post hW' rfl rfl (by intro t ht; have : t = 26 ∨ t = 27 ∨ t = 72 := (by rw [Try.params11] at ht; simpa using ht); rcases this with rfl | rfl | rfl <;> exact ⟨by kernel_rfl, of_decide_eq_true (by kernel_rfl)⟩) rfl rfl rfl hb⟩

theorem agrees_holds : Rows.SheetsAgreesSaid :=
  OpenClaim.holds_of_wide 11 Try.f11 rfl rfl rfl rfl rfl rfl rfl ⟨rfl, rfl, rfl, rfl, rfl⟩ rfl rfl rfl rfl rfl (by kernel_rfl) Try.func11 (by kernel_rfl)
    (of_decide_eq_true (by kernel_rfl)) (by unfold Func.isWrapper; rw [if_neg (of_decide_eq_false (by kernel_rfl))]; exact ⟨rfl, rfl⟩)
    (fun os started H enc _ => agrees_lifted os started H enc)
end Go.Proofs.Ytgpmnkdagpcffaa
