/- Sheets: the law SheetsStrange: Alike and Strange answer as the document says, for any sheet. -/
import Derived.Test.YtgpmnkdagpcffaaStr
namespace Go.Proofs.Ytgpmnkdagpcffaa
open Go.RowKit
namespace Sh
theorem strL_len (s : Sheet) : (strL s).length ≤ s.cs.length := by
  unfold strL
  split
  · exact strTo_len _ _
  · simp
end Sh
set_option maxRecDepth 100000 in
set_option maxHeartbeats 8000000 in
theorem SheetsStrange_walk (s : Sheet) (A : Option Addr) (c : Nat) (w : World) (_hl : s.cs.length ≤ maxLen) (hg : Cts w w.heap.size A s.cs) :
    Calls Try.prog 9 #[.agg (shV s A c)] w (TruePost w) := by
  have HWK : Hid (∀ W, Calls Try.prog 15 #[] W fun e w' => e = .returned (.bool true) ∧ Below W.heap.size W w') := works_any
  have HF1 : Hid (∀ W, Below w.heap.size w W → Calls Try.prog 40 #[.agg (shV s A c)] W fun e w' => e = .returned (.bool (Sh.farB s)) ∧ Below W.heap.size W w') := fun W hW => Far4_any s A c W ((hg.keep hW).wider hW.size)
  have HCO : Hid (Sh.farB s = false → ∀ W, Below w.heap.size w W → Calls Try.prog 19 #[.agg (shV s A c)] W (Copy4Post s W)) := fun h W hW => Copy4_any s A c (by have := Sh.far_len h; omega) W ((hg.keep hW).wider hW.size)
  have HA1 : Hid (Sh.farB s = false → ∀ A c W, Cts W W.heap.size A s.cs → Calls Try.prog 39 #[.agg (shV s A c)] W (TwoPost (Sh.alikeV s) (Sh.spE s) W)) := fun h A c W hC => Alike_any s A c W (by have := Sh.far_len h; omega) hC
  have HA2 : Hid (Sh.farB s = false → ∀ W, Below w.heap.size w W → Calls Try.prog 46 #[.agg (shV s A c)] W (TwoPost (Sh.alikeV s) (Sh.spE s) W)) := fun h W hW => Alike4_any s A c W (by have := Sh.far_len h; omega) ((hg.keep hW).wider hW.size)
  have HS1 : Hid (Sh.farB s = false → ∀ A c W, Cts W W.heap.size A s.cs → Calls Try.prog 25 #[.agg (shV s A c)] W (IntsEPost (Sh.strL s) (Sh.spE s) W)) := fun h A c W hC => Strange_any s A c W (by have := Sh.far_len h; omega) hC
  have HS2 : Hid (Sh.farB s = false → ∀ W, Below w.heap.size w W → Calls Try.prog 47 #[.agg (shV s A c)] W (IntsEPost (Sh.strL s) (Sh.spE s) W)) := fun h W hW => Strange4_any s A c W (by have := Sh.far_len h; omega) ((hg.keep hW).wider hW.size)
  have HSA : Hid (Sh.farB s = false → ∀ A' c' W, Below w.heap.size w W → Cts W W.heap.size A' s.cs → Calls Try.prog 45 #[.agg (shV s A' c'), .agg (shV s A c)] W (TruePost W)) := fun h A' c' W hW hC => same4_yes s A A' c c' (by have := Sh.far_len h; omega) W ((hg.keep hW).wider hW.size) hC
  have HSI : Hid (Sh.farB s = false → ∀ v v' W, Ints W W.heap.size v (Sh.strL s) → Ints W W.heap.size v' (Sh.strL s) → Calls Try.prog 26 #[v, v'] W (TruePost W)) := fun h v v' W h1 h2 => by
    have hlen := Sh.strL_len s
    have := Sh.far_len h
    have := sameInts_any v v' _ _ W h1 h2 (by omega) (by omega)
    rw [decide_eq_true rfl] at this
    exact this
  unfold Copy4Post at HCO
  unfold IntsEPost at HS1 HS2
  generalize Sh.alikeV s = AV at *
  generalize Sh.strL s = SL at *
  generalize Sh.spE s = SE at *
  generalize Sh.farB s = FB at *
  clear hg
  obtain ⟨al, ah, bl, bh, cs, wrn⟩ := s
  unfold shV at *
  dsimp only at *
  cases FB with
  | true =>
    go_enter Try.func9, Try.ntmps9
    go_wp2_with fail
    have bS1 := BoxS.new w 26 #[.int .i64 al, .int .i64 ah, .int .i64 bl, .int .i64 bh, .slice A cs.length c, .int .i64 wrn]
    have hB1 : Below w.heap.size w (w.alloc (.cells #[.int .i64 al, .int .i64 ah, .int .i64 bl, .int .i64 bh, .slice A cs.length c, .int .i64 wrn] 26)) := by (repeat' (first | (with_reducible exact Below.refl _ _) | (with_reducible assumption) | (with_reducible refine Below.alloc ?_ ?_ _) | (with_reducible refine Below.drew ?_) | (with_reducible refine Below.setCell ?_ ?_ _) | go_size | (exact (by simp)) | omega))
    generalize World.alloc w _ = w1 at *
    refine (HF1.out _ hB1).mono ?_
    rintro e w2 ⟨rfl, hb2⟩
    have bS2 := bS1.below hb2
    have hB2 := hB1.trans (hb2.mono hB1.size)
    clear bS1 hb2 hB1
    obtain ⟨⟨s0, s1, s2⟩, s3, s4, s5⟩ := boxS6 bS2
    go_wp2_with fail
    refine (HWK.out _).mono ?_
    rintro e w9 ⟨rfl, hb9⟩
    have hB9 := hB2.trans (hb9.mono hB2.size)
    go_wp2_with fail
    go_returns
    exact ⟨rfl, hB9⟩
  | false =>
    have HCO2 := Lib.hid (HCO.out rfl)
    have HA12 := Lib.hid (HA1.out rfl)
    have HA22 := Lib.hid (HA2.out rfl)
    have HS12 := Lib.hid (HS1.out rfl)
    have HS22 := Lib.hid (HS2.out rfl)
    have HSA2 := Lib.hid (HSA.out rfl)
    have HSI2 := Lib.hid (HSI.out rfl)
    clear HCO HA1 HA2 HS1 HS2 HSA HSI
    go_enter Try.func9, Try.ntmps9
    go_wp2_with fail
    have bS1 := BoxS.new w 26 #[.int .i64 al, .int .i64 ah, .int .i64 bl, .int .i64 bh, .slice A cs.length c, .int .i64 wrn]
    have hB1 : Below w.heap.size w (w.alloc (.cells #[.int .i64 al, .int .i64 ah, .int .i64 bl, .int .i64 bh, .slice A cs.length c, .int .i64 wrn] 26)) := by (repeat' (first | (with_reducible exact Below.refl _ _) | (with_reducible assumption) | (with_reducible refine Below.alloc ?_ ?_ _) | (with_reducible refine Below.drew ?_) | (with_reducible refine Below.setCell ?_ ?_ _) | go_size | (exact (by simp)) | omega))
    generalize World.alloc w _ = w1 at *
    refine (HF1.out _ hB1).mono ?_
    rintro e w2 ⟨rfl, hb2⟩
    have bS2 := bS1.below hb2
    have hB2 := hB1.trans (hb2.mono hB1.size)
    clear bS1 hb2 hB1
    obtain ⟨⟨s0, s1, s2⟩, s3, s4, s5⟩ := boxS6 bS2
    go_wp2_with fail
    refine (HCO2.out _ hB2).mono ?_
    rintro e w3 ⟨A', c', rfl, hC3, hb3⟩
    have bS3 := bS2.below hb3
    have hB3 := hB2.trans (hb3.mono hB2.size)
    have HC3 := Lib.hid hC3
    clear s0 s1 s2 s3 s4 s5 bS2 hb3 hB2 hC3 HCO2
    go_wp2_with fail
    have bO4 := BoxS.new w3 26 #[.int .i64 al, .int .i64 ah, .int .i64 bl, .int .i64 bh, .slice A' cs.length c', .int .i64 wrn]
    have hbx : Below w3.heap.size w3 (w3.alloc (.cells #[.int .i64 al, .int .i64 ah, .int .i64 bl, .int .i64 bh, .slice A' cs.length c', .int .i64 wrn] 26)) := (Below.refl _ _).alloc (Nat.le_refl _) _
    have bS4 := bS3.below hbx
    have hB4 := hB3.trans (hbx.mono hB3.size)
    have HC4 : Hid (Cts (w3.alloc (.cells #[.int .i64 al, .int .i64 ah, .int .i64 bl, .int .i64 bh, .slice A' cs.length c', .int .i64 wrn] 26)) (w3.alloc (.cells #[.int .i64 al, .int .i64 ah, .int .i64 bl, .int .i64 bh, .slice A' cs.length c', .int .i64 wrn] 26)).heap.size A' cs) := (HC3.out.keep hbx).wider hbx.size
    obtain ⟨BO, hBO⟩ : ∃ B, B = w3.heap.size := ⟨_, rfl⟩
    have k1 : w.heap.size < BO := by have := bS3.lt; omega
    rw [← hBO] at bO4 ⊢
    clear bS3 hB3 HC3 hbx hBO
    generalize World.alloc w3 _ = w4 at *
    refine (HA12.out A' c' _ HC4.out).mono ?_
    rintro e w5 ⟨rfl, hb5⟩
    have bO5 := bO4.below hb5
    have bS5 := bS4.below hb5
    have hB5 := hB4.trans (hb5.mono hB4.size)
    have HC5 : Hid (Cts w5 w5.heap.size A' cs) := (HC4.out.keep hb5).wider hb5.size
    clear bO4 bS4 hb5 hB4 HC4 HA12
    obtain ⟨⟨s0, s1, s2⟩, s3, s4, s5⟩ := boxS6 bS5
    go_wp2_with fail
    refine (HA22.out _ hB5).mono ?_
    rintro e w6 ⟨rfl, hb6⟩
    have bO6 := bO5.below hb6
    have bS6 := bS5.below hb6
    have hB6 := hB5.trans (hb6.mono hB5.size)
    have HC6 : Hid (Cts w6 w6.heap.size A' cs) := (HC5.out.keep hb6).wider hb6.size
    clear s0 s1 s2 s3 s4 s5 bO5 bS5 hb6 hB5 HC5 HA22
    obtain ⟨⟨o0, o1, o2⟩, o3, o4, o5⟩ := boxS6 bO6
    go_wp2_with fail
    refine (HS12.out A' c' _ HC6.out).mono ?_
    rintro e w7 ⟨v7, rfl, hI7, hb7⟩
    have bO7 := bO6.below hb7
    have bS7 := bS6.below hb7
    have hB7 := hB6.trans (hb7.mono hB6.size)
    have HC7 : Hid (Cts w7 w7.heap.size A' cs) := (HC6.out.keep hb7).wider hb7.size
    clear o0 o1 o2 o3 o4 o5 bO6 bS6 hb7 hB6 HC6 HS12
    obtain ⟨⟨s0, s1, s2⟩, s3, s4, s5⟩ := boxS6 bS7
    go_wp2_with fail
    refine (HS22.out _ hB7).mono ?_
    rintro e w8 ⟨v8, rfl, hI8, hb8⟩
    have bO8 := bO7.below hb8
    have bS8 := bS7.below hb8
    have hB8 := hB7.trans (hb8.mono hB7.size)
    have HC8 : Hid (Cts w8 w8.heap.size A' cs) := (HC7.out.keep hb8).wider hb8.size
    have hI78 : Hid (Ints w8 w8.heap.size v7 SL) := (hI7.out.keep hb8).more hb8.size
    clear s0 s1 s2 s3 s4 s5 bO7 bS7 hb8 hB7 HC7 HS22 hI7
    go_wp2_with fail
    refine (HSI2.out v7 v8 _ hI78.out hI8.out).mono ?_
    rintro e w9 ⟨rfl, hb9⟩
    have bO9 := bO8.below hb9
    have bS9 := bS8.below hb9
    have hB9 := hB8.trans (hb9.mono hB8.size)
    have HC9 : Hid (Cts w9 w9.heap.size A' cs) := (HC8.out.keep hb9).wider hb9.size
    clear bO8 bS8 hb9 hB8 HC8 HSI2 hI78 hI8
    obtain ⟨⟨s0, s1, s2⟩, s3, s4, s5⟩ := boxS6 bS9
    obtain ⟨⟨o0, o1, o2⟩, o3, o4, o5⟩ := boxS6 bO9
    go_wp2_with fail
    refine (HSA2.out A' c' _ hB9 HC9.out).mono ?_
    rintro e w10 ⟨rfl, hb10⟩
    have hB10 := hB9.trans (hb10.mono hB9.size)
    clear s0 s1 s2 s3 s4 s5 o0 o1 o2 o3 o4 o5 bO9 bS9 hb10 hB9 HC9 HSA2
    go_wp2_with fail
    refine (HWK.out _).mono ?_
    rintro e w11 ⟨rfl, hb11⟩
    have hB11 := hB10.trans (hb11.mono hB10.size)
    go_wp2_with fail
    go_returns
    exact ⟨rfl, hB11⟩

open Go.ChangeShapes Go.WideShapes Go.ChangeAt Go.RowKit Go.Joins

set_option maxRecDepth 100000 in
theorem strange_lifted (os : Os) (started : os.Started) (H : Type) (enc : TypeId × Value → H) :
    ReturnsInHanded {} Try.checked os 9 .any (Rows.sheetsStrangeSpec.pre6 enc Try.prog Try.f9 Rows.sheetsStrangeRow.domain false) (Rows.sheetsStrangeSpec.post enc Try.prog Try.f9 false true false false) := by
  refine returnsInHanded_of_change (C := Try.checked) own started (by kernel_rfl) Try.func9
    (ChangeSpec.witness6 (enc := enc) (C := Try.checked) false ⟨#[], #[.agg #[.int .i64 0, .int .i64 0, .int .i64 0, .int .i64 0, .slice none 0 0, .int .i64 0]], []⟩ 8 (by kernel_rfl) (by kernel_rfl) (by kernel_rfl) (by kernel_rfl)) ?_
  intro W base args ds gs before hval0 hW hcnd _
  have hval : ∀ (j : Nat) t v, Try.f9.params[j]? = some t → args[j]? = some v → Value.okWide Try.prog W .any base t v := hval0
  have hW' := hW
  obtain ⟨p, q, hA0, hV, rfl, hfz, hnd⟩ := hW
  have hA : DataW.TrodAll enc Try.prog W 0 (fun _ => true) true Try.f9.params.toList args.toList ds p := hA0
  rw [Try.params9] at hA hval
  obtain ⟨v0, d0, rfl, rfl, h0⟩ := trodAll_one hA
  obtain ⟨rfl, rfl⟩ := trodVars_none hV
  obtain ⟨s, A, c, rfl, hg_s, hl_s⟩ := open_Sheet (hval 0 26 v0 rfl rfl) h0
  refine (SheetsStrange_walk s A c W hl_s hg_s).mono fun e W' ⟨he, hb⟩ => ?_
  subst he
  exact ⟨_, rfl, law_post hW' rfl rfl (by intro t ht; have : t = 26 := (by rw [Try.params9] at ht; simpa using ht); subst this; exact ⟨by kernel_rfl, of_decide_eq_true (by kernel_rfl)⟩) rfl rfl rfl hb⟩

theorem strange_holds : Rows.SheetsStrangeSaid :=
  OpenClaim.holds_of_wide 9 Try.f9 rfl rfl rfl rfl rfl rfl rfl ⟨rfl, rfl, rfl, rfl, rfl⟩ rfl rfl rfl rfl rfl (by kernel_rfl) Try.func9 (by kernel_rfl)
    (of_decide_eq_true (by kernel_rfl)) (by unfold Func.isWrapper; rw [if_neg (of_decide_eq_false (by kernel_rfl))]; exact ⟨rfl, rfl⟩)
    (fun os started H enc _ => strange_lifted os started H enc)
end Go.Proofs.Ytgpmnkdagpcffaa
