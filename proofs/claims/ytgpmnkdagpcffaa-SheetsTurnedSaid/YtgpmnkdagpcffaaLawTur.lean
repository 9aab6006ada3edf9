/- Sheets: the law SheetsTurned (if both directions, and X and Y of all points, are exchanged, the factors are exchanged, and nothing else changes, for any sheet, polygon and two points). -/
import Derived.Test.YtgpmnkdagpcffaaTurP
import Derived.Test.YtgpmnkdagpcffaaLen
import Derived.Test.YtgpmnkdagpcffaaFac
import Derived.Test.YtgpmnkdagpcffaaStr
namespace Go.Proofs.Ytgpmnkdagpcffaa
open Go.RowKit
theorem four_put {W : World} {B : Nat} {t : TypeId} {a b c d e f : Value} (h : BoxS W B t #[a, b, c, d, e, f]) (u v x y : Value) :
    BoxS ((((W.setCell ⟨B, 0, none⟩ u).setCell ⟨B, 1, none⟩ v).setCell ⟨B, 2, none⟩ x).setCell ⟨B, 3, none⟩ y) B t #[u, v, x, y, e, f] := by
  have put : ∀ {W : World} {vs : Array Value} (_ : BoxS W B t vs) (i : Nat) (v : Value), BoxS (W.setCell ⟨B, i, none⟩ v) B t (vs.setIfInBounds i v) := by
    intro W vs h i v
    obtain ⟨hlt, hk⟩ := Array.getElem?_eq_some_iff.1 h
    show (W.heap.modify B _)[B]? = _
    rw [Array.getElem?_eq_getElem (by rw [Array.size_modify]; exact hlt), Array.getElem_modify_self, hk]
    rfl
  exact put (put (put (put h 0 u) 1 v) 2 x) 3 y
theorem put_two {W : World} {B : Nat} {t : TypeId} {a b : Value} (h : BoxS W B t #[a, b]) (u v : Value) :
    BoxS ((W.setCell ⟨B, 0, none⟩ u).setCell ⟨B, 1, none⟩ v) B t #[u, v] := by
  have put : ∀ {W : World} {vs : Array Value} (_ : BoxS W B t vs) (i : Nat) (v : Value), BoxS (W.setCell ⟨B, i, none⟩ v) B t (vs.setIfInBounds i v) := by
    intro W vs h i v
    obtain ⟨hlt, hk⟩ := Array.getElem?_eq_some_iff.1 h
    show (W.heap.modify B _)[B]? = _
    rw [Array.getElem?_eq_getElem (by rw [Array.size_modify]; exact hlt), Array.getElem_modify_self, hk]
    rfl
  exact put (put h 0 u) 1 v
theorem Sh.strL_lenT (s : Sheet) : (Sh.strL s).length ≤ s.cs.length := by
  unfold Sh.strL
  split
  · exact Sh.strTo_len _ _
  · simp
set_option maxRecDepth 100000 in
set_option maxHeartbeats 8000000 in
theorem SheetsTurned_walk (s : Sheet) (A : Option Addr) (c : Nat) (A2 : Option Addr) (c2 : Nat) (ps : List Geo.Pt) (x1 x2 y1 y2 : Int) (w : World) (hg : Cts w w.heap.size A s.cs) (hP : Prs w w.heap.size A2 ps) :
    Calls Try.prog 4 #[.agg (shV s A c), .slice A2 ps.length c2, .agg #[.int .i64 x1, .int .i64 x2, .int .i64 y1, .int .i64 y2]] w (TruePost w) := by
  have HWK : Hid (∀ W, Calls Try.prog 15 #[] W fun e w' => e = .returned (.bool true) ∧ Below W.heap.size W w') := works_any
  have HRD : Hid (∀ W, Below w.heap.size w W → Calls Try.prog 13 #[.agg (shV s A c)] W fun e w' => e = .returned (.bool (Sh.readyB s)) ∧ Below W.heap.size W w') := fun W hW => ready4_any s A c W ((hg.keep hW).wider hW.size)
  have HPO : Hid (∀ W, Below w.heap.size w W → Calls Try.prog 14 #[.slice A2 ps.length c2] W fun e w' => e = .returned (.bool (Sh.polyB ps)) ∧ Below W.heap.size W w') := fun W hW => isPoly_any A2 c2 ps W (prs_keep hP hW)
  have HRO : Hid (Sh.readyB s = true → Sh.Ok s) := fun h => by unfold Sh.readyB at h; exact Sh.ok_of (Bool.and_eq_true_iff.1 h).2
  have HCO : Hid (Sh.readyB s = true → ∀ W, Below w.heap.size w W → Calls Try.prog 19 #[.agg (shV s A c)] W (Copy4OPost s W)) := fun h W hW => Copy4_own s A c (by have := (HRO.out h).n; omega) W ((hg.keep hW).wider hW.size)
  have HCS : Hid (Cts w w.heap.size A s.cs) := hg
  have HLN : Hid (Sh.readyB s = true → s.cs.length ≤ 8) := fun h => (HRO.out h).n
  have HTU : Hid (∀ W A c, Prs W W.heap.size A [(x1, x2), (y1, y2)] → Calls Try.prog 21 #[.slice A 2 c] W (PrsPost [(x2, x1), (y2, y1)] W)) := fun W A c h => turned_any A c [(x1, x2), (y1, y2)] (by simp) W h
  have HTP : Hid (ps.length ≤ 40 → ∀ W, Below w.heap.size w W → Calls Try.prog 21 #[.slice A2 ps.length c2] W fun e w' => ∃ A c, e = .returned (.slice A ps.length c) ∧ Hid (Prs w' w'.heap.size A (ps.map Sh.swF)) ∧ Below W.heap.size W w') := fun h W hW => by
    have := turned_any A2 c2 ps (by omega) W (prs_keep hP hW)
    unfold PrsPost at this
    rw [List.length_map] at this
    exact this
  have HPV : Hid (Sh.polyB ps = true → Geo.validB ps = true ∧ ps.length ≤ 40) := fun h => by
    unfold Sh.polyB at h
    rw [Bool.and_eq_true] at h
    exact ⟨h.2, of_decide_eq_true h.1⟩
  have HAA : Hid (Sh.readyB s = true → ps.length ≤ 40 → ∀ W, Below w.heap.size w W → Calls Try.prog 23 #[.agg (shV s A c), .slice A2 ps.length c2] W (SpanEPost (Sh.areaLoE s ps) (Sh.areaHiE s ps) (Sh.areaE s ps) W)) := fun h h2 W hW => Area_any s A c A2 c2 ps W (by have := (HRO.out h).n; omega) (by omega) ((hg.keep hW).wider hW.size) (prs_keep hP hW)
  have HAB : Hid (Sh.readyB s = true → Geo.validB ps = true → ps.length ≤ 40 → ∀ A c A3 c3 W, Cts W W.heap.size A (s.cs.map Sh.swC) → Prs W W.heap.size A3 (ps.map Sh.swF) → Calls Try.prog 23 #[.agg #[.int .i64 s.bl, .int .i64 s.bh, .int .i64 s.al, .int .i64 s.ah, .slice A s.cs.length c, .int .i64 s.wr], .slice A3 ps.length c3] W (SpanEPost (Sh.areaLoE s ps) (Sh.areaHiE s ps) (Sh.areaE s ps) W)) := fun h hv h2 A c A3 c3 W hC hQ => by
    have hs := HRO.out h
    have := Area_any (Sh.swSh s) A c A3 c3 (ps.map Geo.swp) W (by have := (Sh.ok_sw hs).n; omega) (by rw [List.length_map]; omega) hC hQ
    have el : (s.cs.map Sh.swC).length = s.cs.length := List.length_map ..
    rw [Sh.areaE_sw hs hv, Sh.areaLoE_sw hs hv, Sh.areaHiE_sw hs hv, List.length_map] at this
    unfold shV Sh.swSh at this
    dsimp only at this
    rw [el] at this
    exact this
  have HLA : Hid (Sh.readyB s = true → ∀ W, Below w.heap.size w W → Calls Try.prog 24 #[.agg (shV s A c), .agg #[.int .i64 x1, .int .i64 x2], .agg #[.int .i64 y1, .int .i64 y2]] W (SpanEPost (Sh.lenLoE s (x1, x2) (y1, y2)) (Sh.lenHiE s (x1, x2) (y1, y2)) (Sh.lenE s (x1, x2) (y1, y2)) W)) := fun h W hW => Length_any s (x1, x2) (y1, y2) A c W (by have := (HRO.out h).n; omega) ((hg.keep hW).wider hW.size)
  have HLB : Hid (Sh.readyB s = true → ∀ A c W, Cts W W.heap.size A (s.cs.map Sh.swC) → Calls Try.prog 24 #[.agg #[.int .i64 s.bl, .int .i64 s.bh, .int .i64 s.al, .int .i64 s.ah, .slice A s.cs.length c, .int .i64 s.wr], .agg #[.int .i64 x2, .int .i64 x1], .agg #[.int .i64 y2, .int .i64 y1]] W (SpanEPost (Sh.lenLoE s (x1, x2) (y1, y2)) (Sh.lenHiE s (x1, x2) (y1, y2)) (Sh.lenE s (x1, x2) (y1, y2)) W)) := fun h A c W hC => by
    have hs := HRO.out h
    have := Length_any (Sh.swSh s) (Geo.swp (x1, x2)) (Geo.swp (y1, y2)) A c W (by have := (Sh.ok_sw hs).n; omega) hC
    have el : (s.cs.map Sh.swC).length = s.cs.length := List.length_map ..
    rw [Sh.lenE_sw hs, Sh.lenLoE_sw hs, Sh.lenHiE_sw hs] at this
    unfold shV Sh.swSh Geo.swp at this
    dsimp only at this
    rw [el] at this
    exact this
  have HMA : Hid (Sh.readyB s = true → ∀ W, Below w.heap.size w W → Calls Try.prog 17 #[.agg (shV s A c)] W (TwoPost (Sh.manyV s) (Sh.spE s) W)) := fun h W hW => Many_any s A c W (by have := (HRO.out h).n; omega) ((hg.keep hW).wider hW.size)
  have HMB : Hid (Sh.readyB s = true → ∀ A c W, Cts W W.heap.size A (s.cs.map Sh.swC) → Calls Try.prog 17 #[.agg #[.int .i64 s.bl, .int .i64 s.bh, .int .i64 s.al, .int .i64 s.ah, .slice A s.cs.length c, .int .i64 s.wr]] W (TwoPost (Sh.manyV s) (Sh.spE s) W)) := fun h A c W hC => by
    have hs := HRO.out h
    have := Many_any (Sh.swSh s) A c W (by have := (Sh.ok_sw hs).n; omega) hC
    have el : (s.cs.map Sh.swC).length = s.cs.length := List.length_map ..
    rw [Sh.many_sw hs, Sh.sp_sw hs] at this
    unfold shV Sh.swSh at this
    dsimp only at this
    rw [el] at this
    exact this
  have HSA : Hid (Sh.readyB s = true → ∀ W, Below w.heap.size w W → Calls Try.prog 25 #[.agg (shV s A c)] W (IntsEPost (Sh.strL s) (Sh.spE s) W)) := fun h W hW => Strange_any s A c W (by have := (HRO.out h).n; omega) ((hg.keep hW).wider hW.size)
  have HSB : Hid (Sh.readyB s = true → ∀ A c W, Cts W W.heap.size A (s.cs.map Sh.swC) → Calls Try.prog 25 #[.agg #[.int .i64 s.bl, .int .i64 s.bh, .int .i64 s.al, .int .i64 s.ah, .slice A s.cs.length c, .int .i64 s.wr]] W (IntsEPost (Sh.strL s) (Sh.spE s) W)) := fun h A c W hC => by
    have hs := HRO.out h
    have := Strange_any (Sh.swSh s) A c W (by have := (Sh.ok_sw hs).n; omega) hC
    have el : (s.cs.map Sh.swC).length = s.cs.length := List.length_map ..
    rw [Sh.str_sw hs, Sh.sp_sw hs] at this
    unfold shV Sh.swSh at this
    dsimp only at this
    rw [el] at this
    exact this
  have HSI : Hid (∀ L : List Int, L.length ≤ 1000000000 → ∀ v v' W, Ints W W.heap.size v L → Ints W W.heap.size v' L → Calls Try.prog 26 #[v, v'] W (TruePost W)) := fun L hL v v' W h1 h2 => by
    have := sameInts_any v v' _ _ W h1 h2 hL hL
    rw [decide_eq_true rfl] at this
    exact this
  have HI1 : Hid (∀ v v' W, Ints W W.heap.size v (Sh.facR s 1) → Ints W W.heap.size v' (Sh.facR s 1) → Calls Try.prog 26 #[v, v'] W (TruePost W)) := HSI.out _ (by have := Sh.facR_len s 1; omega)
  have HI2 : Hid (Sh.readyB s = true → ∀ v v' W, Ints W W.heap.size v (Sh.strL s) → Ints W W.heap.size v' (Sh.strL s) → Calls Try.prog 26 #[v, v'] W (TruePost W)) := fun h => HSI.out _ (by have := Sh.strL_lenT s; have := (HRO.out h).n; omega)
  have HFA : Hid (Sh.readyB s = true → ∀ W, Below w.heap.size w W → Calls Try.prog 22 #[.agg (shV s A c), .int .i64 1] W (IntsEPost (Sh.facR s 1) (Sh.facE s 1) W)) := fun h W hW => Factors_any s 1 A c W (by have := (HRO.out h).n; omega) ((hg.keep hW).wider hW.size)
  have HFB : Hid (Sh.readyB s = true → ∀ A c W, Cts W W.heap.size A (s.cs.map Sh.swC) → Calls Try.prog 22 #[.agg #[.int .i64 s.bl, .int .i64 s.bh, .int .i64 s.al, .int .i64 s.ah, .slice A s.cs.length c, .int .i64 s.wr], .int .i64 2] W (IntsEPost (Sh.facR s 1) (Sh.facE s 1) W)) := fun h A c W hC => by
    have := Factors_any (Sh.swSh s) 2 A c W (by have := (Sh.ok_sw (HRO.out h)).n; omega) hC
    have e1 := Sh.facR_sw (HRO.out h) (way := 1) rfl
    have e2 := Sh.facE_sw (HRO.out h) (way := 1) rfl
    rw [show (3 : Int) - 1 = 2 from rfl] at e1 e2
    rw [e1, e2] at this
    have el : (s.cs.map Sh.swC).length = s.cs.length := List.length_map ..
    unfold shV Sh.swSh at this
    dsimp only at this
    rw [el] at this
    exact this
  have HWY : Hid (Sh.readyB s = true → ∀ k, k < s.cs.length → (Sh.ctAt s.cs k).1 = 1 ∨ (Sh.ctAt s.cs k).1 = 2) := fun h k hk => by
    have := Sh.ctB_way ((HRO.out h).c k hk)
    unfold Sh.wayB at this
    simpa using this
  unfold Copy4OPost at HCO
  unfold IntsEPost at HFA HFB HSA HSB
  unfold PrsPost at HTU
  generalize Sh.areaLoE s ps = aL at *
  generalize Sh.areaHiE s ps = aH at *
  generalize Sh.areaE s ps = aE at *
  generalize Sh.lenLoE s (x1, x2) (y1, y2) = lL at *
  generalize Sh.lenHiE s (x1, x2) (y1, y2) = lH at *
  generalize Sh.lenE s (x1, x2) (y1, y2) = lE at *
  generalize Sh.manyV s = MV at *
  generalize Sh.strL s = SL at *
  generalize Sh.spE s = SE at *
  generalize Sh.facR s 1 = FL at *
  generalize Sh.facE s 1 = FE at *
  generalize Sh.readyB s = RB at *
  generalize Sh.polyB ps = PB at *
  generalize Geo.validB ps = VB at *
  clear hg hP HRO HSI
  obtain ⟨al, ah, bl, bh, cs, wrn⟩ := s
  unfold shV at *
  dsimp only at *
  cases RB with
  | false =>
    go_enter Try.func4, Try.ntmps4
    go_wp2_with fail
    have bS1 := (BoxS.new w 26 #[.int .i64 al, .int .i64 ah, .int .i64 bl, .int .i64 bh, .slice A cs.length c, .int .i64 wrn]).alloc (.cells #[.int .i64 x1, .int .i64 x2, .int .i64 y1, .int .i64 y2] 44)
    have bZ1 := BoxS.new (w.alloc (.cells #[.int .i64 al, .int .i64 ah, .int .i64 bl, .int .i64 bh, .slice A cs.length c, .int .i64 wrn] 26)) 44 #[.int .i64 x1, .int .i64 x2, .int .i64 y1, .int .i64 y2]
    rw [World.size_alloc] at bZ1
    have hB1 : Below w.heap.size w ((w.alloc (.cells #[.int .i64 al, .int .i64 ah, .int .i64 bl, .int .i64 bh, .slice A cs.length c, .int .i64 wrn] 26)).alloc (.cells #[.int .i64 x1, .int .i64 x2, .int .i64 y1, .int .i64 y2] 44)) := by (repeat' (first | (with_reducible exact Below.refl _ _) | (with_reducible assumption) | (with_reducible refine Below.alloc ?_ ?_ _) | (with_reducible refine Below.drew ?_) | (with_reducible refine Below.setCell ?_ ?_ _) | go_size | (exact (by simp)) | omega))
    generalize World.alloc (World.alloc w _) _ = w1 at *
    obtain ⟨⟨s0, s1, s2⟩, s3, s4, s5⟩ := boxS6 bS1
    have lS1 := bS1.lt
    obtain ⟨z0, z1, z2, z3⟩ := boxS4 bZ1
    have lZ1 := bZ1.lt
    go_wp2_with fail
    refine (HRD.out _ hB1).mono ?_
    rintro e w2 ⟨rfl, hb2⟩
    have bS2 := bS1.below hb2
    have bZ2 := bZ1.below hb2
    have hB2 := hB1.trans (hb2.mono hB1.size)
    clear s0 s1 s2 s3 s4 s5 lS1 z0 z1 z2 z3 lZ1 bS1 bZ1 hB1 hb2
    obtain ⟨⟨s0, s1, s2⟩, s3, s4, s5⟩ := boxS6 bS2
    have lS2 := bS2.lt
    obtain ⟨z0, z1, z2, z3⟩ := boxS4 bZ2
    have lZ2 := bZ2.lt
    go_wp2_with fail
    refine (HWK.out _).mono ?_
    rintro e wz ⟨rfl, hbz⟩
    have hBz := hB2.trans (hbz.mono hB2.size)
    go_wp2_with fail
    go_returns
    exact ⟨rfl, hBz⟩
  | true =>
    have HCO2 := Lib.hid (HCO.out rfl)
    have hcl := HLN.out rfl
    have HWY2 := Lib.hid (HWY.out rfl)
    have HFA2 := Lib.hid (HFA.out rfl)
    have HFB2 := Lib.hid (HFB.out rfl)
    have HAA2 := Lib.hid (HAA.out rfl)
    have HAB2 := Lib.hid (HAB.out rfl)
    have HLA2 := Lib.hid (HLA.out rfl)
    have HLB2 := Lib.hid (HLB.out rfl)
    have HMA2 := Lib.hid (HMA.out rfl)
    have HMB2 := Lib.hid (HMB.out rfl)
    have HSA2 := Lib.hid (HSA.out rfl)
    have HSB2 := Lib.hid (HSB.out rfl)
    have HI3 := Lib.hid (HI2.out rfl)
    clear HCO HLN HWY HFA HFB HAA HAB HLA HLB HMA HMB HSA HSB HI2
    cases PB with
    | false =>
      go_enter Try.func4, Try.ntmps4
      go_wp2_with fail
      have bS1 := (BoxS.new w 26 #[.int .i64 al, .int .i64 ah, .int .i64 bl, .int .i64 bh, .slice A cs.length c, .int .i64 wrn]).alloc (.cells #[.int .i64 x1, .int .i64 x2, .int .i64 y1, .int .i64 y2] 44)
      have bZ1 := BoxS.new (w.alloc (.cells #[.int .i64 al, .int .i64 ah, .int .i64 bl, .int .i64 bh, .slice A cs.length c, .int .i64 wrn] 26)) 44 #[.int .i64 x1, .int .i64 x2, .int .i64 y1, .int .i64 y2]
      rw [World.size_alloc] at bZ1
      have hB1 : Below w.heap.size w ((w.alloc (.cells #[.int .i64 al, .int .i64 ah, .int .i64 bl, .int .i64 bh, .slice A cs.length c, .int .i64 wrn] 26)).alloc (.cells #[.int .i64 x1, .int .i64 x2, .int .i64 y1, .int .i64 y2] 44)) := by (repeat' (first | (with_reducible exact Below.refl _ _) | (with_reducible assumption) | (with_reducible refine Below.alloc ?_ ?_ _) | (with_reducible refine Below.drew ?_) | (with_reducible refine Below.setCell ?_ ?_ _) | go_size | (exact (by simp)) | omega))
      generalize World.alloc (World.alloc w _) _ = w1 at *
      obtain ⟨⟨s0, s1, s2⟩, s3, s4, s5⟩ := boxS6 bS1
      have lS1 := bS1.lt
      obtain ⟨z0, z1, z2, z3⟩ := boxS4 bZ1
      have lZ1 := bZ1.lt
      go_wp2_with fail
      refine (HRD.out _ hB1).mono ?_
      rintro e w2 ⟨rfl, hb2⟩
      have bS2 := bS1.below hb2
      have bZ2 := bZ1.below hb2
      have hB2 := hB1.trans (hb2.mono hB1.size)
      clear s0 s1 s2 s3 s4 s5 lS1 z0 z1 z2 z3 lZ1 bS1 bZ1 hB1 hb2
      obtain ⟨⟨s0, s1, s2⟩, s3, s4, s5⟩ := boxS6 bS2
      have lS2 := bS2.lt
      obtain ⟨z0, z1, z2, z3⟩ := boxS4 bZ2
      have lZ2 := bZ2.lt
      go_wp2_with fail
      refine (HPO.out _ hB2).mono ?_
      rintro e w3 ⟨rfl, hb3⟩
      have bS3 := bS2.below hb3
      have bZ3 := bZ2.below hb3
      have hB3 := hB2.trans (hb3.mono hB2.size)
      clear s0 s1 s2 s3 s4 s5 lS2 z0 z1 z2 z3 lZ2 bS2 bZ2 hB2 hb3
      obtain ⟨⟨s0, s1, s2⟩, s3, s4, s5⟩ := boxS6 bS3
      have lS3 := bS3.lt
      obtain ⟨z0, z1, z2, z3⟩ := boxS4 bZ3
      have lZ3 := bZ3.lt
      go_wp2_with fail
      refine (HWK.out _).mono ?_
      rintro e wz ⟨rfl, hbz⟩
      have hBz := hB3.trans (hbz.mono hB3.size)
      go_wp2_with fail
      go_returns
      exact ⟨rfl, hBz⟩
    | true =>
      have hVB := HPV.out rfl
      have HTP3 := Lib.hid (HTP.out hVB.2)
      have HAA3 := Lib.hid (HAA2.out hVB.2)
      have HAB3 := Lib.hid (HAB2.out hVB.1 hVB.2)
      clear HAA2 HAB2 HTP HPV hVB
      go_enter Try.func4, Try.ntmps4
      go_wp2_with fail
      have bS1 := (BoxS.new w 26 #[.int .i64 al, .int .i64 ah, .int .i64 bl, .int .i64 bh, .slice A cs.length c, .int .i64 wrn]).alloc (.cells #[.int .i64 x1, .int .i64 x2, .int .i64 y1, .int .i64 y2] 44)
      have bZ1 := BoxS.new (w.alloc (.cells #[.int .i64 al, .int .i64 ah, .int .i64 bl, .int .i64 bh, .slice A cs.length c, .int .i64 wrn] 26)) 44 #[.int .i64 x1, .int .i64 x2, .int .i64 y1, .int .i64 y2]
      rw [World.size_alloc] at bZ1
      have hB1 : Below w.heap.size w ((w.alloc (.cells #[.int .i64 al, .int .i64 ah, .int .i64 bl, .int .i64 bh, .slice A cs.length c, .int .i64 wrn] 26)).alloc (.cells #[.int .i64 x1, .int .i64 x2, .int .i64 y1, .int .i64 y2] 44)) := by (repeat' (first | (with_reducible exact Below.refl _ _) | (with_reducible assumption) | (with_reducible refine Below.alloc ?_ ?_ _) | (with_reducible refine Below.drew ?_) | (with_reducible refine Below.setCell ?_ ?_ _) | go_size | (exact (by simp)) | omega))
      generalize World.alloc (World.alloc w _) _ = w1 at *
      obtain ⟨⟨s0, s1, s2⟩, s3, s4, s5⟩ := boxS6 bS1
      have lS1 := bS1.lt
      obtain ⟨z0, z1, z2, z3⟩ := boxS4 bZ1
      have lZ1 := bZ1.lt
      go_wp2_with fail
      refine (HRD.out _ hB1).mono ?_
      rintro e w2 ⟨rfl, hb2⟩
      have bS2 := bS1.below hb2
      have bZ2 := bZ1.below hb2
      have hB2 := hB1.trans (hb2.mono hB1.size)
      clear s0 s1 s2 s3 s4 s5 lS1 z0 z1 z2 z3 lZ1 bS1 bZ1 hB1 hb2
      obtain ⟨⟨s0, s1, s2⟩, s3, s4, s5⟩ := boxS6 bS2
      have lS2 := bS2.lt
      obtain ⟨z0, z1, z2, z3⟩ := boxS4 bZ2
      have lZ2 := bZ2.lt
      go_wp2_with fail
      refine (HPO.out _ hB2).mono ?_
      rintro e w3 ⟨rfl, hb3⟩
      have bS3 := bS2.below hb3
      have bZ3 := bZ2.below hb3
      have hB3 := hB2.trans (hb3.mono hB2.size)
      clear s0 s1 s2 s3 s4 s5 lS2 z0 z1 z2 z3 lZ2 bS2 bZ2 hB2 hb3
      obtain ⟨⟨s0, s1, s2⟩, s3, s4, s5⟩ := boxS6 bS3
      have lS3 := bS3.lt
      obtain ⟨z0, z1, z2, z3⟩ := boxS4 bZ3
      have lZ3 := bZ3.lt
      go_wp2_with fail
      obtain ⟨B0, hB0e⟩ : ∃ B, B = w3.heap.size := ⟨_, rfl⟩
      have hB0 : w.heap.size + 1 < B0 := by have := bZ3.lt; omega
      refine (HCO2.out _ hB3).mono ?_
      rintro e w4 ⟨A', c', rfl, hO, hb4⟩
      have bS4 := bS3.below hb4
      have bZ4 := bZ3.below hb4
      have hB4 := hB3.trans (hb4.mono hB3.size)
      clear s0 s1 s2 s3 s4 s5 lS3 z0 z1 z2 z3 lZ3 bS3 bZ3 hB3 hb4 HCO2
      rw [← hB0e] at hO
      clear hB0e
      have HO4 := hO
      clear hO
      obtain ⟨⟨s0, s1, s2⟩, s3, s4, s5⟩ := boxS6 bS4
      have lS4 := bS4.lt
      obtain ⟨z0, z1, z2, z3⟩ := boxS4 bZ4
      have lZ4 := bZ4.lt
      go_wp2_with fail
      have bO5n := BoxS.new w4 26 #[.int .i64 al, .int .i64 ah, .int .i64 bl, .int .i64 bh, .slice A' cs.length c', .int .i64 wrn]
      have hbx : Below w4.heap.size w4 (w4.alloc (.cells #[.int .i64 al, .int .i64 ah, .int .i64 bl, .int .i64 bh, .slice A' cs.length c', .int .i64 wrn] 26)) := (Below.refl _ _).alloc (Nat.le_refl _) _
      have bS5 := bS4.below hbx
      have bZ5 := bZ4.below hbx
      have hB5 := hB4.trans (hbx.mono hB4.size)
      obtain ⟨BO, hBe⟩ : ∃ B, B = w4.heap.size := ⟨_, rfl⟩
      have kO : w.heap.size + 1 < BO := by have := bZ4.lt; omega
      have HO5 := Lib.hid (HO4.out.alloc (.cells #[.int .i64 al, .int .i64 ah, .int .i64 bl, .int .i64 bh, .slice A' cs.length c', .int .i64 wrn] 26))
      have hgr : ∀ g, (Value.slice A' cs.length c').ownBlock = some g → g < BO := fun g hg => by rw [hBe]; exact (HO4.out.lt g hg).2
      clear HO4
      rw [← hBe] at bO5n ⊢
      have bO5 := bO5n
      clear s0 s1 s2 s3 s4 s5 lS4 z0 z1 z2 z3 lZ4 bS4 bZ4 hB4 hbx hBe bO5n
      generalize World.alloc w4 _ = w5 at *
      refine (wpIn_wide (n := 4)).1 ?_
      have hmo : Try.prog.follows .mixedOrders = true := by kernel_rfl
      have KC : Hid (∀ W', (BoxS W' w.heap.size 26 #[.int .i64 al, .int .i64 ah, .int .i64 bl, .int .i64 bh, .slice A cs.length c, .int .i64 wrn] ∧ Below w.heap.size w W') → (W'.cell? ⟨w.heap.size, 0, none⟩ = some (.int .i64 al) ∧ W'.cell? ⟨w.heap.size, 1, none⟩ = some (.int .i64 ah) ∧ W'.cell? ⟨w.heap.size, 2, none⟩ = some (.int .i64 bl)) ∧ W'.cell? ⟨w.heap.size, 3, none⟩ = some (.int .i64 bh) ∧ W'.cell? ⟨w.heap.size, 4, none⟩ = some (.slice A cs.length c) ∧ W'.cell? ⟨w.heap.size, 5, none⟩ = some (.int .i64 wrn)) := fun W' h => boxS6 h.1
      have hBd := hB5.drew
      have bSd := bS5.drew
      have bZd := bZ5.drew
      have bOd := bO5.drew
      have HOd : Hid (w5.drew.ownsRow B0 29 4 (.slice A' cs.length c') cs.length (flat4 cs)) := HO5
      have q0 : BoxS w5.drew w.heap.size 26 #[.int .i64 al, .int .i64 ah, .int .i64 bl, .int .i64 bh, .slice A cs.length c, .int .i64 wrn] ∧ Below w.heap.size w w5.drew := ⟨bSd, hBd⟩
      refine wpIn_region_held (fun W' => BoxS W' w.heap.size 26 #[.int .i64 al, .int .i64 ah, .int .i64 bl, .int .i64 bh, .slice A cs.length c, .int .i64 wrn] ∧ Below w.heap.size w W') 7 hmo ?_
      refine wpHeldIn_take (i := 0) (v := ?_) (plain_of (by kernel_rfl)) rfl (by kernel_rfl) (fun _ _ _ h => h) (yieldsSoIn_of (by kernel_rfl) ?_ (fun _ => rfl)) q0 ?_; rotate_left; focus (intro wq hw; clear hw; go_simp; try (with_reducible rfl))
      refine wpHeldIn_take (i := 1) (v := ?_) (plain_of (by kernel_rfl)) rfl (by kernel_rfl) (fun _ _ _ h => h) (yieldsSoIn_of (by kernel_rfl) ?_ (fun _ => rfl)) q0 ?_; rotate_left; focus (intro wq hw; have kq := KC.out wq hw; clear hw; go_simp; try (with_reducible rfl))
      refine wpHeldIn_take (i := 2) (v := ?_) (plain_of (by kernel_rfl)) rfl (by kernel_rfl) (fun _ _ _ h => h) (yieldsSoIn_of (by kernel_rfl) ?_ (fun _ => rfl)) q0 ?_; rotate_left; focus (intro wq hw; clear hw; go_simp; try (with_reducible rfl))
      refine wpHeldIn_take (i := 3) (v := ?_) (plain_of (by kernel_rfl)) rfl (by kernel_rfl) (fun _ _ _ h => h) (yieldsSoIn_of (by kernel_rfl) ?_ (fun _ => rfl)) q0 ?_; rotate_left; focus (intro wq hw; have kq := KC.out wq hw; clear hw; go_simp; try (with_reducible rfl))
      refine wpHeldIn_take (i := 4) (v := ?_) (plain_of (by kernel_rfl)) rfl (by kernel_rfl) (fun _ _ _ h => h) (yieldsSoIn_of (by kernel_rfl) ?_ (fun _ => rfl)) q0 ?_; rotate_left; focus (intro wq hw; clear hw; go_simp; try (with_reducible rfl))
      generalize World.drew w5 = w6 at *
      obtain ⟨⟨o0, o1, o2⟩, o3, o4, o5⟩ := boxS6 bOd
      have fO0 := bOd.frozen 0
      have fO1 := bOd.frozen 1
      have fO2 := bOd.frozen 2
      have fO3 := bOd.frozen 3
      have hOS : w.heap.size ≠ BO := by omega
      have hOX : w.heap.size + 1 ≠ BO := by omega
      have q1 : BoxS ((w6.setCell ⟨BO, 0, none⟩ (.int .i64 bl)).setCell ⟨BO, 1, none⟩ (.int .i64 bh)) w.heap.size 26 #[.int .i64 al, .int .i64 ah, .int .i64 bl, .int .i64 bh, .slice A cs.length c, .int .i64 wrn] ∧ Below w.heap.size w ((w6.setCell ⟨BO, 0, none⟩ (.int .i64 bl)).setCell ⟨BO, 1, none⟩ (.int .i64 bh)) := ⟨(q0.1.away hOS _ _).away hOS _ _, by have := q0.2; (repeat' (first | (with_reducible exact Below.refl _ _) | (with_reducible assumption) | (with_reducible refine Below.alloc ?_ ?_ _) | (with_reducible refine Below.drew ?_) | (with_reducible refine Below.setCell ?_ ?_ _) | go_size | (exact (by simp)) | omega))⟩
      have q2 : BoxS ((((w6.setCell ⟨BO, 0, none⟩ (.int .i64 bl)).setCell ⟨BO, 1, none⟩ (.int .i64 bh)).setCell ⟨BO, 2, none⟩ (.int .i64 al)).setCell ⟨BO, 3, none⟩ (.int .i64 ah)) w.heap.size 26 #[.int .i64 al, .int .i64 ah, .int .i64 bl, .int .i64 bh, .slice A cs.length c, .int .i64 wrn] ∧ Below w.heap.size w ((((w6.setCell ⟨BO, 0, none⟩ (.int .i64 bl)).setCell ⟨BO, 1, none⟩ (.int .i64 bh)).setCell ⟨BO, 2, none⟩ (.int .i64 al)).setCell ⟨BO, 3, none⟩ (.int .i64 ah)) := ⟨(q1.1.away hOS _ _).away hOS _ _, by have := q1.2; (repeat' (first | (with_reducible exact Below.refl _ _) | (with_reducible assumption) | (with_reducible refine Below.alloc ?_ ?_ _) | (with_reducible refine Below.drew ?_) | (with_reducible refine Below.setCell ?_ ?_ _) | go_size | (exact (by simp)) | omega))⟩
      refine wpHeldIn_one (i := 5) (by kernel_rfl) (by kernel_rfl) rfl (by kernel_rfl) (fun K' hK' => ?_); go_simp; refine hK' _ _ q1 ?_
      refine wpHeldIn_take (i := 6) (v := ?_) (plain_of (by kernel_rfl)) rfl (by kernel_rfl) (fun _ _ _ h => h) (yieldsSoIn_of (by kernel_rfl) ?_ (fun _ => rfl)) q1 ?_; rotate_left; focus (intro wq hw; clear hw; go_simp; try (with_reducible rfl))
      refine wpHeldIn_last (by kernel_rfl) rfl (by kernel_rfl) (fun K2 hK2 => ?_)
      go_simp
      refine hK2 _ _ ?_
      refine wpHeldIn_done (by kernel_rfl) ?_ _
      go_simp
      have bZu := (((bZd.away hOX 0 (.int .i64 bl)).away hOX 1 (.int .i64 bh)).away hOX 2 (.int .i64 al)).away hOX 3 (.int .i64 ah)
      have bOu := four_put bOd (.int .i64 bl) (.int .i64 bh) (.int .i64 al) (.int .i64 ah)
      have hne : (Value.slice A' cs.length c').ownBlock ≠ some BO := fun e => by have := hgr BO e; omega
      have HOu := Lib.hid (ownsRow_setCell_other (ownsRow_setCell_other (ownsRow_setCell_other (ownsRow_setCell_other HOd.out (a := ⟨BO, 0, none⟩) hne (.int .i64 bl)) (a := ⟨BO, 1, none⟩) hne (.int .i64 bh)) (a := ⟨BO, 2, none⟩) hne (.int .i64 al)) (a := ⟨BO, 3, none⟩) hne (.int .i64 ah))
      obtain ⟨bSu, hBu⟩ := q2
      clear q0 q1 KC o0 o1 o2 o3 o4 o5 fO0 fO1 fO2 fO3 bOd bZd bSd HOd HO5 bS5 bZ5 bO5 hB5 hBd
      generalize World.setCell (World.setCell (World.setCell (World.setCell w6 _ _) _ _) _ _) _ _ = w7 at *
      have HSC := Lib.hid (fun (k : Nat) (h : k < cs.length) => Sh.swcTo_succ (cs := cs) (k := k) h)
      have HSG := Lib.hid (fun (k : Nat) (h : k < cs.length) => Sh.swcTo_get (cs := cs) (k := k) h)
      have H00 := Lib.hid (Sh.swcTo_zero cs)
      have HAA := Lib.hid (Sh.swcTo_all cs)
      have hc8 : (cs.length : Int) ≤ 8 := by omega
      go_wp2_with fail
      go_loopw [8] (fun x wr => ∃ k : Nat, (k : Int) ≤ cs.length ∧ x = .int .i64 k ∧ Below w.heap.size w wr ∧ BoxS wr w.heap.size 26 #[.int .i64 al, .int .i64 ah, .int .i64 bl, .int .i64 bh, .slice A cs.length c, .int .i64 wrn] ∧ BoxS wr (w.heap.size + 1) 44 #[.int .i64 x1, .int .i64 x2, .int .i64 y1, .int .i64 y2] ∧ BoxS wr BO 26 #[.int .i64 bl, .int .i64 bh, .int .i64 al, .int .i64 ah, .slice A' cs.length c', .int .i64 wrn] ∧ wr.ownsRow B0 29 4 (.slice A' cs.length c') cs.length (flat4 (Sh.swcTo cs k))) (fun x _ => cs.length - (intOf x).toNat)
      case atStart => exact ⟨0, by omega, rfl, hBu, bSu, bZu, bOu, by rw [H00.out]; exact HOu.out⟩
      case round =>
        clear hBu bSu bZu bOu HOu
        obtain ⟨k, hk, rfl, hBu, bSu, bZu, bOu, hown⟩ := hrel
        have HOw := Lib.hid hown
        clear hown
        have hk0 := Int.natCast_nonneg k
        obtain ⟨⟨s0, s1, s2⟩, s3, s4, s5⟩ := boxS6 bSu
        by_cases hlt : (k : Int) < cs.length
        · have hkn : k < cs.length := by omega
          obtain ⟨bb, off, rfl, hbb, hc⟩ := HCS.out (by omega)
          obtain ⟨g, cap, rfl, hgb, rfl⟩ : ∃ g cap, A' = some ⟨g, 0, none⟩ ∧ B0 ≤ g ∧ c' = cap := by
            rcases HOw.out.2 with ⟨e, e2⟩ | ⟨g, cap, cur, e, hb, _⟩
            · omega
            · injection e with e1 _ e3
              exact ⟨g, cap, e1, hb, e3⟩
          have hgo := hgr g rfl
          obtain ⟨a0, -, -, -⟩ := hc k hkn
          have hway := HWY2.out k hkn
          have hcell := HOw.out.cellAt (k * 4) (by omega)
          rw [(flat4_get _ k).1, HSG.out k hkn] at hcell
          have hfroz := HOw.out.frozenAt (k * 4)
          have hst := HOw.out.stored (k * 4) (.int .i64 (3 - (Sh.ctAt cs k).1))
          rw [flat4_set0 _ k _ (HSG.out k hkn)] at hst
          have hck : Sh.ctAt cs k = cs[k] := Sh.ctAt_eq (List.getElem?_eq_getElem hkn)
          rw [hck] at hst a0 hway
          rw [HSC.out k hkn] at hst
          have HST := Lib.hid hst.1
          have hw1 : IntKind.i64.wrap ((k : Int) + 1) = (k : Int) + 1 := IntWalk.i64_in _ (by omega)
          have hw2 : IntKind.i64.wrap (3 - cs[k].1) = 3 - cs[k].1 := IntWalk.i64_in _ (by omega)
          have hgS : w.heap.size ≠ g := by omega
          have hgX : w.heap.size + 1 ≠ g := by omega
          have hgO : BO ≠ g := by omega
          have hwr := bSu.lt
          have KC : Hid (∀ W', ((BoxS W' w.heap.size 26 #[.int .i64 al, .int .i64 ah, .int .i64 bl, .int .i64 bh, .slice (some ⟨bb, off, none⟩) cs.length c, .int .i64 wrn] ∧ BoxS W' BO 26 #[.int .i64 bl, .int .i64 bh, .int .i64 al, .int .i64 ah, .slice (some ⟨g, 0, none⟩) cs.length c', .int .i64 wrn]) ∧ Below w.heap.size w W') → W'.cell? ⟨w.heap.size, 4, none⟩ = some (.slice (some ⟨bb, off, none⟩) cs.length c) ∧ W'.cell? ⟨BO, 4, none⟩ = some (.slice (some ⟨g, 0, none⟩) cs.length c') ∧ W'.cell? ⟨bb, off + k * 4, none⟩ = some (.int .i64 cs[k].1)) := fun W' h => ⟨h.1.1.cell 4 rfl, h.1.2.cell 4 rfl, (h.2.cell (p := ⟨bb, _, none⟩) hbb).trans a0⟩
          have hgs : g < wr.heap.size := (HOw.out.lt g rfl).2
          have hcel2 : wr.cell? ⟨g, k * 4, none⟩ = some (.int .i64 cs[k].1) := hcell
          clear hcell hst hck a0 hc
          generalize cs[k].1 = way at *
          go_wp2_with fail
          refine (wpIn_wide (n := 4)).1 ?_
          have q0 : (BoxS wr.drew w.heap.size 26 #[.int .i64 al, .int .i64 ah, .int .i64 bl, .int .i64 bh, .slice (some ⟨bb, off, none⟩) cs.length c, .int .i64 wrn] ∧ BoxS wr.drew BO 26 #[.int .i64 bl, .int .i64 bh, .int .i64 al, .int .i64 ah, .slice (some ⟨g, 0, none⟩) cs.length c', .int .i64 wrn]) ∧ Below w.heap.size w wr.drew := ⟨⟨bSu.drew, bOu.drew⟩, hBu.drew⟩
          refine wpIn_region_held (fun W' => (BoxS W' w.heap.size 26 #[.int .i64 al, .int .i64 ah, .int .i64 bl, .int .i64 bh, .slice (some ⟨bb, off, none⟩) cs.length c, .int .i64 wrn] ∧ BoxS W' BO 26 #[.int .i64 bl, .int .i64 bh, .int .i64 al, .int .i64 ah, .slice (some ⟨g, 0, none⟩) cs.length c', .int .i64 wrn]) ∧ Below w.heap.size w W') 40 hmo ?_
          refine wpHeldIn_take (i := 0) (v := ?_) (plain_of (by kernel_rfl)) rfl (by kernel_rfl) (fun _ _ _ h => h) (yieldsSoIn_of (by kernel_rfl) ?_ (fun _ => rfl)) q0 ?_; rotate_left; focus (intro wq hw; clear hw; go_simp; try (with_reducible rfl))
          refine wpHeldIn_take (i := 1) (v := ?_) (plain_of (by kernel_rfl)) rfl (by kernel_rfl) (fun _ _ _ h => h) (yieldsSoIn_of (by kernel_rfl) ?_ (fun _ => rfl)) q0 ?_; rotate_left; focus (intro wq hw; have kq := KC.out wq hw; clear hw; go_simp; try (with_reducible rfl))
          refine wpHeldIn_take (i := 2) (v := ?_) (plain_of (by kernel_rfl)) rfl (by kernel_rfl) (fun _ _ _ h => h) (yieldsSoIn_of (by kernel_rfl) ?_ (fun _ => rfl)) q0 ?_; rotate_left; focus (intro wq hw; clear hw; go_simp; try (with_reducible rfl))
          refine wpHeldIn_take (i := 3) (v := ?_) (plain_of (by kernel_rfl)) rfl (by kernel_rfl) (fun _ _ _ h => h) (yieldsSoIn_of (by kernel_rfl) ?_ (fun _ => rfl)) q0 ?_; rotate_left; focus (intro wq hw; clear hw; go_simp; try (with_reducible rfl))
          refine wpHeldIn_take (i := 4) (v := ?_) (plain_of (by kernel_rfl)) rfl (by kernel_rfl) (fun _ _ _ h => h) (yieldsSoIn_of (by kernel_rfl) ?_ (fun _ => rfl)) q0 ?_; rotate_left; focus (intro wq hw; have kq := KC.out wq hw; clear hw; go_simp; try (with_reducible rfl))
          refine wpHeldIn_take (i := 5) (v := ?_) (plain_of (by kernel_rfl)) rfl (by kernel_rfl) (fun _ _ _ h => h) (yieldsSoIn_of (by kernel_rfl) ?_ (fun _ => rfl)) q0 ?_; rotate_left; focus (intro wq hw; clear hw; go_simp; try (with_reducible rfl))
          refine wpHeldIn_take (i := 6) (v := ?_) (plain_of (by kernel_rfl)) rfl (by kernel_rfl) (fun _ _ _ h => h) (yieldsSoIn_of (by kernel_rfl) ?_ (fun _ => rfl)) q0 ?_; rotate_left; focus (intro wq hw; clear hw; go_simp; try (with_reducible rfl))
          refine wpHeldIn_take (i := 7) (v := ?_) (plain_of (by kernel_rfl)) rfl (by kernel_rfl) (fun _ _ _ h => h) (yieldsSoIn_of (by kernel_rfl) ?_ (fun _ => rfl)) q0 ?_; rotate_left; focus (intro wq hw; clear hw; go_simp; try (with_reducible rfl))
          refine wpHeldIn_take (i := 8) (v := ?_) (plain_of (by kernel_rfl)) rfl (by kernel_rfl) (fun _ _ _ h => h) (yieldsSoIn_of (by kernel_rfl) ?_ (fun _ => rfl)) q0 ?_; rotate_left; focus (intro wq hw; have kq := KC.out wq hw; clear hw; go_simp; try (with_reducible rfl))
          refine wpHeldIn_take (i := 9) (v := ?_) (plain_of (by kernel_rfl)) rfl (by kernel_rfl) (fun _ _ _ h => h) (yieldsSoIn_of (by kernel_rfl) ?_ (fun _ => rfl)) q0 ?_; rotate_left; focus (intro wq hw; clear hw; go_simp; try (with_reducible rfl))
          refine wpHeldIn_take (i := 10) (v := ?_) (plain_of (by kernel_rfl)) rfl (by kernel_rfl) (fun _ _ _ h => h) (yieldsSoIn_of (by kernel_rfl) ?_ (fun _ => rfl)) q0 ?_; rotate_left; focus (intro wq hw; clear hw; go_simp; try (with_reducible rfl))
          refine wpHeldIn_take (i := 11) (v := ?_) (plain_of (by kernel_rfl)) rfl (by kernel_rfl) (fun _ _ _ h => h) (yieldsSoIn_of (by kernel_rfl) ?_ (fun _ => rfl)) q0 ?_; rotate_left; focus (intro wq hw; clear hw; go_simp; try (with_reducible rfl))
          have q1 : (BoxS (wr.setCell ⟨g, k * 4, none⟩ (.int .i64 (3 - way))).drew w.heap.size 26 #[.int .i64 al, .int .i64 ah, .int .i64 bl, .int .i64 bh, .slice (some ⟨bb, off, none⟩) cs.length c, .int .i64 wrn] ∧ BoxS (wr.setCell ⟨g, k * 4, none⟩ (.int .i64 (3 - way))).drew BO 26 #[.int .i64 bl, .int .i64 bh, .int .i64 al, .int .i64 ah, .slice (some ⟨g, 0, none⟩) cs.length c', .int .i64 wrn]) ∧ Below w.heap.size w (wr.setCell ⟨g, k * 4, none⟩ (.int .i64 (3 - way))).drew := ⟨⟨(bSu.away hgS _ _).drew, (bOu.away hgO _ _).drew⟩, by (repeat' (first | (with_reducible exact Below.refl _ _) | (with_reducible assumption) | (with_reducible refine Below.alloc ?_ ?_ _) | (with_reducible refine Below.drew ?_) | (with_reducible refine Below.setCell ?_ ?_ _) | go_size | (exact (by simp)) | omega))⟩
          have bZv := (bZu.away hgX (k * 4) (.int .i64 (3 - way))).drew
          have HOv : Hid ((wr.setCell ⟨g, k * 4, none⟩ (.int .i64 (3 - way))).drew.ownsRow B0 29 4 (.slice (some ⟨g, 0, none⟩) cs.length c') cs.length (flat4 (Sh.swcTo cs (k + 1)))) := HST.out
          refine wpHeldIn_one (i := 12) (by kernel_rfl) (by kernel_rfl) rfl (by kernel_rfl) (fun K' hK' => ?_); go_simp; refine hK' _ _ q1 ?_
          refine wpHeldIn_done (by kernel_rfl) ?_ _
          go_simp
          obtain ⟨⟨bSv, bOv⟩, hBv⟩ := q1
          clear q0 KC bSu bOu bZu hBu HST HOw s0 s1 s2 s3 s4 s5 hcel2 hfroz
          generalize World.drew (World.setCell wr _ _) = wv at *
          go_wp2_with fail
          go_roundw
          case rel => exact ⟨k + 1, by omega, by go_num, hBv, bSv, bZv, bOv, HOv.out⟩
          case measure => simp [intOf]; omega
        · obtain rfl : k = cs.length := by omega
          rw [HAA.out] at HOw
          have hlm : (cs.map Sh.swC).length = cs.length := List.length_map ..
          have HCU : Hid (Cts wr wr.heap.size A' (cs.map Sh.swC)) := Cts.of_reads (Reads.of_own (show wr.ownsRow B0 29 4 (.slice A' (cs.map Sh.swC).length c') (cs.map Sh.swC).length (flat4 (cs.map Sh.swC)) from by rw [hlm]; exact HOw.out))
          clear HOw hlt hk0 hk HSC HSG H00 HAA
          obtain ⟨w20, rfl⟩ : ∃ w20, w20 = wr := ⟨_, rfl⟩
          have bS20 := bSu
          have bZ20 := bZu
          have bO20 := bOu
          have hB20 := hBu
          have HC20 := HCU
          clear bSu bZu bOu hBu HCU s0 s1 s2 s3 s4 s5
          obtain ⟨⟨s0, s1, s2⟩, s3, s4, s5⟩ := boxS6 bS20
          have lS20 := bS20.lt
          obtain ⟨z0, z1, z2, z3⟩ := boxS4 bZ20
          have lZ20 := bZ20.lt
          obtain ⟨⟨o0, o1, o2⟩, o3, o4, o5⟩ := boxS6 bO20
          have lO20 := bO20.lt
          go_wp2_with fail
          have bY21n := BoxS.new w20 43 #[.int .i64 x1, .int .i64 x2, .int .i64 y1, .int .i64 y2]
          have hbx : Below w20.heap.size w20 (w20.alloc (.cells #[.int .i64 x1, .int .i64 x2, .int .i64 y1, .int .i64 y2] 43)) := (Below.refl _ _).alloc (Nat.le_refl _) _
          have bS21 := bS20.below hbx
          have bZ21 := bZ20.below hbx
          have bO21 := bO20.below hbx
          have hB21 := hB20.trans (hbx.mono hB20.size)
          have HC21 : Hid (Cts (w20.alloc (.cells #[.int .i64 x1, .int .i64 x2, .int .i64 y1, .int .i64 y2] 43)) (w20.alloc (.cells #[.int .i64 x1, .int .i64 x2, .int .i64 y1, .int .i64 y2] 43)).heap.size A' (cs.map Sh.swC)) := (HC20.out.keep hbx).wider hbx.size
          obtain ⟨BY, hBe⟩ : ∃ B, B = w20.heap.size := ⟨_, rfl⟩
          have kY : BO < BY := by have := bO20.lt; omega
          rw [← hBe] at bY21n ⊢
          have bY21 := bY21n
          clear s0 s1 s2 s3 s4 s5 lS20 z0 z1 z2 z3 lZ20 o0 o1 o2 o3 o4 o5 lO20 bS20 bZ20 bO20 HC20 hB20 hbx hBe bY21n
          generalize World.alloc w20 _ = w21 at *
          have HY0 : Prs w21 w21.heap.size (some ⟨BY, 0, none⟩) [(x1, x2), (y1, y2)] := fun _ => ⟨BY, 0, rfl, bY21.lt, fun k g hg => by
            match k with
            | 0 => obtain rfl : (x1, x2) = g := by simpa using hg
                   exact ⟨bY21.cell 0 rfl, bY21.cell 1 rfl⟩
            | 1 => obtain rfl : (y1, y2) = g := by simpa using hg
                   exact ⟨bY21.cell 2 rfl, bY21.cell 3 rfl⟩
            | k + 2 => simp at hg⟩
          refine (HTU.out _ _ _ HY0).mono ?_
          rintro e w22 ⟨A8, c8, rfl, hY, hb22⟩
          have bS22 := bS21.below hb22
          have bZ22 := bZ21.below hb22
          have bO22 := bO21.below hb22
          have hB22 := hB21.trans (hb22.mono hB21.size)
          have HC22 : Hid (Cts w22 w22.heap.size A' (cs.map Sh.swC)) := (HC21.out.keep hb22).wider hb22.size
          clear bS21 bZ21 bO21 HC21 hB21 hb22 HY0 HTU
          have HY22 := hY
          clear hY
          obtain ⟨⟨s0, s1, s2⟩, s3, s4, s5⟩ := boxS6 bS22
          have lS22 := bS22.lt
          obtain ⟨z0, z1, z2, z3⟩ := boxS4 bZ22
          have lZ22 := bZ22.lt
          obtain ⟨⟨o0, o1, o2⟩, o3, o4, o5⟩ := boxS6 bO22
          have lO22 := bO22.lt
          go_wp2_with fail
          refine (HFA2.out _ hB22).mono ?_
          rintro e w23 ⟨v1, rfl, hI, hb23⟩
          have bS23 := bS22.below hb23
          have bZ23 := bZ22.below hb23
          have bO23 := bO22.below hb23
          have hB23 := hB22.trans (hb23.mono hB22.size)
          have HC23 : Hid (Cts w23 w23.heap.size A' (cs.map Sh.swC)) := (HC22.out.keep hb23).wider hb23.size
          have HY23 : Hid (Prs w23 w23.heap.size A8 [(x2, x1), (y2, y1)]) := prs_keep HY22.out hb23
          clear s0 s1 s2 s3 s4 s5 lS22 z0 z1 z2 z3 lZ22 o0 o1 o2 o3 o4 o5 lO22 bS22 bZ22 bO22 HC22 HY22 hB22 hb23 HFA2
          have HI23 := hI
          clear hI
          obtain ⟨⟨s0, s1, s2⟩, s3, s4, s5⟩ := boxS6 bS23
          have lS23 := bS23.lt
          obtain ⟨z0, z1, z2, z3⟩ := boxS4 bZ23
          have lZ23 := bZ23.lt
          obtain ⟨⟨o0, o1, o2⟩, o3, o4, o5⟩ := boxS6 bO23
          have lO23 := bO23.lt
          go_wp2_with fail
          refine (HFB2.out A' c' _ HC23.out).mono ?_
          rintro e w24 ⟨v2, rfl, hI, hb24⟩
          have bS24 := bS23.below hb24
          have bZ24 := bZ23.below hb24
          have bO24 := bO23.below hb24
          have hB24 := hB23.trans (hb24.mono hB23.size)
          have HC24 : Hid (Cts w24 w24.heap.size A' (cs.map Sh.swC)) := (HC23.out.keep hb24).wider hb24.size
          have HY24 : Hid (Prs w24 w24.heap.size A8 [(x2, x1), (y2, y1)]) := prs_keep HY23.out hb24
          have HI24 : Hid (Ints w24 w24.heap.size v1 FL) := Ints.more (Ints.keep HI23.out hb24) hb24.size
          clear s0 s1 s2 s3 s4 s5 lS23 z0 z1 z2 z3 lZ23 o0 o1 o2 o3 o4 o5 lO23 bS23 bZ23 bO23 HC23 HY23 HI23 hB23 hb24 HFB2
          have HJ24 := hI
          clear hI
          obtain ⟨⟨s0, s1, s2⟩, s3, s4, s5⟩ := boxS6 bS24
          have lS24 := bS24.lt
          obtain ⟨z0, z1, z2, z3⟩ := boxS4 bZ24
          have lZ24 := bZ24.lt
          obtain ⟨⟨o0, o1, o2⟩, o3, o4, o5⟩ := boxS6 bO24
          have lO24 := bO24.lt
          go_wp2_with fail
          refine (HAA3.out _ hB24).mono ?_
          rintro e w25 ⟨rfl, hb25⟩
          have bS25 := bS24.below hb25
          have bZ25 := bZ24.below hb25
          have bO25 := bO24.below hb25
          have hB25 := hB24.trans (hb25.mono hB24.size)
          have HC25 : Hid (Cts w25 w25.heap.size A' (cs.map Sh.swC)) := (HC24.out.keep hb25).wider hb25.size
          have HY25 : Hid (Prs w25 w25.heap.size A8 [(x2, x1), (y2, y1)]) := prs_keep HY24.out hb25
          have HI25 : Hid (Ints w25 w25.heap.size v1 FL) := Ints.more (Ints.keep HI24.out hb25) hb25.size
          have HJ25 : Hid (Ints w25 w25.heap.size v2 FL) := Ints.more (Ints.keep HJ24.out hb25) hb25.size
          clear s0 s1 s2 s3 s4 s5 lS24 z0 z1 z2 z3 lZ24 o0 o1 o2 o3 o4 o5 lO24 bS24 bZ24 bO24 HC24 HY24 HI24 HJ24 hB24 hb25 HAA3
          obtain ⟨⟨s0, s1, s2⟩, s3, s4, s5⟩ := boxS6 bS25
          have lS25 := bS25.lt
          obtain ⟨z0, z1, z2, z3⟩ := boxS4 bZ25
          have lZ25 := bZ25.lt
          obtain ⟨⟨o0, o1, o2⟩, o3, o4, o5⟩ := boxS6 bO25
          have lO25 := bO25.lt
          go_upto_region 13 with fail
          have bP26n := BoxS.new w25 23 #[.int .i64 aL, .int .i64 aH]
          have hbx : Below w25.heap.size w25 (w25.alloc (.cells #[.int .i64 aL, .int .i64 aH] 23)) := (Below.refl _ _).alloc (Nat.le_refl _) _
          have bS26 := bS25.below hbx
          have bZ26 := bZ25.below hbx
          have bO26 := bO25.below hbx
          have hB26 := hB25.trans (hbx.mono hB25.size)
          have HC26 : Hid (Cts (w25.alloc (.cells #[.int .i64 aL, .int .i64 aH] 23)) (w25.alloc (.cells #[.int .i64 aL, .int .i64 aH] 23)).heap.size A' (cs.map Sh.swC)) := (HC25.out.keep hbx).wider hbx.size
          have HY26 : Hid (Prs (w25.alloc (.cells #[.int .i64 aL, .int .i64 aH] 23)) (w25.alloc (.cells #[.int .i64 aL, .int .i64 aH] 23)).heap.size A8 [(x2, x1), (y2, y1)]) := prs_keep HY25.out hbx
          have HI26 : Hid (Ints (w25.alloc (.cells #[.int .i64 aL, .int .i64 aH] 23)) (w25.alloc (.cells #[.int .i64 aL, .int .i64 aH] 23)).heap.size v1 FL) := Ints.more (Ints.keep HI25.out hbx) hbx.size
          have HJ26 : Hid (Ints (w25.alloc (.cells #[.int .i64 aL, .int .i64 aH] 23)) (w25.alloc (.cells #[.int .i64 aL, .int .i64 aH] 23)).heap.size v2 FL) := Ints.more (Ints.keep HJ25.out hbx) hbx.size
          obtain ⟨BP, hBe⟩ : ∃ B, B = w25.heap.size := ⟨_, rfl⟩
          have kP : BO < BP := by have := bO25.lt; omega
          rw [← hBe] at bP26n ⊢
          have bP26 := bP26n
          clear s0 s1 s2 s3 s4 s5 lS25 z0 z1 z2 z3 lZ25 o0 o1 o2 o3 o4 o5 lO25 bS25 bZ25 bO25 HC25 HY25 HI25 HJ25 hB25 hbx hBe bP26n
          generalize World.alloc w25 _ = w26 at *
          go_cut [16, 17] from 88 to 94 (fun sp se wx => ∃ g : Nat, sp = .pointer (some ⟨g, 0, none⟩) ∧ se = .int .i64 aE ∧ BoxS wx g 23 #[.int .i64 aL, .int .i64 aH] ∧ w26.heap.size ≤ g ∧ Below w26.heap.size w26 wx)
          case first =>
            refine (wpIn_wide (n := 4)).1 ?_
            have q0 : Below w26.heap.size w26 w26.drew := (Below.refl _ _).drew
            have KC : Hid (∀ W', Below w26.heap.size w26 W' → (W'.cell? ⟨BO, 0, none⟩ = some (.int .i64 bl) ∧ W'.cell? ⟨BO, 1, none⟩ = some (.int .i64 bh) ∧ W'.cell? ⟨BO, 2, none⟩ = some (.int .i64 al)) ∧ W'.cell? ⟨BO, 3, none⟩ = some (.int .i64 ah) ∧ W'.cell? ⟨BO, 4, none⟩ = some (.slice A' cs.length c') ∧ W'.cell? ⟨BO, 5, none⟩ = some (.int .i64 wrn)) := fun W' h => boxS6 (bO26.below h)
            have HCQ : Hid (∀ W', Below w26.heap.size w26 W' → Cts W' W'.heap.size A' (cs.map Sh.swC)) := fun W' h => (HC26.out.keep h).wider h.size
            have hmo2 : Try.prog.follows .mixedOrders = true := by kernel_rfl
            obtain ⟨NB, hNB⟩ : ∃ n, n = w26.heap.size := ⟨_, rfl⟩
            have hle : NB ≤ w26.heap.size := Nat.le_of_eq hNB
            have hwN : w.heap.size ≤ NB := by rw [hNB]; exact hB26.size
            rw [← hNB] at q0 KC HCQ
            refine wpIn_region_held (fun W' => Below NB w26 W') 60 hmo2 ?_
            refine wpHeldIn_take (i := 0) (v := ?_) (plain_of (by kernel_rfl)) rfl (by kernel_rfl) (fun _ _ _ h => h) (yieldsSoIn_of (by kernel_rfl) ?_ (fun _ => rfl)) q0 ?_; rotate_left; focus (intro wq hw; have kq := KC.out wq hw; clear hw; go_simp; try (with_reducible rfl))
            refine wpHeldIn_take (i := 1) (v := ?_) (plain_of (by kernel_rfl)) rfl (by kernel_rfl) (fun _ _ _ h => h) (yieldsSoIn_of (by kernel_rfl) ?_ (fun _ => rfl)) q0 ?_; rotate_left; focus (intro wq hw; clear hw; go_simp; try (with_reducible rfl))
            refine wpHeldIn_two (i := 2) (j := 7) (by kernel_rfl) (by kernel_rfl) (by kernel_rfl) rfl rfl (by kernel_rfl) (by kernel_rfl) (fun K' hK' => ?_) (fun K' hK' => ?_)
            · go_simp
              refine ⟨trivial, (callsIn_wide.2 (HTP3.out _ (hB26.trans (q0.mono hwN)))).mono ?_⟩
              rintro e v1 ⟨A3, c3, rfl, HQ, hbv1⟩
              have qv1 := q0.trans (hbv1.mono (Nat.le_trans hle q0.size))
              refine hK' _ _ qv1 ?_
              clear hK' K' hbv1 q0
              refine wpHeldIn_two (i := 3) (j := 7) (by kernel_rfl) (by kernel_rfl) (by kernel_rfl) rfl rfl (by kernel_rfl) (by kernel_rfl) (fun K' hK' => ?_) (fun K' hK' => ?_)
              · go_simp
                refine ⟨trivial, (callsIn_wide.2 (HAB3.out A' c' A3 c3 _ (HCQ.out _ qv1) HQ.out)).mono ?_⟩
                rintro e v2 ⟨rfl, hbv2⟩
                have qv2 := qv1.trans (hbv2.mono (Nat.le_trans hle qv1.size))
                refine hK' _ _ qv2 ?_
                clear hK' K' hbv2 qv1
                refine wpHeldIn_take (i := 4) (v := ?_) (plain_of (by kernel_rfl)) rfl (by kernel_rfl) (fun _ _ _ h => h) (yieldsSoIn_of (by kernel_rfl) ?_ (fun _ => rfl)) qv2 ?_; rotate_left; focus (intro wq hw; clear hw; go_simp; try (with_reducible rfl))
                refine wpHeldIn_take (i := 5) (v := ?_) (plain_of (by kernel_rfl)) rfl (by kernel_rfl) (fun _ _ _ h => h) (yieldsSoIn_of (by kernel_rfl) ?_ (fun _ => rfl)) qv2 ?_; rotate_left; focus (intro wq hw; clear hw; go_simp; try (with_reducible rfl))
                refine wpHeldIn_take (i := 6) (v := ?_) (plain_of (by kernel_rfl)) rfl (by kernel_rfl) (fun _ _ _ h => h) (yieldsSoIn_of (by kernel_rfl) ?_ (fun _ => rfl)) qv2 ?_; rotate_left; focus (intro wq hw; clear hw; go_simp; try (with_reducible rfl))
                refine wpHeldIn_one (i := 7) (by kernel_rfl) (by kernel_rfl) rfl (by kernel_rfl) (fun K' hK' => ?_)
                go_simp
                have qv3 : Below NB w26 (v2.alloc (.cells #[.int .i64 0, .int .i64 0] 23)) := qv2.alloc (Nat.le_trans hle qv2.size) _
                refine hK' _ _ qv3 ?_
                clear hK' K'
                have bv3 : BoxS (v2.alloc (.cells #[.int .i64 0, .int .i64 0] 23)) v2.heap.size 23 #[.int .i64 0, .int .i64 0] := BoxS.new v2 23 #[.int .i64 0, .int .i64 0]
                have hgN : NB ≤ v2.heap.size := Nat.le_trans hle qv2.size
                obtain ⟨BN, hBN⟩ : ∃ B, B = v2.heap.size := ⟨_, rfl⟩
                rw [← hBN] at bv3 hgN ⊢
                clear hBN qv2
                generalize World.alloc v2 _ = v3 at *
                obtain ⟨n0, n1⟩ := boxS2 bv3
                have f0 := bv3.frozen 0
                have f1 := bv3.frozen 1
                refine wpHeldIn_one (i := 8) (by kernel_rfl) (by kernel_rfl) rfl (by kernel_rfl) (fun K' hK' => ?_)
                go_simp
                have qF : Below NB w26 ((v3.setCell ⟨BN, 0, none⟩ (.int .i64 aL)).setCell ⟨BN, 1, none⟩ (.int .i64 aH)) := by (repeat' (first | (with_reducible exact Below.refl _ _) | (with_reducible assumption) | (with_reducible refine Below.alloc ?_ ?_ _) | (with_reducible refine Below.drew ?_) | (with_reducible refine Below.setCell ?_ ?_ _) | go_size | (exact (by simp)) | omega))
                refine hK' _ _ qF ?_
                clear hK' K'
                have bF := put_two bv3 (.int .i64 aL) (.int .i64 aH)
                clear n0 n1 f0 f1
                generalize World.setCell (World.setCell v3 _ _) _ _ = wf at *
                refine wpHeldIn_take (i := 9) (v := ?_) (plain_of (by kernel_rfl)) rfl (by kernel_rfl) (fun _ _ _ h => h) (yieldsSoIn_of (by kernel_rfl) ?_ (fun _ => rfl)) qF ?_; rotate_left; focus (intro wq hw; clear hw; go_simp; try (with_reducible rfl))
                refine wpHeldIn_done (by kernel_rfl) ?_ _
                go_simp
                go_wp2_with fail
                go_meet
                exact ⟨BN, rfl, rfl, bF, by omega, by rw [← hNB]; exact qF⟩
              · go_simp
                have qv3 : Below NB w26 (v1.alloc (.cells #[.int .i64 0, .int .i64 0] 23)) := qv1.alloc (Nat.le_trans hle qv1.size) _
                have HQ3 : Hid (Prs (v1.alloc (.cells #[.int .i64 0, .int .i64 0] 23)) (v1.alloc (.cells #[.int .i64 0, .int .i64 0] 23)).heap.size A3 (ps.map Sh.swF)) := prs_keep HQ.out ((Below.refl _ _).alloc (Nat.le_refl _) _)
                refine hK' _ _ qv3 ?_
                clear hK' K' HQ
                have bv3 : BoxS (v1.alloc (.cells #[.int .i64 0, .int .i64 0] 23)) v1.heap.size 23 #[.int .i64 0, .int .i64 0] := BoxS.new v1 23 #[.int .i64 0, .int .i64 0]
                have hgN : NB ≤ v1.heap.size := Nat.le_trans hle qv1.size
                obtain ⟨BN, hBN⟩ : ∃ B, B = v1.heap.size := ⟨_, rfl⟩
                rw [← hBN] at bv3 hgN ⊢
                clear hBN qv1
                generalize World.alloc v1 _ = v3 at *
                refine wpHeldIn_one (i := 3) (by kernel_rfl) (by kernel_rfl) rfl (by kernel_rfl) (fun K' hK' => ?_)
                go_simp
                refine ⟨trivial, (callsIn_wide.2 (HAB3.out A' c' A3 c3 _ (HCQ.out _ qv3) HQ3.out)).mono ?_⟩
                rintro e v4 ⟨rfl, hbv4⟩
                have qv4 := qv3.trans (hbv4.mono (Nat.le_trans hle qv3.size))
                have bv4 := bv3.below hbv4
                refine hK' _ _ qv4 ?_
                clear hK' K' hbv4 qv3
                refine wpHeldIn_take (i := 4) (v := ?_) (plain_of (by kernel_rfl)) rfl (by kernel_rfl) (fun _ _ _ h => h) (yieldsSoIn_of (by kernel_rfl) ?_ (fun _ => rfl)) qv4 ?_; rotate_left; focus (intro wq hw; clear hw; go_simp; try (with_reducible rfl))
                refine wpHeldIn_take (i := 5) (v := ?_) (plain_of (by kernel_rfl)) rfl (by kernel_rfl) (fun _ _ _ h => h) (yieldsSoIn_of (by kernel_rfl) ?_ (fun _ => rfl)) qv4 ?_; rotate_left; focus (intro wq hw; clear hw; go_simp; try (with_reducible rfl))
                refine wpHeldIn_take (i := 6) (v := ?_) (plain_of (by kernel_rfl)) rfl (by kernel_rfl) (fun _ _ _ h => h) (yieldsSoIn_of (by kernel_rfl) ?_ (fun _ => rfl)) qv4 ?_; rotate_left; focus (intro wq hw; clear hw; go_simp; try (with_reducible rfl))
                obtain ⟨n0, n1⟩ := boxS2 bv4
                have f0 := bv4.frozen 0
                have f1 := bv4.frozen 1
                refine wpHeldIn_one (i := 8) (by kernel_rfl) (by kernel_rfl) rfl (by kernel_rfl) (fun K' hK' => ?_)
                go_simp
                have qF : Below NB w26 ((v4.setCell ⟨BN, 0, none⟩ (.int .i64 aL)).setCell ⟨BN, 1, none⟩ (.int .i64 aH)) := by (repeat' (first | (with_reducible exact Below.refl _ _) | (with_reducible assumption) | (with_reducible refine Below.alloc ?_ ?_ _) | (with_reducible refine Below.drew ?_) | (with_reducible refine Below.setCell ?_ ?_ _) | go_size | (exact (by simp)) | omega))
                refine hK' _ _ qF ?_
                clear hK' K'
                have bF := put_two bv4 (.int .i64 aL) (.int .i64 aH)
                clear n0 n1 f0 f1
                generalize World.setCell (World.setCell v4 _ _) _ _ = wf at *
                refine wpHeldIn_take (i := 9) (v := ?_) (plain_of (by kernel_rfl)) rfl (by kernel_rfl) (fun _ _ _ h => h) (yieldsSoIn_of (by kernel_rfl) ?_ (fun _ => rfl)) qF ?_; rotate_left; focus (intro wq hw; clear hw; go_simp; try (with_reducible rfl))
                refine wpHeldIn_done (by kernel_rfl) ?_ _
                go_simp
                go_wp2_with fail
                go_meet
                exact ⟨BN, rfl, rfl, bF, by omega, by rw [← hNB]; exact qF⟩
            · go_simp
              have qv3 : Below NB w26 (w26.alloc (.cells #[.int .i64 0, .int .i64 0] 23)).drew := q0.alloc (Nat.le_trans hle q0.size) _
              refine hK' _ _ qv3 ?_
              clear hK' K'
              have bv3 : BoxS (w26.alloc (.cells #[.int .i64 0, .int .i64 0] 23)).drew w26.heap.size 23 #[.int .i64 0, .int .i64 0] := BoxS.new w26.drew 23 #[.int .i64 0, .int .i64 0]
              have hgN : NB ≤ w26.heap.size := Nat.le_trans hle q0.size
              obtain ⟨BN, hBN⟩ : ∃ B, B = w26.heap.size := ⟨_, rfl⟩
              rw [← hBN] at bv3 hgN ⊢
              clear hBN q0
              generalize World.drew (World.alloc w26 _) = v3 at *
              refine wpHeldIn_one (i := 2) (by kernel_rfl) (by kernel_rfl) rfl (by kernel_rfl) (fun K' hK' => ?_)
              go_simp
              refine ⟨trivial, (callsIn_wide.2 (HTP3.out _ (hB26.trans (qv3.mono hwN)))).mono ?_⟩
              rintro e v4 ⟨A3, c3, rfl, HQ, hbv4⟩
              have qv4 := qv3.trans (hbv4.mono (Nat.le_trans hle qv3.size))
              have bv4 := bv3.below hbv4
              refine hK' _ _ qv4 ?_
              clear hK' K' hbv4 qv3
              refine wpHeldIn_one (i := 3) (by kernel_rfl) (by kernel_rfl) rfl (by kernel_rfl) (fun K' hK' => ?_)
              go_simp
              refine ⟨trivial, (callsIn_wide.2 (HAB3.out A' c' A3 c3 _ (HCQ.out _ qv4) HQ.out)).mono ?_⟩
              rintro e v5 ⟨rfl, hbv5⟩
              have qv5 := qv4.trans (hbv5.mono (Nat.le_trans hle qv4.size))
              have bv5 := bv4.below hbv5
              refine hK' _ _ qv5 ?_
              clear hK' K' hbv5 qv4
              refine wpHeldIn_take (i := 4) (v := ?_) (plain_of (by kernel_rfl)) rfl (by kernel_rfl) (fun _ _ _ h => h) (yieldsSoIn_of (by kernel_rfl) ?_ (fun _ => rfl)) qv5 ?_; rotate_left; focus (intro wq hw; clear hw; go_simp; try (with_reducible rfl))
              refine wpHeldIn_take (i := 5) (v := ?_) (plain_of (by kernel_rfl)) rfl (by kernel_rfl) (fun _ _ _ h => h) (yieldsSoIn_of (by kernel_rfl) ?_ (fun _ => rfl)) qv5 ?_; rotate_left; focus (intro wq hw; clear hw; go_simp; try (with_reducible rfl))
              refine wpHeldIn_take (i := 6) (v := ?_) (plain_of (by kernel_rfl)) rfl (by kernel_rfl) (fun _ _ _ h => h) (yieldsSoIn_of (by kernel_rfl) ?_ (fun _ => rfl)) qv5 ?_; rotate_left; focus (intro wq hw; clear hw; go_simp; try (with_reducible rfl))
              obtain ⟨n0, n1⟩ := boxS2 bv5
              have f0 := bv5.frozen 0
              have f1 := bv5.frozen 1
              refine wpHeldIn_one (i := 8) (by kernel_rfl) (by kernel_rfl) rfl (by kernel_rfl) (fun K' hK' => ?_)
              go_simp
              have qF : Below NB w26 ((v5.setCell ⟨BN, 0, none⟩ (.int .i64 aL)).setCell ⟨BN, 1, none⟩ (.int .i64 aH)) := by (repeat' (first | (with_reducible exact Below.refl _ _) | (with_reducible assumption) | (with_reducible refine Below.alloc ?_ ?_ _) | (with_reducible refine Below.drew ?_) | (with_reducible refine Below.setCell ?_ ?_ _) | go_size | (exact (by simp)) | omega))
              refine hK' _ _ qF ?_
              clear hK' K'
              have bF := put_two bv5 (.int .i64 aL) (.int .i64 aH)
              clear n0 n1 f0 f1
              generalize World.setCell (World.setCell v5 _ _) _ _ = wf at *
              refine wpHeldIn_take (i := 9) (v := ?_) (plain_of (by kernel_rfl)) rfl (by kernel_rfl) (fun _ _ _ h => h) (yieldsSoIn_of (by kernel_rfl) ?_ (fun _ => rfl)) qF ?_; rotate_left; focus (intro wq hw; clear hw; go_simp; try (with_reducible rfl))
              refine wpHeldIn_done (by kernel_rfl) ?_ _
              go_simp
              go_wp2_with fail
              go_meet
              exact ⟨BN, rfl, rfl, bF, by omega, by rw [← hNB]; exact qF⟩
          obtain ⟨BQ, rfl, rfl, bq, kQ, hb27⟩ := hcut
          obtain ⟨w27, rfl⟩ : ∃ w : World, w = wc := ⟨_, rfl⟩
          have bS27 := bS26.below hb27
          have bZ27 := bZ26.below hb27
          have bO27 := bO26.below hb27
          have bP27 := bP26.below hb27
          have hB27 := hB26.trans (hb27.mono hB26.size)
          have HC27 : Hid (Cts w27 w27.heap.size A' (cs.map Sh.swC)) := (HC26.out.keep hb27).wider hb27.size
          have HY27 : Hid (Prs w27 w27.heap.size A8 [(x2, x1), (y2, y1)]) := prs_keep HY26.out hb27
          have HI27 : Hid (Ints w27 w27.heap.size v1 FL) := Ints.more (Ints.keep HI26.out hb27) hb27.size
          have HJ27 : Hid (Ints w27 w27.heap.size v2 FL) := Ints.more (Ints.keep HJ26.out hb27) hb27.size
          have bQ27 := bq
          clear bq
          clear bS26 bZ26 bO26 bP26 HC26 HY26 HI26 HJ26 hB26 hb27
          obtain ⟨⟨s0, s1, s2⟩, s3, s4, s5⟩ := boxS6 bS27
          have lS27 := bS27.lt
          obtain ⟨z0, z1, z2, z3⟩ := boxS4 bZ27
          have lZ27 := bZ27.lt
          obtain ⟨⟨o0, o1, o2⟩, o3, o4, o5⟩ := boxS6 bO27
          have lO27 := bO27.lt
          go_wp2_with fail
          refine (HLA2.out _ hB27).mono ?_
          rintro e w28 ⟨rfl, hb28⟩
          have bS28 := bS27.below hb28
          have bZ28 := bZ27.below hb28
          have bO28 := bO27.below hb28
          have bP28 := bP27.below hb28
          have bQ28 := bQ27.below hb28
          have hB28 := hB27.trans (hb28.mono hB27.size)
          have HC28 : Hid (Cts w28 w28.heap.size A' (cs.map Sh.swC)) := (HC27.out.keep hb28).wider hb28.size
          have HY28 : Hid (Prs w28 w28.heap.size A8 [(x2, x1), (y2, y1)]) := prs_keep HY27.out hb28
          have HI28 : Hid (Ints w28 w28.heap.size v1 FL) := Ints.more (Ints.keep HI27.out hb28) hb28.size
          have HJ28 : Hid (Ints w28 w28.heap.size v2 FL) := Ints.more (Ints.keep HJ27.out hb28) hb28.size
          clear s0 s1 s2 s3 s4 s5 lS27 z0 z1 z2 z3 lZ27 o0 o1 o2 o3 o4 o5 lO27 bS27 bZ27 bO27 bP27 bQ27 HC27 HY27 HI27 HJ27 hB27 hb28 HLA2
          obtain ⟨⟨s0, s1, s2⟩, s3, s4, s5⟩ := boxS6 bS28
          have lS28 := bS28.lt
          obtain ⟨z0, z1, z2, z3⟩ := boxS4 bZ28
          have lZ28 := bZ28.lt
          obtain ⟨⟨o0, o1, o2⟩, o3, o4, o5⟩ := boxS6 bO28
          have lO28 := bO28.lt
          go_upto_region 15 with fail
          have bR29n := BoxS.new w28 23 #[.int .i64 lL, .int .i64 lH]
          have hbx : Below w28.heap.size w28 (w28.alloc (.cells #[.int .i64 lL, .int .i64 lH] 23)) := (Below.refl _ _).alloc (Nat.le_refl _) _
          have bS29 := bS28.below hbx
          have bZ29 := bZ28.below hbx
          have bO29 := bO28.below hbx
          have bP29 := bP28.below hbx
          have bQ29 := bQ28.below hbx
          have hB29 := hB28.trans (hbx.mono hB28.size)
          have HC29 : Hid (Cts (w28.alloc (.cells #[.int .i64 lL, .int .i64 lH] 23)) (w28.alloc (.cells #[.int .i64 lL, .int .i64 lH] 23)).heap.size A' (cs.map Sh.swC)) := (HC28.out.keep hbx).wider hbx.size
          have HY29 : Hid (Prs (w28.alloc (.cells #[.int .i64 lL, .int .i64 lH] 23)) (w28.alloc (.cells #[.int .i64 lL, .int .i64 lH] 23)).heap.size A8 [(x2, x1), (y2, y1)]) := prs_keep HY28.out hbx
          have HI29 : Hid (Ints (w28.alloc (.cells #[.int .i64 lL, .int .i64 lH] 23)) (w28.alloc (.cells #[.int .i64 lL, .int .i64 lH] 23)).heap.size v1 FL) := Ints.more (Ints.keep HI28.out hbx) hbx.size
          have HJ29 : Hid (Ints (w28.alloc (.cells #[.int .i64 lL, .int .i64 lH] 23)) (w28.alloc (.cells #[.int .i64 lL, .int .i64 lH] 23)).heap.size v2 FL) := Ints.more (Ints.keep HJ28.out hbx) hbx.size
          obtain ⟨BR, hBe⟩ : ∃ B, B = w28.heap.size := ⟨_, rfl⟩
          have kR : BQ < BR := by have := bQ28.lt; omega
          rw [← hBe] at bR29n ⊢
          have bR29 := bR29n
          clear s0 s1 s2 s3 s4 s5 lS28 z0 z1 z2 z3 lZ28 o0 o1 o2 o3 o4 o5 lO28 bS28 bZ28 bO28 bP28 bQ28 HC28 HY28 HI28 HJ28 hB28 hbx hBe bR29n
          generalize World.alloc w28 _ = w29 at *
          have HYC : Hid (∃ b8 off8, A8 = some ⟨b8, off8, none⟩ ∧ b8 < w29.heap.size ∧ (w29.cell? ⟨b8, off8, none⟩ = some (.int .i64 x2) ∧ w29.cell? ⟨b8, off8 + 1, none⟩ = some (.int .i64 x1)) ∧ w29.cell? ⟨b8, off8 + 2, none⟩ = some (.int .i64 y2) ∧ w29.cell? ⟨b8, off8 + 3, none⟩ = some (.int .i64 y1)) := by
            obtain ⟨b8, off8, e8, h8, hc8⟩ := HY29.out (by simp)
            have h80 := hc8 0 (x2, x1) rfl
            have h81 := hc8 1 (y2, y1) rfl
            exact ⟨b8, off8, e8, h8, h80, h81⟩
          obtain ⟨b8, off8, rfl, hb8, hyc⟩ := HYC.out
          clear HYC HY29
          go_cut [20, 21] from 104 to 114 (fun sp se wx => ∃ g : Nat, sp = .pointer (some ⟨g, 0, none⟩) ∧ se = .int .i64 lE ∧ BoxS wx g 23 #[.int .i64 lL, .int .i64 lH] ∧ w29.heap.size ≤ g ∧ Below w29.heap.size w29 wx)
          case first =>
            refine (wpIn_wide (n := 4)).1 ?_
            have q0 : Below w29.heap.size w29 w29.drew := (Below.refl _ _).drew
            have KC : Hid (∀ W', Below w29.heap.size w29 W' → (W'.cell? ⟨BO, 0, none⟩ = some (.int .i64 bl) ∧ W'.cell? ⟨BO, 1, none⟩ = some (.int .i64 bh) ∧ W'.cell? ⟨BO, 2, none⟩ = some (.int .i64 al)) ∧ W'.cell? ⟨BO, 3, none⟩ = some (.int .i64 ah) ∧ W'.cell? ⟨BO, 4, none⟩ = some (.slice A' cs.length c') ∧ W'.cell? ⟨BO, 5, none⟩ = some (.int .i64 wrn)) := fun W' h => boxS6 (bO29.below h)
            have HCQ : Hid (∀ W', Below w29.heap.size w29 W' → Cts W' W'.heap.size A' (cs.map Sh.swC)) := fun W' h => (HC29.out.keep h).wider h.size
            have KY : Hid (∀ W', Below w29.heap.size w29 W' → (W'.cell? ⟨b8, off8, none⟩ = some (.int .i64 x2) ∧ W'.cell? ⟨b8, off8 + 1, none⟩ = some (.int .i64 x1)) ∧ W'.cell? ⟨b8, off8 + 2, none⟩ = some (.int .i64 y2) ∧ W'.cell? ⟨b8, off8 + 3, none⟩ = some (.int .i64 y1)) := fun W' h => ⟨⟨(h.cell (p := ⟨b8, _, none⟩) hb8).trans hyc.1.1, (h.cell (p := ⟨b8, _, none⟩) hb8).trans hyc.1.2⟩, (h.cell (p := ⟨b8, _, none⟩) hb8).trans hyc.2.1, (h.cell (p := ⟨b8, _, none⟩) hb8).trans hyc.2.2⟩
            have hmo2 : Try.prog.follows .mixedOrders = true := by kernel_rfl
            obtain ⟨NB, hNB⟩ : ∃ n, n = w29.heap.size := ⟨_, rfl⟩
            have hle : NB ≤ w29.heap.size := Nat.le_of_eq hNB
            have hwN : w.heap.size ≤ NB := by rw [hNB]; exact hB29.size
            rw [← hNB] at q0 KC HCQ KY
            refine wpIn_region_held (fun W' => Below NB w29 W') 60 hmo2 ?_
            refine wpHeldIn_take (i := 0) (v := ?_) (plain_of (by kernel_rfl)) rfl (by kernel_rfl) (fun _ _ _ h => h) (yieldsSoIn_of (by kernel_rfl) ?_ (fun _ => rfl)) q0 ?_; rotate_left; focus (intro wq hw; have kq := KC.out wq hw; clear hw; go_simp; try (with_reducible rfl))
            refine wpHeldIn_take (i := 1) (v := ?_) (plain_of (by kernel_rfl)) rfl (by kernel_rfl) (fun _ _ _ h => h) (yieldsSoIn_of (by kernel_rfl) ?_ (fun _ => rfl)) q0 ?_; rotate_left; focus (intro wq hw; clear hw; go_simp; try (with_reducible rfl))
            refine wpHeldIn_take (i := 2) (v := ?_) (plain_of (by kernel_rfl)) rfl (by kernel_rfl) (fun _ _ _ h => h) (yieldsSoIn_of (by kernel_rfl) ?_ (fun _ => rfl)) q0 ?_; rotate_left; focus (intro wq hw; clear hw; go_simp; try (with_reducible rfl))
            refine wpHeldIn_take (i := 3) (v := ?_) (plain_of (by kernel_rfl)) rfl (by kernel_rfl) (fun _ _ _ h => h) (yieldsSoIn_of (by kernel_rfl) ?_ (fun _ => rfl)) q0 ?_; rotate_left; focus (intro wq hw; have kq := KY.out wq hw; clear hw; go_simp; try (with_reducible rfl))
            refine wpHeldIn_take (i := 4) (v := ?_) (plain_of (by kernel_rfl)) rfl (by kernel_rfl) (fun _ _ _ h => h) (yieldsSoIn_of (by kernel_rfl) ?_ (fun _ => rfl)) q0 ?_; rotate_left; focus (intro wq hw; clear hw; go_simp; try (with_reducible rfl))
            refine wpHeldIn_take (i := 5) (v := ?_) (plain_of (by kernel_rfl)) rfl (by kernel_rfl) (fun _ _ _ h => h) (yieldsSoIn_of (by kernel_rfl) ?_ (fun _ => rfl)) q0 ?_; rotate_left; focus (intro wq hw; clear hw; go_simp; try (with_reducible rfl))
            refine wpHeldIn_take (i := 6) (v := ?_) (plain_of (by kernel_rfl)) rfl (by kernel_rfl) (fun _ _ _ h => h) (yieldsSoIn_of (by kernel_rfl) ?_ (fun _ => rfl)) q0 ?_; rotate_left; focus (intro wq hw; have kq := KY.out wq hw; clear hw; go_simp; try (with_reducible rfl))
            refine wpHeldIn_two (i := 7) (j := 11) (by kernel_rfl) (by kernel_rfl) (by kernel_rfl) rfl rfl (by kernel_rfl) (by kernel_rfl) (fun K' hK' => ?_) (fun K' hK' => ?_)
            · go_simp
              refine ⟨trivial, (callsIn_wide.2 (HLB2.out A' c' _ (HCQ.out _ q0))).mono ?_⟩
              rintro e v2 ⟨rfl, hbv2⟩
              have qv2 := q0.trans (hbv2.mono (Nat.le_trans hle q0.size))
              refine hK' _ _ qv2 ?_
              clear hK' K' hbv2 q0
              refine wpHeldIn_take (i := 8) (v := ?_) (plain_of (by kernel_rfl)) rfl (by kernel_rfl) (fun _ _ _ h => h) (yieldsSoIn_of (by kernel_rfl) ?_ (fun _ => rfl)) qv2 ?_; rotate_left; focus (intro wq hw; clear hw; go_simp; try (with_reducible rfl))
              refine wpHeldIn_take (i := 9) (v := ?_) (plain_of (by kernel_rfl)) rfl (by kernel_rfl) (fun _ _ _ h => h) (yieldsSoIn_of (by kernel_rfl) ?_ (fun _ => rfl)) qv2 ?_; rotate_left; focus (intro wq hw; clear hw; go_simp; try (with_reducible rfl))
              refine wpHeldIn_take (i := 10) (v := ?_) (plain_of (by kernel_rfl)) rfl (by kernel_rfl) (fun _ _ _ h => h) (yieldsSoIn_of (by kernel_rfl) ?_ (fun _ => rfl)) qv2 ?_; rotate_left; focus (intro wq hw; clear hw; go_simp; try (with_reducible rfl))
              refine wpHeldIn_one (i := 11) (by kernel_rfl) (by kernel_rfl) rfl (by kernel_rfl) (fun K' hK' => ?_)
              go_simp
              have qv3 : Below NB w29 (v2.alloc (.cells #[.int .i64 0, .int .i64 0] 23)) := qv2.alloc (Nat.le_trans hle qv2.size) _
              refine hK' _ _ qv3 ?_
              clear hK' K'
              have bv3 : BoxS (v2.alloc (.cells #[.int .i64 0, .int .i64 0] 23)) v2.heap.size 23 #[.int .i64 0, .int .i64 0] := BoxS.new v2 23 #[.int .i64 0, .int .i64 0]
              have hgN : NB ≤ v2.heap.size := Nat.le_trans hle qv2.size
              obtain ⟨BN, hBN⟩ : ∃ B, B = v2.heap.size := ⟨_, rfl⟩
              rw [← hBN] at bv3 hgN ⊢
              clear hBN qv2
              generalize World.alloc v2 _ = v3 at *
              obtain ⟨n0, n1⟩ := boxS2 bv3
              have f0 := bv3.frozen 0
              have f1 := bv3.frozen 1
              refine wpHeldIn_one (i := 12) (by kernel_rfl) (by kernel_rfl) rfl (by kernel_rfl) (fun K' hK' => ?_)
              go_simp
              have qF : Below NB w29 ((v3.setCell ⟨BN, 0, none⟩ (.int .i64 lL)).setCell ⟨BN, 1, none⟩ (.int .i64 lH)) := by (repeat' (first | (with_reducible exact Below.refl _ _) | (with_reducible assumption) | (with_reducible refine Below.alloc ?_ ?_ _) | (with_reducible refine Below.drew ?_) | (with_reducible refine Below.setCell ?_ ?_ _) | go_size | (exact (by simp)) | omega))
              refine hK' _ _ qF ?_
              clear hK' K'
              have bF := put_two bv3 (.int .i64 lL) (.int .i64 lH)
              clear n0 n1 f0 f1
              generalize World.setCell (World.setCell v3 _ _) _ _ = wf at *
              refine wpHeldIn_take (i := 13) (v := ?_) (plain_of (by kernel_rfl)) rfl (by kernel_rfl) (fun _ _ _ h => h) (yieldsSoIn_of (by kernel_rfl) ?_ (fun _ => rfl)) qF ?_; rotate_left; focus (intro wq hw; clear hw; go_simp; try (with_reducible rfl))
              refine wpHeldIn_done (by kernel_rfl) ?_ _
              go_simp
              go_wp2_with fail
              go_meet
              exact ⟨BN, rfl, rfl, bF, by omega, by rw [← hNB]; exact qF⟩
            · go_simp
              have qv3 : Below NB w29 (w29.alloc (.cells #[.int .i64 0, .int .i64 0] 23)).drew := q0.alloc (Nat.le_trans hle q0.size) _
              refine hK' _ _ qv3 ?_
              clear hK' K'
              have bv3 : BoxS (w29.alloc (.cells #[.int .i64 0, .int .i64 0] 23)).drew w29.heap.size 23 #[.int .i64 0, .int .i64 0] := BoxS.new w29.drew 23 #[.int .i64 0, .int .i64 0]
              have hgN : NB ≤ w29.heap.size := Nat.le_trans hle q0.size
              obtain ⟨BN, hBN⟩ : ∃ B, B = w29.heap.size := ⟨_, rfl⟩
              rw [← hBN] at bv3 hgN ⊢
              clear hBN q0
              generalize World.drew (World.alloc w29 _) = v3 at *
              refine wpHeldIn_one (i := 7) (by kernel_rfl) (by kernel_rfl) rfl (by kernel_rfl) (fun K' hK' => ?_)
              go_simp
              refine ⟨trivial, (callsIn_wide.2 (HLB2.out A' c' _ (HCQ.out _ qv3))).mono ?_⟩
              rintro e v4 ⟨rfl, hbv4⟩
              have qv4 := qv3.trans (hbv4.mono (Nat.le_trans hle qv3.size))
              have bv4 := bv3.below hbv4
              refine hK' _ _ qv4 ?_
              clear hK' K' hbv4 qv3
              refine wpHeldIn_take (i := 8) (v := ?_) (plain_of (by kernel_rfl)) rfl (by kernel_rfl) (fun _ _ _ h => h) (yieldsSoIn_of (by kernel_rfl) ?_ (fun _ => rfl)) qv4 ?_; rotate_left; focus (intro wq hw; clear hw; go_simp; try (with_reducible rfl))
              refine wpHeldIn_take (i := 9) (v := ?_) (plain_of (by kernel_rfl)) rfl (by kernel_rfl) (fun _ _ _ h => h) (yieldsSoIn_of (by kernel_rfl) ?_ (fun _ => rfl)) qv4 ?_; rotate_left; focus (intro wq hw; clear hw; go_simp; try (with_reducible rfl))
              refine wpHeldIn_take (i := 10) (v := ?_) (plain_of (by kernel_rfl)) rfl (by kernel_rfl) (fun _ _ _ h => h) (yieldsSoIn_of (by kernel_rfl) ?_ (fun _ => rfl)) qv4 ?_; rotate_left; focus (intro wq hw; clear hw; go_simp; try (with_reducible rfl))
              obtain ⟨n0, n1⟩ := boxS2 bv4
              have f0 := bv4.frozen 0
              have f1 := bv4.frozen 1
              refine wpHeldIn_one (i := 12) (by kernel_rfl) (by kernel_rfl) rfl (by kernel_rfl) (fun K' hK' => ?_)
              go_simp
              have qF : Below NB w29 ((v4.setCell ⟨BN, 0, none⟩ (.int .i64 lL)).setCell ⟨BN, 1, none⟩ (.int .i64 lH)) := by (repeat' (first | (with_reducible exact Below.refl _ _) | (with_reducible assumption) | (with_reducible refine Below.alloc ?_ ?_ _) | (with_reducible refine Below.drew ?_) | (with_reducible refine Below.setCell ?_ ?_ _) | go_size | (exact (by simp)) | omega))
              refine hK' _ _ qF ?_
              clear hK' K'
              have bF := put_two bv4 (.int .i64 lL) (.int .i64 lH)
              clear n0 n1 f0 f1
              generalize World.setCell (World.setCell v4 _ _) _ _ = wf at *
              refine wpHeldIn_take (i := 13) (v := ?_) (plain_of (by kernel_rfl)) rfl (by kernel_rfl) (fun _ _ _ h => h) (yieldsSoIn_of (by kernel_rfl) ?_ (fun _ => rfl)) qF ?_; rotate_left; focus (intro wq hw; clear hw; go_simp; try (with_reducible rfl))
              refine wpHeldIn_done (by kernel_rfl) ?_ _
              go_simp
              go_wp2_with fail
              go_meet
              exact ⟨BN, rfl, rfl, bF, by omega, by rw [← hNB]; exact qF⟩
          obtain ⟨BT, rfl, rfl, bq, kT, hb30⟩ := hcut
          obtain ⟨w30, rfl⟩ : ∃ w : World, w = wc := ⟨_, rfl⟩
          have bS30 := bS29.below hb30
          have bZ30 := bZ29.below hb30
          have bO30 := bO29.below hb30
          have bP30 := bP29.below hb30
          have bQ30 := bQ29.below hb30
          have bR30 := bR29.below hb30
          have hB30 := hB29.trans (hb30.mono hB29.size)
          have HC30 : Hid (Cts w30 w30.heap.size A' (cs.map Sh.swC)) := (HC29.out.keep hb30).wider hb30.size
          have HI30 : Hid (Ints w30 w30.heap.size v1 FL) := Ints.more (Ints.keep HI29.out hb30) hb30.size
          have HJ30 : Hid (Ints w30 w30.heap.size v2 FL) := Ints.more (Ints.keep HJ29.out hb30) hb30.size
          have bT30 := bq
          clear bq
          clear bS29 bZ29 bO29 bP29 bQ29 bR29 HC29 HI29 HJ29 hB29 hb30
          clear hyc hb8
          obtain ⟨⟨s0, s1, s2⟩, s3, s4, s5⟩ := boxS6 bS30
          have lS30 := bS30.lt
          go_wp2_with fail
          refine (HMA2.out _ hB30).mono ?_
          rintro e w31 ⟨rfl, hb31⟩
          have bS31 := bS30.below hb31
          have bZ31 := bZ30.below hb31
          have bO31 := bO30.below hb31
          have bP31 := bP30.below hb31
          have bQ31 := bQ30.below hb31
          have bR31 := bR30.below hb31
          have bT31 := bT30.below hb31
          have hB31 := hB30.trans (hb31.mono hB30.size)
          have HC31 : Hid (Cts w31 w31.heap.size A' (cs.map Sh.swC)) := (HC30.out.keep hb31).wider hb31.size
          have HI31 : Hid (Ints w31 w31.heap.size v1 FL) := Ints.more (Ints.keep HI30.out hb31) hb31.size
          have HJ31 : Hid (Ints w31 w31.heap.size v2 FL) := Ints.more (Ints.keep HJ30.out hb31) hb31.size
          clear s0 s1 s2 s3 s4 s5 lS30 bS30 bZ30 bO30 bP30 bQ30 bR30 bT30 HC30 HI30 HJ30 hB30 hb31 HMA2
          obtain ⟨⟨o0, o1, o2⟩, o3, o4, o5⟩ := boxS6 bO31
          have lO31 := bO31.lt
          go_wp2_with fail
          refine (HMB2.out A' c' _ HC31.out).mono ?_
          rintro e w32 ⟨rfl, hb32⟩
          have bS32 := bS31.below hb32
          have bZ32 := bZ31.below hb32
          have bO32 := bO31.below hb32
          have bP32 := bP31.below hb32
          have bQ32 := bQ31.below hb32
          have bR32 := bR31.below hb32
          have bT32 := bT31.below hb32
          have hB32 := hB31.trans (hb32.mono hB31.size)
          have HC32 : Hid (Cts w32 w32.heap.size A' (cs.map Sh.swC)) := (HC31.out.keep hb32).wider hb32.size
          have HI32 : Hid (Ints w32 w32.heap.size v1 FL) := Ints.more (Ints.keep HI31.out hb32) hb32.size
          have HJ32 : Hid (Ints w32 w32.heap.size v2 FL) := Ints.more (Ints.keep HJ31.out hb32) hb32.size
          clear o0 o1 o2 o3 o4 o5 lO31 bS31 bZ31 bO31 bP31 bQ31 bR31 bT31 HC31 HI31 HJ31 hB31 hb32 HMB2
          obtain ⟨⟨s0, s1, s2⟩, s3, s4, s5⟩ := boxS6 bS32
          have lS32 := bS32.lt
          go_wp2_with fail
          refine (HSA2.out _ hB32).mono ?_
          rintro e w33 ⟨v3, rfl, hI, hb33⟩
          have bS33 := bS32.below hb33
          have bZ33 := bZ32.below hb33
          have bO33 := bO32.below hb33
          have bP33 := bP32.below hb33
          have bQ33 := bQ32.below hb33
          have bR33 := bR32.below hb33
          have bT33 := bT32.below hb33
          have hB33 := hB32.trans (hb33.mono hB32.size)
          have HC33 : Hid (Cts w33 w33.heap.size A' (cs.map Sh.swC)) := (HC32.out.keep hb33).wider hb33.size
          have HI33 : Hid (Ints w33 w33.heap.size v1 FL) := Ints.more (Ints.keep HI32.out hb33) hb33.size
          have HJ33 : Hid (Ints w33 w33.heap.size v2 FL) := Ints.more (Ints.keep HJ32.out hb33) hb33.size
          clear s0 s1 s2 s3 s4 s5 lS32 bS32 bZ32 bO32 bP32 bQ32 bR32 bT32 HC32 HI32 HJ32 hB32 hb33 HSA2
          have HU33 := hI
          clear hI
          obtain ⟨⟨o0, o1, o2⟩, o3, o4, o5⟩ := boxS6 bO33
          have lO33 := bO33.lt
          go_wp2_with fail
          refine (HSB2.out A' c' _ HC33.out).mono ?_
          rintro e w34 ⟨v4, rfl, hI, hb34⟩
          have bS34 := bS33.below hb34
          have bZ34 := bZ33.below hb34
          have bO34 := bO33.below hb34
          have bP34 := bP33.below hb34
          have bQ34 := bQ33.below hb34
          have bR34 := bR33.below hb34
          have bT34 := bT33.below hb34
          have hB34 := hB33.trans (hb34.mono hB33.size)
          have HC34 : Hid (Cts w34 w34.heap.size A' (cs.map Sh.swC)) := (HC33.out.keep hb34).wider hb34.size
          have HI34 : Hid (Ints w34 w34.heap.size v1 FL) := Ints.more (Ints.keep HI33.out hb34) hb34.size
          have HJ34 : Hid (Ints w34 w34.heap.size v2 FL) := Ints.more (Ints.keep HJ33.out hb34) hb34.size
          have HU34 : Hid (Ints w34 w34.heap.size v3 SL) := Ints.more (Ints.keep HU33.out hb34) hb34.size
          clear o0 o1 o2 o3 o4 o5 lO33 bS33 bZ33 bO33 bP33 bQ33 bR33 bT33 HC33 HI33 HJ33 HU33 hB33 hb34 HSB2
          have HV34 := hI
          clear hI
          clear HC34 bS34 bZ34 bO34
          go_wp2_with fail
          refine (HI1.out _ _ _ HI34.out HJ34.out).mono ?_
          rintro e w35 ⟨rfl, hb35⟩
          have bP35 := bP34.below hb35
          have bQ35 := bQ34.below hb35
          have bR35 := bR34.below hb35
          have bT35 := bT34.below hb35
          have hB35 := hB34.trans (hb35.mono hB34.size)
          have HI35 : Hid (Ints w35 w35.heap.size v1 FL) := Ints.more (Ints.keep HI34.out hb35) hb35.size
          have HJ35 : Hid (Ints w35 w35.heap.size v2 FL) := Ints.more (Ints.keep HJ34.out hb35) hb35.size
          have HU35 : Hid (Ints w35 w35.heap.size v3 SL) := Ints.more (Ints.keep HU34.out hb35) hb35.size
          have HV35 : Hid (Ints w35 w35.heap.size v4 SL) := Ints.more (Ints.keep HV34.out hb35) hb35.size
          clear bP34 bQ34 bR34 bT34 HI34 HJ34 HU34 HV34 hB34 hb35
          obtain ⟨p0, p1⟩ := boxS2 bP35
          have lP35 := bP35.lt
          obtain ⟨q0, q1⟩ := boxS2 bQ35
          have lQ35 := bQ35.lt
          obtain ⟨r0, r1⟩ := boxS2 bR35
          have lR35 := bR35.lt
          obtain ⟨t0, t1⟩ := boxS2 bT35
          have lT35 := bT35.lt
          go_wp2_with fail
          refine (HI3.out _ _ _ HU35.out HV35.out).mono ?_
          rintro e w36 ⟨rfl, hb36⟩
          have bP36 := bP35.below hb36
          have bQ36 := bQ35.below hb36
          have bR36 := bR35.below hb36
          have bT36 := bT35.below hb36
          have hB36 := hB35.trans (hb36.mono hB35.size)
          have HI36 : Hid (Ints w36 w36.heap.size v1 FL) := Ints.more (Ints.keep HI35.out hb36) hb36.size
          have HJ36 : Hid (Ints w36 w36.heap.size v2 FL) := Ints.more (Ints.keep HJ35.out hb36) hb36.size
          have HU36 : Hid (Ints w36 w36.heap.size v3 SL) := Ints.more (Ints.keep HU35.out hb36) hb36.size
          have HV36 : Hid (Ints w36 w36.heap.size v4 SL) := Ints.more (Ints.keep HV35.out hb36) hb36.size
          clear p0 p1 lP35 q0 q1 lQ35 r0 r1 lR35 t0 t1 lT35 bP35 bQ35 bR35 bT35 HI35 HJ35 HU35 HV35 hB35 hb36
          go_wp2_with fail
          refine (HWK.out _).mono ?_
          rintro e wz ⟨rfl, hbz⟩
          have hBz := hB36.trans (hbz.mono hB36.size)
          go_wp2_with fail
          go_returns
          exact ⟨rfl, hBz⟩

open Go.ChangeShapes Go.WideShapes Go.ChangeAt Go.RowKit Go.Joins Go.Deep
theorem okWide_arr {P : Program} {w : World} {r : Reach} {base n : Nat} {t e : TypeId} {v : Value} (ht : P.underlying t = some (.array n e)) (h : Value.okWide P w r base t v) : ∃ cs, v = .agg cs ∧ cs.size = P.cellsOf t := by
  simp only [Value.okWide, ht] at h
  obtain ⟨cs, h1, h2, _⟩ := h
  exact ⟨cs, h1, h2⟩
theorem cells_pt4 : Try.prog.cellsOf 43 = 2 := by kernel_rfl
section
variable {H : Type} {enc : TypeId × Value → H} {w : World} {base : Nat} {spare : Nat → Bool} {held : Bool} {r : Reach} {b0 : Nat} {v : Value} {d : DataW H} {p : List MemPlace}
set_option maxRecDepth 100000 in
theorem trod_pt_cells {n : Nat} {c0 c1 : Value} {x : DataW H × List MemPlace} (h : DataW.trod enc Try.prog w base spare held n 43 [c0, c1] = some x) : ∃ a b : Int, c0 = .int .i64 a ∧ c1 = .int .i64 b := by
  obtain ⟨y0, y1, m, hx, _, h0, h1⟩ := trod_struct2 Try.underlying43 h
  obtain ⟨a, e0, rfl, wa⟩ := DataW.trod_int Try.underlying3 (by simpa using h0)
  obtain ⟨b, e1, rfl, wb⟩ := DataW.trod_int Try.underlying3 (by simpa using h1)
  rw [cells_int4] at e0 e1
  exact ⟨a, b, by simpa using e0, by simpa using e1⟩
set_option maxRecDepth 100000 in
theorem open_Two (hv : Value.okWide Try.prog w r b0 44 v) (h : DataW.Trod enc Try.prog w base spare held 44 v d p) :
    ∃ x1 x2 y1 y2 : Int, v = .agg #[.int .i64 x1, .int .i64 x2, .int .i64 y1, .int .i64 y2] := by
  obtain ⟨cs, rfl, hsz⟩ := okWide_arr Try.underlying44 hv
  obtain ⟨l⟩ := cs
  match l, hsz.trans (by kernel_rfl : Try.prog.cellsOf 44 = 4) with
  | [c0, c1, c2, c3], _ =>
    obtain ⟨fuel, hf⟩ := h
    obtain ⟨xs, n, _, hx, _, hlen, hg⟩ := DataW.trod_array Try.underlying44 hf
    match xs, hlen with
    | [z0, z1], _ =>
      have g0 := hg 0 (by omega)
      have g1 := hg 1 (by omega)
      simp [Value.cells, cells_pt4] at g0 g1
      obtain ⟨x1, x2, rfl, rfl⟩ := trod_pt_cells g0
      obtain ⟨y1, y2, rfl, rfl⟩ := trod_pt_cells g1
      exact ⟨x1, x2, y1, y2, rfl⟩
set_option maxRecDepth 100000 in
theorem open_Ctls (hv : Value.okWide Try.prog w r b0 24 v) (h : DataW.Trod enc Try.prog w base spare held 24 v d p) :
    ∃ (A : Option Addr) (c : Nat) (cs : List Sh.Ct), v = .slice A cs.length c ∧ Cts w w.heap.size A cs ∧ cs.length ≤ maxLen := by
  obtain ⟨A, len, cap, rfl⟩ := okWide_slice Try.underlying24 hv
  obtain ⟨fuel, hf⟩ := h
  exact trod_ctls (by simpa [Value.cells] using hf)
end
theorem lawTurned_walk (s : Sheet) (A : Option Addr) (c : Nat) (A2 : Option Addr) (c2 : Nat) (ps : List (Int × Int)) (x1 x2 y1 y2 : Int) (w : World) (_hl : ps.length ≤ maxLen) (hP : Prs w w.heap.size A2 ps) (hg : Cts w w.heap.size A s.cs) :
    Calls Try.prog 4 #[.agg (shV s A c), .slice A2 ps.length c2, .agg #[.int .i64 x1, .int .i64 x2, .int .i64 y1, .int .i64 y2]] w (TruePost w) :=
  SheetsTurned_walk s A c A2 c2 ps x1 x2 y1 y2 w hg hP

open Go.ChangeShapes Go.WideShapes Go.ChangeAt Go.RowKit Go.Joins

set_option maxRecDepth 100000 in
theorem turned4_lifted (os : Os) (started : os.Started) (H : Type) (enc : TypeId × Value → H) :
    ReturnsInHanded {} Try.checked os 4 .any (Rows.sheetsTurnedSpec.pre6 enc Try.prog Try.f4 Rows.sheetsTurnedRow.domain false) (Rows.sheetsTurnedSpec.post enc Try.prog Try.f4 false true false false) := by
  refine returnsInHanded_of_change (C := Try.checked) own started (by kernel_rfl) Try.func4
    (ChangeSpec.witness6 (enc := enc) (C := Try.checked) false ⟨#[], #[.agg #[.int .i64 0, .int .i64 0, .int .i64 0, .int .i64 0, .slice none 0 0, .int .i64 0], .slice none 0 0, .agg #[.int .i64 0, .int .i64 0, .int .i64 0, .int .i64 0]], []⟩ 8 (by kernel_rfl) (by kernel_rfl) (by kernel_rfl) (by kernel_rfl)) ?_
  intro W base args ds gs before hval0 hW hcnd _
  have hval : ∀ (j : Nat) t v, Try.f4.params[j]? = some t → args[j]? = some v → Value.okWide Try.prog W .any base t v := hval0
  have hW' := hW
  obtain ⟨p, q, hA0, hV, rfl, hfz, hnd⟩ := hW
  have hA : DataW.TrodAll enc Try.prog W 0 (fun _ => true) true Try.f4.params.toList args.toList ds p := hA0
  rw [Try.params4] at hA hval
  obtain ⟨v0, v1, v2, d0, d1, d2, p0, p1, p2, rfl, rfl, rfl, h0, h1, h2⟩ := trodAll_three hA
  obtain ⟨rfl, rfl⟩ := trodVars_none hV
  obtain ⟨s, A, c, rfl, hg_s, hl_s⟩ := open_Sheet (hval 0 26 v0 rfl rfl) h0
  obtain ⟨A2, c2, ps, rfl, hg_ps, hl_ps⟩ := open_prs Try.underlying27 Try.underlying43 (by kernel_rfl) (by kernel_rfl) (by kernel_rfl) (by kernel_rfl) (by kernel_rfl) Try.underlying3 Try.underlying3 (hval 1 27 v1 rfl rfl) h1
  obtain ⟨x1, x2, y1, y2, rfl⟩ := open_Two (hval 2 44 v2 rfl rfl) h2
  refine (lawTurned_walk s A c A2 c2 ps x1 x2 y1 y2 W hl_ps hg_ps hg_s).mono fun e W' ⟨he, hb⟩ => ?_
  subst he
  exact ⟨_, rfl, law_post hW' rfl rfl (by intro t ht; have : t = 26 ∨ t = 27 ∨ t = 44 := (by rw [Try.params4] at ht; simpa using ht); rcases this with rfl | rfl | rfl <;> exact ⟨by kernel_rfl, of_decide_eq_true (by kernel_rfl)⟩) rfl rfl rfl hb⟩

theorem turned4_holds : Rows.SheetsTurnedSaid :=
  OpenClaim.holds_of_wide 4 Try.f4 rfl rfl rfl rfl rfl rfl rfl ⟨rfl, rfl, rfl, rfl, rfl⟩ rfl rfl rfl rfl rfl (by kernel_rfl) Try.func4 (by kernel_rfl)
    (of_decide_eq_true (by kernel_rfl)) (by unfold Func.isWrapper; rw [if_neg (of_decide_eq_false (by kernel_rfl))]; exact ⟨rfl, rfl⟩)
    (fun os started H enc _ => turned4_lifted os started H enc)
end Go.Proofs.Ytgpmnkdagpcffaa
