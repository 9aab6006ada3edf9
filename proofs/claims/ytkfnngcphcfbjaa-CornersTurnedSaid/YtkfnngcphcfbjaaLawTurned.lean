/- Another corner first, or backwards: what is told is the same, but for signs. No condition beyond the statement's own. -/
import Derived.Test.YtkfnngcphcfbjaaWide
import Derived.Test.YtkfnngcphcfbjaaTurn
import Derived.Test.YtkfnngcphcfbjaaLawLarger
namespace Go.Proofs.Ytkfnngcphcfbjaa
open Go.RowKit

theorem sep_sym {a b : Option Nat} (h : a = none ∨ a ≠ b) : b = none ∨ b ≠ a := by
  by_cases hb : b = none
  · exact .inl hb
  · right
    rintro rfl
    rcases h with h | h
    · exact hb h
    · exact h rfl
theorem sep_new {a a' b : Option Nat} {n : Nat} (h : a = none ∨ a ≠ b) (h' : a' = a ∨ a' = some n) (hb : ∀ k, b = some k → k < n) : a' = none ∨ a' ≠ b := by
  rcases h' with rfl | rfl
  · exact h
  · right
    rintro rfl
    have := hb n rfl
    omega
namespace Geo
open Area
def rtTo (ps : List Pt) (i k : Nat) : List Pt := (List.range k).map fun j => ptAt ps ((i + j) % ps.length)
def rvTo (ps : List Pt) (k : Nat) : List Pt := (List.range k).map fun j => ptAt ps (ps.length - 1 - j)
theorem rtTo_len (ps : List Pt) (i k : Nat) : (rtTo ps i k).length = k := by unfold rtTo; simp
theorem rvTo_len (ps : List Pt) (k : Nat) : (rvTo ps k).length = k := by unfold rvTo; simp
theorem rtTo_at (ps : List Pt) (i : Nat) {n j : Nat} (h : j < n) : ptAt (rtTo ps i n) j = ptAt ps ((i + j) % ps.length) := by
  unfold rtTo
  rw [ptAt_get (by simp; exact h)]
  simp
theorem rvTo_at (ps : List Pt) {n j : Nat} (h : j < n) : ptAt (rvTo ps n) j = ptAt ps (ps.length - 1 - j) := by
  unfold rvTo
  rw [ptAt_get (by simp; exact h)]
  simp
theorem flat_rt (ps : List Pt) (i k : Nat) : flat (rtTo ps i (k + 1)) = flat (rtTo ps i k) ++ [.int .i64 (ptAt ps ((i + k) % ps.length)).1, .int .i64 (ptAt ps ((i + k) % ps.length)).2] := by
  unfold rtTo
  rw [List.range_succ, List.map_append, flat_append]
  simp [flat]
theorem flat_rv (ps : List Pt) (k : Nat) : flat (rvTo ps (k + 1)) = flat (rvTo ps k) ++ [.int .i64 (ptAt ps (ps.length - 1 - k)).1, .int .i64 (ptAt ps (ps.length - 1 - k)).2] := by
  unfold rvTo
  rw [List.range_succ, List.map_append, flat_append]
  simp [flat]
theorem cen_same {ps qs : List Pt} (hp : validB ps = true) (hq : validB qs = true) (f : Pt × Pt → Int) (h1 : tot fanV qs = tot fanV ps) (h2 : tot f qs = tot f ps) : cenN f qs = cenN f ps ∧ cenD f qs = cenD f ps := by
  obtain ⟨a1, a2⟩ := cen_yes hp f
  obtain ⟨b1, b2⟩ := cen_yes hq f
  rw [a1, a2, b1, b2, h1, h2]
  exact ⟨rfl, rfl⟩
theorem cen_neg {ps qs : List Pt} (hp : validB ps = true) (hq : validB qs = true) (f : Pt × Pt → Int) (h1 : tot fanV qs = - tot fanV ps) (h2 : tot f qs = - tot f ps) : cenN f qs = cenN f ps ∧ cenD f qs = cenD f ps := by
  have hb : 3 * tot fanV ps ≠ 0 := by have := area_ne hp; omega
  obtain ⟨a1, a2⟩ := cen_yes hp f
  obtain ⟨b1, b2⟩ := cen_yes hq f
  have := low_neg (a := tot f ps) hb
  rw [a1, a2, b1, b2, h1, h2, show 3 * - tot fanV ps = - (3 * tot fanV ps) by omega]
  exact this
theorem fan_swap (a b : Pt) : fanV (b, a) = - fanV (a, b) := by unfold fanV turn; grind
theorem fx_swap (a b : Pt) : fxV (b, a) = - fxV (a, b) := by unfold fxV fanV turn; grind
theorem fy_swap (a b : Pt) : fyV (b, a) = - fyV (a, b) := by unfold fyV fanV turn; grind
theorem xx_swap (a b : Pt) : xxV (b, a) = - xxV (a, b) := by unfold xxV fanV turn; grind
theorem xy_swap (a b : Pt) : xyV (b, a) = - xyV (a, b) := by unfold xyV fanV turn; grind
theorem yy_swap (a b : Pt) : yyV (b, a) = - yyV (a, b) := by unfold yyV fanV turn; grind
theorem wh_same {ps qs : List Pt} (hp : validB ps = true) (hq : validB qs = true) (p : Pt) (h : refLies qs p = refLies ps p) : whV qs p = whV ps p ∧ whE qs p = whE ps p := by
  unfold whV whE
  rw [hp, hq, h]
  exact ⟨rfl, rfl⟩
end Geo

set_option maxRecDepth 100000 in
set_option maxHeartbeats 8000000 in
theorem lawTurned_walk (A : Option Addr) (c : Nat) (ps : List (Int × Int)) (fi ax ay : Int) (w : World) (hm : ps.length ≤ maxLen) (hg : Prs w w.heap.size A ps) :
    Calls Try.prog 3 #[.slice A ps.length c, .int .i64 fi, .agg #[.int .i64 ax, .int .i64 ay]] w fun e w' => e = .returned (.bool true) ∧ Below w.heap.size w w' := by
  have HR : Hid (∀ W, Below w.heap.size w W → Calls Try.prog 14 #[.slice A ps.length c] W fun e w' => e = .returned (.bool (Geo.validB ps)) ∧ Below W.heap.size W w') := fun W hW => ready_any A c ps hm W (prs_keep hg hW)
  cases hv : Geo.validB ps with
  | false =>
    rw [hv] at HR
    clear hg hm hv
    go_enter Try.func3, Try.ntmps3
    go_wp2_with fail
    have HBY : Below w.heap.size w (w.alloc (.cells #[.int .i64 ax, .int .i64 ay] 24)) := by (repeat' (first | (with_reducible exact Below.refl _ _) | (with_reducible assumption) | (with_reducible refine Below.alloc ?_ ?_ _) | (with_reducible refine below_drewN ?_ _) | (with_reducible refine Below.drew ?_) | (with_reducible refine Below.setCell ?_ ?_ _) | go_size))
    refine (HR.out _ HBY).mono ?_
    rintro e w1 ⟨rfl, hb1⟩
    have HBZ := HBY.trans (hb1.mono HBY.size)
    go_wp2_with fail
    refine (works_any _).mono ?_
    rintro e w9 ⟨rfl, hb9⟩
    have hB9 : Below w.heap.size w w9 := HBZ.trans (hb9.mono HBZ.size)
    go_wp2_with fail
    go_returns
    exact ⟨rfl, hB9⟩
  | true =>
    rw [hv] at HR
    by_cases hr : 0 ≤ fi ∧ fi < ps.length
    · obtain ⟨i, rfl⟩ : ∃ i : Nat, fi = i := ⟨fi.toNat, by omega⟩
      have hin : i < ps.length := by omega
      have hlen := Geo.valid_len hv
      obtain ⟨bb, off, rfl, hbb, hc⟩ := hg (by omega)
      have HC : Hid (∀ W, Below w.heap.size w W → ∀ k, k < ps.length → W.cell? ⟨bb, off + k * 2, none⟩ = some (.int .i64 (Geo.ptAt ps k).1) ∧ W.cell? ⟨bb, off + k * 2 + 1, none⟩ = some (.int .i64 (Geo.ptAt ps k).2)) := fun W hW k hk => by
        have hgk : ps[k]? = some ps[k] := List.getElem?_eq_getElem hk
        have := hc k _ hgk
        rw [Geo.ptAt_eq hgk]
        exact ⟨(hW.cell (p := ⟨bb, off + k * 2, none⟩) hbb).trans this.1, (hW.cell (p := ⟨bb, off + k * 2 + 1, none⟩) hbb).trans this.2⟩
      have HG : Hid (Prs w w.heap.size (some ⟨bb, off, none⟩) ps) := hg
      have hll : (ps.length : Int) ≤ 10 := by omega
      have HV := Lib.hid hv
      have hl0 : 0 < ps.length := by omega
      have hr1 : ¬ (i : Int) < 0 := by omega
      have hr2 : ¬ (ps.length : Int) ≤ (i : Int) := by omega
      clear hc hg hm hv hr
      obtain ⟨i0, hi0, hz0, hz1, hz2⟩ := info_parts infoPt2
      go_enter Try.func3, Try.ntmps3
      go_wp2_with fail
      have HBY : Below w.heap.size w (w.alloc (.cells #[.int .i64 ax, .int .i64 ay] 24)) := by (repeat' (first | (with_reducible exact Below.refl _ _) | (with_reducible assumption) | (with_reducible refine Below.alloc ?_ ?_ _) | (with_reducible refine below_drewN ?_ _) | (with_reducible refine Below.drew ?_) | (with_reducible refine Below.setCell ?_ ?_ _) | go_size))
      have bY0 := BoxS.new w 24 #[.int .i64 ax, .int .i64 ay]
      refine (HR.out _ HBY).mono ?_
      rintro e w2 ⟨rfl, hb2⟩
      have HB2 := HBY.trans (hb2.mono HBY.size)
      have bY2 := bY0.below hb2
      clear bY0 hb2 HBY
      go_wp2_with fail
      go_loopw [7, 8, 9] (fun v u x wr => ∃ k : Nat, (k : Int) ≤ ps.length ∧ x = .int .i64 k ∧ (wr.ownsRow w2.heap.size 24 2 v k (flat (Geo.rtTo ps i k)) ∧ wr.ownsRow w2.heap.size 24 2 u k (flat (Geo.rvTo ps k)) ∧ Hid (v.ownBlock = none ∨ v.ownBlock ≠ u.ownBlock)) ∧ Below w2.heap.size w2 wr) (fun _ _ x _ => (ps.length - intOf x).toNat)
      case atStart => exact ⟨0, by omega, rfl, ⟨World.ownsRow_nil _ _ _ _, World.ownsRow_nil _ _ _ _, .inl rfl⟩, Below.refl _ _⟩
      case round =>
        obtain ⟨k, hk, rfl, ⟨hown1, hown2, hsep⟩, hB⟩ := hrel
        have hk0 := Int.natCast_nonneg k
        by_cases hlt : (k : Int) < ps.length
        · have hkn : k < ps.length := by omega
          have hBw : Below w.heap.size w wr := HB2.trans (hB.mono HB2.size)
          have hmr : (i + k) % ps.length < ps.length := Nat.mod_lt _ hl0
          obtain ⟨a0, a1⟩ := HC.out _ hBw _ hmr
          obtain ⟨b0, b1⟩ := HC.out _ hBw (ps.length - 1 - k) (by omega)
          have HF1 := Lib.hid (Geo.flat_rt ps i k)
          have HF2 := Lib.hid (Geo.flat_rv ps k)
          have lb : bb < wr.heap.size := by have := hBw.size; omega
          have hr1' : ((i : Int) + (k : Int)) % (ps.length : Int) = (((i + k) % ps.length : Nat) : Int) := by rw [Int.natCast_emod]; rfl
          have hr2' : ((i : Int) + (k : Int)).tmod (ps.length : Int) = (((i + k) % ps.length : Nat) : Int) := by rw [Int.tmod_eq_emod_of_nonneg (by omega)]; exact hr1'
          have hw4 : IntKind.i64.wrap ((ps.length : Int) - 1 - (k : Int)) = ((ps.length - 1 - k : Nat) : Int) := by rw [IntWalk.i64_in _ (by omega)]; omega
          have hix : (0 : Int) ≤ ((ps.length - 1 - k : Nat) : Int) ∧ ((ps.length - 1 - k : Nat) : Int) < (ps.length : Int) := by omega
          have hir : (0 : Int) ≤ (((i + k) % ps.length : Nat) : Int) ∧ (((i + k) % ps.length : Nat) : Int) < (ps.length : Int) := by omega
          have hw1 : IntKind.i64.wrap ((k : Int) + 1) = (k : Int) + 1 := IntWalk.i64_in _ (by omega)
          have hw2 : IntKind.i64.wrap ((i : Int) + (k : Int)) = (i : Int) + (k : Int) := IntWalk.i64_in _ (by omega)
          have hw3 : IntKind.i64.wrap ((ps.length : Int) - 1) = (ps.length : Int) - 1 := IntWalk.i64_in _ (by omega)
          have hw5 : IntKind.i64.wrap (((i + k) % ps.length : Nat) : Int) = (((i + k) % ps.length : Nat) : Int) := IntWalk.i64_in _ (by omega)
          generalize Geo.ptAt ps ((i + k) % ps.length) = pa at *
          generalize Geo.ptAt ps (ps.length - 1 - k) = pb at *
          generalize (i + k) % ps.length = r at *
          generalize ps.length - 1 - k = q at *
          obtain ⟨x0, y0⟩ := pa
          obtain ⟨x1, y1⟩ := pb
          dsimp only at a0 a1 b0 b1
          obtain ⟨hix1, hix2⟩ := hix
          obtain ⟨hir1, hir2⟩ := hir
          have hne : ¬ (ps.length : Int) = 0 := by omega
          have hne2 : ¬ ps.length = 0 := by omega
          have hne3 : ¬ ps = [] := by intro e; subst e; simp at hne2
          have HO1 := Lib.hid hown1
          have HO2 := Lib.hid hown2
          clear hown1 hown2 hmr hr1'
          have lb2 : bb < w2.heap.size := by have := HB2.size; omega
          have hszr := hB.size
          go_wp2_with (at_builtin; first | (refine wpList_append_any _ rfl (.tmp 48) (.tmp 58) 22 rfl w2.heap.size 24 i0 _ 2 16 Try.underlying22 hi0 hz0 hz1 hz2 rfl (by decide) _ k (flat (Geo.rtTo ps i k)) rfl (HO1.out.alloc _) (wr.heap.size + 1) (some ⟨wr.heap.size, 0, none⟩) 1 1 [.int .i64 x0, .int .i64 y0] rfl (reads_row2 _ _ _) (by intro u hu; simp at hu; rcases hu with rfl | rfl <;> rfl) (by unfold maxLen; omega) (by omega) (by simp; omega) ?_; intro v1 wa hownA hgrA hnewA; have hWA : Below w2.heap.size wr wa := ((Below.refl _ wr).alloc hszr _).grown hgrA (by simp; omega) (fun j hj => (HO1.out.lt j hj).1); have hszA := hgrA.size; simp only [World.size_alloc] at hszA hnewA; have b0' := (hWA.cell (p := ⟨bb, _, none⟩) lb2).trans b0; have b1' := (hWA.cell (p := ⟨bb, _, none⟩) lb2).trans b1; clear b0 b1; have HO1' := Lib.hid hownA; have HO2' := Lib.hid ((HO2.out.alloc (.cells #[.int .i64 x0, .int .i64 y0] 24)).kept hgrA (sep_sym hsep.out)); have hsep' : Hid (v1.ownBlock = none ∨ v1.ownBlock ≠ u8.ownBlock) := sep_new hsep.out hnewA (fun j hj => by have := (HO2.out.lt j hj).2; omega); clear hownA hgrA hnewA) | (refine wpList_append_any _ rfl (.tmp 60) (.tmp 69) 22 rfl w2.heap.size 24 i0 _ 2 16 Try.underlying22 hi0 hz0 hz1 hz2 rfl (by decide) _ k (flat (Geo.rvTo ps k)) rfl (HO2'.out.alloc _) (wa.heap.size + 1) (some ⟨wa.heap.size, 0, none⟩) 1 1 [.int .i64 x1, .int .i64 y1] rfl (reads_row2 _ _ _) (by intro u hu; simp at hu; rcases hu with rfl | rfl <;> rfl) (by unfold maxLen; omega) (by omega) (by simp; omega) ?_; intro v2 wb hownB hgrB hnewB; have hWB : Below w2.heap.size wa wb := ((Below.refl _ wa).alloc (by omega) _).grown hgrB (by simp; omega) (fun j hj => (HO2'.out.lt j hj).1); simp only [World.size_alloc] at hnewB; have HO2'' := Lib.hid hownB; have HO1'' := Lib.hid ((HO1'.out.alloc (.cells #[.int .i64 x1, .int .i64 y1] 24)).kept hgrB hsep'.out); have hsep'' : Hid (v1.ownBlock = none ∨ v1.ownBlock ≠ v2.ownBlock) := sep_sym (sep_new (sep_sym hsep'.out) hnewB (fun j hj => by have := (HO1'.out.lt j hj).2; omega)); clear hownB hgrB hnewB))
          go_roundw
          case rel => exact ⟨v1, v2, .int .i64 ((k : Int) + 1), ⟨k + 1, by omega, by go_num, ⟨by rw [HF1.out]; exact HO1''.out, by rw [HF2.out]; exact HO2''.out, hsep''⟩, (hB.trans hWA).trans hWB⟩, rfl, rfl, rfl⟩
          case measure => simp [intOf]; omega
        · obtain rfl : k = ps.length := by omega
          obtain ⟨A2, c2, hv2⟩ : ∃ A2 c2, u7 = Value.slice A2 ps.length c2 := own_form hown1
          obtain ⟨A3, c3, hv3⟩ : ∃ A3 c3, u8 = Value.slice A3 ps.length c3 := own_form hown2
          subst hv2
          subst hv3
          have hBw : Below w.heap.size w wr := HB2.trans (hB.mono HB2.size)
          have bY := bY2.below (hB.mono (Nat.le_refl _))
          obtain ⟨qs, hqs⟩ : ∃ qs, qs = Geo.rtTo ps i ps.length := ⟨_, rfl⟩
          obtain ⟨rs, hrs⟩ : ∃ rs, rs = Geo.rvTo ps ps.length := ⟨_, rfl⟩
          have hql : qs.length = ps.length := by rw [hqs, Geo.rtTo_len]
          have hrl : rs.length = ps.length := by rw [hrs, Geo.rvTo_len]
          have hqat : ∀ j, j < ps.length → Geo.ptAt qs j = Geo.ptAt ps ((i + j) % ps.length) := fun j hj => by rw [hqs]; exact Geo.rtTo_at ps i hj
          have hrat : ∀ j, j < ps.length → Geo.ptAt rs j = Geo.ptAt ps (ps.length - 1 - j) := fun j hj => by rw [hrs]; exact Geo.rvTo_at ps hj
          have hP2 : Hid (Prs wr wr.heap.size A2 qs) := prs_of_own (B := w2.heap.size) (e := 24) (c := c2) (by rw [hql, hqs]; exact hown1)
          have hP3 : Hid (Prs wr wr.heap.size A3 rs) := prs_of_own (B := w2.heap.size) (e := 24) (c := c3) (by rw [hrl, hrs]; exact hown2)
          have hvq : Geo.validB qs = true := Geo.validP_iff.2 (Geo.rot_valid hql hqat (Geo.validP_iff.1 HV.out))
          have hvr : Geo.validB rs = true := Geo.validP_iff.2 (Geo.rev_valid hrl hrat (Geo.validP_iff.1 HV.out))
          have e1 : Geo.toldA ps = #[.int .i64 (Geo.tot Geo.fanV ps), .int .i64 (Geo.tot Geo.fxV ps), .int .i64 (Geo.tot Geo.fyV ps), .int .i64 (Geo.tot Geo.xxV ps), .int .i64 (Geo.tot Geo.xyV ps), .int .i64 (Geo.tot Geo.yyV ps), .int .i64 (Geo.cenN Geo.fxV ps), .int .i64 (Geo.cenD Geo.fxV ps), .int .i64 (Geo.cenN Geo.fyV ps), .int .i64 (Geo.cenD Geo.fyV ps)] := rfl
          have e2 : Geo.toldA qs = #[.int .i64 (Geo.tot Geo.fanV ps), .int .i64 (Geo.tot Geo.fxV ps), .int .i64 (Geo.tot Geo.fyV ps), .int .i64 (Geo.tot Geo.xxV ps), .int .i64 (Geo.tot Geo.xyV ps), .int .i64 (Geo.tot Geo.yyV ps), .int .i64 (Geo.cenN Geo.fxV ps), .int .i64 (Geo.cenD Geo.fxV ps), .int .i64 (Geo.cenN Geo.fyV ps), .int .i64 (Geo.cenD Geo.fyV ps)] := by
            have l1 := Geo.rot_tot hl0 hql hqat Geo.fanV
            obtain ⟨l7, l8⟩ := Geo.cen_same HV.out hvq Geo.fxV l1 (Geo.rot_tot hl0 hql hqat _)
            obtain ⟨l9, l10⟩ := Geo.cen_same HV.out hvq Geo.fyV l1 (Geo.rot_tot hl0 hql hqat _)
            unfold Geo.toldA
            rw [l1, Geo.rot_tot hl0 hql hqat Geo.fxV, Geo.rot_tot hl0 hql hqat Geo.fyV, Geo.rot_tot hl0 hql hqat Geo.xxV, Geo.rot_tot hl0 hql hqat Geo.xyV, Geo.rot_tot hl0 hql hqat Geo.yyV, l7, l8, l9, l10]
          have e3 : Geo.toldA rs = #[.int .i64 (-Geo.tot Geo.fanV ps), .int .i64 (-Geo.tot Geo.fxV ps), .int .i64 (-Geo.tot Geo.fyV ps), .int .i64 (-Geo.tot Geo.xxV ps), .int .i64 (-Geo.tot Geo.xyV ps), .int .i64 (-Geo.tot Geo.yyV ps), .int .i64 (Geo.cenN Geo.fxV ps), .int .i64 (Geo.cenD Geo.fxV ps), .int .i64 (Geo.cenN Geo.fyV ps), .int .i64 (Geo.cenD Geo.fyV ps)] := by
            have l1 := Geo.rev_tot hl0 hrl hrat Geo.fanV Geo.fan_swap
            have l2 := Geo.rev_tot hl0 hrl hrat Geo.fxV Geo.fx_swap
            have l3 := Geo.rev_tot hl0 hrl hrat Geo.fyV Geo.fy_swap
            obtain ⟨l7, l8⟩ := Geo.cen_neg HV.out hvr Geo.fxV l1 l2
            obtain ⟨l9, l10⟩ := Geo.cen_neg HV.out hvr Geo.fyV l1 l3
            unfold Geo.toldA
            rw [l1, l2, l3, Geo.rev_tot hl0 hrl hrat Geo.xxV Geo.xx_swap, Geo.rev_tot hl0 hrl hrat Geo.xyV Geo.xy_swap, Geo.rev_tot hl0 hrl hrat Geo.yyV Geo.yy_swap, l7, l8, l9, l10]
          have HT1 : Hid (∀ W, Below w.heap.size w W → Calls Try.prog 16 #[.slice (some ⟨bb, off, none⟩) ps.length c] W (ToldPost #[.int .i64 (Geo.tot Geo.fanV ps), .int .i64 (Geo.tot Geo.fxV ps), .int .i64 (Geo.tot Geo.fyV ps), .int .i64 (Geo.tot Geo.xxV ps), .int .i64 (Geo.tot Geo.xyV ps), .int .i64 (Geo.tot Geo.yyV ps), .int .i64 (Geo.cenN Geo.fxV ps), .int .i64 (Geo.cenD Geo.fxV ps), .int .i64 (Geo.cenN Geo.fyV ps), .int .i64 (Geo.cenD Geo.fyV ps)] W)) := fun W hW => by rw [← e1]; exact told_yes _ c ps HV.out W (prs_keep HG.out hW)
          have HT2 : Hid (∀ W, Prs W W.heap.size A2 qs → Calls Try.prog 16 #[.slice A2 ps.length c2] W (ToldPost #[.int .i64 (Geo.tot Geo.fanV ps), .int .i64 (Geo.tot Geo.fxV ps), .int .i64 (Geo.tot Geo.fyV ps), .int .i64 (Geo.tot Geo.xxV ps), .int .i64 (Geo.tot Geo.xyV ps), .int .i64 (Geo.tot Geo.yyV ps), .int .i64 (Geo.cenN Geo.fxV ps), .int .i64 (Geo.cenD Geo.fxV ps), .int .i64 (Geo.cenN Geo.fyV ps), .int .i64 (Geo.cenD Geo.fyV ps)] W)) := fun W hP => by rw [← hql, ← e2]; exact told_yes A2 c2 qs hvq W hP
          have HT3 : Hid (∀ W, Prs W W.heap.size A3 rs → Calls Try.prog 16 #[.slice A3 ps.length c3] W (ToldPost #[.int .i64 (-Geo.tot Geo.fanV ps), .int .i64 (-Geo.tot Geo.fxV ps), .int .i64 (-Geo.tot Geo.fyV ps), .int .i64 (-Geo.tot Geo.xxV ps), .int .i64 (-Geo.tot Geo.xyV ps), .int .i64 (-Geo.tot Geo.yyV ps), .int .i64 (Geo.cenN Geo.fxV ps), .int .i64 (Geo.cenD Geo.fxV ps), .int .i64 (Geo.cenN Geo.fyV ps), .int .i64 (Geo.cenD Geo.fyV ps)] W)) := fun W hP => by rw [← hrl, ← e3]; exact told_yes A3 c3 rs hvr W hP
          obtain ⟨k1, k2⟩ := Geo.wh_same HV.out hvq (ax, ay) (Geo.rot_lies hl0 hql hqat (ax, ay))
          obtain ⟨k3, k4⟩ := Geo.wh_same HV.out hvr (ax, ay) (Geo.rev_lies hl0 hrl hrat (ax, ay))
          have HW1 : Hid (∀ W, Below w.heap.size w W → Calls Try.prog 17 #[.slice (some ⟨bb, off, none⟩) ps.length c, .agg #[.int .i64 ax, .int .i64 ay]] W (WherePost (Geo.whV ps (ax, ay)) (Geo.whE ps (ax, ay)) W)) := fun W hW => Where_any _ c ps (by omega) ax ay W (prs_keep HG.out hW)
          have HW2 : Hid (∀ W, Prs W W.heap.size A2 qs → Calls Try.prog 17 #[.slice A2 ps.length c2, .agg #[.int .i64 ax, .int .i64 ay]] W (WherePost (Geo.whV ps (ax, ay)) (Geo.whE ps (ax, ay)) W)) := fun W hP => by rw [← hql, ← k1, ← k2]; exact Where_any A2 c2 qs (by omega) ax ay W hP
          have HW3 : Hid (∀ W, Prs W W.heap.size A3 rs → Calls Try.prog 17 #[.slice A3 ps.length c3, .agg #[.int .i64 ax, .int .i64 ay]] W (WherePost (Geo.whV ps (ax, ay)) (Geo.whE ps (ax, ay)) W)) := fun W hP => by rw [← hrl, ← k3, ← k4]; exact Where_any A3 c3 rs (by omega) ax ay W hP
          have HWD : Hid (∀ W, Below w.heap.size w W → Calls Try.prog 18 #[.slice (some ⟨bb, off, none⟩) ps.length c] W (WidePost W)) := fun W hW => wide_any _ c ps HV.out W (prs_keep HG.out hW)
          have HP1 : Hid (∀ W, Below w.heap.size w W → Calls Try.prog 19 #[.slice (some ⟨bb, off, none⟩) ps.length c] W fun e w' => e = .returned (.tuple #[.int .i64 (Geo.inV ps), .int .i64 (Geo.tot Geo.dvV ps), .int .i64 0]) ∧ Below W.heap.size W w') := fun W hW => by
            have := Points_any _ c ps (by omega) W (prs_keep HG.out hW)
            rw [Geo.whenV_yes HV.out, Geo.whenV_yes HV.out, Geo.errV_yes HV.out] at this
            exact this
          have hin2 : Geo.inV qs = Geo.inV ps := by unfold Geo.inV; rw [Geo.rot_tot hl0 hql hqat, Geo.rot_tot hl0 hql hqat]
          have HP2 : Hid (∀ W, Prs W W.heap.size A2 qs → Calls Try.prog 19 #[.slice A2 ps.length c2] W fun e w' => e = .returned (.tuple #[.int .i64 (Geo.inV ps), .int .i64 (Geo.tot Geo.dvV ps), .int .i64 0]) ∧ Below W.heap.size W w') := fun W hP => by
            have := Points_any A2 c2 qs (by omega) W hP
            rw [Geo.whenV_yes hvq, Geo.whenV_yes hvq, Geo.errV_yes hvq, hin2, Geo.rot_tot hl0 hql hqat, hql] at this
            exact this
          have hT0 : ¬ Geo.tot Geo.fanV ps = 0 := Geo.area_ne HV.out
          have hsm := Geo.valid_sm HV.out
          have hl10 := (Geo.valid_len HV.out).2
          have bT := fan_sum hsm hl10
          have bX := tot_b2 (f := Geo.fxV) hsm hl10 (fun s h1 h2 => Geo.fx_b2 h1 h2)
          have bZ := tot_b2 (f := Geo.fyV) hsm hl10 (fun s h1 h2 => Geo.fy_b2 h1 h2)
          have bXX := tot_b2 (f := Geo.xxV) hsm hl10 (fun s h1 h2 => Geo.xx_b2 h1 h2)
          have bXY := tot_b2 (f := Geo.xyV) hsm hl10 (fun s h1 h2 => Geo.xy_b2 h1 h2)
          have bYY := tot_b2 (f := Geo.yyV) hsm hl10 (fun s h1 h2 => Geo.yy_b2 h1 h2)
          clear e1 e2 e3 hsm hl10 hqat hrat hql hrl hqs hrs hvq hvr HV HC HR k1 k2 k3 k4 hin2 hown1 hown2 hsep HG
          generalize Geo.tot Geo.fanV ps = T at *
          generalize Geo.tot Geo.fxV ps = X at *
          generalize Geo.tot Geo.fyV ps = Z at *
          generalize Geo.tot Geo.xxV ps = XX at *
          generalize Geo.tot Geo.xyV ps = XY at *
          generalize Geo.tot Geo.yyV ps = YY at *
          generalize Geo.cenN Geo.fxV ps = N1 at *
          generalize Geo.cenD Geo.fxV ps = N2 at *
          generalize Geo.cenN Geo.fyV ps = N3 at *
          generalize Geo.cenD Geo.fyV ps = N4 at *
          generalize Geo.whV ps (ax, ay) = KV at *
          generalize Geo.whE ps (ax, ay) = KE at *
          generalize Geo.inV ps = IV at *
          generalize Geo.tot Geo.dvV ps = DV at *
          obtain ⟨T2, hT2⟩ : ∃ z, z = -T := ⟨_, rfl⟩
          rw [← hT2] at HT3
          have hwT2 : IntKind.i64.wrap (-T2) = T := by rw [IntWalk.i64_in _ (by omega), hT2, Int.neg_neg]
          obtain ⟨X2, hX2⟩ : ∃ z, z = -X := ⟨_, rfl⟩
          rw [← hX2] at HT3
          have hwX2 : IntKind.i64.wrap (-X2) = X := by rw [IntWalk.i64_in _ (by omega), hX2, Int.neg_neg]
          obtain ⟨Z2, hZ2⟩ : ∃ z, z = -Z := ⟨_, rfl⟩
          rw [← hZ2] at HT3
          have hwZ2 : IntKind.i64.wrap (-Z2) = Z := by rw [IntWalk.i64_in _ (by omega), hZ2, Int.neg_neg]
          obtain ⟨XX2, hXX2⟩ : ∃ z, z = -XX := ⟨_, rfl⟩
          rw [← hXX2] at HT3
          have hwXX2 : IntKind.i64.wrap (-XX2) = XX := by rw [IntWalk.i64_in _ (by omega), hXX2, Int.neg_neg]
          obtain ⟨XY2, hXY2⟩ : ∃ z, z = -XY := ⟨_, rfl⟩
          rw [← hXY2] at HT3
          have hwXY2 : IntKind.i64.wrap (-XY2) = XY := by rw [IntWalk.i64_in _ (by omega), hXY2, Int.neg_neg]
          obtain ⟨YY2, hYY2⟩ : ∃ z, z = -YY := ⟨_, rfl⟩
          rw [← hYY2] at HT3
          have hwYY2 : IntKind.i64.wrap (-YY2) = YY := by rw [IntWalk.i64_in _ (by omega), hYY2, Int.neg_neg]
          clear hT2 hX2 hZ2 hXX2 hXY2 hYY2 bT bX bZ bXX bXY bYY
          go_wp2_with fail
          refine (HT1.out _ hBw).mono ?_
          rintro e w3 ⟨rfl, hb3⟩
          have hBw3 := hBw.trans (hb3.mono hBw.size)
          have hP2a : Hid (Prs w3 w3.heap.size A2 qs) := prs_keep hP2.out hb3
          have hP3a : Hid (Prs w3 w3.heap.size A3 rs) := prs_keep hP3.out hb3
          have bYa := bY.below hb3
          clear hb3 hP2 hP3 bY HT1 hBw
          go_wp2_with fail
          have bA4 := BoxS.new w3 30 #[.int .i64 T, .int .i64 X, .int .i64 Z, .int .i64 XX, .int .i64 XY, .int .i64 YY, .int .i64 N1, .int .i64 N2, .int .i64 N3, .int .i64 N4]
          have hb4 : Below w3.heap.size w3 (w3.alloc (.cells #[.int .i64 T, .int .i64 X, .int .i64 Z, .int .i64 XX, .int .i64 XY, .int .i64 YY, .int .i64 N1, .int .i64 N2, .int .i64 N3, .int .i64 N4] 30)) := by (repeat' (first | (with_reducible exact Below.refl _ _) | (with_reducible assumption) | (with_reducible refine Below.alloc ?_ ?_ _) | (with_reducible refine Below.drew ?_) | (with_reducible refine Below.setCell ?_ ?_ _) | go_size | (exact (by simp)) | omega))
          have hBw4 := hBw3.trans (hb4.mono hBw3.size)
          have hP2b : Hid (Prs _ _ A2 qs) := prs_keep hP2a.out hb4
          have hP3b : Hid (Prs _ _ A3 rs) := prs_keep hP3a.out hb4
          have bYb := bYa.below hb4
          clear hb4 hP2a hP3a bYa hBw3
          generalize World.alloc _ _ = w4 at *
          refine (HT2.out _ hP2b.out).mono ?_
          rintro e w5 ⟨rfl, hb5⟩
          have hBw5 := hBw4.trans (hb5.mono hBw4.size)
          have hP2c : Hid (Prs w5 w5.heap.size A2 qs) := prs_keep hP2b.out hb5
          have hP3c : Hid (Prs w5 w5.heap.size A3 rs) := prs_keep hP3b.out hb5
          have bYc := bYb.below hb5
          have bA5 := bA4.below hb5
          clear hb5 hP2b hP3b bYb hBw4 bA4 HT2
          go_wp2_with fail
          have bA6 := bA5.alloc (.cells #[.int .i64 T, .int .i64 X, .int .i64 Z, .int .i64 XX, .int .i64 XY, .int .i64 YY, .int .i64 N1, .int .i64 N2, .int .i64 N3, .int .i64 N4] 30)
          have bB6 := BoxS.new w5 30 #[.int .i64 T, .int .i64 X, .int .i64 Z, .int .i64 XX, .int .i64 XY, .int .i64 YY, .int .i64 N1, .int .i64 N2, .int .i64 N3, .int .i64 N4]
          have hb6 : Below w5.heap.size w5 (w5.alloc (.cells #[.int .i64 T, .int .i64 X, .int .i64 Z, .int .i64 XX, .int .i64 XY, .int .i64 YY, .int .i64 N1, .int .i64 N2, .int .i64 N3, .int .i64 N4] 30)) := by (repeat' (first | (with_reducible exact Below.refl _ _) | (with_reducible assumption) | (with_reducible refine Below.alloc ?_ ?_ _) | (with_reducible refine Below.drew ?_) | (with_reducible refine Below.setCell ?_ ?_ _) | go_size | (exact (by simp)) | omega))
          have hBw6 := hBw5.trans (hb6.mono hBw5.size)
          have hP2d : Hid (Prs _ _ A2 qs) := prs_keep hP2c.out hb6
          have hP3d : Hid (Prs _ _ A3 rs) := prs_keep hP3c.out hb6
          have bYd := bYc.below hb6
          clear hb6 hP2c hP3c bYc hBw5 bA5
          generalize World.alloc _ _ = w6 at *
          refine (HT3.out _ hP3d.out).mono ?_
          rintro e w7 ⟨rfl, hb7⟩
          have hBw7 := hBw6.trans (hb7.mono hBw6.size)
          have hP2e : Hid (Prs w7 w7.heap.size A2 qs) := prs_keep hP2d.out hb7
          have hP3e : Hid (Prs w7 w7.heap.size A3 rs) := prs_keep hP3d.out hb7
          have bYe := bYd.below hb7
          have bA7 := bA6.below hb7
          have bB7 := bB6.below hb7
          clear hb7 hP2d hP3d bYd hBw6 bA6 bB6 HT3
          have la := bA7.lt
          have lb := bB7.lt
          have ly := bYe.lt
          obtain ⟨y0, y1⟩ := boxS2 bYe
          have a0 := bA7.cell 0 rfl
          have b0 := bB7.cell 0 rfl
          have a1 := bA7.cell 1 rfl
          have b1 := bB7.cell 1 rfl
          have a2 := bA7.cell 2 rfl
          have b2 := bB7.cell 2 rfl
          have a3 := bA7.cell 3 rfl
          have b3 := bB7.cell 3 rfl
          have a4 := bA7.cell 4 rfl
          have b4 := bB7.cell 4 rfl
          have a5 := bA7.cell 5 rfl
          have b5 := bB7.cell 5 rfl
          have a6 := bA7.cell 6 rfl
          have b6 := bB7.cell 6 rfl
          have a7 := bA7.cell 7 rfl
          have b7 := bB7.cell 7 rfl
          have a8 := bA7.cell 8 rfl
          have b8 := bB7.cell 8 rfl
          have a9 := bA7.cell 9 rfl
          have b9 := bB7.cell 9 rfl
          go_wp2_with fail
          have bA8 := bA7.alloc (.cells #[.int .i64 T, .int .i64 X, .int .i64 Z, .int .i64 XX, .int .i64 XY, .int .i64 YY, .int .i64 N1, .int .i64 N2, .int .i64 N3, .int .i64 N4] 30)
          have bC8 := BoxS.new w7 30 #[.int .i64 T, .int .i64 X, .int .i64 Z, .int .i64 XX, .int .i64 XY, .int .i64 YY, .int .i64 N1, .int .i64 N2, .int .i64 N3, .int .i64 N4]
          have hb8 : Below w7.heap.size w7 (w7.alloc (.cells #[.int .i64 T, .int .i64 X, .int .i64 Z, .int .i64 XX, .int .i64 XY, .int .i64 YY, .int .i64 N1, .int .i64 N2, .int .i64 N3, .int .i64 N4] 30)) := by (repeat' (first | (with_reducible exact Below.refl _ _) | (with_reducible assumption) | (with_reducible refine Below.alloc ?_ ?_ _) | (with_reducible refine Below.drew ?_) | (with_reducible refine Below.setCell ?_ ?_ _) | go_size | (exact (by simp)) | omega))
          have hBw8 := hBw7.trans (hb8.mono hBw7.size)
          have hP2f : Hid (Prs _ _ A2 qs) := prs_keep hP2e.out hb8
          have hP3f : Hid (Prs _ _ A3 rs) := prs_keep hP3e.out hb8
          have bYf := bYe.below hb8
          clear a0 b0
          clear a1 b1
          clear a2 b2
          clear a3 b3
          clear a4 b4
          clear a5 b5
          clear a6 b6
          clear a7 b7
          clear a8 b8
          clear a9 b9
          clear hb8 hP2e hP3e bYe hBw7 bA7 bB7 y0 y1
          generalize World.alloc _ _ = w8 at *
          refine (HW1.out _ hBw8).mono ?_
          rintro e w9 ⟨rfl, hb9⟩
          have hBw9 := hBw8.trans (hb9.mono hBw8.size)
          have hP2g : Hid (Prs w9 w9.heap.size A2 qs) := prs_keep hP2f.out hb9
          have hP3g : Hid (Prs w9 w9.heap.size A3 rs) := prs_keep hP3f.out hb9
          have bYg := bYf.below hb9
          have bA9 := bA8.below hb9
          have bC9 := bC8.below hb9
          clear hb9 hP2f hP3f bYf hBw8 bA8 bC8 HW1
          obtain ⟨y0, y1⟩ := boxS2 bYg
          go_wp2_with fail
          refine (HW2.out _ hP2g.out).mono ?_
          rintro e w10 ⟨rfl, hb10⟩
          have hBw10 := hBw9.trans (hb10.mono hBw9.size)
          have hP2h : Hid (Prs w10 w10.heap.size A2 qs) := prs_keep hP2g.out hb10
          have hP3h : Hid (Prs w10 w10.heap.size A3 rs) := prs_keep hP3g.out hb10
          have bYh := bYg.below hb10
          have bA10 := bA9.below hb10
          have bC10 := bC9.below hb10
          clear hb10 hP2g hP3g bYg hBw9 bA9 bC9 HW2 y0 y1
          obtain ⟨y0, y1⟩ := boxS2 bYh
          go_wp2_with fail
          refine (HW3.out _ hP3h.out).mono ?_
          rintro e w11 ⟨rfl, hb11⟩
          have hBw11 := hBw10.trans (hb11.mono hBw10.size)
          have hP2i : Hid (Prs w11 w11.heap.size A2 qs) := prs_keep hP2h.out hb11
          have bA11 := bA10.below hb11
          have bC11 := bC10.below hb11
          clear hb11 hP2h hP3h bYh hBw10 bA10 bC10 HW3 y0 y1
          have za0 := bA11.cell 0 rfl
          have zc0 := bC11.cell 0 rfl
          have za1 := bA11.cell 1 rfl
          have zc1 := bC11.cell 1 rfl
          have za2 := bA11.cell 2 rfl
          have zc2 := bC11.cell 2 rfl
          have za3 := bA11.cell 3 rfl
          have zc3 := bC11.cell 3 rfl
          have za4 := bA11.cell 4 rfl
          have zc4 := bC11.cell 4 rfl
          have za5 := bA11.cell 5 rfl
          have zc5 := bC11.cell 5 rfl
          have za6 := bA11.cell 6 rfl
          have zc6 := bC11.cell 6 rfl
          have za7 := bA11.cell 7 rfl
          have zc7 := bC11.cell 7 rfl
          have za8 := bA11.cell 8 rfl
          have zc8 := bC11.cell 8 rfl
          have za9 := bA11.cell 9 rfl
          have zc9 := bC11.cell 9 rfl
          go_wp2_with fail
          refine (HWD.out _ hBw11).mono ?_
          rintro e w12 ⟨⟨b, rfl⟩, hb12⟩
          have hBw12 := hBw11.trans (hb12.mono hBw11.size)
          have hP2j : Hid (Prs w12 w12.heap.size A2 qs) := prs_keep hP2i.out hb12
          clear hb12 hP2i hBw11 bA11 bC11 HWD
          clear za0 zc0
          clear za1 zc1
          clear za2 zc2
          clear za3 zc3
          clear za4 zc4
          clear za5 zc5
          clear za6 zc6
          clear za7 zc7
          clear za8 zc8
          clear za9 zc9
          cases b with
          | true =>
            have HBZ := hBw12
            go_wp2_with fail
            refine (works_any _).mono ?_
            rintro e w9 ⟨rfl, hb9⟩
            have hB9 : Below w.heap.size w w9 := HBZ.trans (hb9.mono HBZ.size)
            go_wp2_with fail
            go_returns
            exact ⟨rfl, hB9⟩
          | false =>
            go_wp2_with fail
            refine (HP1.out _ hBw12).mono ?_
            rintro e w13 ⟨rfl, hb13⟩
            have hBw13 := hBw12.trans (hb13.mono hBw12.size)
            have hP2k : Hid (Prs w13 w13.heap.size A2 qs) := prs_keep hP2j.out hb13
            clear hb13 hP2j hBw12 HP1
            go_wp2_with fail
            refine (HP2.out _ hP2k.out).mono ?_
            rintro e w14 ⟨rfl, hb14⟩
            have HBZ := hBw13.trans (hb14.mono hBw13.size)
            clear hb14 hP2k hBw13 HP2
            go_wp2_with fail
            refine (works_any _).mono ?_
            rintro e w9 ⟨rfl, hb9⟩
            have hB9 : Below w.heap.size w w9 := HBZ.trans (hb9.mono HBZ.size)
            go_wp2_with fail
            go_returns
            exact ⟨rfl, hB9⟩
    · clear hg hm hv
      by_cases h1 : fi < 0
      · clear hr
        go_enter Try.func3, Try.ntmps3
        go_wp2_with fail
        have HBY : Below w.heap.size w (w.alloc (.cells #[.int .i64 ax, .int .i64 ay] 24)) := by (repeat' (first | (with_reducible exact Below.refl _ _) | (with_reducible assumption) | (with_reducible refine Below.alloc ?_ ?_ _) | (with_reducible refine below_drewN ?_ _) | (with_reducible refine Below.drew ?_) | (with_reducible refine Below.setCell ?_ ?_ _) | go_size))
        refine (HR.out _ HBY).mono ?_
        rintro e w1 ⟨rfl, hb1⟩
        have HBZ := HBY.trans (hb1.mono HBY.size)
        go_wp2_with fail
        refine (works_any _).mono ?_
        rintro e w9 ⟨rfl, hb9⟩
        have hB9 : Below w.heap.size w w9 := HBZ.trans (hb9.mono HBZ.size)
        go_wp2_with fail
        go_returns
        exact ⟨rfl, hB9⟩
      · have h2 : (ps.length : Int) ≤ fi := by omega
        clear hr
        go_enter Try.func3, Try.ntmps3
        go_wp2_with fail
        have HBY : Below w.heap.size w (w.alloc (.cells #[.int .i64 ax, .int .i64 ay] 24)) := by (repeat' (first | (with_reducible exact Below.refl _ _) | (with_reducible assumption) | (with_reducible refine Below.alloc ?_ ?_ _) | (with_reducible refine below_drewN ?_ _) | (with_reducible refine Below.drew ?_) | (with_reducible refine Below.setCell ?_ ?_ _) | go_size))
        refine (HR.out _ HBY).mono ?_
        rintro e w1 ⟨rfl, hb1⟩
        have HBZ := HBY.trans (hb1.mono HBY.size)
        go_wp2_with fail
        refine (works_any _).mono ?_
        rintro e w9 ⟨rfl, hb9⟩
        have hB9 : Below w.heap.size w w9 := HBZ.trans (hb9.mono HBZ.size)
        go_wp2_with fail
        go_returns
        exact ⟨rfl, hB9⟩

open Go.ChangeShapes Go.WideShapes Go.ChangeAt Go.RowKit Go.Joins

set_option maxRecDepth 100000 in
theorem turned_lifted (os : Os) (started : os.Started) (H : Type) (enc : TypeId × Value → H) :
    ReturnsInHanded {} Try.checked os 3 .any (Rows.cornersTurnedSpec.pre6 enc Try.prog Try.f3 Rows.cornersTurnedRow.domain false) (Rows.cornersTurnedSpec.post enc Try.prog Try.f3 false true false false) := by
  refine returnsInHanded_of_change (C := Try.checked) own started (by kernel_rfl) Try.func3
    (ChangeSpec.witness6 (enc := enc) (C := Try.checked) false ⟨#[], #[.slice none 0 0, .int .i64 0, .agg #[.int .i64 0, .int .i64 0]], []⟩ 8 (by kernel_rfl) (by kernel_rfl) (by kernel_rfl) (by kernel_rfl)) ?_
  intro W base args ds gs before hval0 hW hcnd _
  have hval : ∀ (j : Nat) t v, Try.f3.params[j]? = some t → args[j]? = some v → Value.okWide Try.prog W .any base t v := hval0
  have hW' := hW
  obtain ⟨p, q, hA0, hV, rfl, hfz, hnd⟩ := hW
  have hA : DataW.TrodAll enc Try.prog W 0 (fun _ => true) true Try.f3.params.toList args.toList ds p := hA0
  rw [Try.params3] at hA hval
  obtain ⟨v0, v1, v2, d0, d1, d2, p0, p1, p2, rfl, rfl, rfl, h0, h1, h2⟩ := trodAll_three hA
  obtain ⟨rfl, rfl⟩ := trodVars_none hV
  obtain ⟨A, c, ps, rfl, hg_ps, hl_ps⟩ := open_prs Try.underlying22 Try.underlying24 (by kernel_rfl) (by kernel_rfl) (by kernel_rfl) (by kernel_rfl) (by kernel_rfl) Try.underlying3 Try.underlying3 (hval 0 22 v0 rfl rfl) h0
  obtain ⟨fi, rfl, rfl, rfl, wf_fi⟩ := open_int Try.underlying3 (hval 1 3 v1 rfl rfl) h1
  obtain ⟨x, y, rfl⟩ := open_Point (hval 2 24 v2 rfl rfl) h2
  refine (lawTurned_walk A c ps fi x y W hl_ps hg_ps).mono fun e W' ⟨he, hb⟩ => ?_
  subst he
  exact ⟨_, rfl, law_post hW' rfl rfl (by intro t ht; have : t = 22 ∨ t = 3 ∨ t = 24 := (by rw [Try.params3] at ht; simpa using ht); rcases this with rfl | rfl | rfl <;> exact ⟨by kernel_rfl, of_decide_eq_true (by kernel_rfl)⟩) rfl rfl rfl hb⟩

theorem turned_holds : Rows.CornersTurnedSaid :=
  OpenClaim.holds_of_wide 3 Try.f3 rfl rfl rfl rfl rfl rfl rfl ⟨rfl, rfl, rfl, rfl, rfl⟩ rfl rfl rfl rfl rfl (by kernel_rfl) Try.func3 (by kernel_rfl)
    (of_decide_eq_true (by kernel_rfl)) (by unfold Func.isWrapper; rw [if_neg (of_decide_eq_false (by kernel_rfl))]; exact ⟨rfl, rfl⟩)
    (fun os started H enc _ => turned_lifted os started H enc)
end Go.Proofs.Ytkfnngcphcfbjaa
