/- All numbers k times as great: Twice is k k times as great, First k k k times, Second k k k k times, Centre k times. No condition beyond the statement's own. -/
import Derived.Test.YtkfnngcphcfbjaaLawMoved
namespace Go.Proofs.Ytkfnngcphcfbjaa
open Go.RowKit

namespace Geo
def lgTo (ps : List Pt) (m : Int) (k : Nat) : List Pt := (List.range k).map fun j => (m * (ptAt ps j).1, m * (ptAt ps j).2)
theorem lgTo_len (ps : List Pt) (m : Int) (k : Nat) : (lgTo ps m k).length = k := by unfold lgTo; simp
theorem lgTo_succ (ps : List Pt) (m : Int) (k : Nat) : lgTo ps m (k + 1) = lgTo ps m k ++ [(m * (ptAt ps k).1, m * (ptAt ps k).2)] := by
  unfold lgTo
  rw [List.range_succ, List.map_append]
  rfl
theorem lgTo_at (ps : List Pt) (m : Int) {n j : Nat} (h : j < n) : ptAt (lgTo ps m n) j = (m * (ptAt ps j).1, m * (ptAt ps j).2) := by
  unfold lgTo
  rw [ptAt_get (by simp; exact h)]
  simp
theorem flat_lg (ps : List Pt) (m : Int) (k : Nat) : flat (lgTo ps m (k + 1)) = flat (lgTo ps m k) ++ [.int .i64 (m * (ptAt ps k).1), .int .i64 (m * (ptAt ps k).2)] := by
  rw [lgTo_succ, flat_append]
  simp [flat]
theorem tdiv_le {a g M : Int} (h : -M ≤ a ∧ a ≤ M) : -M ≤ a.tdiv g ∧ a.tdiv g ≤ M := by
  have h1 : (a.tdiv g).natAbs = a.natAbs / g.natAbs := Int.natAbs_tdiv _ _
  have h2 : a.natAbs / g.natAbs ≤ a.natAbs := Nat.div_le_self _ _
  omega
theorem low_bd {a b M : Int} (h : -M ≤ a ∧ a ≤ M) : -M ≤ lowN a b ∧ lowN a b ≤ M := tdiv_le h
theorem lowD_bd {a b M : Int} (h : -M ≤ b ∧ b ≤ M) : -M ≤ lowD a b ∧ lowD a b ≤ M := tdiv_le h
theorem cen_larger {ps qs : List Pt} (hp : validB ps = true) (hq : validB qs = true) {m : Int} (hm : 0 < m) (f : Pt × Pt → Int) (h1 : tot fanV qs = m * m * tot fanV ps) (h2 : tot f qs = m * m * m * tot f ps) :
    cenN f qs = lowN (m * cenN f ps) (cenD f ps) ∧ cenD f qs = lowD (m * cenN f ps) (cenD f ps) := by
  have hb : 3 * tot fanV ps ≠ 0 := by have := area_ne hp; omega
  obtain ⟨a1, a2⟩ := cen_yes hp f
  obtain ⟨b1, b2⟩ := cen_yes hq f
  have := low_scale (a := tot f ps) hb hm (Int.mul_pos hm hm)
  rw [a1, a2, b1, b2, h1, h2]
  rw [show m * m * m * tot f ps = m * (m * m) * tot f ps by grind, show 3 * (m * m * tot fanV ps) = m * m * (3 * tot fanV ps) by grind]
  exact this
end Geo

set_option maxRecDepth 100000 in
set_option maxHeartbeats 8000000 in
theorem lawLarger_walk (A : Option Addr) (c : Nat) (ps : List (Int × Int)) (m : Int) (w : World) (hm : ps.length ≤ maxLen) (hg : Prs w w.heap.size A ps) :
    Calls Try.prog 8 #[.slice A ps.length c, .int .i64 m] w fun e w' => e = .returned (.bool true) ∧ Below w.heap.size w w' := by
  have HR : Hid (∀ W, Below w.heap.size w W → Calls Try.prog 14 #[.slice A ps.length c] W fun e w' => e = .returned (.bool (Geo.validB ps)) ∧ Below W.heap.size W w') := fun W hW => ready_any A c ps hm W (prs_keep hg hW)
  cases hv : Geo.validB ps with
  | false =>
    rw [hv] at HR
    clear hg hm hv
    go_enter Try.func8, Try.ntmps8
    go_wp2_with fail
    refine (HR.out _ (Below.refl _ _)).mono ?_
    rintro e w1 ⟨rfl, HBZ⟩
    go_wp2_with fail
    refine (works_any _).mono ?_
    rintro e w9 ⟨rfl, hb9⟩
    have hB9 : Below w.heap.size w w9 := HBZ.trans (hb9.mono HBZ.size)
    go_wp2_with fail
    go_returns
    exact ⟨rfl, hB9⟩
  | true =>
    rw [hv] at HR
    by_cases hr : 1 ≤ m ∧ m ≤ 200
    · have hlen := Geo.valid_len hv
      have hsm : ∀ k, k < ps.length → Geo.ptB (Geo.ptAt ps k) = true := fun k hk => ((Geo.validP_iff.1 hv).2.1.1 _ (by rw [Geo.ptAt_get hk]; exact List.getElem_mem hk))
      obtain ⟨bb, off, rfl, hbb, hc⟩ := hg (by omega)
      have HC : Hid (∀ W, Below w.heap.size w W → ∀ k, k < ps.length → W.cell? ⟨bb, off + k * 2, none⟩ = some (.int .i64 (Geo.ptAt ps k).1) ∧ W.cell? ⟨bb, off + k * 2 + 1, none⟩ = some (.int .i64 (Geo.ptAt ps k).2)) := fun W hW k hk => by
        have hgk : ps[k]? = some ps[k] := List.getElem?_eq_getElem hk
        have := hc k _ hgk
        rw [Geo.ptAt_eq hgk]
        exact ⟨(hW.cell (p := ⟨bb, off + k * 2, none⟩) hbb).trans this.1, (hW.cell (p := ⟨bb, off + k * 2 + 1, none⟩) hbb).trans this.2⟩
      have HG : Hid (Prs w w.heap.size (some ⟨bb, off, none⟩) ps) := hg
      have hll : (ps.length : Int) ≤ 10 := by omega
      have HV := Lib.hid hv
      have HSM := Lib.hid hsm
      have hl0 : 0 < ps.length := by omega
      have hr1 : ¬ m < 1 := by omega
      have hr2 : ¬ 200 < m := by omega
      clear hc hg hm hv hsm
      obtain ⟨i0, hi0, hz0, hz1, hz2⟩ := info_parts infoPt2
      go_enter Try.func8, Try.ntmps8
      go_wp2_with fail
      refine (HR.out _ (Below.refl _ _)).mono ?_
      rintro e w2 ⟨rfl, HB2⟩
      go_wp2_with fail
      go_loopw [5, 6] (fun v x wr => ∃ k : Nat, (k : Int) ≤ ps.length ∧ x = .int .i64 k ∧ wr.ownsRow w2.heap.size 24 2 v k (flat (Geo.lgTo ps m k)) ∧ Below w2.heap.size w2 wr) (fun _ x _ => (ps.length - intOf x).toNat)
      case atStart => exact ⟨0, by omega, rfl, World.ownsRow_nil _ _ _ _, Below.refl _ _⟩
      case round =>
        obtain ⟨k, hk, rfl, hown, hB⟩ := hrel
        have hk0 := Int.natCast_nonneg k
        by_cases hlt : (k : Int) < ps.length
        · have hkn : k < ps.length := by omega
          have hBw : Below w.heap.size w wr := HB2.trans (hB.mono HB2.size)
          obtain ⟨a0, a1⟩ := HC.out _ hBw k hkn
          have HFL := Lib.hid (Geo.flat_lg ps m k)
          have hpk := HSM.out k hkn
          have HOWN := Lib.hid hown
          have lb : bb < wr.heap.size := by have := hBw.size; omega
          clear hown
          generalize Geo.ptAt ps k = p at *
          obtain ⟨x0, z0⟩ := p
          dsimp only at a0 a1
          unfold Geo.ptB inB at hpk
          simp at hpk
          have m1 := mul_bd (a := m) (b := x0) (x := 200) (y := 200) (by omega) (by omega) (by omega) (by omega)
          have m2 := mul_bd (a := m) (b := z0) (x := 200) (y := 200) (by omega) (by omega) (by omega) (by omega)
          have hw1 : IntKind.i64.wrap ((k : Int) + 1) = (k : Int) + 1 := IntWalk.i64_in _ (by omega)
          have hw2 : IntKind.i64.wrap (m * x0) = m * x0 := IntWalk.i64_in _ (by omega)
          have hw3 : IntKind.i64.wrap (m * z0) = m * z0 := IntWalk.i64_in _ (by omega)
          clear m1 m2 hpk
          go_wp2_with fail
          refine (wpIn_wide (n := 4)).1 ?_
          have hmo : Try.prog.follows .mixedOrders = true := by kernel_rfl
          have q0 : Below wr.heap.size wr wr.drew := (Below.refl _ _).drew
          have KC : Hid (∀ W', Below wr.heap.size wr W' → (W'.cell? ⟨bb, off + k * 2, none⟩ = some (.int .i64 x0) ∧ W'.cell? ⟨bb, off + k * 2 + 1, none⟩ = some (.int .i64 z0))) :=
            fun W' h => ⟨(h.cell (p := ⟨bb, _, none⟩) lb).trans a0, (h.cell (p := ⟨bb, _, none⟩) lb).trans a1⟩
          clear a0 a1
          refine wpIn_region_held (fun W' => Below wr.heap.size wr W') 17 hmo ?_
          refine wpHeldIn_take (i := 0) (v := ?_) (plain_of (by kernel_rfl)) rfl (by kernel_rfl) (fun _ _ _ h => h) (yieldsSoIn_of (by kernel_rfl) ?_ (fun _ => rfl)) q0 ?_; rotate_left; focus (intro wq hw; clear hw; go_simp; try (with_reducible rfl))
          refine wpHeldIn_take (i := 1) (v := ?_) (plain_of (by kernel_rfl)) rfl (by kernel_rfl) (fun _ _ _ h => h) (yieldsSoIn_of (by kernel_rfl) ?_ (fun _ => rfl)) q0 ?_; rotate_left; focus (intro wq hw; clear hw; go_simp; try (with_reducible rfl))
          refine wpHeldIn_take (i := 2) (v := ?_) (plain_of (by kernel_rfl)) rfl (by kernel_rfl) (fun _ _ _ h => h) (yieldsSoIn_of (by kernel_rfl) ?_ (fun _ => rfl)) q0 ?_; rotate_left; focus (intro wq hw; clear hw; go_simp; try (with_reducible rfl))
          refine wpHeldIn_take (i := 3) (v := ?_) (plain_of (by kernel_rfl)) rfl (by kernel_rfl) (fun _ _ _ h => h) (yieldsSoIn_of (by kernel_rfl) ?_ (fun _ => rfl)) q0 ?_; rotate_left; focus (intro wq hw; clear hw; go_simp; try (with_reducible rfl))
          refine wpHeldIn_take (i := 4) (v := ?_) (plain_of (by kernel_rfl)) rfl (by kernel_rfl) (fun _ _ _ h => h) (yieldsSoIn_of (by kernel_rfl) ?_ (fun _ => rfl)) q0 ?_; rotate_left; focus (intro wq hw; clear hw; go_simp; try (with_reducible rfl))
          refine wpHeldIn_take (i := 5) (v := ?_) (plain_of (by kernel_rfl)) rfl (by kernel_rfl) (fun _ _ _ h => h) (yieldsSoIn_of (by kernel_rfl) ?_ (fun _ => rfl)) q0 ?_; rotate_left; focus (intro wq hw; clear hw; go_simp; try (with_reducible rfl))
          refine wpHeldIn_take (i := 6) (v := ?_) (plain_of (by kernel_rfl)) rfl (by kernel_rfl) (fun _ _ _ h => h) (yieldsSoIn_of (by kernel_rfl) ?_ (fun _ => rfl)) q0 ?_; rotate_left; focus (intro wq hw; have kq := KC.out wq hw; clear hw; go_simp; try (with_reducible rfl))
          refine wpHeldIn_take (i := 7) (v := ?_) (plain_of (by kernel_rfl)) rfl (by kernel_rfl) (fun _ _ _ h => h) (yieldsSoIn_of (by kernel_rfl) ?_ (fun _ => rfl)) q0 ?_; rotate_left; focus (intro wq hw; clear hw; go_simp; try (with_reducible rfl))
          refine wpHeldIn_take (i := 8) (v := ?_) (plain_of (by kernel_rfl)) rfl (by kernel_rfl) (fun _ _ _ h => h) (yieldsSoIn_of (by kernel_rfl) ?_ (fun _ => rfl)) q0 ?_; rotate_left; focus (intro wq hw; clear hw; go_simp; try (with_reducible rfl))
          refine wpHeldIn_take (i := 9) (v := ?_) (plain_of (by kernel_rfl)) rfl (by kernel_rfl) (fun _ _ _ h => h) (yieldsSoIn_of (by kernel_rfl) ?_ (fun _ => rfl)) q0 ?_; rotate_left; focus (intro wq hw; clear hw; go_simp; try (with_reducible rfl))
          refine wpHeldIn_take (i := 10) (v := ?_) (plain_of (by kernel_rfl)) rfl (by kernel_rfl) (fun _ _ _ h => h) (yieldsSoIn_of (by kernel_rfl) ?_ (fun _ => rfl)) q0 ?_; rotate_left; focus (intro wq hw; clear hw; go_simp; try (with_reducible rfl))
          refine wpHeldIn_take (i := 11) (v := ?_) (plain_of (by kernel_rfl)) rfl (by kernel_rfl) (fun _ _ _ h => h) (yieldsSoIn_of (by kernel_rfl) ?_ (fun _ => rfl)) q0 ?_; rotate_left; focus (intro wq hw; clear hw; go_simp; try (with_reducible rfl))
          refine wpHeldIn_take (i := 12) (v := ?_) (plain_of (by kernel_rfl)) rfl (by kernel_rfl) (fun _ _ _ h => h) (yieldsSoIn_of (by kernel_rfl) ?_ (fun _ => rfl)) q0 ?_; rotate_left; focus (intro wq hw; clear hw; go_simp; try (with_reducible rfl))
          refine wpHeldIn_take (i := 13) (v := ?_) (plain_of (by kernel_rfl)) rfl (by kernel_rfl) (fun _ _ _ h => h) (yieldsSoIn_of (by kernel_rfl) ?_ (fun _ => rfl)) q0 ?_; rotate_left; focus (intro wq hw; have kq := KC.out wq hw; clear hw; go_simp; try (with_reducible rfl))
          refine wpHeldIn_take (i := 14) (v := ?_) (plain_of (by kernel_rfl)) rfl (by kernel_rfl) (fun _ _ _ h => h) (yieldsSoIn_of (by kernel_rfl) ?_ (fun _ => rfl)) q0 ?_; rotate_left; focus (intro wq hw; clear hw; go_simp; try (with_reducible rfl))
          refine wpHeldIn_take (i := 15) (v := ?_) (plain_of (by kernel_rfl)) rfl (by kernel_rfl) (fun _ _ _ h => h) (yieldsSoIn_of (by kernel_rfl) ?_ (fun _ => rfl)) q0 ?_; rotate_left; focus (intro wq hw; clear hw; go_simp; try (with_reducible rfl))
          refine wpHeldIn_one (i := 16) (by kernel_rfl) (by kernel_rfl) rfl (by kernel_rfl) (fun K' hK' => ?_)
          go_simp
          refine hK' _ _ (by (repeat' (first | (with_reducible exact Below.refl _ _) | (with_reducible assumption) | (with_reducible refine Below.alloc ?_ ?_ _) | (with_reducible refine Below.drew ?_) | (with_reducible refine Below.setCell ?_ ?_ _) | go_size | (exact (by simp)) | omega))) ?_
          refine wpHeldIn_last (by kernel_rfl) rfl (by kernel_rfl) (fun K2 hK2 => ?_)
          have HRD := reads_two wr (.int .i64 (m * x0)) (.int .i64 (m * z0))
          have hown1 : ((wr.alloc (.cells #[.int .i64 (m * x0), .int .i64 (m * z0)] 24)).drew).ownsRow w2.heap.size 24 2 _ k (flat (Geo.lgTo ps m k)) := HOWN.out.alloc _
          have hB1 : Below w2.heap.size w2 ((wr.alloc (.cells #[.int .i64 (m * x0), .int .i64 (m * z0)] 24)).drew) := (hB.alloc hB.size _).drew
          refine wpIn_append_any _ (fun _ => rfl) (.tmp 29) (.tmp 45) 22 rfl w2.heap.size 24 i0 _ 2 16 Try.underlying22 hi0 hz0 hz1 hz2 rfl (by decide) _ k (flat (Geo.lgTo ps m k)) rfl hown1 (wr.heap.size + 1) (some ⟨wr.heap.size, 0, none⟩) 1 1 [.int .i64 (m * x0), .int .i64 (m * z0)] rfl HRD (by intro u hu; simp at hu; rcases hu with rfl | rfl <;> rfl) (by unfold maxLen; omega) (by omega) (by have := hB.size; simp; omega) ?_
          intro v' w' hown2 hgrow _
          have hB2 : Below w2.heap.size w2 w' := hB1.grown hgrow hB1.size (fun j hj => by
            rcases hown1.2 with ⟨rfl, _⟩ | ⟨g, cap, cur, rfl, hbg, _⟩
            · cases hj
            · cases hj; exact hbg)
          rw [← HFL.out] at hown2
          have HOWN2 := Lib.hid hown2
          clear hown2 hgrow hown1 HRD hB1
          refine hK2 _ _ ?_
          refine wpHeldIn_take (i := 18) (v := ?_) (plain_of (by kernel_rfl)) rfl (by kernel_rfl) (fun _ _ _ h => h) (yieldsSoIn_of (by kernel_rfl) ?_ (fun _ => rfl)) trivial ?_; rotate_left; focus (intro w _; go_simp; try (with_reducible rfl))
          refine wpHeldIn_done (by kernel_rfl) ?_ _
          go_wp2_with fail
          go_roundw
          case rel => exact ⟨k + 1, by omega, by go_num, HOWN2.out, hB2⟩
          case measure => simp [intOf]; omega
        · obtain rfl : k = ps.length := by omega
          obtain ⟨A2, c2, hv⟩ : ∃ A2 c2, u5 = Value.slice A2 ps.length c2 := by
            rcases hown.2 with ⟨rfl, h0⟩ | ⟨g, cap, cur, rfl, _⟩
            · exact ⟨none, 0, by rw [h0]⟩
            · exact ⟨_, _, rfl⟩
          subst hv
          have hBw : Below w.heap.size w wr := HB2.trans (hB.mono HB2.size)
          obtain ⟨qs, hqs⟩ : ∃ qs, qs = Geo.lgTo ps m ps.length := ⟨_, rfl⟩
          have hql : qs.length = ps.length := by rw [hqs, Geo.lgTo_len]
          have hqat : ∀ j, j < ps.length → Geo.ptAt qs j = (m * (Geo.ptAt ps j).1, m * (Geo.ptAt ps j).2) := fun j hj => by rw [hqs]; exact Geo.lgTo_at ps m hj
          have hP2 : Hid (Prs wr wr.heap.size A2 qs) := prs_of_own (B := w2.heap.size) (e := 24) (c := c2) (by rw [hql, hqs]; exact hown)
          have HK : Hid (∀ W, Prs W W.heap.size A2 qs → Calls Try.prog 21 #[.slice A2 ps.length c2] W fun e W' => e = .returned (.int .i64 (Geo.errV qs)) ∧ Below W.heap.size W W') := fun W hP => by rw [← Geo.refV_errV, ← hql]; exact refchk_any A2 c2 qs (by omega) W hP
          clear hown hB HSM
          cases hvq : Geo.validB qs with
          | false =>
            rw [Geo.errV_no hvq] at HK
            clear hqat hql hqs hvq
            go_wp2_with fail
            refine (HK.out _ hP2.out).mono ?_
            rintro e w3 ⟨rfl, hb3⟩
            have HBZ := hBw.trans (hb3.mono hBw.size)
            go_wp2_with fail
            refine (works_any _).mono ?_
            rintro e w9 ⟨rfl, hb9⟩
            have hB9 : Below w.heap.size w w9 := HBZ.trans (hb9.mono HBZ.size)
            go_wp2_with fail
            go_returns
            exact ⟨rfl, hB9⟩
          | true =>
            rw [Geo.errV_yes hvq] at HK
            have HT1 : Hid (∀ W, Below w.heap.size w W → Calls Try.prog 16 #[.slice (some ⟨bb, off, none⟩) ps.length c] W (ToldPost (Geo.toldA ps) W)) := fun W hW => told_yes _ c ps HV.out W (prs_keep HG.out hW)
            have HT2 : Hid (∀ W, Prs W W.heap.size A2 qs → Calls Try.prog 16 #[.slice A2 ps.length c2] W (ToldPost (Geo.toldA qs) W)) := fun W hP => by rw [← hql]; exact told_yes A2 c2 qs hvq W hP
            have l1 := Geo.larger_fan hql hl0 hqat
            have l2 := Geo.larger_fx hql hl0 hqat
            have l3 := Geo.larger_fy hql hl0 hqat
            have l4 := Geo.larger_xx hql hl0 hqat
            have l5 := Geo.larger_xy hql hl0 hqat
            have l6 := Geo.larger_yy hql hl0 hqat
            have hmp : 0 < m := by omega
            obtain ⟨l7, l8⟩ := Geo.cen_larger HV.out hvq hmp Geo.fxV l1 l2
            obtain ⟨l9, l10⟩ := Geo.cen_larger HV.out hvq hmp Geo.fyV l1 l3
            have e1 : Geo.toldA ps = #[.int .i64 (Geo.tot Geo.fanV ps), .int .i64 (Geo.tot Geo.fxV ps), .int .i64 (Geo.tot Geo.fyV ps), .int .i64 (Geo.tot Geo.xxV ps), .int .i64 (Geo.tot Geo.xyV ps), .int .i64 (Geo.tot Geo.yyV ps), .int .i64 (Geo.cenN Geo.fxV ps), .int .i64 (Geo.cenD Geo.fxV ps), .int .i64 (Geo.cenN Geo.fyV ps), .int .i64 (Geo.cenD Geo.fyV ps)] := rfl
            have e2 : Geo.toldA qs = #[.int .i64 (m * m * Geo.tot Geo.fanV ps), .int .i64 (m * m * m * Geo.tot Geo.fxV ps), .int .i64 (m * m * m * Geo.tot Geo.fyV ps), .int .i64 (m * m * m * m * Geo.tot Geo.xxV ps), .int .i64 (m * m * m * m * Geo.tot Geo.xyV ps), .int .i64 (m * m * m * m * Geo.tot Geo.yyV ps), .int .i64 (Geo.lowN (m * Geo.cenN Geo.fxV ps) (Geo.cenD Geo.fxV ps)), .int .i64 (Geo.lowD (m * Geo.cenN Geo.fxV ps) (Geo.cenD Geo.fxV ps)), .int .i64 (Geo.lowN (m * Geo.cenN Geo.fyV ps) (Geo.cenD Geo.fyV ps)), .int .i64 (Geo.lowD (m * Geo.cenN Geo.fyV ps) (Geo.cenD Geo.fyV ps))] := by
              unfold Geo.toldA
              rw [l1, l2, l3, l4, l5, l6, l7, l8, l9, l10]
            rw [e1] at HT1
            rw [e2] at HT2
            have hsm := Geo.valid_sm HV.out
            have hl10 := (Geo.valid_len HV.out).2
            have hsq := Geo.valid_sm hvq
            have hq10 := (Geo.valid_len hvq).2
            have bT := fan_sum hsm hl10
            have bX := tot_b2 (f := Geo.fxV) hsm hl10 (fun s h1 h2 => Geo.fx_b2 h1 h2)
            have bZ := tot_b2 (f := Geo.fyV) hsm hl10 (fun s h1 h2 => Geo.fy_b2 h1 h2)
            have c1 := fan_sum hsq hq10
            have c2' := tot_b2 (f := Geo.fxV) hsq hq10 (fun s h1 h2 => Geo.fx_b2 h1 h2)
            have c3 := tot_b2 (f := Geo.fyV) hsq hq10 (fun s h1 h2 => Geo.fy_b2 h1 h2)
            have c4 := tot_b2 (f := Geo.xxV) hsq hq10 (fun s h1 h2 => Geo.xx_b2 h1 h2)
            have c5 := tot_b2 (f := Geo.xyV) hsq hq10 (fun s h1 h2 => Geo.xy_b2 h1 h2)
            have c6 := tot_b2 (f := Geo.yyV) hsq hq10 (fun s h1 h2 => Geo.yy_b2 h1 h2)
            rw [l1] at c1
            rw [l2] at c2'
            rw [l3] at c3
            rw [l4] at c4
            rw [l5] at c5
            rw [l6] at c6
            have hT0 : 3 * Geo.tot Geo.fanV ps ≠ 0 := by have := Geo.area_ne HV.out; omega
            have n1 := Geo.low_bd (b := 3 * Geo.tot Geo.fanV ps) bX
            have n2 := Geo.lowD_bd (a := Geo.tot Geo.fxV ps) (b := 3 * Geo.tot Geo.fanV ps) (M := 240000000) (by omega)
            have n3 := Geo.low_bd (b := 3 * Geo.tot Geo.fanV ps) bZ
            have n4 := Geo.lowD_bd (a := Geo.tot Geo.fyV ps) (b := 3 * Geo.tot Geo.fanV ps) (M := 240000000) (by omega)
            have p2 := (Geo.low_mul (Geo.tot Geo.fxV ps) hT0).2.2.2
            have p4 := (Geo.low_mul (Geo.tot Geo.fyV ps) hT0).2.2.2
            rw [← (Geo.cen_yes HV.out Geo.fxV).1] at n1
            rw [← (Geo.cen_yes HV.out Geo.fxV).2] at n2 p2
            rw [← (Geo.cen_yes HV.out Geo.fyV).1] at n3
            rw [← (Geo.cen_yes HV.out Geo.fyV).2] at n4 p4
            clear l1 l2 l3 l4 l5 l6 l7 l8 l9 l10 e1 e2 hsm hl10 hsq hq10 hqat hql hqs hvq HV HC HR bX bZ hT0 bT
            generalize Geo.tot Geo.fanV ps = T at *
            generalize Geo.tot Geo.fxV ps = X at *
            generalize Geo.tot Geo.fyV ps = Z at *
            generalize Geo.tot Geo.xxV ps = XX at *
            generalize Geo.tot Geo.xyV ps = XY at *
            generalize Geo.tot Geo.yyV ps = YY at *
            generalize Geo.cenN Geo.fxV ps = N1 at *
            generalize Geo.cenD Geo.fxV ps = N2 at *
            generalize Geo.cenN Geo.fyV ps = N3 at *
            generalize Geo.cenD Geo.fyV ps = N4 at *
            have m1 := mul_bd (a := m) (b := N1) (x := 200) (y := 1125899906842624) (by omega) (by omega) (by omega) (by omega)
            have m2 := mul_bd (a := m) (b := N3) (x := 200) (y := 1125899906842624) (by omega) (by omega) (by omega) (by omega)
            have HL1 : Hid (∀ W, Calls Try.prog 30 #[.int .i64 (m * N1), .int .i64 N2] W (RatPost (Geo.lowN (m * N1) N2) (Geo.lowD (m * N1) N2) W)) := fun W => Lowest_any (m * N1) N2 W (by omega) (by omega) (by omega)
            have HL2 : Hid (∀ W, Calls Try.prog 30 #[.int .i64 (m * N3), .int .i64 N4] W (RatPost (Geo.lowN (m * N3) N4) (Geo.lowD (m * N3) N4) W)) := fun W => Lowest_any (m * N3) N4 W (by omega) (by omega) (by omega)
            generalize Geo.lowN (m * N1) N2 = M1 at *
            generalize Geo.lowD (m * N1) N2 = M2 at *
            generalize Geo.lowN (m * N3) N4 = M3 at *
            generalize Geo.lowD (m * N3) N4 = M4 at *
            have k1 := mul_bd (a := m) (b := m) (x := 200) (y := 200) (by omega) (by omega) (by omega) (by omega)
            have k2 := mul_bd (a := m * m) (b := m) (x := 40000) (y := 200) (by omega) (by omega) (by omega) (by omega)
            have k3 := mul_bd (a := m * m * m) (b := m) (x := 8000000) (y := 200) (by omega) (by omega) (by omega) (by omega)
            have hw0 : IntKind.i64.wrap (m * m) = m * m := IntWalk.i64_in _ (by omega)
            have hw1 : IntKind.i64.wrap (m * m * m) = m * m * m := IntWalk.i64_in _ (by omega)
            have hw2 : IntKind.i64.wrap (m * m * m * m) = m * m * m * m := IntWalk.i64_in _ (by omega)
            have hw3 : IntKind.i64.wrap (m * m * T) = m * m * T := IntWalk.i64_in _ (by omega)
            have hw4 : IntKind.i64.wrap (m * m * m * X) = m * m * m * X := IntWalk.i64_in _ (by omega)
            have hw5 : IntKind.i64.wrap (m * m * m * Z) = m * m * m * Z := IntWalk.i64_in _ (by omega)
            have hw6 : IntKind.i64.wrap (m * m * m * m * XX) = m * m * m * m * XX := IntWalk.i64_in _ (by omega)
            have hw7 : IntKind.i64.wrap (m * m * m * m * XY) = m * m * m * m * XY := IntWalk.i64_in _ (by omega)
            have hw8 : IntKind.i64.wrap (m * m * m * m * YY) = m * m * m * m * YY := IntWalk.i64_in _ (by omega)
            have hw9 : IntKind.i64.wrap (m * N1) = m * N1 := IntWalk.i64_in _ (by omega)
            have hw10 : IntKind.i64.wrap (m * N3) = m * N3 := IntWalk.i64_in _ (by omega)
            have hn2 : ¬ N2 < 1 := by omega
            have hn4 : ¬ N4 < 1 := by omega
            have HXS : Hid (∀ x ∈ [N1, N2, N3, N4], -1125899906842624 ≤ x ∧ x ≤ 1125899906842624) := fun x hx => by
              simp only [List.mem_cons, List.not_mem_nil, or_false] at hx
              rcases hx with rfl | rfl | rfl | rfl <;> omega
            clear m1 m2 k1 k2 k3 c1 c2' c3 c4 c5 c6 n1 n2 n3 n4 p2 p4
            go_wp2_with fail
            refine (HK.out _ hP2.out).mono ?_
            rintro e w3 ⟨rfl, hb3⟩
            have hBw3 := hBw.trans (hb3.mono hBw.size)
            have hP3 : Hid (Prs w3 w3.heap.size A2 qs) := prs_keep hP2.out hb3
            clear hb3 hBw hP2 HK
            go_wp2_with fail
            refine (HT1.out _ hBw3).mono ?_
            rintro e w4 ⟨rfl, hb4⟩
            have hBw4 := hBw3.trans (hb4.mono hBw3.size)
            have hP4 : Hid (Prs w4 w4.heap.size A2 qs) := prs_keep hP3.out hb4
            clear hb4 hBw3 hP3 HT1
            go_wp2_with fail
            have bA5 := BoxS.new w4 30 #[.int .i64 T, .int .i64 X, .int .i64 Z, .int .i64 XX, .int .i64 XY, .int .i64 YY, .int .i64 N1, .int .i64 N2, .int .i64 N3, .int .i64 N4]
            have hb5 : Below w4.heap.size w4 (w4.alloc (.cells #[.int .i64 T, .int .i64 X, .int .i64 Z, .int .i64 XX, .int .i64 XY, .int .i64 YY, .int .i64 N1, .int .i64 N2, .int .i64 N3, .int .i64 N4] 30)) := by (repeat' (first | (with_reducible exact Below.refl _ _) | (with_reducible assumption) | (with_reducible refine Below.alloc ?_ ?_ _) | (with_reducible refine Below.drew ?_) | (with_reducible refine Below.setCell ?_ ?_ _) | go_size | (exact (by simp)) | omega))
            have hBw5 := hBw4.trans (hb5.mono hBw4.size)
            have hP5 : Hid (Prs _ _ A2 qs) := prs_keep hP4.out hb5
            clear hb5 hBw4 hP4
            generalize World.alloc _ _ = v5 at *
            refine (HT2.out _ hP5.out).mono ?_
            rintro e w6 ⟨rfl, hb6⟩
            have hBw6 := hBw5.trans (hb6.mono hBw5.size)
            have bA7 := bA5.below hb6
            clear hb6 hBw5 hP5 bA5 HT2
            have c0 := bA7.cell 0 rfl
            have c1 := bA7.cell 1 rfl
            have c2 := bA7.cell 2 rfl
            have c3 := bA7.cell 3 rfl
            have c4 := bA7.cell 4 rfl
            have c5 := bA7.cell 5 rfl
            have c6 := bA7.cell 6 rfl
            have c7 := bA7.cell 7 rfl
            have c8 := bA7.cell 8 rfl
            have c9 := bA7.cell 9 rfl
            have la := bA7.lt
            go_wp2_with fail
            have bA8 := (bA7.alloc (.cells #[.int .i64 (m * m * T), .int .i64 (m * m * m * X), .int .i64 (m * m * m * Z), .int .i64 (m * m * m * m * XX), .int .i64 (m * m * m * m * XY), .int .i64 (m * m * m * m * YY), .int .i64 M1, .int .i64 M2, .int .i64 M3, .int .i64 M4] 30)).alloc (.cells #[.int .i64 N1, .int .i64 N2, .int .i64 N3, .int .i64 N4] 3)
            have bB8 := (BoxS.new w6 30 #[.int .i64 (m * m * T), .int .i64 (m * m * m * X), .int .i64 (m * m * m * Z), .int .i64 (m * m * m * m * XX), .int .i64 (m * m * m * m * XY), .int .i64 (m * m * m * m * YY), .int .i64 M1, .int .i64 M2, .int .i64 M3, .int .i64 M4]).alloc (.cells #[.int .i64 N1, .int .i64 N2, .int .i64 N3, .int .i64 N4] 3)
            have bS := BoxS.new (w6.alloc (.cells #[.int .i64 (m * m * T), .int .i64 (m * m * m * X), .int .i64 (m * m * m * Z), .int .i64 (m * m * m * m * XX), .int .i64 (m * m * m * m * XY), .int .i64 (m * m * m * m * YY), .int .i64 M1, .int .i64 M2, .int .i64 M3, .int .i64 M4] 30)) 3 #[.int .i64 N1, .int .i64 N2, .int .i64 N3, .int .i64 N4]
            have hb6 : Below w6.heap.size w6 ((w6.alloc (.cells #[.int .i64 (m * m * T), .int .i64 (m * m * m * X), .int .i64 (m * m * m * Z), .int .i64 (m * m * m * m * XX), .int .i64 (m * m * m * m * XY), .int .i64 (m * m * m * m * YY), .int .i64 M1, .int .i64 M2, .int .i64 M3, .int .i64 M4] 30)).alloc (.cells #[.int .i64 N1, .int .i64 N2, .int .i64 N3, .int .i64 N4] 3)) := by (repeat' (first | (with_reducible exact Below.refl _ _) | (with_reducible assumption) | (with_reducible refine Below.alloc ?_ ?_ _) | (with_reducible refine Below.drew ?_) | (with_reducible refine Below.setCell ?_ ?_ _) | go_size | (exact (by simp)) | omega))
            have hBw8 := hBw6.trans (hb6.mono hBw6.size)
            rw [World.size_alloc] at bS
            clear c0 c1 c2 c3 c4 c5 c6 c7 c8 c9 hb6 hBw6 bA7
            generalize World.alloc (World.alloc w6 _) _ = v8 at *
            refine (sane_yes (w6.heap.size + 1) 4 4 [N1, N2, N3, N4] rfl (by simp) _ bS.lt (fun k x hk => ?_) HXS.out).mono ?_
            · refine bS.cell k ?_
              rcases k with _ | _ | _ | _ | k
              all_goals first | (obtain rfl := Option.some.inj hk; rfl) | (simp at hk)
            rintro e w9 ⟨rfl, hb9⟩
            have bA9 := bA8.below hb9
            have bB9 := bB8.below hb9
            have hBw9 := hBw8.trans (hb9.mono hBw8.size)
            have la9 := bA9.lt
            have lb9 := bB9.lt
            clear bS bA8 bB8 hb9 hBw8 HXS hw0 hw1 hw2 hw3 hw4 hw5 hw6 hw7 hw8 la
            have z0 := bA9.cell 7 rfl
            have z1 := bA9.cell 9 rfl
            go_wp2_with fail
            refine (wpIn_wide (n := 4)).1 ?_
            have hmo : Try.prog.follows .mixedOrders = true := by kernel_rfl
            have q0 : Below w9.heap.size w9 w9.drew := (Below.refl _ _).drew
            have KC : Hid (∀ W', Below w9.heap.size w9 W' → (W'.cell? ⟨w4.heap.size, 6, none⟩ = some (.int .i64 N1) ∧ W'.cell? ⟨w4.heap.size, 7, none⟩ = some (.int .i64 N2) ∧ W'.cell? ⟨w4.heap.size, 8, none⟩ = some (.int .i64 N3) ∧ W'.cell? ⟨w4.heap.size, 9, none⟩ = some (.int .i64 N4)) ∧ (W'.cell? ⟨w6.heap.size, 6, none⟩ = some (.int .i64 M1) ∧ W'.cell? ⟨w6.heap.size, 7, none⟩ = some (.int .i64 M2) ∧ W'.cell? ⟨w6.heap.size, 8, none⟩ = some (.int .i64 M3) ∧ W'.cell? ⟨w6.heap.size, 9, none⟩ = some (.int .i64 M4))) :=
              fun W' h => ⟨⟨(bA9.below h).cell 6 rfl, (bA9.below h).cell 7 rfl, (bA9.below h).cell 8 rfl, (bA9.below h).cell 9 rfl⟩, (bB9.below h).cell 6 rfl, (bB9.below h).cell 7 rfl, (bB9.below h).cell 8 rfl, (bB9.below h).cell 9 rfl⟩
            have HWK : Hid (∀ W, Calls Try.prog 15 #[] W fun e w' => e = .returned (.bool true) ∧ Below W.heap.size W w') := fun W => works_any W
            clear z0 z1 bA9 bB9
            refine wpIn_region_held (fun W' => Below w9.heap.size w9 W') 30 hmo ?_
            refine wpHeldIn_take (i := 0) (v := ?_) (plain_of (by kernel_rfl)) rfl (by kernel_rfl) (fun _ _ _ h => h) (yieldsSoIn_of (by kernel_rfl) ?_ (fun _ => rfl)) q0 ?_; rotate_left; focus (intro wq hw; clear hw; go_simp; try (with_reducible rfl))
            refine wpHeldIn_take (i := 1) (v := ?_) (plain_of (by kernel_rfl)) rfl (by kernel_rfl) (fun _ _ _ h => h) (yieldsSoIn_of (by kernel_rfl) ?_ (fun _ => rfl)) q0 ?_; rotate_left; focus (intro wq hw; have kq := KC.out wq hw; clear hw; go_simp; try (with_reducible rfl))
            refine wpHeldIn_take (i := 2) (v := ?_) (plain_of (by kernel_rfl)) rfl (by kernel_rfl) (fun _ _ _ h => h) (yieldsSoIn_of (by kernel_rfl) ?_ (fun _ => rfl)) q0 ?_; rotate_left; focus (intro wq hw; clear hw; go_simp; try (with_reducible rfl))
            refine wpHeldIn_take (i := 3) (v := ?_) (plain_of (by kernel_rfl)) rfl (by kernel_rfl) (fun _ _ _ h => h) (yieldsSoIn_of (by kernel_rfl) ?_ (fun _ => rfl)) q0 ?_; rotate_left; focus (intro wq hw; clear hw; go_simp; try (with_reducible rfl))
            refine wpHeldIn_take (i := 4) (v := ?_) (plain_of (by kernel_rfl)) rfl (by kernel_rfl) (fun _ _ _ h => h) (yieldsSoIn_of (by kernel_rfl) ?_ (fun _ => rfl)) q0 ?_; rotate_left; focus (intro wq hw; clear hw; go_simp; try (with_reducible rfl))
            refine wpHeldIn_take (i := 5) (v := ?_) (plain_of (by kernel_rfl)) rfl (by kernel_rfl) (fun _ _ _ h => h) (yieldsSoIn_of (by kernel_rfl) ?_ (fun _ => rfl)) q0 ?_; rotate_left; focus (intro wq hw; have kq := KC.out wq hw; clear hw; go_simp; try (with_reducible rfl))
            refine wpHeldIn_take (i := 6) (v := ?_) (plain_of (by kernel_rfl)) rfl (by kernel_rfl) (fun _ _ _ h => h) (yieldsSoIn_of (by kernel_rfl) ?_ (fun _ => rfl)) q0 ?_; rotate_left; focus (intro wq hw; clear hw; go_simp; try (with_reducible rfl))
            refine wpHeldIn_take (i := 7) (v := ?_) (plain_of (by kernel_rfl)) rfl (by kernel_rfl) (fun _ _ _ h => h) (yieldsSoIn_of (by kernel_rfl) ?_ (fun _ => rfl)) q0 ?_; rotate_left; focus (intro wq hw; clear hw; go_simp; try (with_reducible rfl))
            refine wpHeldIn_take (i := 8) (v := ?_) (plain_of (by kernel_rfl)) rfl (by kernel_rfl) (fun _ _ _ h => h) (yieldsSoIn_of (by kernel_rfl) ?_ (fun _ => rfl)) q0 ?_; rotate_left; focus (intro wq hw; clear hw; go_simp; try (with_reducible rfl))
            refine wpHeldIn_take (i := 9) (v := ?_) (plain_of (by kernel_rfl)) rfl (by kernel_rfl) (fun _ _ _ h => h) (yieldsSoIn_of (by kernel_rfl) ?_ (fun _ => rfl)) q0 ?_; rotate_left; focus (intro wq hw; have kq := KC.out wq hw; clear hw; go_simp; try (with_reducible rfl))
            refine wpHeldIn_one (i := 10) (by kernel_rfl) (by kernel_rfl) rfl (by kernel_rfl) (fun K' hK' => ?_); go_simp; refine ⟨trivial, (callsIn_wide.2 (HL1.out _)).mono ?_⟩; rintro e w10 ⟨rfl, hb10⟩
            have q1 := q0.trans (hb10.mono q0.size)
            refine hK' _ _ q1 ?_
            clear hb10
            refine wpHeldIn_take (i := 11) (v := ?_) (plain_of (by kernel_rfl)) rfl (by kernel_rfl) (fun _ _ _ h => h) (yieldsSoIn_of (by kernel_rfl) ?_ (fun _ => rfl)) q1 ?_; rotate_left; focus (intro wq hw; clear hw; go_simp; try (with_reducible rfl))
            refine wpHeldIn_take (i := 12) (v := ?_) (plain_of (by kernel_rfl)) rfl (by kernel_rfl) (fun _ _ _ h => h) (yieldsSoIn_of (by kernel_rfl) ?_ (fun _ => rfl)) q1 ?_; rotate_left; focus (intro wq hw; clear hw; go_simp; try (with_reducible rfl))
            refine wpHeldIn_take (i := 13) (v := ?_) (plain_of (by kernel_rfl)) rfl (by kernel_rfl) (fun _ _ _ h => h) (yieldsSoIn_of (by kernel_rfl) ?_ (fun _ => rfl)) q1 ?_; rotate_left; focus (intro wq hw; clear hw; go_simp; try (with_reducible rfl))
            refine wpHeldIn_take (i := 14) (v := ?_) (plain_of (by kernel_rfl)) rfl (by kernel_rfl) (fun _ _ _ h => h) (yieldsSoIn_of (by kernel_rfl) ?_ (fun _ => rfl)) q1 ?_; rotate_left; focus (intro wq hw; have kq := KC.out wq hw; clear hw; go_simp; try (with_reducible rfl))
            refine wpHeldIn_take (i := 15) (v := ?_) (plain_of (by kernel_rfl)) rfl (by kernel_rfl) (fun _ _ _ h => h) (yieldsSoIn_of (by kernel_rfl) ?_ (fun _ => rfl)) q1 ?_; rotate_left; focus (intro wq hw; clear hw; go_simp; try (with_reducible rfl))
            refine wpHeldIn_take (i := 16) (v := ?_) (plain_of (by kernel_rfl)) rfl (by kernel_rfl) (fun _ _ _ h => h) (yieldsSoIn_of (by kernel_rfl) ?_ (fun _ => rfl)) q1 ?_; rotate_left; focus (intro wq hw; clear hw; go_simp; try (with_reducible rfl))
            refine wpHeldIn_take (i := 17) (v := ?_) (plain_of (by kernel_rfl)) rfl (by kernel_rfl) (fun _ _ _ h => h) (yieldsSoIn_of (by kernel_rfl) ?_ (fun _ => rfl)) q1 ?_; rotate_left; focus (intro wq hw; clear hw; go_simp; try (with_reducible rfl))
            refine wpHeldIn_take (i := 18) (v := ?_) (plain_of (by kernel_rfl)) rfl (by kernel_rfl) (fun _ _ _ h => h) (yieldsSoIn_of (by kernel_rfl) ?_ (fun _ => rfl)) q1 ?_; rotate_left; focus (intro wq hw; have kq := KC.out wq hw; clear hw; go_simp; try (with_reducible rfl))
            refine wpHeldIn_take (i := 19) (v := ?_) (plain_of (by kernel_rfl)) rfl (by kernel_rfl) (fun _ _ _ h => h) (yieldsSoIn_of (by kernel_rfl) ?_ (fun _ => rfl)) q1 ?_; rotate_left; focus (intro wq hw; clear hw; go_simp; try (with_reducible rfl))
            refine wpHeldIn_take (i := 20) (v := ?_) (plain_of (by kernel_rfl)) rfl (by kernel_rfl) (fun _ _ _ h => h) (yieldsSoIn_of (by kernel_rfl) ?_ (fun _ => rfl)) q1 ?_; rotate_left; focus (intro wq hw; clear hw; go_simp; try (with_reducible rfl))
            refine wpHeldIn_take (i := 21) (v := ?_) (plain_of (by kernel_rfl)) rfl (by kernel_rfl) (fun _ _ _ h => h) (yieldsSoIn_of (by kernel_rfl) ?_ (fun _ => rfl)) q1 ?_; rotate_left; focus (intro wq hw; clear hw; go_simp; try (with_reducible rfl))
            refine wpHeldIn_take (i := 22) (v := ?_) (plain_of (by kernel_rfl)) rfl (by kernel_rfl) (fun _ _ _ h => h) (yieldsSoIn_of (by kernel_rfl) ?_ (fun _ => rfl)) q1 ?_; rotate_left; focus (intro wq hw; have kq := KC.out wq hw; clear hw; go_simp; try (with_reducible rfl))
            refine wpHeldIn_one (i := 23) (by kernel_rfl) (by kernel_rfl) rfl (by kernel_rfl) (fun K' hK' => ?_); go_simp; refine ⟨trivial, (callsIn_wide.2 (HL2.out _)).mono ?_⟩; rintro e w11 ⟨rfl, hb11⟩
            have q2 := q1.trans (hb11.mono q1.size)
            refine hK' _ _ q2 ?_
            clear hb11
            refine wpHeldIn_take (i := 24) (v := ?_) (plain_of (by kernel_rfl)) rfl (by kernel_rfl) (fun _ _ _ h => h) (yieldsSoIn_of (by kernel_rfl) ?_ (fun _ => rfl)) q2 ?_; rotate_left; focus (intro wq hw; clear hw; go_simp; try (with_reducible rfl))
            refine wpHeldIn_take (i := 25) (v := ?_) (plain_of (by kernel_rfl)) rfl (by kernel_rfl) (fun _ _ _ h => h) (yieldsSoIn_of (by kernel_rfl) ?_ (fun _ => rfl)) q2 ?_; rotate_left; focus (intro wq hw; clear hw; go_simp; try (with_reducible rfl))
            refine wpHeldIn_take (i := 26) (v := ?_) (plain_of (by kernel_rfl)) rfl (by kernel_rfl) (fun _ _ _ h => h) (yieldsSoIn_of (by kernel_rfl) ?_ (fun _ => rfl)) q2 ?_; rotate_left; focus (intro wq hw; clear hw; go_simp; try (with_reducible rfl))
            refine wpHeldIn_one (i := 27) (by kernel_rfl) (by kernel_rfl) rfl (by kernel_rfl) (fun K' hK' => ?_); go_simp; refine ⟨trivial, (callsIn_wide.2 (HWK.out _)).mono ?_⟩; rintro e w12 ⟨rfl, hb12⟩
            have q3 := q2.trans (hb12.mono q2.size)
            refine hK' _ _ q3 ?_
            clear hb12
            refine wpHeldIn_take (i := 28) (v := ?_) (plain_of (by kernel_rfl)) rfl (by kernel_rfl) (fun _ _ _ h => h) (yieldsSoIn_of (by kernel_rfl) ?_ (fun _ => rfl)) q3 ?_; rotate_left; focus (intro wq hw; clear hw; go_simp; try (with_reducible rfl))
            refine wpHeldIn_take (i := 29) (v := ?_) (plain_of (by kernel_rfl)) rfl (by kernel_rfl) (fun _ _ _ h => h) (yieldsSoIn_of (by kernel_rfl) ?_ (fun _ => rfl)) q3 ?_; rotate_left; focus (intro wq hw; clear hw; go_simp; try (with_reducible rfl))
            refine wpHeldIn_done (by kernel_rfl) ?_ _
            have hB10 : Below w.heap.size w w12 := hBw9.trans (q3.mono hBw9.size)
            go_wp2_with fail
            go_returns
            exact ⟨rfl, hB10⟩
    · clear hg hm hv
      by_cases h1 : m < 1
      · clear hr
        go_enter Try.func8, Try.ntmps8
        go_wp2_with fail
        refine (HR.out _ (Below.refl _ _)).mono ?_
        rintro e w1 ⟨rfl, HBZ⟩
        go_wp2_with fail
        refine (works_any _).mono ?_
        rintro e w9 ⟨rfl, hb9⟩
        have hB9 : Below w.heap.size w w9 := HBZ.trans (hb9.mono HBZ.size)
        go_wp2_with fail
        go_returns
        exact ⟨rfl, hB9⟩
      · have h2 : 200 < m := by omega
        clear hr
        go_enter Try.func8, Try.ntmps8
        go_wp2_with fail
        refine (HR.out _ (Below.refl _ _)).mono ?_
        rintro e w1 ⟨rfl, HBZ⟩
        go_wp2_with fail
        refine (works_any _).mono ?_
        rintro e w9 ⟨rfl, hb9⟩
        have hB9 : Below w.heap.size w w9 := HBZ.trans (hb9.mono HBZ.size)
        go_wp2_with fail
        go_returns
        exact ⟨rfl, hB9⟩

open Go.ChangeShapes Go.WideShapes Go.ChangeAt Go.RowKit Go.Joins

set_option maxRecDepth 100000 in
theorem larger_lifted (os : Os) (started : os.Started) (H : Type) (enc : TypeId × Value → H) :
    ReturnsInHanded {} Try.checked os 8 .any (Rows.cornersLargerSpec.pre6 enc Try.prog Try.f8 Rows.cornersLargerRow.domain false) (Rows.cornersLargerSpec.post enc Try.prog Try.f8 false true false false) := by
  refine returnsInHanded_of_change (C := Try.checked) own started (by kernel_rfl) Try.func8
    (ChangeSpec.witness6 (enc := enc) (C := Try.checked) false ⟨#[], #[.slice none 0 0, .int .i64 0], []⟩ 8 (by kernel_rfl) (by kernel_rfl) (by kernel_rfl) (by kernel_rfl)) ?_
  intro W base args ds gs before hval0 hW hcnd _
  have hval : ∀ (j : Nat) t v, Try.f8.params[j]? = some t → args[j]? = some v → Value.okWide Try.prog W .any base t v := hval0
  have hW' := hW
  obtain ⟨p, q, hA0, hV, rfl, hfz, hnd⟩ := hW
  have hA : DataW.TrodAll enc Try.prog W 0 (fun _ => true) true Try.f8.params.toList args.toList ds p := hA0
  rw [Try.params8] at hA hval
  obtain ⟨v0, v1, d0, d1, p0, p1, rfl, rfl, rfl, h0, h1⟩ := trodAll_two hA
  obtain ⟨rfl, rfl⟩ := trodVars_none hV
  obtain ⟨A, c, ps, rfl, hg_ps, hl_ps⟩ := open_prs Try.underlying22 Try.underlying24 (by kernel_rfl) (by kernel_rfl) (by kernel_rfl) (by kernel_rfl) (by kernel_rfl) Try.underlying3 Try.underlying3 (hval 0 22 v0 rfl rfl) h0
  obtain ⟨k, rfl, rfl, rfl, wf_k⟩ := open_int Try.underlying3 (hval 1 3 v1 rfl rfl) h1
  refine (lawLarger_walk A c ps k W hl_ps hg_ps).mono fun e W' ⟨he, hb⟩ => ?_
  subst he
  exact ⟨_, rfl, law_post hW' rfl rfl (by intro t ht; have : t = 22 ∨ t = 3 := (by rw [Try.params8] at ht; simpa using ht); rcases this with rfl | rfl <;> exact ⟨by kernel_rfl, of_decide_eq_true (by kernel_rfl)⟩) rfl rfl rfl hb⟩

theorem larger_holds : Rows.CornersLargerSaid :=
  OpenClaim.holds_of_wide 8 Try.f8 rfl rfl rfl rfl rfl rfl rfl ⟨rfl, rfl, rfl, rfl, rfl⟩ rfl rfl rfl rfl rfl (by kernel_rfl) Try.func8 (by kernel_rfl)
    (of_decide_eq_true (by kernel_rfl)) (by unfold Func.isWrapper; rw [if_neg (of_decide_eq_false (by kernel_rfl))]; exact ⟨rfl, rfl⟩)
    (fun os started H enc _ => larger_lifted os started H enc)
end Go.Proofs.Ytkfnngcphcfbjaa
