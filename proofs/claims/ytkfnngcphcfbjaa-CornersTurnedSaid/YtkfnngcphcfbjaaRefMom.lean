/- First and Second of the reference. (gen_refmom.py) -/
import Derived.Test.YtkfnngcphcfbjaaMomEq
import Derived.Test.YtkfnngcphcfbjaaFence3
import Derived.Test.YtkfnngcphcfbjaaFan
import Derived.Deep.DeepCutAuto
namespace Go.Proofs.Ytkfnngcphcfbjaa
open Go.RowKit


namespace Geo
theorem fxT_bd {a b c : Pt} (ha : sm a) (hb : sm b) (hc : sm c) : -24000000000 ≤ fxT a b c ∧ fxT a b c ≤ 24000000000 := by
  have ht := (turn_bd ha hb hc).2.2
  unfold sm at ha hb hc
  have := times_bd (t := turn a b c) (m := a.1 + b.1 + c.1) (M := 3000) ht (by omega)
  unfold fxT
  omega
theorem fyT_bd {a b c : Pt} (ha : sm a) (hb : sm b) (hc : sm c) : -24000000000 ≤ fyT a b c ∧ fyT a b c ≤ 24000000000 := by
  have ht := (turn_bd ha hb hc).2.2
  unfold sm at ha hb hc
  have := times_bd (t := turn a b c) (m := a.2 + b.2 + c.2) (M := 3000) ht (by omega)
  unfold fyT
  omega
theorem prod_bd {a b c : Int} (ha : -1000 ≤ a ∧ a ≤ 1000) (hb : -1000 ≤ b ∧ b ≤ 1000) (hc : -1000 ≤ c ∧ c ≤ 1000) : -6000000 ≤ prodV a b c ∧ prodV a b c ≤ 6000000 := by
  have q1 := sq_bd ha ha
  have q2 := sq_bd hb hb
  have q3 := sq_bd hc hc
  have q4 := sq_bd ha hb
  have q5 := sq_bd hb hc
  have q6 := sq_bd hc ha
  unfold prodV
  omega
theorem xxT_bd {a b c : Pt} (ha : sm a) (hb : sm b) (hc : sm c) : -48000000000000 ≤ xxT a b c ∧ xxT a b c ≤ 48000000000000 := by
  have ht := (turn_bd ha hb hc).2.2
  have := times_bd (t := turn a b c) (m := prodV a.1 b.1 c.1) (M := 6000000) ht (prod_bd ha.1 hb.1 hc.1)
  unfold xxT
  omega
theorem yyT_bd {a b c : Pt} (ha : sm a) (hb : sm b) (hc : sm c) : -48000000000000 ≤ yyT a b c ∧ yyT a b c ≤ 48000000000000 := by
  have ht := (turn_bd ha hb hc).2.2
  have := times_bd (t := turn a b c) (m := prodV a.2 b.2 c.2) (M := 6000000) ht (prod_bd ha.2 hb.2 hc.2)
  unfold yyT
  omega
theorem mix_bd {a b c : Pt} (ha : sm a) (hb : sm b) (hc : sm c) : (-9000000 ≤ (a.1 + b.1 + c.1) * (a.2 + b.2 + c.2) ∧ (a.1 + b.1 + c.1) * (a.2 + b.2 + c.2) ≤ 9000000) ∧ (-1000000 ≤ a.1 * a.2 ∧ a.1 * a.2 ≤ 1000000) ∧ (-1000000 ≤ b.1 * b.2 ∧ b.1 * b.2 ≤ 1000000) ∧ (-1000000 ≤ c.1 * c.2 ∧ c.1 * c.2 ≤ 1000000) := by
  unfold sm at ha hb hc
  have q := mul_bd (a := a.1 + b.1 + c.1) (b := a.2 + b.2 + c.2) (x := 3000) (y := 3000) (by omega) (by omega) (by omega) (by omega)
  have q1 := sq_bd ha.1 ha.2
  have q2 := sq_bd hb.1 hb.2
  have q3 := sq_bd hc.1 hc.2
  omega
theorem xyT_bd {a b c : Pt} (ha : sm a) (hb : sm b) (hc : sm c) : -96000000000000 ≤ xyT a b c ∧ xyT a b c ≤ 96000000000000 := by
  have ht := (turn_bd ha hb hc).2.2
  have hm := mix_bd ha hb hc
  have := times_bd (t := turn a b c) (m := (a.1 + b.1 + c.1) * (a.2 + b.2 + c.2) + a.1 * a.2 + b.1 * b.2 + c.1 * c.2) (M := 12000000) ht (by omega)
  unfold xyT
  omega
end Geo

set_option maxHeartbeats 1000000 in
theorem products_any (a b c : Int) (w : World) (ha : -1000 ≤ a ∧ a ≤ 1000) (hb : -1000 ≤ b ∧ b ≤ 1000) (hc : -1000 ≤ c ∧ c ≤ 1000) :
    Calls Try.prog 82 #[.int .i64 a, .int .i64 b, .int .i64 c] w fun e w' => e = .returned (.int .i64 (Geo.prodV a b c)) ∧ w = w' := by
  have HV : Hid (Geo.prodV a b c = a * a + b * b + c * c + a * b + b * c + c * a) := rfl
  generalize Geo.prodV a b c = V at *
  obtain ⟨q11, q12⟩ := Geo.sq_bd ha ha
  obtain ⟨q21, q22⟩ := Geo.sq_bd hb hb
  obtain ⟨q31, q32⟩ := Geo.sq_bd hc hc
  obtain ⟨q41, q42⟩ := Geo.sq_bd ha hb
  obtain ⟨q51, q52⟩ := Geo.sq_bd hb hc
  obtain ⟨q61, q62⟩ := Geo.sq_bd hc ha
  obtain ⟨a1, a2⟩ := ha
  obtain ⟨b1, b2⟩ := hb
  obtain ⟨c1, c2⟩ := hc
  go_enter Try.func82, Try.ntmps82
  go_wp2
  go_ret
  exact ⟨ret_i HV.out.symm, rfl⟩

set_option maxRecDepth 100000 in
set_option maxHeartbeats 8000000 in
theorem refFirst_any (A : Option Addr) (c : Nat) (ps : List Geo.Pt) (hl : ps.length ≤ 100) (w : World) (hP : Prs w w.heap.size A ps) :
    Calls Try.prog 38 #[.slice A ps.length c] w fun e w' => e = .returned (.tuple #[.int .i64 (Geo.whenV ps (Geo.tot Geo.fxV ps)), .int .i64 (Geo.whenV ps (Geo.tot Geo.fyV ps)), .int .i64 (Geo.errV ps)]) ∧ Below w.heap.size w w' := by
  have HC : Hid (Calls Try.prog 21 #[.slice A ps.length c] w (RefPost (Geo.errV ps) w)) := by unfold Hid; rw [← Geo.refV_errV]; exact refchk_any A c ps hl w hP
  cases hv : Geo.validB ps with
  | false =>
    rw [Geo.errV_no hv] at HC
    have HV := Lib.hid hv
    clear hP hl hv
    go_enter Try.func38, Try.ntmps38
    go_wp2_with fail
    refine HC.out.mono ?_
    rintro e w1 ⟨rfl, hb1⟩
    go_wp2_with fail
    go_returns
    exact ⟨ret_tup (by simp only [Geo.whenV_no HV.out, Geo.errV_no HV.out]; try rfl), hb1⟩
  | true =>
    rw [Geo.errV_yes hv] at HC
    have hsm := Geo.valid_sm hv
    have hlen := Geo.valid_len hv
    have HF : Hid (∀ W, Below w.heap.size w W → Calls Try.prog 78 #[.slice A ps.length c] W (FanPost ps W)) := fun W hW => Fan_any A c ps hl (by omega) W (prs_keep hP hW)
    have HSM : Hid (∀ k, k < ps.length → Geo.sm (Geo.ptAt ps k)) := fun k hk => Geo.ptAt_sm hsm hk
    have hq0 := (Geo.whenV_yes hv (Geo.tot Geo.fxV ps)).trans (Geo.fx_eq ps (by omega))
    have hq1 := (Geo.whenV_yes hv (Geo.tot Geo.fyV ps)).trans (Geo.fy_eq ps (by omega))
    have he0 := Geo.errV_yes hv
    obtain ⟨n2, hn2⟩ : ∃ n2, n2 = ps.length - 2 := ⟨_, rfl⟩
    rw [← hn2] at hq0
    have HQ0 := Lib.hid hq0
    rw [← hn2] at hq1
    have HQ1 := Lib.hid hq1
    have HE0 := Lib.hid he0
    have HN2 := Lib.hid hn2
    have HN2l : Hid (n2 + 2 = ps.length) := Lib.hid (by omega)
    have hn3l : (n2 : Int) ≤ 8 := by omega
    clear hsm hP hv hn2 he0 hlen hq0 hq1
    go_enter Try.func38, Try.ntmps38
    go_wp2_with fail
    refine HC.out.mono ?_
    rintro e w0 ⟨rfl, hB0⟩
    go_wp2_with fail
    refine (HF.out _ hB0).mono ?_
    rintro e w1 ⟨A2, c2, he, hT, hb1⟩
    rw [← HN2.out] at he hT
    subst he
    have hB1 : Below w.heap.size w w1 := hB0.trans (hb1.mono hB0.size)
    have HT := Lib.hid hT
    clear hT HF hb1 HC hB0
    go_wp2_with fail
    go_loopw [2, 3, 7] (fun s0 s1 x wr => ∃ k : Nat, (k : Int) ≤ n2 ∧ x = .int .i64 k ∧ s0 = .int .i64 (Geo.fanS Geo.fxT ps k) ∧ s1 = .int .i64 (Geo.fanS Geo.fyT ps k) ∧ Below w1.heap.size w1 wr) (fun _ _ x _ => (n2 - intOf x).toNat)
    case atStart => exact ⟨0, by omega, rfl, rfl, rfl, Below.refl _ _⟩
    case round =>
      obtain ⟨k, hk, rfl, rfl, rfl, hB⟩ := hrel
      have hk0 := Int.natCast_nonneg k
      by_cases hlt : (k : Int) < n2
      · have hkl : k < n2 := by omega
        obtain ⟨g, rfl, hg, hc⟩ := HT.out (by rw [fanTo_len]; omega)
        obtain ⟨⟨a0, a1⟩, ⟨a2, a3⟩, a4, a5⟩ := hc k _ (fanTo_get hkl)
        unfold triAt at a0 a1 a2 a3 a4 a5
        dsimp only at a0 a1 a2 a3 a4 a5
        have b0 := (hB.cell (p := ⟨g, _, none⟩) hg).trans a0
        have b1 := (hB.cell (p := ⟨g, _, none⟩) hg).trans a1
        have b2 := (hB.cell (p := ⟨g, _, none⟩) hg).trans a2
        have b3 := (hB.cell (p := ⟨g, _, none⟩) hg).trans a3
        have b4 := (hB.cell (p := ⟨g, _, none⟩) hg).trans a4
        have b5 := (hB.cell (p := ⟨g, _, none⟩) hg).trans a5
        have hn2l := HN2l.out
        have s0 := HSM.out 0 (by omega)
        have s1 := HSM.out (k + 1) (by omega)
        have s2 := HSM.out (k + 2) (by omega)
        have ht := (Geo.turn_bd s0 s1 s2).2.2
        have vb0 := Geo.fanS_bd (f := Geo.fxT) (ps := ps) (m := k) (M := 24000000000) (fun i hi => Geo.fxT_bd (HSM.out 0 (by omega)) (HSM.out (i + 1) (by omega)) (HSM.out (i + 2) (by omega)))
        have vt0 := Geo.fxT_bd s0 s1 s2
        have hsn0 : Hid (Geo.fanS Geo.fxT ps (k + 1) = Geo.fanS Geo.fxT ps k + Geo.fxT (Geo.ptAt ps 0) (Geo.ptAt ps (k + 1)) (Geo.ptAt ps (k + 2))) := rfl
        have vb1 := Geo.fanS_bd (f := Geo.fyT) (ps := ps) (m := k) (M := 24000000000) (fun i hi => Geo.fyT_bd (HSM.out 0 (by omega)) (HSM.out (i + 1) (by omega)) (HSM.out (i + 2) (by omega)))
        have vt1 := Geo.fyT_bd s0 s1 s2
        have hsn1 : Hid (Geo.fanS Geo.fyT ps (k + 1) = Geo.fanS Geo.fyT ps k + Geo.fyT (Geo.ptAt ps 0) (Geo.ptAt ps (k + 1)) (Geo.ptAt ps (k + 2))) := rfl
        clear a0 a1 a2 a3 a4 a5 hc hn2l
        generalize Geo.fanS Geo.fxT ps k = f0 at *
        generalize Geo.fanS Geo.fyT ps k = f1 at *
        generalize Geo.ptAt ps 0 = p0 at *
        generalize Geo.ptAt ps (k + 1) = p1 at *
        generalize Geo.ptAt ps (k + 2) = p2 at *
        obtain ⟨x0, y0⟩ := p0
        obtain ⟨x1, y1⟩ := p1
        obtain ⟨x2, y2⟩ := p2
        dsimp only at b0 b1 b2 b3 b4 b5
        have HU : Hid (∀ W, Calls Try.prog 29 #[.agg #[.int .i64 x0, .int .i64 y0], .agg #[.int .i64 x1, .int .i64 y1], .agg #[.int .i64 x2, .int .i64 y2]] W fun e w' => e = .returned (.int .i64 (Geo.turn (x0, y0) (x1, y1) (x2, y2))) ∧ Below W.heap.size W w') := fun W => Turn_any _ _ _ _ _ _ W s0 s1 s2
        obtain ⟨⟨c1, c2⟩, c3, c4⟩ := s0
        obtain ⟨⟨d1, d2⟩, d3, d4⟩ := s1
        obtain ⟨⟨e1, e2⟩, e3, e4⟩ := s2
        dsimp only at c1 c2 c3 c4 d1 d2 d3 d4 e1 e2 e3 e4
        have hT0 : Hid (Geo.fxT (x0, y0) (x1, y1) (x2, y2) = Geo.turn (x0, y0) (x1, y1) (x2, y2) * (x0 + x1 + x2)) := rfl
        have hT1 : Hid (Geo.fyT (x0, y0) (x1, y1) (x2, y2) = Geo.turn (x0, y0) (x1, y1) (x2, y2) * (y0 + y1 + y2)) := rfl
        rw [hT0.out] at hsn0 vt0
        rw [hT1.out] at hsn1 vt1
        clear hT0 hT1
        obtain ⟨u1, u2⟩ := vb0
        obtain ⟨u3, u4⟩ := vb1
        obtain ⟨v1, v2⟩ := vt0
        obtain ⟨v3, v4⟩ := vt1
        obtain ⟨t1, t2⟩ := ht
        have hgw : g < wr.heap.size := by have := hB.size; omega
        have KC : Hid (∀ W', Below wr.heap.size wr W' → (W'.cell? ⟨g, k * 6, none⟩ = some (.int .i64 x0) ∧ W'.cell? ⟨g, k * 6 + 1, none⟩ = some (.int .i64 y0)) ∧ (W'.cell? ⟨g, k * 6 + 2, none⟩ = some (.int .i64 x1) ∧ W'.cell? ⟨g, k * 6 + 3, none⟩ = some (.int .i64 y1)) ∧ (W'.cell? ⟨g, k * 6 + 4, none⟩ = some (.int .i64 x2) ∧ W'.cell? ⟨g, k * 6 + 5, none⟩ = some (.int .i64 y2))) :=
          fun W' h => ⟨⟨(h.cell (p := ⟨g, _, none⟩) hgw).trans b0, (h.cell (p := ⟨g, _, none⟩) hgw).trans b1⟩, ⟨(h.cell (p := ⟨g, _, none⟩) hgw).trans b2, (h.cell (p := ⟨g, _, none⟩) hgw).trans b3⟩, (h.cell (p := ⟨g, _, none⟩) hgw).trans b4, (h.cell (p := ⟨g, _, none⟩) hgw).trans b5⟩
        clear b0 b1 b2 b3 b4 b5
        go_upto_region 8 with fail
        go_cut [8, 9, 10] from 19 to 67 (fun s6 s7 s8 wx => ∃ g h i : Nat, s6 = .pointer (some ⟨g, 0, none⟩) ∧ s7 = .pointer (some ⟨h, 0, none⟩) ∧ s8 = .pointer (some ⟨i, 0, none⟩) ∧ BoxS wx g 24 #[.int .i64 x0, .int .i64 y0] ∧ BoxS wx h 24 #[.int .i64 x1, .int .i64 y1] ∧ BoxS wx i 24 #[.int .i64 x2, .int .i64 y2] ∧ Below wr.heap.size wr wx)
        case first =>
          clear u1 u2 u3 u4 v1 v2 v3 v4 c1 c2 c3 c4 d1 d2 d3 d4 e1 e2 e3 e4 t1 t2 HU
          refine (wpIn_wide (n := 4)).1 ?_
          have hmo : Try.prog.follows .mixedOrders = true := by kernel_rfl
          refine wpIn_region_held (fun W' => Below wr.heap.size wr W') 21 hmo ?_
          have q0 : Below wr.heap.size wr wr.drew := (Below.refl _ _).drew
          refine wpHeldIn_take (i := 0) (v := ?_) (plain_of (by kernel_rfl)) rfl (by kernel_rfl) (fun _ _ _ h => h) (yieldsSoIn_of (by kernel_rfl) ?_ (fun _ => rfl)) q0 ?_; rotate_left; focus (intro wq hw; clear hw; go_simp; try (with_reducible rfl))
          refine wpHeldIn_take (i := 1) (v := ?_) (plain_of (by kernel_rfl)) rfl (by kernel_rfl) (fun _ _ _ h => h) (yieldsSoIn_of (by kernel_rfl) ?_ (fun _ => rfl)) q0 ?_; rotate_left; focus (intro wq hw; clear hw; go_simp; try (with_reducible rfl))
          refine wpHeldIn_take (i := 2) (v := ?_) (plain_of (by kernel_rfl)) rfl (by kernel_rfl) (fun _ _ _ h => h) (yieldsSoIn_of (by kernel_rfl) ?_ (fun _ => rfl)) q0 ?_; rotate_left; focus (intro wq hw; clear hw; go_simp; try (with_reducible rfl))
          refine wpHeldIn_take (i := 3) (v := ?_) (plain_of (by kernel_rfl)) rfl (by kernel_rfl) (fun _ _ _ h => h) (yieldsSoIn_of (by kernel_rfl) ?_ (fun _ => rfl)) q0 ?_; rotate_left; focus (intro wq hw; clear hw; go_simp; try (with_reducible rfl))
          refine wpHeldIn_take (i := 4) (v := ?_) (plain_of (by kernel_rfl)) rfl (by kernel_rfl) (fun _ _ _ h => h) (yieldsSoIn_of (by kernel_rfl) ?_ (fun _ => rfl)) q0 ?_; rotate_left; focus (intro wq hw; have kq := KC.out wq hw; clear hw; go_simp; try (with_reducible rfl))
          refine wpHeldIn_take (i := 5) (v := ?_) (plain_of (by kernel_rfl)) rfl (by kernel_rfl) (fun _ _ _ h => h) (yieldsSoIn_of (by kernel_rfl) ?_ (fun _ => rfl)) q0 ?_; rotate_left; focus (intro wq hw; clear hw; go_simp; try (with_reducible rfl))
          refine wpHeldIn_take (i := 6) (v := ?_) (plain_of (by kernel_rfl)) rfl (by kernel_rfl) (fun _ _ _ h => h) (yieldsSoIn_of (by kernel_rfl) ?_ (fun _ => rfl)) q0 ?_; rotate_left; focus (intro wq hw; clear hw; go_simp; try (with_reducible rfl))
          refine wpHeldIn_take (i := 7) (v := ?_) (plain_of (by kernel_rfl)) rfl (by kernel_rfl) (fun _ _ _ h => h) (yieldsSoIn_of (by kernel_rfl) ?_ (fun _ => rfl)) q0 ?_; rotate_left; focus (intro wq hw; clear hw; go_simp; try (with_reducible rfl))
          refine wpHeldIn_take (i := 8) (v := ?_) (plain_of (by kernel_rfl)) rfl (by kernel_rfl) (fun _ _ _ h => h) (yieldsSoIn_of (by kernel_rfl) ?_ (fun _ => rfl)) q0 ?_; rotate_left; focus (intro wq hw; clear hw; go_simp; try (with_reducible rfl))
          refine wpHeldIn_take (i := 9) (v := ?_) (plain_of (by kernel_rfl)) rfl (by kernel_rfl) (fun _ _ _ h => h) (yieldsSoIn_of (by kernel_rfl) ?_ (fun _ => rfl)) q0 ?_; rotate_left; focus (intro wq hw; have kq := KC.out wq hw; clear hw; go_simp; try (with_reducible rfl))
          refine wpHeldIn_take (i := 10) (v := ?_) (plain_of (by kernel_rfl)) rfl (by kernel_rfl) (fun _ _ _ h => h) (yieldsSoIn_of (by kernel_rfl) ?_ (fun _ => rfl)) q0 ?_; rotate_left; focus (intro wq hw; clear hw; go_simp; try (with_reducible rfl))
          refine wpHeldIn_take (i := 11) (v := ?_) (plain_of (by kernel_rfl)) rfl (by kernel_rfl) (fun _ _ _ h => h) (yieldsSoIn_of (by kernel_rfl) ?_ (fun _ => rfl)) q0 ?_; rotate_left; focus (intro wq hw; clear hw; go_simp; try (with_reducible rfl))
          refine wpHeldIn_take (i := 12) (v := ?_) (plain_of (by kernel_rfl)) rfl (by kernel_rfl) (fun _ _ _ h => h) (yieldsSoIn_of (by kernel_rfl) ?_ (fun _ => rfl)) q0 ?_; rotate_left; focus (intro wq hw; clear hw; go_simp; try (with_reducible rfl))
          refine wpHeldIn_take (i := 13) (v := ?_) (plain_of (by kernel_rfl)) rfl (by kernel_rfl) (fun _ _ _ h => h) (yieldsSoIn_of (by kernel_rfl) ?_ (fun _ => rfl)) q0 ?_; rotate_left; focus (intro wq hw; clear hw; go_simp; try (with_reducible rfl))
          refine wpHeldIn_take (i := 14) (v := ?_) (plain_of (by kernel_rfl)) rfl (by kernel_rfl) (fun _ _ _ h => h) (yieldsSoIn_of (by kernel_rfl) ?_ (fun _ => rfl)) q0 ?_; rotate_left; focus (intro wq hw; have kq := KC.out wq hw; clear hw; go_simp; try (with_reducible rfl))
          refine wpHeldIn_three (i := 15) (j := 16) (k := 17) (by kernel_rfl) (by kernel_rfl) (by kernel_rfl) (by kernel_rfl) rfl rfl rfl (by kernel_rfl) (by kernel_rfl) (by kernel_rfl) (fun K' hK' => ?_) (fun K' hK' => ?_) (fun K' hK' => ?_)
          · go_simp
            refine hK' _ _ (by (repeat' (first | (with_reducible exact Below.refl _ _) | (with_reducible assumption) | (with_reducible refine Below.alloc ?_ ?_ _) | (with_reducible refine Below.drew ?_) | (with_reducible refine Below.setCell ?_ ?_ _) | go_size | (exact (by simp)) | omega))) ?_
            refine wpHeldIn_two (i := 16) (j := 17) (by kernel_rfl) (by kernel_rfl) (by kernel_rfl) rfl rfl (by kernel_rfl) (by kernel_rfl) (fun K' hK' => ?_) (fun K' hK' => ?_)
            · go_simp
              refine hK' _ _ (by (repeat' (first | (with_reducible exact Below.refl _ _) | (with_reducible assumption) | (with_reducible refine Below.alloc ?_ ?_ _) | (with_reducible refine Below.drew ?_) | (with_reducible refine Below.setCell ?_ ?_ _) | go_size | (exact (by simp)) | omega))) ?_
              refine wpHeldIn_one (i := 17) (by kernel_rfl) (by kernel_rfl) rfl (by kernel_rfl) (fun K' hK' => ?_); go_simp; refine hK' _ _ (by (repeat' (first | (with_reducible exact Below.refl _ _) | (with_reducible assumption) | (with_reducible refine Below.alloc ?_ ?_ _) | (with_reducible refine Below.drew ?_) | (with_reducible refine Below.setCell ?_ ?_ _) | go_size | (exact (by simp)) | omega))) ?_
              refine wpHeldIn_one (i := 18) (by kernel_rfl) (by kernel_rfl) rfl (by kernel_rfl) (fun K' hK' => ?_); go_simp; refine hK' _ _ (by (repeat' (first | (with_reducible exact Below.refl _ _) | (with_reducible assumption) | (with_reducible refine Below.alloc ?_ ?_ _) | (with_reducible refine Below.drew ?_) | (with_reducible refine Below.setCell ?_ ?_ _) | go_size | (exact (by simp)) | omega))) ?_
              refine wpHeldIn_one (i := 19) (by kernel_rfl) (by kernel_rfl) rfl (by kernel_rfl) (fun K' hK' => ?_); go_simp; refine hK' _ _ (by (repeat' (first | (with_reducible exact Below.refl _ _) | (with_reducible assumption) | (with_reducible refine Below.alloc ?_ ?_ _) | (with_reducible refine Below.drew ?_) | (with_reducible refine Below.setCell ?_ ?_ _) | go_size | (exact (by simp)) | omega))) ?_
              refine wpHeldIn_one (i := 20) (by kernel_rfl) (by kernel_rfl) rfl (by kernel_rfl) (fun K' hK' => ?_); go_simp; refine hK' _ _ (by (repeat' (first | (with_reducible exact Below.refl _ _) | (with_reducible assumption) | (with_reducible refine Below.alloc ?_ ?_ _) | (with_reducible refine Below.drew ?_) | (with_reducible refine Below.setCell ?_ ?_ _) | go_size | (exact (by simp)) | omega))) ?_
              refine wpHeldIn_done (by kernel_rfl) ?_ _
              go_wp2_with fail
              go_meet
              exact ⟨_, _, _, rfl, rfl, rfl, BoxS.drew (((BoxS.new wr _ #[.int .i64 x0, .int .i64 y0]).alloc (.cells #[.int .i64 x1, .int .i64 y1] 24)).alloc (.cells #[.int .i64 x2, .int .i64 y2] 24)), BoxS.drew (((by have := BoxS.new (wr.alloc (.cells #[.int .i64 x0, .int .i64 y0] 24)) 24 #[.int .i64 x1, .int .i64 y1]; rw [World.size_alloc] at this; exact this : BoxS _ (wr.heap.size + 1) 24 #[.int .i64 x1, .int .i64 y1])).alloc (.cells #[.int .i64 x2, .int .i64 y2] 24)), BoxS.drew ((by have := BoxS.new ((wr.alloc (.cells #[.int .i64 x0, .int .i64 y0] 24)).alloc (.cells #[.int .i64 x1, .int .i64 y1] 24)) 24 #[.int .i64 x2, .int .i64 y2]; rw [World.size_alloc, World.size_alloc] at this; exact this : BoxS _ (wr.heap.size + 1 + 1) 24 #[.int .i64 x2, .int .i64 y2])), by (repeat' (first | (with_reducible exact Below.refl _ _) | (with_reducible assumption) | (with_reducible refine Below.alloc ?_ ?_ _) | (with_reducible refine Below.drew ?_) | (with_reducible refine Below.setCell ?_ ?_ _) | go_size | (exact (by simp)) | omega))⟩
            · go_simp
              refine hK' _ _ (by (repeat' (first | (with_reducible exact Below.refl _ _) | (with_reducible assumption) | (with_reducible refine Below.alloc ?_ ?_ _) | (with_reducible refine Below.drew ?_) | (with_reducible refine Below.setCell ?_ ?_ _) | go_size | (exact (by simp)) | omega))) ?_
              refine wpHeldIn_one (i := 16) (by kernel_rfl) (by kernel_rfl) rfl (by kernel_rfl) (fun K' hK' => ?_); go_simp; refine hK' _ _ (by (repeat' (first | (with_reducible exact Below.refl _ _) | (with_reducible assumption) | (with_reducible refine Below.alloc ?_ ?_ _) | (with_reducible refine Below.drew ?_) | (with_reducible refine Below.setCell ?_ ?_ _) | go_size | (exact (by simp)) | omega))) ?_
              refine wpHeldIn_one (i := 18) (by kernel_rfl) (by kernel_rfl) rfl (by kernel_rfl) (fun K' hK' => ?_); go_simp; refine hK' _ _ (by (repeat' (first | (with_reducible exact Below.refl _ _) | (with_reducible assumption) | (with_reducible refine Below.alloc ?_ ?_ _) | (with_reducible refine Below.drew ?_) | (with_reducible refine Below.setCell ?_ ?_ _) | go_size | (exact (by simp)) | omega))) ?_
              refine wpHeldIn_one (i := 19) (by kernel_rfl) (by kernel_rfl) rfl (by kernel_rfl) (fun K' hK' => ?_); go_simp; refine hK' _ _ (by (repeat' (first | (with_reducible exact Below.refl _ _) | (with_reducible assumption) | (with_reducible refine Below.alloc ?_ ?_ _) | (with_reducible refine Below.drew ?_) | (with_reducible refine Below.setCell ?_ ?_ _) | go_size | (exact (by simp)) | omega))) ?_
              refine wpHeldIn_one (i := 20) (by kernel_rfl) (by kernel_rfl) rfl (by kernel_rfl) (fun K' hK' => ?_); go_simp; refine hK' _ _ (by (repeat' (first | (with_reducible exact Below.refl _ _) | (with_reducible assumption) | (with_reducible refine Below.alloc ?_ ?_ _) | (with_reducible refine Below.drew ?_) | (with_reducible refine Below.setCell ?_ ?_ _) | go_size | (exact (by simp)) | omega))) ?_
              refine wpHeldIn_done (by kernel_rfl) ?_ _
              go_wp2_with fail
              go_meet
              exact ⟨_, _, _, rfl, rfl, rfl, BoxS.drew (((BoxS.new wr _ #[.int .i64 x0, .int .i64 y0]).alloc (.cells #[.int .i64 x2, .int .i64 y2] 24)).alloc (.cells #[.int .i64 x1, .int .i64 y1] 24)), BoxS.drew ((by have := BoxS.new ((wr.alloc (.cells #[.int .i64 x0, .int .i64 y0] 24)).alloc (.cells #[.int .i64 x2, .int .i64 y2] 24)) 24 #[.int .i64 x1, .int .i64 y1]; rw [World.size_alloc, World.size_alloc] at this; exact this : BoxS _ (wr.heap.size + 1 + 1) 24 #[.int .i64 x1, .int .i64 y1])), BoxS.drew (((by have := BoxS.new (wr.alloc (.cells #[.int .i64 x0, .int .i64 y0] 24)) 24 #[.int .i64 x2, .int .i64 y2]; rw [World.size_alloc] at this; exact this : BoxS _ (wr.heap.size + 1) 24 #[.int .i64 x2, .int .i64 y2])).alloc (.cells #[.int .i64 x1, .int .i64 y1] 24)), by (repeat' (first | (with_reducible exact Below.refl _ _) | (with_reducible assumption) | (with_reducible refine Below.alloc ?_ ?_ _) | (with_reducible refine Below.drew ?_) | (with_reducible refine Below.setCell ?_ ?_ _) | go_size | (exact (by simp)) | omega))⟩
          · go_simp
            refine hK' _ _ (by (repeat' (first | (with_reducible exact Below.refl _ _) | (with_reducible assumption) | (with_reducible refine Below.alloc ?_ ?_ _) | (with_reducible refine Below.drew ?_) | (with_reducible refine Below.setCell ?_ ?_ _) | go_size | (exact (by simp)) | omega))) ?_
            refine wpHeldIn_two (i := 15) (j := 17) (by kernel_rfl) (by kernel_rfl) (by kernel_rfl) rfl rfl (by kernel_rfl) (by kernel_rfl) (fun K' hK' => ?_) (fun K' hK' => ?_)
            · go_simp
              refine hK' _ _ (by (repeat' (first | (with_reducible exact Below.refl _ _) | (with_reducible assumption) | (with_reducible refine Below.alloc ?_ ?_ _) | (with_reducible refine Below.drew ?_) | (with_reducible refine Below.setCell ?_ ?_ _) | go_size | (exact (by simp)) | omega))) ?_
              refine wpHeldIn_one (i := 17) (by kernel_rfl) (by kernel_rfl) rfl (by kernel_rfl) (fun K' hK' => ?_); go_simp; refine hK' _ _ (by (repeat' (first | (with_reducible exact Below.refl _ _) | (with_reducible assumption) | (with_reducible refine Below.alloc ?_ ?_ _) | (with_reducible refine Below.drew ?_) | (with_reducible refine Below.setCell ?_ ?_ _) | go_size | (exact (by simp)) | omega))) ?_
              refine wpHeldIn_one (i := 18) (by kernel_rfl) (by kernel_rfl) rfl (by kernel_rfl) (fun K' hK' => ?_); go_simp; refine hK' _ _ (by (repeat' (first | (with_reducible exact Below.refl _ _) | (with_reducible assumption) | (with_reducible refine Below.alloc ?_ ?_ _) | (with_reducible refine Below.drew ?_) | (with_reducible refine Below.setCell ?_ ?_ _) | go_size | (exact (by simp)) | omega))) ?_
              refine wpHeldIn_one (i := 19) (by kernel_rfl) (by kernel_rfl) rfl (by kernel_rfl) (fun K' hK' => ?_); go_simp; refine hK' _ _ (by (repeat' (first | (with_reducible exact Below.refl _ _) | (with_reducible assumption) | (with_reducible refine Below.alloc ?_ ?_ _) | (with_reducible refine Below.drew ?_) | (with_reducible refine Below.setCell ?_ ?_ _) | go_size | (exact (by simp)) | omega))) ?_
              refine wpHeldIn_one (i := 20) (by kernel_rfl) (by kernel_rfl) rfl (by kernel_rfl) (fun K' hK' => ?_); go_simp; refine hK' _ _ (by (repeat' (first | (with_reducible exact Below.refl _ _) | (with_reducible assumption) | (with_reducible refine Below.alloc ?_ ?_ _) | (with_reducible refine Below.drew ?_) | (with_reducible refine Below.setCell ?_ ?_ _) | go_size | (exact (by simp)) | omega))) ?_
              refine wpHeldIn_done (by kernel_rfl) ?_ _
              go_wp2_with fail
              go_meet
              exact ⟨_, _, _, rfl, rfl, rfl, BoxS.drew (((by have := BoxS.new (wr.alloc (.cells #[.int .i64 x1, .int .i64 y1] 24)) 24 #[.int .i64 x0, .int .i64 y0]; rw [World.size_alloc] at this; exact this : BoxS _ (wr.heap.size + 1) 24 #[.int .i64 x0, .int .i64 y0])).alloc (.cells #[.int .i64 x2, .int .i64 y2] 24)), BoxS.drew (((BoxS.new wr _ #[.int .i64 x1, .int .i64 y1]).alloc (.cells #[.int .i64 x0, .int .i64 y0] 24)).alloc (.cells #[.int .i64 x2, .int .i64 y2] 24)), BoxS.drew ((by have := BoxS.new ((wr.alloc (.cells #[.int .i64 x1, .int .i64 y1] 24)).alloc (.cells #[.int .i64 x0, .int .i64 y0] 24)) 24 #[.int .i64 x2, .int .i64 y2]; rw [World.size_alloc, World.size_alloc] at this; exact this : BoxS _ (wr.heap.size + 1 + 1) 24 #[.int .i64 x2, .int .i64 y2])), by (repeat' (first | (with_reducible exact Below.refl _ _) | (with_reducible assumption) | (with_reducible refine Below.alloc ?_ ?_ _) | (with_reducible refine Below.drew ?_) | (with_reducible refine Below.setCell ?_ ?_ _) | go_size | (exact (by simp)) | omega))⟩
            · go_simp
              refine hK' _ _ (by (repeat' (first | (with_reducible exact Below.refl _ _) | (with_reducible assumption) | (with_reducible refine Below.alloc ?_ ?_ _) | (with_reducible refine Below.drew ?_) | (with_reducible refine Below.setCell ?_ ?_ _) | go_size | (exact (by simp)) | omega))) ?_
              refine wpHeldIn_one (i := 15) (by kernel_rfl) (by kernel_rfl) rfl (by kernel_rfl) (fun K' hK' => ?_); go_simp; refine hK' _ _ (by (repeat' (first | (with_reducible exact Below.refl _ _) | (with_reducible assumption) | (with_reducible refine Below.alloc ?_ ?_ _) | (with_reducible refine Below.drew ?_) | (with_reducible refine Below.setCell ?_ ?_ _) | go_size | (exact (by simp)) | omega))) ?_
              refine wpHeldIn_one (i := 18) (by kernel_rfl) (by kernel_rfl) rfl (by kernel_rfl) (fun K' hK' => ?_); go_simp; refine hK' _ _ (by (repeat' (first | (with_reducible exact Below.refl _ _) | (with_reducible assumption) | (with_reducible refine Below.alloc ?_ ?_ _) | (with_reducible refine Below.drew ?_) | (with_reducible refine Below.setCell ?_ ?_ _) | go_size | (exact (by simp)) | omega))) ?_
              refine wpHeldIn_one (i := 19) (by kernel_rfl) (by kernel_rfl) rfl (by kernel_rfl) (fun K' hK' => ?_); go_simp; refine hK' _ _ (by (repeat' (first | (with_reducible exact Below.refl _ _) | (with_reducible assumption) | (with_reducible refine Below.alloc ?_ ?_ _) | (with_reducible refine Below.drew ?_) | (with_reducible refine Below.setCell ?_ ?_ _) | go_size | (exact (by simp)) | omega))) ?_
              refine wpHeldIn_one (i := 20) (by kernel_rfl) (by kernel_rfl) rfl (by kernel_rfl) (fun K' hK' => ?_); go_simp; refine hK' _ _ (by (repeat' (first | (with_reducible exact Below.refl _ _) | (with_reducible assumption) | (with_reducible refine Below.alloc ?_ ?_ _) | (with_reducible refine Below.drew ?_) | (with_reducible refine Below.setCell ?_ ?_ _) | go_size | (exact (by simp)) | omega))) ?_
              refine wpHeldIn_done (by kernel_rfl) ?_ _
              go_wp2_with fail
              go_meet
              exact ⟨_, _, _, rfl, rfl, rfl, BoxS.drew ((by have := BoxS.new ((wr.alloc (.cells #[.int .i64 x1, .int .i64 y1] 24)).alloc (.cells #[.int .i64 x2, .int .i64 y2] 24)) 24 #[.int .i64 x0, .int .i64 y0]; rw [World.size_alloc, World.size_alloc] at this; exact this : BoxS _ (wr.heap.size + 1 + 1) 24 #[.int .i64 x0, .int .i64 y0])), BoxS.drew (((BoxS.new wr _ #[.int .i64 x1, .int .i64 y1]).alloc (.cells #[.int .i64 x2, .int .i64 y2] 24)).alloc (.cells #[.int .i64 x0, .int .i64 y0] 24)), BoxS.drew (((by have := BoxS.new (wr.alloc (.cells #[.int .i64 x1, .int .i64 y1] 24)) 24 #[.int .i64 x2, .int .i64 y2]; rw [World.size_alloc] at this; exact this : BoxS _ (wr.heap.size + 1) 24 #[.int .i64 x2, .int .i64 y2])).alloc (.cells #[.int .i64 x0, .int .i64 y0] 24)), by (repeat' (first | (with_reducible exact Below.refl _ _) | (with_reducible assumption) | (with_reducible refine Below.alloc ?_ ?_ _) | (with_reducible refine Below.drew ?_) | (with_reducible refine Below.setCell ?_ ?_ _) | go_size | (exact (by simp)) | omega))⟩
          · go_simp
            refine hK' _ _ (by (repeat' (first | (with_reducible exact Below.refl _ _) | (with_reducible assumption) | (with_reducible refine Below.alloc ?_ ?_ _) | (with_reducible refine Below.drew ?_) | (with_reducible refine Below.setCell ?_ ?_ _) | go_size | (exact (by simp)) | omega))) ?_
            refine wpHeldIn_two (i := 15) (j := 16) (by kernel_rfl) (by kernel_rfl) (by kernel_rfl) rfl rfl (by kernel_rfl) (by kernel_rfl) (fun K' hK' => ?_) (fun K' hK' => ?_)
            · go_simp
              refine hK' _ _ (by (repeat' (first | (with_reducible exact Below.refl _ _) | (with_reducible assumption) | (with_reducible refine Below.alloc ?_ ?_ _) | (with_reducible refine Below.drew ?_) | (with_reducible refine Below.setCell ?_ ?_ _) | go_size | (exact (by simp)) | omega))) ?_
              refine wpHeldIn_one (i := 16) (by kernel_rfl) (by kernel_rfl) rfl (by kernel_rfl) (fun K' hK' => ?_); go_simp; refine hK' _ _ (by (repeat' (first | (with_reducible exact Below.refl _ _) | (with_reducible assumption) | (with_reducible refine Below.alloc ?_ ?_ _) | (with_reducible refine Below.drew ?_) | (with_reducible refine Below.setCell ?_ ?_ _) | go_size | (exact (by simp)) | omega))) ?_
              refine wpHeldIn_one (i := 18) (by kernel_rfl) (by kernel_rfl) rfl (by kernel_rfl) (fun K' hK' => ?_); go_simp; refine hK' _ _ (by (repeat' (first | (with_reducible exact Below.refl _ _) | (with_reducible assumption) | (with_reducible refine Below.alloc ?_ ?_ _) | (with_reducible refine Below.drew ?_) | (with_reducible refine Below.setCell ?_ ?_ _) | go_size | (exact (by simp)) | omega))) ?_
              refine wpHeldIn_one (i := 19) (by kernel_rfl) (by kernel_rfl) rfl (by kernel_rfl) (fun K' hK' => ?_); go_simp; refine hK' _ _ (by (repeat' (first | (with_reducible exact Below.refl _ _) | (with_reducible assumption) | (with_reducible refine Below.alloc ?_ ?_ _) | (with_reducible refine Below.drew ?_) | (with_reducible refine Below.setCell ?_ ?_ _) | go_size | (exact (by simp)) | omega))) ?_
              refine wpHeldIn_one (i := 20) (by kernel_rfl) (by kernel_rfl) rfl (by kernel_rfl) (fun K' hK' => ?_); go_simp; refine hK' _ _ (by (repeat' (first | (with_reducible exact Below.refl _ _) | (with_reducible assumption) | (with_reducible refine Below.alloc ?_ ?_ _) | (with_reducible refine Below.drew ?_) | (with_reducible refine Below.setCell ?_ ?_ _) | go_size | (exact (by simp)) | omega))) ?_
              refine wpHeldIn_done (by kernel_rfl) ?_ _
              go_wp2_with fail
              go_meet
              exact ⟨_, _, _, rfl, rfl, rfl, BoxS.drew (((by have := BoxS.new (wr.alloc (.cells #[.int .i64 x2, .int .i64 y2] 24)) 24 #[.int .i64 x0, .int .i64 y0]; rw [World.size_alloc] at this; exact this : BoxS _ (wr.heap.size + 1) 24 #[.int .i64 x0, .int .i64 y0])).alloc (.cells #[.int .i64 x1, .int .i64 y1] 24)), BoxS.drew ((by have := BoxS.new ((wr.alloc (.cells #[.int .i64 x2, .int .i64 y2] 24)).alloc (.cells #[.int .i64 x0, .int .i64 y0] 24)) 24 #[.int .i64 x1, .int .i64 y1]; rw [World.size_alloc, World.size_alloc] at this; exact this : BoxS _ (wr.heap.size + 1 + 1) 24 #[.int .i64 x1, .int .i64 y1])), BoxS.drew (((BoxS.new wr _ #[.int .i64 x2, .int .i64 y2]).alloc (.cells #[.int .i64 x0, .int .i64 y0] 24)).alloc (.cells #[.int .i64 x1, .int .i64 y1] 24)), by (repeat' (first | (with_reducible exact Below.refl _ _) | (with_reducible assumption) | (with_reducible refine Below.alloc ?_ ?_ _) | (with_reducible refine Below.drew ?_) | (with_reducible refine Below.setCell ?_ ?_ _) | go_size | (exact (by simp)) | omega))⟩
            · go_simp
              refine hK' _ _ (by (repeat' (first | (with_reducible exact Below.refl _ _) | (with_reducible assumption) | (with_reducible refine Below.alloc ?_ ?_ _) | (with_reducible refine Below.drew ?_) | (with_reducible refine Below.setCell ?_ ?_ _) | go_size | (exact (by simp)) | omega))) ?_
              refine wpHeldIn_one (i := 15) (by kernel_rfl) (by kernel_rfl) rfl (by kernel_rfl) (fun K' hK' => ?_); go_simp; refine hK' _ _ (by (repeat' (first | (with_reducible exact Below.refl _ _) | (with_reducible assumption) | (with_reducible refine Below.alloc ?_ ?_ _) | (with_reducible refine Below.drew ?_) | (with_reducible refine Below.setCell ?_ ?_ _) | go_size | (exact (by simp)) | omega))) ?_
              refine wpHeldIn_one (i := 18) (by kernel_rfl) (by kernel_rfl) rfl (by kernel_rfl) (fun K' hK' => ?_); go_simp; refine hK' _ _ (by (repeat' (first | (with_reducible exact Below.refl _ _) | (with_reducible assumption) | (with_reducible refine Below.alloc ?_ ?_ _) | (with_reducible refine Below.drew ?_) | (with_reducible refine Below.setCell ?_ ?_ _) | go_size | (exact (by simp)) | omega))) ?_
              refine wpHeldIn_one (i := 19) (by kernel_rfl) (by kernel_rfl) rfl (by kernel_rfl) (fun K' hK' => ?_); go_simp; refine hK' _ _ (by (repeat' (first | (with_reducible exact Below.refl _ _) | (with_reducible assumption) | (with_reducible refine Below.alloc ?_ ?_ _) | (with_reducible refine Below.drew ?_) | (with_reducible refine Below.setCell ?_ ?_ _) | go_size | (exact (by simp)) | omega))) ?_
              refine wpHeldIn_one (i := 20) (by kernel_rfl) (by kernel_rfl) rfl (by kernel_rfl) (fun K' hK' => ?_); go_simp; refine hK' _ _ (by (repeat' (first | (with_reducible exact Below.refl _ _) | (with_reducible assumption) | (with_reducible refine Below.alloc ?_ ?_ _) | (with_reducible refine Below.drew ?_) | (with_reducible refine Below.setCell ?_ ?_ _) | go_size | (exact (by simp)) | omega))) ?_
              refine wpHeldIn_done (by kernel_rfl) ?_ _
              go_wp2_with fail
              go_meet
              exact ⟨_, _, _, rfl, rfl, rfl, BoxS.drew ((by have := BoxS.new ((wr.alloc (.cells #[.int .i64 x2, .int .i64 y2] 24)).alloc (.cells #[.int .i64 x1, .int .i64 y1] 24)) 24 #[.int .i64 x0, .int .i64 y0]; rw [World.size_alloc, World.size_alloc] at this; exact this : BoxS _ (wr.heap.size + 1 + 1) 24 #[.int .i64 x0, .int .i64 y0])), BoxS.drew (((by have := BoxS.new (wr.alloc (.cells #[.int .i64 x2, .int .i64 y2] 24)) 24 #[.int .i64 x1, .int .i64 y1]; rw [World.size_alloc] at this; exact this : BoxS _ (wr.heap.size + 1) 24 #[.int .i64 x1, .int .i64 y1])).alloc (.cells #[.int .i64 x0, .int .i64 y0] 24)), BoxS.drew (((BoxS.new wr _ #[.int .i64 x2, .int .i64 y2]).alloc (.cells #[.int .i64 x1, .int .i64 y1] 24)).alloc (.cells #[.int .i64 x0, .int .i64 y0] 24)), by (repeat' (first | (with_reducible exact Below.refl _ _) | (with_reducible assumption) | (with_reducible refine Below.alloc ?_ ?_ _) | (with_reducible refine Below.drew ?_) | (with_reducible refine Below.setCell ?_ ?_ _) | go_size | (exact (by simp)) | omega))⟩
        case rest =>
          obtain ⟨g1, g2, g3, rfl, rfl, rfl, bg, bh, bi, hBc⟩ := hcut
          have hB2 := hB.trans (hBc.mono hB.size)
          clear hBc KC
          obtain ⟨w2, rfl⟩ : ∃ w2 : World, w2 = wc := ⟨_, rfl⟩
          obtain ⟨cg0, cg1⟩ := boxS2 bg
          obtain ⟨ch0, ch1⟩ := boxS2 bh
          obtain ⟨ci0, ci1⟩ := boxS2 bi
          go_wp2_with fail
          refine (HU.out _).mono ?_
          rintro e w3 ⟨rfl, hb3⟩
          have bg3 := bg.below hb3
          have bh3 := bh.below hb3
          have bi3 := bi.below hb3
          have hB3 := hB2.trans (hb3.mono hB2.size)
          clear cg0 cg1 ch0 ch1 ci0 ci1 bg bh bi hb3 hB2
          obtain ⟨cg0, cg1⟩ := boxS2 bg3
          obtain ⟨ch0, ch1⟩ := boxS2 bh3
          obtain ⟨ci0, ci1⟩ := boxS2 bi3
          generalize Geo.turn (x0, y0) (x1, y1) (x2, y2) = T at *
          have hw0 : IntKind.i64.wrap (f0 + T * (x0 + x1 + x2)) = f0 + T * (x0 + x1 + x2) := IntWalk.i64_in _ (by omega)
          have hw1 : IntKind.i64.wrap (f1 + T * (y0 + y1 + y2)) = f1 + T * (y0 + y1 + y2) := IntWalk.i64_in _ (by omega)
          go_wp2_with fail
          go_roundw
          case rel => exact ⟨k + 1, by omega, by go_num, by rw [hsn0.out], by rw [hsn1.out], hB3⟩
          case measure => simp [intOf]; omega
      · obtain rfl : k = n2 := by omega
        have hBe := hB1.trans (hB.mono hB1.size)
        go_wp2_with fail
        go_returns
        exact ⟨ret_tup (by rw [HQ0.out, HQ1.out, HE0.out]; try rfl), hBe⟩
end Go.Proofs.Ytkfnngcphcfbjaa
