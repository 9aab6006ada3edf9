/- Settings has a number of steps just if its main mark is that of each glance and Seen of it has the line of each; the order of glances does not matter; one more glance adds none, a greater Slack takes none away. No condition: whatever the arguments are. -/
import Derived.Test.YtfjcmmdfipppoaaGlanA
import Derived.Deep.DeepCutAuto
namespace Go.Proofs.Ytfjcmmdfipppoaa
open Go.RowKit
theorem gls_of_own2 {w : World} {B : Nat} {e : TypeId} {A : Option Addr} {n c : Nat} {gs : List (Int × Int)} (h : w.ownsRow B e 2 (.slice A n c) n (flat gs)) (hn : n = gs.length) : Gls w w.heap.size A gs := by
  subst hn
  exact gls_of_own h
theorem Settings_rev (p s : Int) (A : Option Addr) (c : Nat) (gs : List (Int × Int)) (w : World) (hv : Ver.vP p s) (hgs : Ver.glsP p gs) (hg : Gls w w.heap.size A gs.reverse) :
    Calls Try.prog 35 #[.agg #[.int .i64 p, .int .i64 s], .slice A gs.length c] w (SomeInts (Ver.setV p s gs) (Ver.setE p s gs) w) := by
  have h := Settings_any p s A c gs.reverse w (by rw [List.length_reverse]; have := hgs.1; omega) hg
  rw [List.length_reverse, (Ver.set_rev hv hgs).1, (Ver.set_rev hv hgs).2] at h
  exact h
set_option maxRecDepth 100000 in
set_option maxHeartbeats 16000000 in
theorem lawGlances_valid (p s : Int) (A : Option Addr) (c : Nat) (gs : List (Int × Int)) (m l st : Int) (w : World) (hv : Ver.vP p s) (hgs : Ver.glsP p gs) (hst : 0 ≤ st ∧ st ≤ 10000) (hg : Gls w w.heap.size A gs) :
    Calls Try.prog 12 #[.agg #[.int .i64 p, .int .i64 s], .slice A gs.length c, .agg #[.int .i64 m, .int .i64 l, .int .i64 st]] w fun e w' => e = .returned (.bool true) ∧ Below w.heap.size w w' := by
  have HV := Lib.hid hv
  have HGS := Lib.hid hgs
  have HST := Lib.hid hst
  have HG := Lib.hid hg
  have e1 := Lib.hid (Ver.vB_true.2 hv)
  have e2 := Lib.hid (Ver.glsB_true.2 hgs)
  have e4 := Lib.hid (Ver.seenE_ok hv hst)
  have cE := Ver.setE_cases hv hgs
  have L50 : ((Ver.setV p s gs).length : Int) ≤ 50 := by have := Ver.setV_short (s := s) hv hgs; omega
  have hlen := hgs.1.2
  have hmem := Lib.hid (Ver.mem_set hv hgs hst)
  have hrev := Lib.hid (fun A c w => Settings_rev p s A c gs w hv hgs)
  have hW := Lib.hid (Ver.wide_sub hv hgs)
  have cW := Ver.setE_cases (Ver.wide_ok hv) hgs
  have LW50 : ((Ver.setV p (min p (s + 1)) gs).length : Int) ≤ 50 := by have := Ver.setV_short (Ver.wide_ok hv) hgs; omega
  have zW := Lib.hid (fun A c w => Settings_any p (min p (s + 1)) A c gs w (by have := hgs.1; omega))
  have hq : (min p (s + 1) = p ∧ p ≤ s + 1) ∨ (min p (s + 1) = s + 1 ∧ s + 1 < p) := by omega
  have hM := Lib.hid (fun h => Ver.more_sub (x := (m, l)) hv hgs h)
  have hsn := Lib.hid (fun x h0 h1 => Ver.mem_seen (l := x) hv hst h0 h1)
  have hsl : ((Ver.seenV p s st).length : Int) ≤ p := by
    have := Ver.seenU_len p s st p.toNat
    rw [Ver.seenV_ok hv hst]
    have := hv.1
    omega
  have hgl : Hid (∀ (j : Nat) (g : Int × Int), gs[j]? = some g → Ver.glP p g) := fun j g hj => hgs.2 g (List.mem_of_getElem? hj)
  obtain ⟨s0, s1⟩ := hst
  clear hgs hg
  unfold Ver.vP at hv
  go_enter Try.func12, Try.ntmps12
  go_wp2_with fail
  refine (IsVernier_any p s _).mono ?_
  rintro e w1 ⟨rfl, hb1⟩
  have hB1 : Below w.heap.size w w1 := Below.trans (by (repeat' (first | (with_reducible exact Below.refl _ _) | (with_reducible assumption) | (with_reducible refine Below.alloc ?_ ?_ _) | (with_reducible refine below_drewN ?_ _) | (with_reducible refine Below.drew ?_) | (with_reducible refine Below.setCell ?_ ?_ _) | go_size))) (hb1.mono (by first | omega | (simp; done) | (simp; omega))); have hz1 := hb1.size; try simp at hz1
  have hl1v : w.heap.size < w1.heap.size := (by omega); have hx1v0 : w1.cell? ⟨w.heap.size, 0, none⟩ = some (.int .i64 (p)) := (by rw [(hb1.cell (by first | omega | (simp; done) | (simp; omega)))]; (repeat (rw [World.cell?_alloc_lt _ _ _ (by first | omega | (simp; done) | (simp; omega))])); go_cell); have hx1v1 : w1.cell? ⟨w.heap.size, 1, none⟩ = some (.int .i64 (s)) := (by rw [(hb1.cell (by first | omega | (simp; done) | (simp; omega)))]; (repeat (rw [World.cell?_alloc_lt _ _ _ (by first | omega | (simp; done) | (simp; omega))])); go_cell)
  have hl1o : w.heap.size + 1 < w1.heap.size := (by omega); have hx1o0 : w1.cell? ⟨w.heap.size + 1, 0, none⟩ = some (.int .i64 (m)) := (by rw [(hb1.cell (by first | omega | (simp; done) | (simp; omega)))]; (repeat (rw [World.cell?_alloc_lt _ _ _ (by first | omega | (simp; done) | (simp; omega))])); go_cell); have hx1o1 : w1.cell? ⟨w.heap.size + 1, 1, none⟩ = some (.int .i64 (l)) := (by rw [(hb1.cell (by first | omega | (simp; done) | (simp; omega)))]; (repeat (rw [World.cell?_alloc_lt _ _ _ (by first | omega | (simp; done) | (simp; omega))])); go_cell); have hx1o2 : w1.cell? ⟨w.heap.size + 1, 2, none⟩ = some (.int .i64 (st)) := (by rw [(hb1.cell (by first | omega | (simp; done) | (simp; omega)))]; (repeat (rw [World.cell?_alloc_lt _ _ _ (by first | omega | (simp; done) | (simp; omega))])); go_cell)
  rw [e1.out]
  go_wp2_with fail
  refine (AreGlances_any p s A c gs _ HV.out (by omega) (gls_keep HG.out hB1)).mono ?_
  rintro e w2 ⟨rfl, hb2⟩
  have hB2 : Below w.heap.size w w2 := Below.trans (by (repeat' (first | (with_reducible exact Below.refl _ _) | (with_reducible assumption) | (with_reducible refine Below.alloc ?_ ?_ _) | (with_reducible refine below_drewN ?_ _) | (with_reducible refine Below.drew ?_) | (with_reducible refine Below.setCell ?_ ?_ _) | go_size))) (hb2.mono (by first | omega | (simp; done) | (simp; omega))); have hz2 := hb2.size; try simp at hz2
  have hl2v : w.heap.size < w2.heap.size := (by omega); have hx2v0 : w2.cell? ⟨w.heap.size, 0, none⟩ = some (.int .i64 (p)) := (by rw [(hb2.cell (by first | omega | (simp; done) | (simp; omega)))]; (repeat (rw [World.cell?_alloc_lt _ _ _ (by first | omega | (simp; done) | (simp; omega))])); go_cell); have hx2v1 : w2.cell? ⟨w.heap.size, 1, none⟩ = some (.int .i64 (s)) := (by rw [(hb2.cell (by first | omega | (simp; done) | (simp; omega)))]; (repeat (rw [World.cell?_alloc_lt _ _ _ (by first | omega | (simp; done) | (simp; omega))])); go_cell)
  have hl2o : w.heap.size + 1 < w2.heap.size := (by omega); have hx2o0 : w2.cell? ⟨w.heap.size + 1, 0, none⟩ = some (.int .i64 (m)) := (by rw [(hb2.cell (by first | omega | (simp; done) | (simp; omega)))]; (repeat (rw [World.cell?_alloc_lt _ _ _ (by first | omega | (simp; done) | (simp; omega))])); go_cell); have hx2o1 : w2.cell? ⟨w.heap.size + 1, 1, none⟩ = some (.int .i64 (l)) := (by rw [(hb2.cell (by first | omega | (simp; done) | (simp; omega)))]; (repeat (rw [World.cell?_alloc_lt _ _ _ (by first | omega | (simp; done) | (simp; omega))])); go_cell); have hx2o2 : w2.cell? ⟨w.heap.size + 1, 2, none⟩ = some (.int .i64 (st)) := (by rw [(hb2.cell (by first | omega | (simp; done) | (simp; omega)))]; (repeat (rw [World.cell?_alloc_lt _ _ _ (by first | omega | (simp; done) | (simp; omega))])); go_cell)
  rw [e2.out]
  go_wp2_with fail
  refine (Within_yes HST.out _).mono ?_
  rintro e w9 ⟨rfl, rfl⟩
  go_wp2_with fail
  refine (Settings_any p s A c gs _ (by omega) (gls_keep HG.out hB2)).mono ?_
  rintro e w3 ⟨v3, rfl, hown3, hb3⟩
  have hB3 : Below w.heap.size w w3 := Below.trans (by (repeat' (first | (with_reducible exact Below.refl _ _) | (with_reducible assumption) | (with_reducible refine Below.alloc ?_ ?_ _) | (with_reducible refine below_drewN ?_ _) | (with_reducible refine Below.drew ?_) | (with_reducible refine Below.setCell ?_ ?_ _) | go_size))) (hb3.mono (by first | omega | (simp; done) | (simp; omega))); have hz3 := hb3.size; try simp at hz3
  have hl3v : w.heap.size < w3.heap.size := (by omega); have hx3v0 : w3.cell? ⟨w.heap.size, 0, none⟩ = some (.int .i64 (p)) := (by rw [(hb3.cell (by first | omega | (simp; done) | (simp; omega)))]; (repeat (rw [World.cell?_alloc_lt _ _ _ (by first | omega | (simp; done) | (simp; omega))])); go_cell); have hx3v1 : w3.cell? ⟨w.heap.size, 1, none⟩ = some (.int .i64 (s)) := (by rw [(hb3.cell (by first | omega | (simp; done) | (simp; omega)))]; (repeat (rw [World.cell?_alloc_lt _ _ _ (by first | omega | (simp; done) | (simp; omega))])); go_cell)
  have hl3o : w.heap.size + 1 < w3.heap.size := (by omega); have hx3o0 : w3.cell? ⟨w.heap.size + 1, 0, none⟩ = some (.int .i64 (m)) := (by rw [(hb3.cell (by first | omega | (simp; done) | (simp; omega)))]; (repeat (rw [World.cell?_alloc_lt _ _ _ (by first | omega | (simp; done) | (simp; omega))])); go_cell); have hx3o1 : w3.cell? ⟨w.heap.size + 1, 1, none⟩ = some (.int .i64 (l)) := (by rw [(hb3.cell (by first | omega | (simp; done) | (simp; omega)))]; (repeat (rw [World.cell?_alloc_lt _ _ _ (by first | omega | (simp; done) | (simp; omega))])); go_cell); have hx3o2 : w3.cell? ⟨w.heap.size + 1, 2, none⟩ = some (.int .i64 (st)) := (by rw [(hb3.cell (by first | omega | (simp; done) | (simp; omega)))]; (repeat (rw [World.cell?_alloc_lt _ _ _ (by first | omega | (simp; done) | (simp; omega))])); go_cell)
  have I3 := Lib.hid (Ints.of_own hown3)
  clear hown3 hb1 hb2 hB1 hB2 hx1v0 hx1v1 hx1o0 hx1o1 hx1o2 hx2v0 hx2v1 hx2o0 hx2o1 hx2o2
  generalize Ver.setV p s gs = xs at *
  generalize Ver.setE p s gs = E at *
  obtain ⟨A3, c3, rfl⟩ := ints_form I3.out
  go_upto_region 4 with fail
  go_cut [62] (fun b wx => b = .bool false ∧ wx = w3)
  case first => as_aux_lemma =>
    rcases cE with ⟨rfl, cl⟩ | ⟨rfl, cl⟩
    · have cl' : (0 : Int) < (xs.length : Int) := by omega
      clear cl
      go_wp2_with fail
      go_meet
      exact ⟨by simp; omega, rfl⟩
    · have cl' : (xs.length : Int) ≤ 0 := by omega
      clear cl
      go_wp2_with fail
      go_meet
      exact ⟨by simp; exact ⟨by omega, List.eq_nil_of_length_eq_zero (by omega)⟩, rfl⟩
  case rest =>
  obtain ⟨rfl, rfl⟩ := hcut
  go_wp2_with fail
  refine (Seen_any p s st _).mono ?_
  rintro e w4 ⟨v4, rfl, hown4, hb4⟩
  have hB4 : Below w.heap.size w w4 := Below.trans (by (repeat' (first | (with_reducible exact Below.refl _ _) | (with_reducible assumption) | (with_reducible refine Below.alloc ?_ ?_ _) | (with_reducible refine below_drewN ?_ _) | (with_reducible refine Below.drew ?_) | (with_reducible refine Below.setCell ?_ ?_ _) | go_size))) (hb4.mono (by first | omega | (simp; done) | (simp; omega))); have hz4 := hb4.size; try simp at hz4
  have hl4v : w.heap.size < w4.heap.size := (by omega); have hx4v0 : w4.cell? ⟨w.heap.size, 0, none⟩ = some (.int .i64 (p)) := (by rw [(hb4.cell (by first | omega | (simp; done) | (simp; omega)))]; (repeat (rw [World.cell?_alloc_lt _ _ _ (by first | omega | (simp; done) | (simp; omega))])); go_cell); have hx4v1 : w4.cell? ⟨w.heap.size, 1, none⟩ = some (.int .i64 (s)) := (by rw [(hb4.cell (by first | omega | (simp; done) | (simp; omega)))]; (repeat (rw [World.cell?_alloc_lt _ _ _ (by first | omega | (simp; done) | (simp; omega))])); go_cell)
  have hl4o : w.heap.size + 1 < w4.heap.size := (by omega); have hx4o0 : w4.cell? ⟨w.heap.size + 1, 0, none⟩ = some (.int .i64 (m)) := (by rw [(hb4.cell (by first | omega | (simp; done) | (simp; omega)))]; (repeat (rw [World.cell?_alloc_lt _ _ _ (by first | omega | (simp; done) | (simp; omega))])); go_cell); have hx4o1 : w4.cell? ⟨w.heap.size + 1, 1, none⟩ = some (.int .i64 (l)) := (by rw [(hb4.cell (by first | omega | (simp; done) | (simp; omega)))]; (repeat (rw [World.cell?_alloc_lt _ _ _ (by first | omega | (simp; done) | (simp; omega))])); go_cell); have hx4o2 : w4.cell? ⟨w.heap.size + 1, 2, none⟩ = some (.int .i64 (st)) := (by rw [(hb4.cell (by first | omega | (simp; done) | (simp; omega)))]; (repeat (rw [World.cell?_alloc_lt _ _ _ (by first | omega | (simp; done) | (simp; omega))])); go_cell)
  rw [e4.out]
  have I4 := Lib.hid (Ints.of_own hown4)
  have I3' := Lib.hid (ints_keep I3.out hb4)
  have HG4 := Lib.hid (gls_keep HG.out hB4)
  clear hown4 hb3 hb4 hB3 I3 HG hx3v0 hx3v1 hx3o0 hx3o1 hx3o2
  generalize hsv : Ver.seenV p s st = sv at *
  clear hsv
  obtain ⟨A4, c4, rfl⟩ := ints_form I4.out
  go_wp2_with fail
  go_loopw [11, 12, 13] (fun b v x wr => ∃ k : Nat, (k : Int) ≤ gs.length ∧ x = .int .i64 ((k : Int) - 1) ∧ b = .bool (Ver.suf p s gs st k) ∧ Below w4.heap.size w4 wr ∧ w4.heap.size ≤ wr.heap.size ∧ wr.cell? ⟨w.heap.size, 0, none⟩ = some (.int .i64 p) ∧ wr.cell? ⟨w.heap.size + 1, 2, none⟩ = some (.int .i64 st) ∧ Hid (wr.ownsRow w4.heap.size 53 2 v (gs.drop k).length (flat (gs.drop k).reverse))) (fun _ _ x _ => (intOf x + 1).toNat)
  case atStart => exact ⟨gs.length, by omega, rfl, by rw [Ver.suf_end], Below.refl _ _, Nat.le_refl _, hx4v0, hx4o2, by rw [List.drop_length]; exact ⟨rfl, .inl ⟨rfl, rfl⟩⟩⟩
  case round =>
    obtain ⟨k, hk, rfl, rfl, hB, hsz, q0, q1, HO⟩ := hrel
    have hlv : w.heap.size < wr.heap.size := by omega
    have hlo : w.heap.size + 1 < wr.heap.size := by omega
    rcases Nat.eq_zero_or_pos k with rfl | hkp
    · as_aux_lemma =>
      rw [Ver.suf_zero]
      have HO0 := Lib.hid (show wr.ownsRow w4.heap.size 53 2 u12 gs.length (flat gs.reverse) from HO.out)
      clear HO
      obtain ⟨A5, c5, rfl⟩ := own_form HO0.out
      have q2 : wr.cell? ⟨w.heap.size, 1, none⟩ = some (.int .i64 s) := (hB.cell hl4v).trans hx4v1
      go_wp2_with fail
      refine (hrev.out A5 c5 _ (gls_of_own2 HO0.out (by simp))).mono ?_
      rintro e w5 ⟨v5, rfl, hown5, hb5⟩
      have hB45 : Below w4.heap.size w4 w5 := hB.trans (hb5.mono hsz)
      have hB5 : Below w.heap.size w w5 := hB4.trans (hB45.mono (by omega))
      have hz5 := hB45.size
      have r0 : w5.cell? ⟨w.heap.size, 0, none⟩ = some (.int .i64 p) := (hB45.cell hl4v).trans hx4v0
      have r1 : w5.cell? ⟨w.heap.size, 1, none⟩ = some (.int .i64 s) := (hB45.cell hl4v).trans hx4v1
      have r2 : w5.cell? ⟨w.heap.size + 1, 0, none⟩ = some (.int .i64 m) := (hB45.cell hl4o).trans hx4o0
      have r3 : w5.cell? ⟨w.heap.size + 1, 1, none⟩ = some (.int .i64 l) := (hB45.cell hl4o).trans hx4o1
      have r4 : w5.cell? ⟨w.heap.size + 1, 2, none⟩ = some (.int .i64 st) := (hB45.cell hl4o).trans hx4o2
      have hl5v : w.heap.size < w5.heap.size := by omega
      have hl5o : w.heap.size + 1 < w5.heap.size := by omega
      have I5 := Lib.hid (Ints.of_own hown5)
      have I35 := Lib.hid (ints_keep I3'.out hB45)
      have HG5 := Lib.hid (gls_keep HG4.out hB45)
      obtain ⟨A6, c6, rfl⟩ := ints_form I5.out
      clear hown5 hB hB45 hb5 HO0 q0 q1 hx4v0 hx4v1 hx4o0 hx4o1 hx4o2 I4 I3' HG4 hB4
      go_wp2_with fail
      refine (In_any _ xs st _ I35.out (by omega)).mono ?_
      rintro e w6 ⟨rfl, rfl⟩
      rw [hmem.out]
      generalize Ver.allB p s gs st = Z at *
      go_wp2_with fail
      refine (SameInts_any _ _ xs xs _ I35.out I5.out (by omega) (by omega)).mono ?_
      rintro e w7 ⟨rfl, hb7⟩
      have hB7 : Below w.heap.size w w7 := Below.trans (by (repeat' (first | (with_reducible exact Below.refl _ _) | (with_reducible assumption) | (with_reducible refine Below.alloc ?_ ?_ _) | (with_reducible refine below_drewN ?_ _) | (with_reducible refine Below.drew ?_) | (with_reducible refine Below.setCell ?_ ?_ _) | go_size))) (hb7.mono (by first | omega | (simp; done) | (simp; omega))); have hz7 := hb7.size; try simp at hz7
      have hl7v : w.heap.size < w7.heap.size := (by omega); have hx7v0 : w7.cell? ⟨w.heap.size, 0, none⟩ = some (.int .i64 (p)) := (by rw [(hb7.cell (by first | omega | (simp; done) | (simp; omega)))]; (repeat (rw [World.cell?_alloc_lt _ _ _ (by first | omega | (simp; done) | (simp; omega))])); go_cell); have hx7v1 : w7.cell? ⟨w.heap.size, 1, none⟩ = some (.int .i64 (s)) := (by rw [(hb7.cell (by first | omega | (simp; done) | (simp; omega)))]; (repeat (rw [World.cell?_alloc_lt _ _ _ (by first | omega | (simp; done) | (simp; omega))])); go_cell)
      have hl7o : w.heap.size + 1 < w7.heap.size := (by omega); have hx7o0 : w7.cell? ⟨w.heap.size + 1, 0, none⟩ = some (.int .i64 (m)) := (by rw [(hb7.cell (by first | omega | (simp; done) | (simp; omega)))]; (repeat (rw [World.cell?_alloc_lt _ _ _ (by first | omega | (simp; done) | (simp; omega))])); go_cell); have hx7o1 : w7.cell? ⟨w.heap.size + 1, 1, none⟩ = some (.int .i64 (l)) := (by rw [(hb7.cell (by first | omega | (simp; done) | (simp; omega)))]; (repeat (rw [World.cell?_alloc_lt _ _ _ (by first | omega | (simp; done) | (simp; omega))])); go_cell); have hx7o2 : w7.cell? ⟨w.heap.size + 1, 2, none⟩ = some (.int .i64 (st)) := (by rw [(hb7.cell (by first | omega | (simp; done) | (simp; omega)))]; (repeat (rw [World.cell?_alloc_lt _ _ _ (by first | omega | (simp; done) | (simp; omega))])); go_cell)
      have I37 := Lib.hid (ints_keep I35.out hb7)
      have HG7 := Lib.hid (gls_keep HG5.out hb7)
      clear I5 I35 HG5 hb7 hB5 r0 r1 r2 r3 r4 hmem hrev
      generalize Ver.setV p (min p (s + 1)) gs = ws at *
      generalize Ver.setE p (min p (s + 1)) gs = EW at *
      generalize min p (s + 1) = q at *
      have hqc : (q = p ∧ p ≤ s + 1) ∨ (q = s + 1 ∧ s + 1 < p) := hq
      clear hq
      rcases hqc with ⟨hq1, hq2⟩ | ⟨hq1, hq2⟩
      all_goals
        rw [hq1] at zW
        clear hq1
        go_wp2_with fail
        refine (zW.out A c _ (gls_keep HG7.out ((Below.refl _ _).alloc (Nat.le_refl _) _))).mono ?_
        rintro e w8 ⟨v8, rfl, hown8, hb8⟩
        have hB8 : Below w.heap.size w w8 := Below.trans (by (repeat' (first | (with_reducible exact Below.refl _ _) | (with_reducible assumption) | (with_reducible refine Below.alloc ?_ ?_ _) | (with_reducible refine below_drewN ?_ _) | (with_reducible refine Below.drew ?_) | (with_reducible refine Below.setCell ?_ ?_ _) | go_size))) (hb8.mono (by first | omega | (simp; done) | (simp; omega))); have hz8 := hb8.size; try simp at hz8
        have hl8v : w.heap.size < w8.heap.size := (by omega); have hx8v0 : w8.cell? ⟨w.heap.size, 0, none⟩ = some (.int .i64 (p)) := (by rw [(hb8.cell (by first | omega | (simp; done) | (simp; omega)))]; (repeat (rw [World.cell?_alloc_lt _ _ _ (by first | omega | (simp; done) | (simp; omega))])); go_cell); have hx8v1 : w8.cell? ⟨w.heap.size, 1, none⟩ = some (.int .i64 (s)) := (by rw [(hb8.cell (by first | omega | (simp; done) | (simp; omega)))]; (repeat (rw [World.cell?_alloc_lt _ _ _ (by first | omega | (simp; done) | (simp; omega))])); go_cell)
        have hl8o : w.heap.size + 1 < w8.heap.size := (by omega); have hx8o0 : w8.cell? ⟨w.heap.size + 1, 0, none⟩ = some (.int .i64 (m)) := (by rw [(hb8.cell (by first | omega | (simp; done) | (simp; omega)))]; (repeat (rw [World.cell?_alloc_lt _ _ _ (by first | omega | (simp; done) | (simp; omega))])); go_cell); have hx8o1 : w8.cell? ⟨w.heap.size + 1, 1, none⟩ = some (.int .i64 (l)) := (by rw [(hb8.cell (by first | omega | (simp; done) | (simp; omega)))]; (repeat (rw [World.cell?_alloc_lt _ _ _ (by first | omega | (simp; done) | (simp; omega))])); go_cell); have hx8o2 : w8.cell? ⟨w.heap.size + 1, 2, none⟩ = some (.int .i64 (st)) := (by rw [(hb8.cell (by first | omega | (simp; done) | (simp; omega)))]; (repeat (rw [World.cell?_alloc_lt _ _ _ (by first | omega | (simp; done) | (simp; omega))])); go_cell)
        have I8 := Lib.hid (Ints.of_own hown8)
        have hb78 : Below w7.heap.size w7 w8 := Below.trans ((Below.refl _ _).alloc (Nat.le_refl _) _) (hb8.mono (by simp))
        have I38 := Lib.hid (ints_keep I37.out hb78)
        have HG8 := Lib.hid (gls_keep HG7.out hb78)
        clear hown8 hb8 hb78 hB7 I37 HG7 hx7v0 hx7v1 hx7o0 hx7o1 hx7o2 zW
        obtain ⟨A8, c8, rfl⟩ := ints_form I8.out
        go_upto_region 21 with fail
        go_cut [170] (fun b wx => b = .bool false ∧ wx = w8)
        case first => as_aux_lemma =>
          have y1 : Hid (∀ W, W = w8 → Calls Try.prog 50 #[.slice A3 xs.length c3, .slice A8 ws.length c8] W fun e w' => e = .returned (.bool true) ∧ w' = W) := fun W e => by subst e; exact subset_yes _ _ xs ws _ I38.out I8.out (by omega) (by omega) hW.out.1 hW.out.2
          rcases cW with ⟨rfl, cl⟩ | ⟨rfl, cl⟩
          all_goals
            clear cl
            go_wp2_with fail
            refine (y1.out _ rfl).mono ?_
            rintro e w9 ⟨rfl, rfl⟩
            go_wp2_with fail
            go_meet
            exact ⟨by first | rfl | (simp; done) | (simp; omega), rfl⟩
        case rest =>
        obtain ⟨rfl, rfl⟩ := hcut
        obtain ⟨w80, rfl⟩ : ∃ w80 : World, w80 = wc := ⟨_, rfl⟩
        clear hW cW LW50 I8
        go_wp2_with fail
        go_cut [19] (fun v wx => ∃ A' c', v = .slice A' (gs.length + 1) c' ∧ Below w80.heap.size w80 wx ∧ Hid (Gls wx wx.heap.size A' (gs ++ [(m, l)])))
        case first => as_aux_lemma =>
          go_region_law (first
            | (refine step_copy (.tmp 171) (.tmp 172) rfl rfl (w0 := w80) _ A c gs rfl rfl (by omega) (gls_prs.1 HG8.out) (by (repeat' (first | (with_reducible exact Below.refl _ _) | (with_reducible assumption) | (with_reducible refine Below.alloc ?_ ?_ _) | (with_reducible refine below_drewN ?_ _) | (with_reducible refine Below.drew ?_) | (with_reducible refine Below.setCell ?_ ?_ _) | go_size))) (by first | (refine heap_alloc_at ?_; simp; done) | (refine (Below.heap_alloc _ _ _ ?_).trans (heap_alloc_at ?_) <;> (simp; done))) (by simp) ?_; intro A' c' x1 hown1 hb1 hg1; have hzx1 : w80.heap.size ≤ x1.heap.size := hb1.size; have d0 : x1.cell? ⟨w.heap.size + 1, 0, none⟩ = some (.int .i64 m) := (hb1.cell hl8o).trans hx8o0; have d1 : x1.cell? ⟨w.heap.size + 1, 1, none⟩ = some (.int .i64 l) := (hb1.cell hl8o).trans hx8o1)
            | (refine step_pushp (.tmp 173) (.tmp 176) rfl rfl (w0 := w80) _ (m, l) gs _ _ rfl rfl (by omega) (by (repeat' (first | (with_reducible exact Below.refl _ _) | (with_reducible assumption) | (with_reducible refine Below.alloc ?_ ?_ _) | (with_reducible refine below_drewN ?_ _) | (with_reducible refine Below.drew ?_) | (with_reducible refine Below.setCell ?_ ?_ _) | go_size))) (by first | exact hown1 | exact hown1.alloc _) (by first | (refine heap_alloc_at ?_; simp; done) | (rw [hg1.block _ (by simp <;> omega) (by simp <;> omega)]; first | (refine heap_alloc_at ?_; simp; done) | (refine (Below.heap_alloc _ _ _ ?_).trans (heap_alloc_at ?_) <;> (simp; done)))) ?_; intro A2 c2 x2 hown2 hb2))
          all_goals
            go_wp2_with fail
            go_meet
            exact ⟨_, _, rfl, hb2, gls_of_own2 hown2 (by simp)⟩
        case rest =>
        obtain ⟨A9, c9, rfl, hb89, HG9⟩ := hcut
        have hz9 := hb89.size
        have hB9 : Below w.heap.size w wc := hB8.trans (hb89.mono hB8.size)
        have hl9v : w.heap.size < wc.heap.size := by omega
        have k0 : wc.cell? ⟨w.heap.size, 0, none⟩ = some (.int .i64 p) := (hb89.cell hl8v).trans hx8v0
        have k1 : wc.cell? ⟨w.heap.size, 1, none⟩ = some (.int .i64 s) := (hb89.cell hl8v).trans hx8v1
        have I39 := Lib.hid (ints_keep I38.out hb89)
        clear hx8v0 hx8v1 hx8o0 hx8o1 hx8o2 hb89 hB8 I38
        have hlen2 : (gs ++ [(m, l)]).length = gs.length + 1 := by simp
        have xA : Hid (∀ W, Gls W W.heap.size A9 (gs ++ [(m, l)]) → Calls Try.prog 48 #[.agg #[.int .i64 p, .int .i64 s], .slice A9 (gs.length + 1) c9] W fun e w' => e = .returned (.bool (Ver.glsB p (gs ++ [(m, l)]))) ∧ Below W.heap.size W w') := fun W hW => by
          have h := AreGlances_any p s A9 c9 (gs ++ [(m, l)]) W HV.out (by rw [hlen2]; omega) hW
          rw [hlen2] at h
          exact h
        have xS : Hid (∀ W, Gls W W.heap.size A9 (gs ++ [(m, l)]) → Calls Try.prog 35 #[.agg #[.int .i64 p, .int .i64 s], .slice A9 (gs.length + 1) c9] W (SomeInts (Ver.setV p s (gs ++ [(m, l)])) (Ver.setE p s (gs ++ [(m, l)])) W)) := fun W hW => by
          have h := Settings_any p s A9 c9 (gs ++ [(m, l)]) W (by rw [hlen2]; omega) hW
          rw [hlen2] at h
          exact h
        clear hlen2
        go_wp2_with fail
        refine (xA.out _ HG9.out).mono ?_
        rintro e w10 ⟨rfl, hb10⟩
        have hB10 : Below w.heap.size w w10 := Below.trans (by (repeat' (first | (with_reducible exact Below.refl _ _) | (with_reducible assumption) | (with_reducible refine Below.alloc ?_ ?_ _) | (with_reducible refine below_drewN ?_ _) | (with_reducible refine Below.drew ?_) | (with_reducible refine Below.setCell ?_ ?_ _) | go_size))) (hb10.mono (by first | omega | (simp; done) | (simp; omega))); have hz10 := hb10.size; try simp at hz10
        have hl10v : w.heap.size < w10.heap.size := (by omega); have hx10v0 : w10.cell? ⟨w.heap.size, 0, none⟩ = some (.int .i64 (p)) := (by rw [(hb10.cell (by first | omega | (simp; done) | (simp; omega)))]; (repeat (rw [World.cell?_alloc_lt _ _ _ (by first | omega | (simp; done) | (simp; omega))])); go_cell); have hx10v1 : w10.cell? ⟨w.heap.size, 1, none⟩ = some (.int .i64 (s)) := (by rw [(hb10.cell (by first | omega | (simp; done) | (simp; omega)))]; (repeat (rw [World.cell?_alloc_lt _ _ _ (by first | omega | (simp; done) | (simp; omega))])); go_cell)
        have I310 := Lib.hid (ints_keep I39.out hb10)
        have HG10 := Lib.hid (gls_keep HG9.out hb10)
        clear k0 k1 hB9 I39 HG9 hb10
        cases hmb : Ver.glsB p (gs ++ [(m, l)])
        · as_aux_lemma =>
          clear hmb xA xS
          go_wp2_with fail
          refine (works_any _).mono ?_
          rintro x w12 ⟨rfl, hb12⟩
          have hB12 : Below w.heap.size w w12 := Below.trans (by (repeat' (first | (with_reducible exact Below.refl _ _) | (with_reducible assumption) | (with_reducible refine Below.alloc ?_ ?_ _) | (with_reducible refine below_drewN ?_ _) | (with_reducible refine Below.drew ?_) | (with_reducible refine Below.setCell ?_ ?_ _) | go_size))) (hb12.mono (by first | omega | (simp; done) | (simp; omega))); have hz12 := hb12.size; try simp at hz12
          go_wp2_with fail
          go_returns
          exact ⟨rfl, hB12⟩
        · as_aux_lemma =>
          have hmP := Ver.glsB_true.1 hmb
          have cM := Ver.setE_cases HV.out hmP
          have hM2 := Lib.hid (hM.out hmP)
          have LM50 : ((Ver.setV p s (gs ++ [(m, l)])).length : Int) ≤ 50 := by have := Ver.setV_short (s := s) HV.out hmP; omega
          clear hmb hmP hM xA
          go_wp2_with fail
          refine (xS.out _ HG10.out).mono ?_
          rintro e w11 ⟨v11, rfl, hown11, hb11⟩
          have hB11 : Below w.heap.size w w11 := Below.trans (by (repeat' (first | (with_reducible exact Below.refl _ _) | (with_reducible assumption) | (with_reducible refine Below.alloc ?_ ?_ _) | (with_reducible refine below_drewN ?_ _) | (with_reducible refine Below.drew ?_) | (with_reducible refine Below.setCell ?_ ?_ _) | go_size))) (hb11.mono (by first | omega | (simp; done) | (simp; omega))); have hz11 := hb11.size; try simp at hz11
          have I11 := Lib.hid (Ints.of_own hown11)
          have I311 := Lib.hid (ints_keep I310.out hb11)
          clear hown11 hb11 I310 HG10 xS hB10
          generalize Ver.setV p s (gs ++ [(m, l)]) = ms at *
          generalize Ver.setE p s (gs ++ [(m, l)]) = EM at *
          obtain ⟨A11, c11, rfl⟩ := ints_form I11.out
          have y1 : Hid (∀ W, W = w11 → Calls Try.prog 50 #[.slice A11 ms.length c11, .slice A3 xs.length c3] W fun e w' => e = .returned (.bool true) ∧ w' = W) := fun W e => by subst e; exact subset_yes _ _ ms xs _ I11.out I311.out (by omega) (by omega) hM2.out.1 hM2.out.2
          clear hM2 I11 I311
          rcases cM with ⟨rfl, cl⟩ | ⟨rfl, cl⟩
          all_goals
            clear cl
            go_wp2_with fail
            refine (y1.out _ rfl).mono ?_
            rintro e w9 ⟨rfl, rfl⟩
            go_wp2_with fail
            refine (works_any _).mono ?_
            rintro x w12 ⟨rfl, hb12⟩
            have hB12 : Below w.heap.size w w12 := Below.trans (by (repeat' (first | (with_reducible exact Below.refl _ _) | (with_reducible assumption) | (with_reducible refine Below.alloc ?_ ?_ _) | (with_reducible refine below_drewN ?_ _) | (with_reducible refine Below.drew ?_) | (with_reducible refine Below.setCell ?_ ?_ _) | go_size))) (hb12.mono (by first | omega | (simp; done) | (simp; omega))); have hz12 := hb12.size; try simp at hz12
            go_wp2_with fail
            go_returns
            exact ⟨rfl, hB12⟩
    · obtain ⟨j, rfl⟩ : ∃ j, k = j + 1 := ⟨k - 1, by omega⟩
      have ej : (((j + 1 : Nat) : Int) - 1) = (j : Int) := by omega
      rw [ej]
      clear ej hkp
      have hj0 := Int.natCast_nonneg j
      have hjl : (j : Int) < gs.length := by omega
      have hjn : j < gs.length := by omega
      have hgj : gs[j]? = some gs[j] := List.getElem?_eq_getElem hjn
      have hgp := hgl.out j _ hgj
      have hss := Lib.hid (Ver.suf_step (p := p) (s := s) (n := st) hgj)
      have hbk := Lib.hid (Ver.back_step hgj)
      have hdl : (gs.drop j).length = (gs.drop (j + 1)).length + 1 := by simp; omega
      have HDL := Lib.hid hdl
      have hd6 : (gs.drop (j + 1)).length ≤ 6 := by simp; omega
      clear hdl
      obtain ⟨b, off, rfl, hbB, hcc⟩ := HG4.out (by omega)
      obtain ⟨c0, c1⟩ := hcc j _ hgj
      have d0 := (hB.cell (p := ⟨b, off + j * 2, none⟩) hbB).trans c0
      have d1 := (hB.cell (p := ⟨b, off + j * 2 + 1, none⟩) hbB).trans c1
      have hbr : b < wr.heap.size := by omega
      have I4r := Lib.hid (show Ints wr w4.heap.size _ sv from I4.out.keep hB)
      clear c0 c1 hgj hcc
      generalize gs[j] = g at *
      unfold Ver.glP at hgp
      have hpn : ¬ p = 0 := by omega
      have hdn := Int.ediv_nonneg (a := st) (b := p) s0 (by omega)
      have hdl2 := Int.ediv_le_self (a := st) p s0
      have hwq : IntKind.i64.wrap (st / p) = st / p := IntWalk.i64_in _ (by omega)
      have hwt : st.tdiv p = st / p := Int.tdiv_eq_ediv_of_nonneg s0
      have hin := Lib.hid (hsn.out g.2 hgp.2.1 hgp.2.2)
      go_wp2_with fail
      go_upto_region 14 with fail
      go_cut [11] (fun b wx => b = .bool (Ver.suf p s gs st j) ∧ ∃ n, wx = wr.drewN n)
      case first => as_aux_lemma =>
        clear HO hbk HDL
        cases hpre : Ver.suf p s gs st (j + 1)
        · have hF : Hid (Ver.suf p s gs st j = false) := by rw [hss.out, hpre]; rfl
          clear hpre hss
          go_quiet (fail)
          go_wp2_with fail
          go_meet
          exact ⟨by rw [hF.out], _, rfl⟩
        ·
          by_cases hm : st / p = g.1
          · have hmB : (st / p == g.1) = true := by simpa using hm
            have hF : Hid (Ver.suf p s gs st j = Ver.fitB p s st g.2) := by rw [hss.out, hpre, decide_eq_true hm]; rfl
            clear hm hpre hss
            have y1 : Hid (∀ n, Calls Try.prog 49 #[.slice A4 sv.length c4, .int .i64 g.2] (wr.drewN n) fun e w' => e = .returned (.bool (Ver.fitB p s st g.2)) ∧ w' = wr.drewN n) := fun n => by
              have := In_any (.slice A4 sv.length c4) sv g.2 (wr.drewN n) (((I4r.out).keep (below_drewN (Below.refl _ _) n)).more hsz) (by omega)
              rw [hin.out] at this
              exact this
            go_quiet ((go_at_call 49; (with_reducible exact Calls.quiet_of_same (y1.out _))))
            go_wp2_with fail
            go_meet
            exact ⟨by rw [hF.out], _, rfl⟩
          · have hmB : (st / p == g.1) = false := by simpa using hm
            have hF : Hid (Ver.suf p s gs st j = false) := by rw [hss.out, hpre, decide_eq_false hm]; rfl
            clear hm hpre hss
            go_quiet (fail)
            go_wp2_with fail
            go_meet
            exact ⟨by rw [hF.out], _, rfl⟩
      case rest =>
      obtain ⟨rfl, n, rfl⟩ := hcut
      have HO' := Lib.hid (show (wr.drewN n).ownsRow w4.heap.size 53 2 u12 (gs.drop (j + 1)).length (flat (gs.drop (j + 1)).reverse) from HO.out)
      go_wp2_with (at_builtin; refine wpList_pushp rfl (.tmp 109) (.tmp 114) rfl g w4.heap.size u12 _ _ rfl rfl HO'.out (by simpa using hsz) (by omega) ?_; intro v' w5 hown5 hb5; have HO5 := Lib.hid hown5; clear hown5)
      go_roundw
      case rel => exact ⟨j, by omega, by go_num, rfl, (below_drewN hB _).trans hb5, by have := hb5.size; simp at this; omega, (hb5.cell (by simp; omega)).trans q0, (hb5.cell (by simp; omega)).trans q1, by rw [HDL.out, hbk.out, flat_append]; exact HO5⟩
      case measure => first | (simp [intOf]; done) | (simp [intOf]; omega)
end Go.Proofs.Ytfjcmmdfipppoaa
