/- Walks: the points of a walk that no place reaches, by the reference and by the program. -/
import Derived.Test.YtmjcdggmofohcaaRe5
namespace Go.Proofs.Ytmjcdggmofohcaa
open Go.RowKit
namespace Wl
def stkTo (t : Trk) (ws : List Pt) : Nat → List Int
  | 0 => []
  | k + 1 => if (reachL t (ptAt ws k)).length = 0 then stkTo t ws k ++ [(k : Int)] else stkTo t ws k
theorem stkTo_len (t : Trk) (ws : List Pt) : ∀ k, (stkTo t ws k).length ≤ k
  | 0 => Nat.le_refl _
  | k + 1 => by
    have := stkTo_len t ws k
    show (if (reachL t (ptAt ws k)).length = 0 then stkTo t ws k ++ [(k : Int)] else stkTo t ws k).length ≤ k + 1
    split
    · simp; omega
    · omega
def stkL (t : Trk) (ws : List Pt) : List Int := if chkV t ws = 0 then stkTo t ws ws.length else []
end Wl
set_option maxRecDepth 100000 in
set_option maxHeartbeats 8000000 in
theorem Stuck5_yes (t : Wl.Trk) (ws : List Wl.Pt) (A Aw : Option Addr) (c cw : Nat) (hl : t.ps.length ≤ 1000000000) (hlw : ws.length ≤ 1000000000) (h0 : Wl.chkV t ws = 0) (w : World) (hP : Prs w w.heap.size A t.ps) (hQ : Prs w w.heap.size Aw ws) :
    Calls Try.prog 21 #[.agg (trV t A c), .slice Aw ws.length cw] w (IntsEPost (Wl.stkTo t ws ws.length) 0 w) := by
  obtain ⟨ht, hw⟩ := Wl.chk_yes.1 h0
  have hl8 := (Wl.pts_all hw).2
  have hl9 : t.ps.length ≤ 8 := (Wl.trk_parts ht).2.2.2
  have hmo : Try.prog.follows .mixedOrders = true := by kernel_rfl
  have HC : Hid (∀ W, Below w.heap.size w W → Calls Try.prog 15 #[.agg (trV t A c), .slice Aw ws.length cw] W (ErrPost (Wl.chkV t ws) W)) := fun W hW => Check5_any t ws A Aw c cw hl hlw W (prs_keep hP hW) (prs_keep hQ hW)
  have HRE : Hid (∀ k, k < ws.length → ∀ W, Below w.heap.size w W → Calls Try.prog 56 #[.agg (trV t A c), .agg #[.int .i64 (Wl.ptAt ws k).1, .int .i64 (Wl.ptAt ws k).2]] W (IntsPost (Wl.reachL t (Wl.ptAt ws k)) W)) := fun k hk W hW => reach5I_any t A c (Wl.ptAt ws k) (Wl.trk_sm ht) (Wl.pts_sm hw hk) (by omega) W (prs_keep hP hW)
  have HPW : Hid (∀ k, k < ws.length → ∀ W, Below w.heap.size w W → ∃ b off, Aw = some ⟨b, off, none⟩ ∧ b < w.heap.size ∧ W.cell? ⟨b, off + k * 2, none⟩ = some (.int .i64 (Wl.ptAt ws k).1) ∧ W.cell? ⟨b, off + k * 2 + 1, none⟩ = some (.int .i64 (Wl.ptAt ws k).2)) := fun k hk W hW => by
    obtain ⟨b, off, e, hb, hc⟩ := hQ (by omega)
    have hg : ws[k]? = some (Wl.ptAt ws k) := by unfold Wl.ptAt; rw [List.getElem?_eq_getElem hk]; rfl
    exact ⟨b, off, e, hb, (hW.cell (p := ⟨b, _, none⟩) hb).trans (hc k _ hg).1, (hW.cell (p := ⟨b, _, none⟩) hb).trans (hc k _ hg).2⟩
  have H0 : Hid (Wl.stkTo t ws 0 = []) := rfl
  have HS0 : Hid (∀ k : Nat, Wl.stkTo t ws (k + 1) = if (Wl.reachL t (Wl.ptAt ws k)).length = 0 then Wl.stkTo t ws k ++ [(k : Int)] else Wl.stkTo t ws k) := fun _ => rfl
  have HL : Hid (∀ k, (Wl.stkTo t ws k).length ≤ k) := Wl.stkTo_len t ws
  rw [h0] at HC
  clear hP hQ ht hw h0
  unfold IntsPost at HRE
  unfold ErrPost at HC
  generalize Wl.stkTo t ws = RT at *
  obtain ⟨RL, hRL⟩ : ∃ RL : Nat → List Int, ∀ k, Wl.reachL t (Wl.ptAt ws k) = RL k := ⟨fun k => Wl.reachL t (Wl.ptAt ws k), fun _ => rfl⟩
  simp only [hRL] at HRE HS0
  clear hRL
  obtain ⟨ps, cl, lo, hi⟩ := t
  unfold trV at *
  dsimp only at *
  go_enter Try.func21, Try.ntmps21
  go_wp2_with fail
  have bT := BoxS.new w 26 #[.slice A ps.length c, .int .i64 cl, .int .i64 lo, .int .i64 hi]
  have hBa : Below w.heap.size w (w.alloc (.cells #[.slice A ps.length c, .int .i64 cl, .int .i64 lo, .int .i64 hi] 26)) := by (repeat' (first | (with_reducible exact Below.refl _ _) | (with_reducible assumption) | (with_reducible refine Below.alloc ?_ ?_ _) | (with_reducible refine Below.drew ?_) | (with_reducible refine Below.setCell ?_ ?_ _) | go_size | (exact (by simp)) | omega))
  generalize World.alloc w _ = wa at *
  obtain ⟨s0, s1, s2, s3⟩ := boxS4 bT
  have lT := bT.lt
  try go_wp2_with fail
  refine (HC.out _ hBa).mono ?_
  rintro e wb ⟨rfl, hb⟩
  have hBb := hBa.trans (hb.mono hBa.size)
  have bT0 := bT.below hb
  clear s0 s1 s2 s3 lT bT hBa hb HC
  go_wp2_with fail
  go_loopg [7, 8] ws.length (fun g x y wx => ∃ k : Nat, Hid (k + g = ws.length) ∧ (k : Int) ≤ ws.length ∧ y = .int .i64 (k : Int) ∧ Below wb.heap.size wb wx ∧ wx.ownsRow wb.heap.size 3 1 x (RT k).length ((RT k).map (Value.int .i64)))
  case atStart => exact ⟨0, by simp [Hid], by omega, rfl, Below.refl _ _, by rw [H0.out]; exact owni_nil _ _⟩
  case round =>
    obtain ⟨k, hk, hk1, rfl, hbb, hown⟩ := hrel
    have hk0 := Int.natCast_nonneg k
    have bT1 := bT0.below hbb
    have hBw := hBb.trans (hbb.mono hBb.size)
    by_cases hlt : (k : Int) < ws.length
    · have hkn : k < ws.length := by omega
      have HS := Lib.hid (HS0.out k)
      have hln := HL.out k
      have HO := Lib.hid hown
      have HR1 := Lib.hid (HRE.out k hkn)
      have hw1 : IntKind.i64.wrap ((k : Int) + 1) = (k : Int) + 1 := IntWalk.i64_in _ (by omega)
      have hsz := hbb.size
      have hqq : Below wr.heap.size wr wr.drew := (Below.refl _ _).drew
      obtain ⟨b, off, hAe, hbl, _, _⟩ := HPW.out k hkn _ hBw
      have KC : Hid (∀ W', Below wr.heap.size wr W' → (W'.cell? ⟨w.heap.size, 0, none⟩ = some (.slice A ps.length c) ∧ W'.cell? ⟨w.heap.size, 1, none⟩ = some (.int .i64 cl) ∧ W'.cell? ⟨w.heap.size, 2, none⟩ = some (.int .i64 lo) ∧ W'.cell? ⟨w.heap.size, 3, none⟩ = some (.int .i64 hi)) ∧ W'.cell? ⟨b, off + k * 2, none⟩ = some (.int .i64 (Wl.ptAt ws k).1) ∧ W'.cell? ⟨b, off + k * 2 + 1, none⟩ = some (.int .i64 (Wl.ptAt ws k).2)) := fun W' h => by
        obtain ⟨b2, off2, e2, _, c1, c2⟩ := HPW.out k hkn _ (hBw.trans (h.mono hBw.size))
        rw [hAe] at e2
        obtain ⟨rfl, rfl⟩ : b = b2 ∧ off = off2 := by injection e2 with e2; injection e2 with e3 e4; exact ⟨e3, e4⟩
        exact ⟨boxS4 (bT1.below h), c1, c2⟩
      clear hown HS0 HPW HRE
      subst hAe
      generalize (Wl.ptAt ws k).1 = px at *
      generalize (Wl.ptAt ws k).2 = py at *
      generalize RT k = L at *
      generalize RL k = RK at *
      have d1 : decide ((k : Int) < 0) = false := decide_eq_false (by omega)
      have d2 : decide ((ws.length : Int) ≤ (k : Int)) = false := decide_eq_false (by omega)
      have d4 : decide (ws.length ≤ k) = false := decide_eq_false (by omega)
      have hbr : b < wr.heap.size := by have := hBw.size; omega
      by_cases hz : RK.length = 0
      · have hz1 : ((RK.length : Int) == 0) = true := by simp [hz]
        have HS2 : Hid (RT (k + 1) = L ++ [(k : Int)]) := by unfold Hid; rw [HS.out, if_pos hz]
        replace hz := Lib.hid hz
        go_wp2_with fail
        refine (wpIn_wide (n := 4)).1 ?_
        refine wpIn_region_held (fun W' => Below wr.heap.size wr W') 30 hmo ?_
        refine wpHeldIn_take (i := 0) (v := ?_) (plain_of (by kernel_rfl)) rfl (by kernel_rfl) (fun _ _ _ h => h) (yieldsSoIn_of (by kernel_rfl) ?_ (fun _ => rfl)) hqq ?_; rotate_left; focus (intro wq hw; have kq := KC.out wq hw; clear hw; go_simp; try (with_reducible rfl))
        refine wpHeldIn_take (i := 1) (v := ?_) (plain_of (by kernel_rfl)) rfl (by kernel_rfl) (fun _ _ _ h => h) (yieldsSoIn_of (by kernel_rfl) ?_ (fun _ => rfl)) hqq ?_; rotate_left; focus (intro wq hw; clear hw; go_simp; try (with_reducible rfl))
        refine wpHeldIn_take (i := 2) (v := ?_) (plain_of (by kernel_rfl)) rfl (by kernel_rfl) (fun _ _ _ h => h) (yieldsSoIn_of (by kernel_rfl) ?_ (fun _ => rfl)) hqq ?_; rotate_left; focus (intro wq hw; clear hw; go_simp; try (with_reducible rfl))
        refine wpHeldIn_take (i := 3) (v := ?_) (plain_of (by kernel_rfl)) rfl (by kernel_rfl) (fun _ _ _ h => h) (yieldsSoIn_of (by kernel_rfl) ?_ (fun _ => rfl)) hqq ?_; rotate_left; focus (intro wq hw; clear hw; go_simp; try (with_reducible rfl))
        refine wpHeldIn_take (i := 4) (v := ?_) (plain_of (by kernel_rfl)) rfl (by kernel_rfl) (fun _ _ _ h => h) (yieldsSoIn_of (by kernel_rfl) ?_ (fun _ => rfl)) hqq ?_; rotate_left; focus (intro wq hw; have kq := KC.out wq hw; clear hw; go_simp; try (with_reducible rfl))
        refine wpHeldIn_one (i := 5) (by kernel_rfl) (by kernel_rfl) rfl (by kernel_rfl) (fun K2 hK2 => ?_)
        go_simp
        refine ⟨trivial, (callsIn_wide.2 (HR1.out _ (hBw.trans (hqq.mono hBw.size)))).mono ?_⟩
        rintro e w8 ⟨v8, rfl, hI8, hb8⟩
        obtain ⟨A8, c8, rfl⟩ := ints_form hI8.out
        have q8 := hqq.trans (hb8.mono hqq.size)
        refine hK2 _ _ q8 ?_
        refine wpHeldIn_take (i := 6) (v := ?_) (plain_of (by kernel_rfl)) rfl (by kernel_rfl) (fun _ _ _ h => h) (yieldsSoIn_of (by kernel_rfl) ?_ (fun _ => rfl)) q8 ?_; rotate_left; focus (intro wq hw; clear hw; go_simp; try (with_reducible rfl))
        refine wpHeldIn_take (i := 7) (v := ?_) (plain_of (by kernel_rfl)) rfl (by kernel_rfl) (fun _ _ _ h => h) (yieldsSoIn_of (by kernel_rfl) ?_ (fun _ => rfl)) q8 ?_; rotate_left; focus (intro wq hw; clear hw; go_simp; try (with_reducible rfl))
        refine wpHeldIn_done (by kernel_rfl) ?_ _
        go_simp
        have HO2 := Lib.hid (owni_below HO.out q8)
        have hb2' := hbb.trans (q8.mono hbb.size)
        clear HO KC q8 hb8 hI8
        go_wp2_with (at_builtin; refine wpList_pushi rfl (.tmp 29) (.tmp 31) rfl (k : Int) wb.heap.size _ _ _ rfl rfl HO2.out (by have := hb2'.size; omega) (by omega) ?_; intro v' w5 hown5 hb5; have HO5 := Lib.hid hown5; clear hown5)
        obtain ⟨g', hg'⟩ : ∃ g', gk = g' + 1 := ⟨gk - 1, by have := hk.out; omega⟩
        go_roundg g'
        case measure => omega
        case rel =>
          refine ⟨k + 1, by have := hk.out; simp only [Hid]; omega, by omega, by go_num, hb2'.trans hb5, ?_⟩
          rw [HS2.out, List.length_append, List.map_append]
          exact HO5.out
      · have hz1 : ((RK.length : Int) == 0) = false := by simpa using hz
        have HS2 : Hid (RT (k + 1) = L) := by unfold Hid; rw [HS.out, if_neg hz]
        replace hz := Lib.hid hz
        go_wp2_with fail
        refine (wpIn_wide (n := 4)).1 ?_
        refine wpIn_region_held (fun W' => Below wr.heap.size wr W') 30 hmo ?_
        refine wpHeldIn_take (i := 0) (v := ?_) (plain_of (by kernel_rfl)) rfl (by kernel_rfl) (fun _ _ _ h => h) (yieldsSoIn_of (by kernel_rfl) ?_ (fun _ => rfl)) hqq ?_; rotate_left; focus (intro wq hw; have kq := KC.out wq hw; clear hw; go_simp; try (with_reducible rfl))
        refine wpHeldIn_take (i := 1) (v := ?_) (plain_of (by kernel_rfl)) rfl (by kernel_rfl) (fun _ _ _ h => h) (yieldsSoIn_of (by kernel_rfl) ?_ (fun _ => rfl)) hqq ?_; rotate_left; focus (intro wq hw; clear hw; go_simp; try (with_reducible rfl))
        refine wpHeldIn_take (i := 2) (v := ?_) (plain_of (by kernel_rfl)) rfl (by kernel_rfl) (fun _ _ _ h => h) (yieldsSoIn_of (by kernel_rfl) ?_ (fun _ => rfl)) hqq ?_; rotate_left; focus (intro wq hw; clear hw; go_simp; try (with_reducible rfl))
        refine wpHeldIn_take (i := 3) (v := ?_) (plain_of (by kernel_rfl)) rfl (by kernel_rfl) (fun _ _ _ h => h) (yieldsSoIn_of (by kernel_rfl) ?_ (fun _ => rfl)) hqq ?_; rotate_left; focus (intro wq hw; clear hw; go_simp; try (with_reducible rfl))
        refine wpHeldIn_take (i := 4) (v := ?_) (plain_of (by kernel_rfl)) rfl (by kernel_rfl) (fun _ _ _ h => h) (yieldsSoIn_of (by kernel_rfl) ?_ (fun _ => rfl)) hqq ?_; rotate_left; focus (intro wq hw; have kq := KC.out wq hw; clear hw; go_simp; try (with_reducible rfl))
        refine wpHeldIn_one (i := 5) (by kernel_rfl) (by kernel_rfl) rfl (by kernel_rfl) (fun K2 hK2 => ?_)
        go_simp
        refine ⟨trivial, (callsIn_wide.2 (HR1.out _ (hBw.trans (hqq.mono hBw.size)))).mono ?_⟩
        rintro e w8 ⟨v8, rfl, hI8, hb8⟩
        obtain ⟨A8, c8, rfl⟩ := ints_form hI8.out
        have q8 := hqq.trans (hb8.mono hqq.size)
        refine hK2 _ _ q8 ?_
        refine wpHeldIn_take (i := 6) (v := ?_) (plain_of (by kernel_rfl)) rfl (by kernel_rfl) (fun _ _ _ h => h) (yieldsSoIn_of (by kernel_rfl) ?_ (fun _ => rfl)) q8 ?_; rotate_left; focus (intro wq hw; clear hw; go_simp; try (with_reducible rfl))
        refine wpHeldIn_take (i := 7) (v := ?_) (plain_of (by kernel_rfl)) rfl (by kernel_rfl) (fun _ _ _ h => h) (yieldsSoIn_of (by kernel_rfl) ?_ (fun _ => rfl)) q8 ?_; rotate_left; focus (intro wq hw; clear hw; go_simp; try (with_reducible rfl))
        refine wpHeldIn_done (by kernel_rfl) ?_ _
        go_simp
        have HO2 := Lib.hid (owni_below HO.out q8)
        have hb2' := hbb.trans (q8.mono hbb.size)
        clear HO KC q8 hb8 hI8
        go_wp2_with fail
        obtain ⟨g', hg'⟩ : ∃ g', gk = g' + 1 := ⟨gk - 1, by have := hk.out; omega⟩
        go_roundg g'
        case measure => omega
        case rel =>
          refine ⟨k + 1, by have := hk.out; simp only [Hid]; omega, by omega, by go_num, hb2', ?_⟩
          rw [HS2.out]
          exact HO2.out
    · have ek : k = ws.length := by omega
      rw [ek] at hown
      have hI := Lib.hid (Ints.of_own (hown.mono (Nat.zero_le _)))
      clear hown ek
      go_wp2_with fail
      go_returns
      exact ⟨_, rfl, hI, hBw⟩
set_option maxRecDepth 100000 in
set_option maxHeartbeats 4000000 in
theorem Stuck5_any (t : Wl.Trk) (ws : List Wl.Pt) (A Aw : Option Addr) (c cw : Nat) (hl : t.ps.length ≤ 1000000000) (hlw : ws.length ≤ 1000000000) (w : World) (hP : Prs w w.heap.size A t.ps) (hQ : Prs w w.heap.size Aw ws) :
    Calls Try.prog 21 #[.agg (trV t A c), .slice Aw ws.length cw] w (IntsEPost (Wl.stkL t ws) (Wl.chkV t ws) w) := by
  by_cases h0 : Wl.chkV t ws = 0
  · unfold Wl.stkL
    rw [if_pos h0, h0]
    exact Stuck5_yes t ws A Aw c cw hl hlw h0 w hP hQ
  · have hS : Wl.stkL t ws = [] := if_neg h0
    rw [hS]
    have HC : Hid (∀ W, Below w.heap.size w W → Calls Try.prog 15 #[.agg (trV t A c), .slice Aw ws.length cw] W (ErrPost (Wl.chkV t ws) W)) := fun W hW => Check5_any t ws A Aw c cw hl hlw W (prs_keep hP hW) (prs_keep hQ hW)
    have hne : (Wl.chkV t ws != 0) = true := by simpa using h0
    clear hP hQ hl hlw hS h0
    unfold ErrPost at HC
    generalize Wl.chkV t ws = CE at *
    obtain ⟨ps, cl, lo, hi⟩ := t
    unfold trV at *
    dsimp only at *
    go_enter Try.func21, Try.ntmps21
    go_wp2_with fail
    have bT := BoxS.new w 26 #[.slice A ps.length c, .int .i64 cl, .int .i64 lo, .int .i64 hi]
    have hBa : Below w.heap.size w (w.alloc (.cells #[.slice A ps.length c, .int .i64 cl, .int .i64 lo, .int .i64 hi] 26)) := by (repeat' (first | (with_reducible exact Below.refl _ _) | (with_reducible assumption) | (with_reducible refine Below.alloc ?_ ?_ _) | (with_reducible refine Below.drew ?_) | (with_reducible refine Below.setCell ?_ ?_ _) | go_size | (exact (by simp)) | omega))
    generalize World.alloc w _ = wa at *
    obtain ⟨s0, s1, s2, s3⟩ := boxS4 bT
    have lT := bT.lt
    try go_wp2_with fail
    refine (HC.out _ hBa).mono ?_
    rintro e wb ⟨rfl, hb⟩
    have hBb := hBa.trans (hb.mono hBa.size)
    go_wp2_with fail
    go_returns
    exact ⟨_, rfl, .inl ⟨rfl, rfl⟩, hBb⟩
set_option maxRecDepth 100000 in
set_option maxHeartbeats 8000000 in
theorem StuckW_yes (t : Wl.Trk) (ws : List Wl.Pt) (A Aw : Option Addr) (c cw : Nat) (hl : t.ps.length ≤ 1000000000) (hlw : ws.length ≤ 1000000000) (h0 : Wl.chkV t ws = 0) (w : World) (hP : Prs w w.heap.size A t.ps) (hQ : Prs w w.heap.size Aw ws) :
    Calls Try.prog 20 #[.agg (trV t A c), .slice Aw ws.length cw] w (IntsEPost (Wl.stkTo t ws ws.length) 0 w) := by
  obtain ⟨ht, hw⟩ := Wl.chk_yes.1 h0
  have hl8 := (Wl.pts_all hw).2
  have hl9 : t.ps.length ≤ 8 := (Wl.trk_parts ht).2.2.2
  have hmo : Try.prog.follows .mixedOrders = true := by kernel_rfl
  have HC : Hid (∀ W, Below w.heap.size w W → Calls Try.prog 14 #[.agg (trV t A c), .slice Aw ws.length cw] W (ErrPost (Wl.chkV t ws) W)) := fun W hW => CheckW_any t ws A Aw c cw hl hlw W (prs_keep hP hW) (prs_keep hQ hW)
  have HRE : Hid (∀ k, k < ws.length → ∀ W, Below w.heap.size w W → Calls Try.prog 55 #[.agg (mcV t A c none 0 0), .agg #[.int .i64 (Wl.ptAt ws k).1, .int .i64 (Wl.ptAt ws k).2]] W (IntsPost (Wl.reachL t (Wl.ptAt ws k)) W)) := fun k hk W hW => reachP_any t A none c 0 0 (Wl.ptAt ws k) (Wl.trk_sm ht) (Wl.pts_sm hw hk) (by omega) W (prs_keep hP hW)
  have HPW : Hid (∀ k, k < ws.length → ∀ W, Below w.heap.size w W → ∃ b off, Aw = some ⟨b, off, none⟩ ∧ b < w.heap.size ∧ W.cell? ⟨b, off + k * 2, none⟩ = some (.int .i64 (Wl.ptAt ws k).1) ∧ W.cell? ⟨b, off + k * 2 + 1, none⟩ = some (.int .i64 (Wl.ptAt ws k).2)) := fun k hk W hW => by
    obtain ⟨b, off, e, hb, hc⟩ := hQ (by omega)
    have hg : ws[k]? = some (Wl.ptAt ws k) := by unfold Wl.ptAt; rw [List.getElem?_eq_getElem hk]; rfl
    exact ⟨b, off, e, hb, (hW.cell (p := ⟨b, _, none⟩) hb).trans (hc k _ hg).1, (hW.cell (p := ⟨b, _, none⟩) hb).trans (hc k _ hg).2⟩
  have H0 : Hid (Wl.stkTo t ws 0 = []) := rfl
  have HS0 : Hid (∀ k : Nat, Wl.stkTo t ws (k + 1) = if (Wl.reachL t (Wl.ptAt ws k)).length = 0 then Wl.stkTo t ws k ++ [(k : Int)] else Wl.stkTo t ws k) := fun _ => rfl
  have HL : Hid (∀ k, (Wl.stkTo t ws k).length ≤ k) := Wl.stkTo_len t ws
  rw [h0] at HC
  clear hP hQ ht hw h0
  unfold IntsPost at HRE
  unfold ErrPost at HC
  generalize Wl.stkTo t ws = RT at *
  obtain ⟨RL, hRL⟩ : ∃ RL : Nat → List Int, ∀ k, Wl.reachL t (Wl.ptAt ws k) = RL k := ⟨fun k => Wl.reachL t (Wl.ptAt ws k), fun _ => rfl⟩
  simp only [hRL] at HRE HS0
  clear hRL
  obtain ⟨ps, cl, lo, hi⟩ := t
  unfold trV mcV at *
  dsimp only at *
  go_enter Try.func20, Try.ntmps20
  go_wp2_with fail
  have bT := BoxS.new w 26 #[.slice A ps.length c, .int .i64 cl, .int .i64 lo, .int .i64 hi]
  have hBa : Below w.heap.size w (w.alloc (.cells #[.slice A ps.length c, .int .i64 cl, .int .i64 lo, .int .i64 hi] 26)) := by (repeat' (first | (with_reducible exact Below.refl _ _) | (with_reducible assumption) | (with_reducible refine Below.alloc ?_ ?_ _) | (with_reducible refine Below.drew ?_) | (with_reducible refine Below.setCell ?_ ?_ _) | go_size | (exact (by simp)) | omega))
  generalize World.alloc w _ = wa at *
  obtain ⟨s0, s1, s2, s3⟩ := boxS4 bT
  have lT := bT.lt
  try go_wp2_with fail
  refine (HC.out _ hBa).mono ?_
  rintro e wb ⟨rfl, hb⟩
  have hBb := hBa.trans (hb.mono hBa.size)
  have bT0 := bT.below hb
  clear s0 s1 s2 s3 lT bT hBa hb HC
  go_wp2_with fail
  go_loopg [7, 18] ws.length (fun g x y wx => ∃ k : Nat, Hid (k + g = ws.length) ∧ (k : Int) ≤ ws.length ∧ y = .int .i64 (k : Int) ∧ Below wb.heap.size wb wx ∧ wx.ownsRow wb.heap.size 3 1 x (RT k).length ((RT k).map (Value.int .i64)))
  case atStart => exact ⟨0, by simp [Hid], by omega, rfl, Below.refl _ _, by rw [H0.out]; exact owni_nil _ _⟩
  case round =>
    obtain ⟨k, hk, hk1, rfl, hbb, hown⟩ := hrel
    have hk0 := Int.natCast_nonneg k
    have bT1 := bT0.below hbb
    have hBw := hBb.trans (hbb.mono hBb.size)
    by_cases hlt : (k : Int) < ws.length
    · have hkn : k < ws.length := by omega
      have HS := Lib.hid (HS0.out k)
      have hln := HL.out k
      have HO := Lib.hid hown
      have HR1 := Lib.hid (HRE.out k hkn)
      have hw1 : IntKind.i64.wrap ((k : Int) + 1) = (k : Int) + 1 := IntWalk.i64_in _ (by omega)
      have hsz := hbb.size
      have hqq : Below wr.heap.size wr wr.drew := (Below.refl _ _).drew
      obtain ⟨b, off, hAe, hbl, _, _⟩ := HPW.out k hkn _ hBw
      have KC : Hid (∀ W', Below wr.heap.size wr W' → W'.cell? ⟨b, off + k * 2, none⟩ = some (.int .i64 (Wl.ptAt ws k).1) ∧ W'.cell? ⟨b, off + k * 2 + 1, none⟩ = some (.int .i64 (Wl.ptAt ws k).2)) := fun W' h => by
        obtain ⟨b2, off2, e2, _, c1, c2⟩ := HPW.out k hkn _ (hBw.trans (h.mono hBw.size))
        rw [hAe] at e2
        obtain ⟨rfl, rfl⟩ : b = b2 ∧ off = off2 := by injection e2 with e2; injection e2 with e3 e4; exact ⟨e3, e4⟩
        exact ⟨c1, c2⟩
      clear hown HS0 HPW HRE
      subst hAe
      generalize (Wl.ptAt ws k).1 = px at *
      generalize (Wl.ptAt ws k).2 = py at *
      generalize RT k = L at *
      generalize RL k = RK at *
      have d1 : decide ((k : Int) < 0) = false := decide_eq_false (by omega)
      have d2 : decide ((ws.length : Int) ≤ (k : Int)) = false := decide_eq_false (by omega)
      have d4 : decide (ws.length ≤ k) = false := decide_eq_false (by omega)
      have hbr : b < wr.heap.size := by have := hBw.size; omega
      by_cases hz : RK.length = 0
      · have hz1 : ((RK.length : Int) == 0) = true := by simp [hz]
        have HS2 : Hid (RT (k + 1) = L ++ [(k : Int)]) := by unfold Hid; rw [HS.out, if_pos hz]
        replace hz := Lib.hid hz
        have s0 := (boxS4 bT1).1
        have s1 := (boxS4 bT1).2.1
        have s2 := (boxS4 bT1).2.2.1
        have s3 := (boxS4 bT1).2.2.2
        have lT := bT1.lt
        obtain ⟨z0, z1⟩ := KC.out wr (Below.refl _ _)
        go_wp2_with fail
        have q1 : Below wr.heap.size wr (wr.alloc (.cells #[.int .i64 px, .int .i64 py] 28)) := (Below.refl _ _).alloc (Nat.le_refl _) _
        refine (HR1.out _ (hBw.trans (q1.mono hBw.size))).mono ?_
        rintro e w8 ⟨v8, rfl, hI8, hb8⟩
        obtain ⟨A8, c8, rfl⟩ := ints_form hI8.out
        have q8 := q1.trans (hb8.mono q1.size)
        clear s0 s1 s2 s3 lT z0 z1 q1
        have HO2 := Lib.hid (owni_below HO.out q8)
        have hb2' := hbb.trans (q8.mono hbb.size)
        clear HO KC q8 hb8 hI8
        go_wp2_with (at_builtin; refine wpList_pushi rfl (.tmp 29) (.tmp 31) rfl (k : Int) wb.heap.size _ _ _ rfl rfl HO2.out (by have := hb2'.size; omega) (by omega) ?_; intro v' w5 hown5 hb5; have HO5 := Lib.hid hown5; clear hown5)
        obtain ⟨g', hg'⟩ : ∃ g', gk = g' + 1 := ⟨gk - 1, by have := hk.out; omega⟩
        go_roundg g'
        case measure => omega
        case rel =>
          refine ⟨k + 1, by have := hk.out; simp only [Hid]; omega, by omega, by go_num, hb2'.trans hb5, ?_⟩
          rw [HS2.out, List.length_append, List.map_append]
          exact HO5.out
      · have hz1 : ((RK.length : Int) == 0) = false := by simpa using hz
        have HS2 : Hid (RT (k + 1) = L) := by unfold Hid; rw [HS.out, if_neg hz]
        replace hz := Lib.hid hz
        have s0 := (boxS4 bT1).1
        have s1 := (boxS4 bT1).2.1
        have s2 := (boxS4 bT1).2.2.1
        have s3 := (boxS4 bT1).2.2.2
        have lT := bT1.lt
        obtain ⟨z0, z1⟩ := KC.out wr (Below.refl _ _)
        go_wp2_with fail
        have q1 : Below wr.heap.size wr (wr.alloc (.cells #[.int .i64 px, .int .i64 py] 28)) := (Below.refl _ _).alloc (Nat.le_refl _) _
        refine (HR1.out _ (hBw.trans (q1.mono hBw.size))).mono ?_
        rintro e w8 ⟨v8, rfl, hI8, hb8⟩
        obtain ⟨A8, c8, rfl⟩ := ints_form hI8.out
        have q8 := q1.trans (hb8.mono q1.size)
        clear s0 s1 s2 s3 lT z0 z1 q1
        have HO2 := Lib.hid (owni_below HO.out q8)
        have hb2' := hbb.trans (q8.mono hbb.size)
        clear HO KC q8 hb8 hI8
        go_wp2_with fail
        obtain ⟨g', hg'⟩ : ∃ g', gk = g' + 1 := ⟨gk - 1, by have := hk.out; omega⟩
        go_roundg g'
        case measure => omega
        case rel =>
          refine ⟨k + 1, by have := hk.out; simp only [Hid]; omega, by omega, by go_num, hb2', ?_⟩
          rw [HS2.out]
          exact HO2.out
    · have ek : k = ws.length := by omega
      rw [ek] at hown
      have hI := Lib.hid (Ints.of_own (hown.mono (Nat.zero_le _)))
      clear hown ek
      go_wp2_with fail
      go_returns
      exact ⟨_, rfl, hI, hBw⟩
set_option maxRecDepth 100000 in
set_option maxHeartbeats 4000000 in
theorem StuckW_any (t : Wl.Trk) (ws : List Wl.Pt) (A Aw : Option Addr) (c cw : Nat) (hl : t.ps.length ≤ 1000000000) (hlw : ws.length ≤ 1000000000) (w : World) (hP : Prs w w.heap.size A t.ps) (hQ : Prs w w.heap.size Aw ws) :
    Calls Try.prog 20 #[.agg (trV t A c), .slice Aw ws.length cw] w (IntsEPost (Wl.stkL t ws) (Wl.chkV t ws) w) := by
  by_cases h0 : Wl.chkV t ws = 0
  · unfold Wl.stkL
    rw [if_pos h0, h0]
    exact StuckW_yes t ws A Aw c cw hl hlw h0 w hP hQ
  · have hS : Wl.stkL t ws = [] := if_neg h0
    rw [hS]
    have HC : Hid (∀ W, Below w.heap.size w W → Calls Try.prog 14 #[.agg (trV t A c), .slice Aw ws.length cw] W (ErrPost (Wl.chkV t ws) W)) := fun W hW => CheckW_any t ws A Aw c cw hl hlw W (prs_keep hP hW) (prs_keep hQ hW)
    have hne : (Wl.chkV t ws != 0) = true := by simpa using h0
    clear hP hQ hl hlw hS h0
    unfold ErrPost at HC
    generalize Wl.chkV t ws = CE at *
    obtain ⟨ps, cl, lo, hi⟩ := t
    unfold trV at *
    dsimp only at *
    go_enter Try.func20, Try.ntmps20
    go_wp2_with fail
    have bT := BoxS.new w 26 #[.slice A ps.length c, .int .i64 cl, .int .i64 lo, .int .i64 hi]
    have hBa : Below w.heap.size w (w.alloc (.cells #[.slice A ps.length c, .int .i64 cl, .int .i64 lo, .int .i64 hi] 26)) := by (repeat' (first | (with_reducible exact Below.refl _ _) | (with_reducible assumption) | (with_reducible refine Below.alloc ?_ ?_ _) | (with_reducible refine Below.drew ?_) | (with_reducible refine Below.setCell ?_ ?_ _) | go_size | (exact (by simp)) | omega))
    generalize World.alloc w _ = wa at *
    obtain ⟨s0, s1, s2, s3⟩ := boxS4 bT
    have lT := bT.lt
    try go_wp2_with fail
    refine (HC.out _ hBa).mono ?_
    rintro e wb ⟨rfl, hb⟩
    have hBb := hBa.trans (hb.mono hBa.size)
    go_wp2_with fail
    go_returns
    exact ⟨_, rfl, .inl ⟨rfl, rfl⟩, hBb⟩
end Go.Proofs.Ytmjcdggmofohcaa
