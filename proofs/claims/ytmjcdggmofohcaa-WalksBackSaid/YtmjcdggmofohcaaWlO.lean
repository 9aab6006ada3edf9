/- Walks: the iterator over all elbows, by the program: one place more. -/
import Derived.Test.YtmjcdggmofohcaaWlN
namespace Go.Proofs.Ytmjcdggmofohcaa
open Go.RowKit Go.Shelf
attribute [local go_sem] Oper.semAt_some
set_option maxRecDepth 100000 in
set_option maxHeartbeats 8000000 in
theorem goOn_first (t : Wl.Trk) (ws : List Wl.Pt) (A Aw : Option Addr) (c cw : Nat) (ht : Wl.trkB t = true) (hw : Wl.ptsB ws = true) (n₀ c₀ l : Nat) (J Jx : List Elb → World → Prop) (hJ : OwnFrom c₀ J) (hJx : OwnFrom c₀ Jx)
    (w : World) (hn : n₀ ≤ c₀) (hcw : c₀ ≤ w.heap.size) (hP : Prs w n₀ A t.ps) (hQ : Prs w n₀ Aw ws) (pl : List Int) (hpl : ∀ p ∈ pl, 0 ≤ p ∧ p < t.ps.length) (pre : List Elb) (h0 : J pre w) (hne : pl = []) (k : Nat) (hk : pl.length + (k + 1) = ws.length) (hbd : pre.length + (Wl.goL t ws (k + 1) pl).length ≤ 20000000)
    (IH0 : ∀ (v' : Value) (p : Int) (pre' : List Elb) (W : World), c₀ ≤ W.heap.size → Prs W n₀ A t.ps → Prs W n₀ Aw ws → Row W c₀ v' (pl ++ [p]) → (0 ≤ p ∧ p < t.ps.length) → pre'.length + (Wl.goL t ws k (pl ++ [p])).length ≤ 20000000 → J pre' W →
      Calls Try.prog 87 #[.agg (mcV t A c Aw ws.length cw), .func (.yield l) #[] #[], v'] W (GoPost n₀ c₀ J Jx (Wl.goL t ws k (pl ++ [p])) pre' W)) :
    Calls Try.prog 87 #[.agg (mcV t A c Aw ws.length cw), .func (.yield l) #[] #[], .slice none 0 0] w (GoPost n₀ c₀ J Jx (Wl.goL t ws (k + 1) pl) pre w) := by
  subst hne
  have hl0 : ([] : List Int).length = 0 := rfl
  obtain ⟨hp8, hc3, hn8⟩ := Wl.trk_parts ht
  have hw8 := (Wl.pts_all hw).2
  have hwk : ws[0]? = some (Wl.ptAt ws 0) := by unfold Wl.ptAt; rw [List.getElem?_eq_getElem (by rw [hl0] at hk; omega)]; rfl
  obtain ⟨bw, ow, hAw, hbw, hcw2⟩ := hQ (by rw [hl0] at hk; omega)
  obtain ⟨y0, y1⟩ := hcw2 _ _ hwk
  have hsa : Geo.sm (Wl.ptAt ws 0) := Wl.pts_sm hw (by rw [hl0] at hk; omega)
  have hgb := Wl.goL_bd ht hw k
  have HRO : Hid (∀ W, Below w.heap.size w W → Calls Try.prog 55 #[.agg (mcV t A c Aw ws.length cw), .agg #[.int .i64 (Wl.ptAt ws 0).1, .int .i64 (Wl.ptAt ws 0).2]] W (OwnIPost (Wl.reachL t (Wl.ptAt ws 0)) W)) := fun W hW => reachO_any t A Aw c ws.length cw _ (Wl.trk_sm ht) hsa (by omega) W (fun h0 => by obtain ⟨b, off, e, hB, hc⟩ := hP h0; exact (prs_keep (fun _ => ⟨b, off, e, by omega, hc⟩) hW) h0)
  have HRM : Hid (∀ (i : Nat) (p : Int), (Wl.reachL t (Wl.ptAt ws 0))[i]? = some p → 0 ≤ p ∧ p < t.ps.length) := fun i p h => (Wl.mem_reachL.1 (List.mem_of_getElem? h)).1
  have HRL : Hid ((Wl.reachL t (Wl.ptAt ws 0)).length ≤ 8) := Nat.le_trans (Wl.reachL_len _ _) hn8.2
  have HGS : Hid (∀ (i : Nat) (p : Int), (Wl.reachL t (Wl.ptAt ws 0))[i]? = some p → Wl.goTo t ws k [] (Wl.reachL t (Wl.ptAt ws 0)) (i + 1) = Wl.goTo t ws k [] (Wl.reachL t (Wl.ptAt ws 0)) i ++ (if 0 < ([] : List Int).length ∧ Wl.nearB t (Wl.lastV []) p = false then [] else Wl.goL t ws k ([] ++ [p]))) := fun i p h => Wl.goTo_succ t ws k [] _ h
  have HG0 : Hid (Wl.goTo t ws k [] (Wl.reachL t (Wl.ptAt ws 0)) 0 = []) := rfl
  have HGA : Hid (Wl.goTo t ws k [] (Wl.reachL t (Wl.ptAt ws 0)) (Wl.reachL t (Wl.ptAt ws 0)).length = Wl.goL t ws (k + 1) []) := Wl.goTo_all t ws k []
  have HPG : Hid (∀ i, Wl.goTo t ws k [] (Wl.reachL t (Wl.ptAt ws 0)) i <+: Wl.goL t ws (k + 1) []) := fun i => by have := Wl.goTo_pre t ws k [] (Wl.reachL t (Wl.ptAt ws 0)) i; rw [HGA.out] at this; exact this
  generalize Wl.goTo t ws k [] (Wl.reachL t (Wl.ptAt ws 0)) = GT at *
  generalize Wl.reachL t (Wl.ptAt ws 0) = RL at *
  generalize Wl.goL t ws (k + 1) [] = G at *
  have HGT : Hid (∀ (i : Nat) (p : Int), RL[i]? = some p → GT (i + 1) = GT i ++ Wl.goL t ws k ([] ++ [p])) := fun i p h => by have := HGS.out i p h; rw [if_neg (fun hh => absurd hh.1 (by decide))] at this; exact this
  clear HGS
  rename Hid (∀ (i : Nat) (p : Int), RL[i]? = some p → GT (i + 1) = GT i ++ Wl.goL t ws k ([] ++ [p])) => HGS
  generalize hGK : (fun p : Int => Wl.goL t ws k ([] ++ [p])) = GK at *
  have HGK : ∀ p : Int, Wl.goL t ws k ([] ++ [p]) = GK p := fun p => by rw [← hGK]
  have IH := IH0
  simp only [HGK] at IH HGS hbd
  generalize Wl.ptAt ws 0 = a at *
  obtain ⟨a1, a2⟩ := a
  obtain ⟨ps, cl, lo, hi⟩ := t
  unfold mcV at *
  dsimp only at *
  subst hAw
  have HP := Lib.hid hP
  have HQ := Lib.hid hQ
  have H0 := Lib.hid h0
  clear hGK HGK IH0 hP hQ h0 ht hw hp8 hc3 hsa hwk hgb hcw2
  have hmo : Try.prog.follows .mixedOrders = true := by kernel_rfl
  have hkw : 0 < ws.length := by rw [hl0] at hk; omega
  have hkb : ((0 : Int) == (ws.length : Int)) = false := by simp; omega
  have d3 : decide ((ws.length : Int) ≤ 0) = false := decide_eq_false (by omega)
  have d5 : decide (ws.length ≤ 0) = false := decide_eq_false (by omega)
  have hkz : (0 : Int) < ws.length := by omega
  clear hk hpl hl0
  go_enter Try.func87, Try.ntmps87
  go_wp2_with fail
  have bM := BoxS.new w 70 #[.slice A ps.length c, .int .i64 cl, .int .i64 lo, .int .i64 hi, .slice (some ⟨bw, ow, none⟩) ws.length cw]
  have hB1 : Below w.heap.size w (w.alloc (.cells #[.slice A ps.length c, .int .i64 cl, .int .i64 lo, .int .i64 hi, .slice (some ⟨bw, ow, none⟩) ws.length cw] 70)) := by (repeat' (first | (with_reducible exact Below.refl _ _) | (with_reducible assumption) | (with_reducible refine Below.alloc ?_ ?_ _) | (with_reducible refine Below.drew ?_) | (with_reducible refine Below.setCell ?_ ?_ _) | go_size | (exact (by simp)) | omega))
  generalize World.alloc w _ = w1 at *
  have s4 := bM.cell 4 rfl
  have lM := bM.lt
  try go_wp2_with fail
  clear s4 lM hkb
  have q0 : Below w1.heap.size w1 w1.drew := (Below.refl _ _).drew
  have KC : Hid (∀ W', Below w1.heap.size w1 W' → (W'.cell? ⟨w.heap.size, 0, none⟩ = some (.slice A ps.length c) ∧ W'.cell? ⟨w.heap.size, 1, none⟩ = some (.int .i64 cl) ∧ W'.cell? ⟨w.heap.size, 2, none⟩ = some (.int .i64 lo) ∧ W'.cell? ⟨w.heap.size, 3, none⟩ = some (.int .i64 hi) ∧ W'.cell? ⟨w.heap.size, 4, none⟩ = some (.slice (some ⟨bw, ow, none⟩) ws.length cw)) ∧ W'.cell? ⟨bw, ow + 0 * 2, none⟩ = some (.int .i64 a1) ∧ W'.cell? ⟨bw, ow + 0 * 2 + 1, none⟩ = some (.int .i64 a2)) := fun W' h => by
    have h2 := hB1.trans (h.mono hB1.size)
    have b := bM.below h
    exact ⟨⟨b.cell 0 rfl, b.cell 1 rfl, b.cell 2 rfl, b.cell 3 rfl, b.cell 4 rfl⟩, (h2.cell (p := ⟨bw, _, none⟩) (show bw < w.heap.size by omega)).trans y0, (h2.cell (p := ⟨bw, _, none⟩) (show bw < w.heap.size by omega)).trans y1⟩
  simp only [Nat.zero_mul, Nat.add_zero] at KC
  clear y0 y1
  refine (wpIn_wide (n := 4)).1 ?_
  refine wpIn_region_held (fun W' => Below w1.heap.size w1 W') 30 hmo ?_
  refine wpHeldIn_take (i := 0) (v := ?_) (plain_of (by kernel_rfl)) rfl (by kernel_rfl) (fun _ _ _ h => h) (yieldsSoIn_of (by kernel_rfl) ?_ (fun _ => rfl)) q0 ?_; rotate_left; focus (intro wq hw; have kq := KC.out wq hw; clear hw; go_simp; try (with_reducible rfl))
  refine wpHeldIn_take (i := 1) (v := ?_) (plain_of (by kernel_rfl)) rfl (by kernel_rfl) (fun _ _ _ h => h) (yieldsSoIn_of (by kernel_rfl) ?_ (fun _ => rfl)) q0 ?_; rotate_left; focus (intro wq hw; clear hw; go_simp; try (with_reducible rfl))
  refine wpHeldIn_take (i := 2) (v := ?_) (plain_of (by kernel_rfl)) rfl (by kernel_rfl) (fun _ _ _ h => h) (yieldsSoIn_of (by kernel_rfl) ?_ (fun _ => rfl)) q0 ?_; rotate_left; focus (intro wq hw; have kq := KC.out wq hw; clear hw; go_simp; try (with_reducible rfl))
  refine wpHeldIn_take (i := 3) (v := ?_) (plain_of (by kernel_rfl)) rfl (by kernel_rfl) (fun _ _ _ h => h) (yieldsSoIn_of (by kernel_rfl) ?_ (fun _ => rfl)) q0 ?_; rotate_left; focus (intro wq hw; clear hw; go_simp; try (with_reducible rfl))
  refine wpHeldIn_take (i := 4) (v := ?_) (plain_of (by kernel_rfl)) rfl (by kernel_rfl) (fun _ _ _ h => h) (yieldsSoIn_of (by kernel_rfl) ?_ (fun _ => rfl)) q0 ?_; rotate_left; focus (intro wq hw; clear hw; go_simp; try (with_reducible rfl))
  refine wpHeldIn_take (i := 5) (v := ?_) (plain_of (by kernel_rfl)) rfl (by kernel_rfl) (fun _ _ _ h => h) (yieldsSoIn_of (by kernel_rfl) ?_ (fun _ => rfl)) q0 ?_; rotate_left; focus (intro wq hw; have kq := KC.out wq hw; clear hw; go_simp; try (with_reducible rfl))
  refine wpHeldIn_take (i := 8) (v := ?_) (plain_of (by kernel_rfl)) rfl (by kernel_rfl) (fun _ _ _ h => h) (yieldsSoIn_of (by kernel_rfl) ?_ (fun _ => rfl)) q0 ?_; rotate_left; focus (intro wq hw; clear hw; go_simp; try (with_reducible rfl))
  refine wpHeldIn_one (i := 6) (by kernel_rfl) (by kernel_rfl) rfl (by kernel_rfl) (fun K1 hK1 => ?_)
  go_simp
  refine ⟨trivial, (callsIn_wide.2 (HRO.out _ (hB1.trans (q0.mono hB1.size)))).mono ?_⟩
  rintro e w2 ⟨vr, rfl, hor, hb2⟩
  have q1 := q0.trans (hb2.mono q0.size)
  have hR2 : Row w2 c₀ vr RL := Row.of_own hor.out (by have := hB1.size; have := q0.size; omega)
  clear hor
  obtain ⟨Ar, cr, rfl⟩ := hR2.form
  refine hK1 _ _ q1 ?_
  refine wpHeldIn_take (i := 7) (v := ?_) (plain_of (by kernel_rfl)) rfl (by kernel_rfl) (fun _ _ _ h => h) (yieldsSoIn_of (by kernel_rfl) ?_ (fun _ => rfl)) q1 ?_; rotate_left; focus (intro wq hw; clear hw; go_simp; try (with_reducible rfl))
  refine wpHeldIn_done (by kernel_rfl) ?_ _
  go_simp
  have bM3 := bM.below q1
  have hA3 : Apart n₀ c₀ w w2 := (Apart.of_below (hB1.trans (q1.mono hB1.size)))
  have HX3 : Hid (∃ ys : List Elb, ys.map Elb.es = GT 0 ∧ J (pre ++ ys) w2) := ⟨[], by rw [HG0.out]; rfl, by rw [List.append_nil]; exact ownFrom_at hJ H0.out (hB1.trans (q1.mono hB1.size))⟩
  clear KC q0 q1 hb2 bM hB1 H0 HRO HG0 d3 d5 hkz
  try go_wp2_with fail
  go_loopg [41] RL.length (fun g x41 wx => ∃ i : Nat, Hid (i + g = RL.length) ∧ (i : Int) ≤ RL.length ∧ x41 = .int .i64 (i : Int) ∧ BoxS wx w.heap.size 70 #[.slice A ps.length c, .int .i64 cl, .int .i64 lo, .int .i64 hi, .slice (some ⟨bw, ow, none⟩) ws.length cw] ∧ Apart n₀ c₀ w wx ∧ Row wx c₀ (.slice Ar RL.length cr) RL ∧ Hid (∃ ys : List Elb, ys.map Elb.es = GT i ∧ J (pre ++ ys) wx))
  case atStart => exact ⟨0, by simp [Hid], by omega, rfl, bM3, hA3, hR2, HX3⟩
  case round =>
    clear bM3 hA3 hR2 HX3
    obtain ⟨i, hig, hi1, rfl, bM5, hA, hR, hX⟩ := hrel
    have hi0 := Int.natCast_nonneg i
    by_cases hlt : (i : Int) < RL.length
    · have hin : i < RL.length := by omega
      have hRi : RL[i]? = some RL[i] := List.getElem?_eq_getElem hin
      have hpr := HRM.out i _ hRi
      have HS1 := Lib.hid (HGS.out i _ hRi)
      have hprf := HPG.out (i + 1)

      obtain ⟨xs, hxs, hJ5⟩ := hX.out
      have hJ5 := Lib.hid hJ5
      rcases hR with ⟨_, e⟩ | ⟨br, cpr, e, hlr, hr1, hr2, hrc⟩
      · subst e; simp at hin
      injection e with eA _ ec
      subst eA ec
      have z0 := hrc i _ hRi
      have hR : Row wr c₀ (.slice (some ⟨br, 0, none⟩) RL.length cr) RL := .inr ⟨br, cr, rfl, hlr, hr1, hr2, hrc⟩
      have hw1 : IntKind.i64.wrap ((i : Int) + 1) = (i : Int) + 1 := IntWalk.i64_in _ (by have := HRL.out; omega)
      have lM := bM5.lt
      clear hX hrc hRi HGS HRM
      generalize RL[i] = p at *
      have q0 : Below wr.heap.size wr wr.drew := (Below.refl _ _).drew
      have hws := hA.size
      have HS2 : Hid (GT (i + 1) = GT i ++ GK p) := HS1.out
      have hlen : (pre ++ xs).length + (GK p).length ≤ 20000000 := by
        have h1 : xs.length = (GT i).length := by rw [← hxs, List.length_map]
        have h2 := hprf.length_le
        rw [HS2.out, List.length_append] at h2
        rw [List.length_append]
        omega
      clear HS1 hprf
      go_wp2_with fail
      refine (wpIn_wide (n := 4)).1 ?_
      refine wpIn_region_held (fun W' => Below wr.heap.size wr W') 30 hmo ?_
      refine wpHeldIn_take (i := 0) (v := ?_) (plain_of (by kernel_rfl)) rfl (by kernel_rfl) (fun _ _ _ h => h) (yieldsSoIn_of (by kernel_rfl) ?_ (fun _ => rfl)) q0 ?_; rotate_left; focus (intro wq hw; clear hw; go_simp; try (with_reducible rfl))
      refine wpHeldIn_take (i := 1) (v := ?_) (plain_of (by kernel_rfl)) rfl (by kernel_rfl) (fun _ _ _ h => h) (yieldsSoIn_of (by kernel_rfl) ?_ (fun _ => rfl)) q0 ?_; rotate_left; focus (intro wq hw; clear hw; go_simp; try (with_reducible rfl))
      refine wpHeldIn_take (i := 2) (v := ?_) (plain_of (by kernel_rfl)) rfl (by kernel_rfl) (fun _ _ _ h => h) (yieldsSoIn_of (by kernel_rfl) ?_ (fun _ => rfl)) q0 ?_; rotate_left; focus (intro wq hw; clear hw; go_simp; try (with_reducible rfl))
      refine wpHeldIn_take (i := 3) (plain_of (by kernel_rfl)) rfl (by kernel_rfl) (fun _ _ _ h => h) (yieldsSoIn_skip (by kernel_rfl) (fun _ => trivial)) q0 ?_
      refine wpHeldIn_take (i := 4) (plain_of (by kernel_rfl)) rfl (by kernel_rfl) (fun _ _ _ h => h) (yieldsSoIn_skip (by kernel_rfl) (fun _ => trivial)) q0 ?_
      refine wpHeldIn_take (i := 5) (plain_of (by kernel_rfl)) rfl (by kernel_rfl) (fun _ _ _ h => h) (yieldsSoIn_skip (by kernel_rfl) (fun _ => trivial)) q0 ?_
      refine wpHeldIn_take (i := 6) (plain_of (by kernel_rfl)) rfl (by kernel_rfl) (fun _ _ _ h => h) (yieldsSoIn_skip (by kernel_rfl) (fun _ => trivial)) q0 ?_
      refine wpHeldIn_take (i := 7) (plain_of (by kernel_rfl)) rfl (by kernel_rfl) (fun _ _ _ h => h) (yieldsSoIn_skip (by kernel_rfl) (fun _ => trivial)) q0 ?_
      refine wpHeldIn_take (i := 8) (plain_of (by kernel_rfl)) rfl (by kernel_rfl) (fun _ _ _ h => h) (yieldsSoIn_skip (by kernel_rfl) (fun _ => trivial)) q0 ?_
      refine wpHeldIn_take (i := 9) (plain_of (by kernel_rfl)) rfl (by kernel_rfl) (fun _ _ _ h => h) (yieldsSoIn_skip (by kernel_rfl) (fun _ => trivial)) q0 ?_
      refine wpHeldIn_take (i := 10) (plain_of (by kernel_rfl)) rfl (by kernel_rfl) (fun _ _ _ h => h) (yieldsSoIn_skip (by kernel_rfl) (fun _ => trivial)) q0 ?_
      refine wpHeldIn_take (i := 11) (plain_of (by kernel_rfl)) rfl (by kernel_rfl) (fun _ _ _ h => h) (yieldsSoIn_skip (by kernel_rfl) (fun _ => trivial)) q0 ?_
      refine wpHeldIn_take (i := 12) (v := ?_) (plain_of (by kernel_rfl)) rfl (by kernel_rfl) (fun _ _ _ h => h) (yieldsSoIn_of (by kernel_rfl) ?_ (fun _ => rfl)) q0 ?_; rotate_left; focus (intro wq hw; clear hw; go_simp; try (with_reducible rfl))
      refine wpHeldIn_done (by kernel_rfl) ?_ _
      go_simp
      have bM6 := bM5.below q0
      have hA6 : Apart n₀ c₀ w wr.drew := hA.trans (Apart.of_below q0)
      have hR6 := hR.apart (Apart.of_below (b := n₀) (c := c₀) q0)
      have hJ6 : Hid (J (pre ++ xs) wr.drew) := ownFrom_at hJ hJ5.out q0
      clear q0 bM5 hA hR hJ5 z0 lM hr2 hws
      generalize World.drew wr = w6 at *
      have p0 : Below w6.heap.size w6 w6.drew := (Below.refl _ _).drew
      have KC : Hid (∀ W', Below w6.heap.size w6 W' → (W'.cell? ⟨w.heap.size, 0, none⟩ = some (.slice A ps.length c) ∧ W'.cell? ⟨w.heap.size, 1, none⟩ = some (.int .i64 cl) ∧ W'.cell? ⟨w.heap.size, 2, none⟩ = some (.int .i64 lo) ∧ W'.cell? ⟨w.heap.size, 3, none⟩ = some (.int .i64 hi) ∧ W'.cell? ⟨w.heap.size, 4, none⟩ = some (.slice (some ⟨bw, ow, none⟩) ws.length cw))) := fun W' h => by
        have b := bM6.below h
        exact ⟨b.cell 0 rfl, b.cell 1 rfl, b.cell 2 rfl, b.cell 3 rfl, b.cell 4 rfl⟩
      go_wp2_with fail
      refine (wpIn_wide (n := 4)).1 ?_
      refine wpIn_region_held (fun W' => Below w6.heap.size w6 W') 9 hmo ?_
      refine wpHeldIn_take (i := 0) (v := ?_) (plain_of (by kernel_rfl)) rfl (by kernel_rfl) (fun _ _ _ h => h) (yieldsSoIn_of (by kernel_rfl) ?_ (fun _ => rfl)) p0 ?_; rotate_left; focus (intro wq hw; have kq := KC.out wq hw; clear hw; go_simp; try (with_reducible rfl))
      refine wpHeldIn_take (i := 1) (v := ?_) (plain_of (by kernel_rfl)) rfl (by kernel_rfl) (fun _ _ _ h => h) (yieldsSoIn_of (by kernel_rfl) ?_ (fun _ => rfl)) p0 ?_; rotate_left; focus (intro wq hw; clear hw; go_simp; try (with_reducible rfl))
      refine wpHeldIn_take (i := 2) (v := ?_) (plain_of (by kernel_rfl)) rfl (by kernel_rfl) (fun _ _ _ h => h) (yieldsSoIn_of (by kernel_rfl) ?_ (fun _ => rfl)) p0 ?_; rotate_left; focus (intro wq hw; clear hw; go_simp; try (with_reducible rfl))
      refine wpHeldIn_take (i := 3) (v := ?_) (plain_of (by kernel_rfl)) rfl (by kernel_rfl) (fun _ _ _ h => h) (yieldsSoIn_of (by kernel_rfl) ?_ (fun _ => rfl)) p0 ?_; rotate_left; focus (intro wq hw; clear hw; go_simp; try (with_reducible rfl))
      refine wpHeldIn_take (i := 4) (v := ?_) (plain_of (by kernel_rfl)) rfl (by kernel_rfl) (fun _ _ _ h => h) (yieldsSoIn_of (by kernel_rfl) ?_ (fun _ => rfl)) p0 ?_; rotate_left; focus (intro wq hw; clear hw; go_simp; try (with_reducible rfl))
      refine wpHeldIn_take (i := 5) (v := ?_) (plain_of (by kernel_rfl)) rfl (by kernel_rfl) (fun _ _ _ h => h) (yieldsSoIn_of (by kernel_rfl) ?_ (fun _ => rfl)) p0 ?_; rotate_left; focus (intro wq hw; clear hw; go_simp; try (with_reducible rfl))
      refine wpHeldIn_take (i := 6) (v := ?_) (plain_of (by kernel_rfl)) rfl (by kernel_rfl) (fun _ _ _ h => h) (yieldsSoIn_of (by kernel_rfl) ?_ (fun _ => rfl)) p0 ?_; rotate_left; focus (intro wq hw; clear hw; go_simp; try (with_reducible rfl))
      have p1 : Below w6.heap.size w6 (w6.drew.alloc (.cells #[.int .i64 p] 3)) := p0.alloc (Nat.le_refl _) _
      refine wpHeldIn_one (i := 7) (by kernel_rfl) (by kernel_rfl) rfl (by kernel_rfl) (fun K' hK' => ?_); go_simp; refine hK' _ _ p1 ?_
      refine wpHeldIn_one (i := 8) (by kernel_rfl) (by kernel_rfl) rfl (by kernel_rfl) (fun K5 hK5 => ?_)
      refine wpIn_pushrow (wr := w6.drew) (.tmp 63) (.tmp 65) rfl p none [] rfl (.inl ⟨rfl, rfl⟩) rfl (by decide) ?_
      intro v' w7 hown7 hb7
      have HO7 := Lib.hid hown7
      clear hown7
      have p2 := p0.trans hb7
      refine hK5 _ _ p2 ?_
      have hA7 : Apart n₀ c₀ w w7 := hA6.trans (Apart.of_below p2)
      have hJ7 := ownFrom_at hJ hJ6.out p2
      have HIH := Lib.hid (IH v' p (pre ++ xs) w7 (Nat.le_trans hcw hA7.size) (HP.out.keep (hA7.below (by omega))) (HQ.out.keep (hA7.below (by omega))) (Row.of_own HO7.out (by have := hA6.size; show c₀ ≤ w6.heap.size; omega)) hpr hlen hJ7)
      clear hJ7 HO7
      refine wpHeldIn_last (by kernel_rfl) rfl (by kernel_rfl) (fun K6 hK6 => ?_)
      go_simp
      refine ⟨trivial, (callsIn_wide.2 HIH.out).mono ?_⟩
      rintro e w8 (⟨rfl, hk8, xs8, hx8, hJ8⟩ | ⟨rfl, xs8, hx8, hJ8⟩)
      · refine hK6 _ _ ?_
        refine wpHeldIn_take (i := 10) (v := ?_) (plain_of (by kernel_rfl)) rfl (by kernel_rfl) (fun _ _ _ h => h) (yieldsSoIn_of (by kernel_rfl) ?_ (fun _ => rfl)) trivial ?_; rotate_left; focus (intro w _; go_simp; try (with_reducible rfl))
        refine wpHeldIn_done (by kernel_rfl) ?_ _
        go_simp
        have hA8 := hA7.trans hk8
        have HX8 : Hid (∃ ys : List Elb, ys.map Elb.es = GT (i + 1) ∧ J (pre ++ ys) w8) := ⟨xs ++ xs8, by rw [List.map_append, hxs, hx8, ← HS2.out], by rw [← List.append_assoc]; exact hJ8⟩
        have bM8 : BoxS w8 w.heap.size 70 #[.slice A ps.length c, .int .i64 cl, .int .i64 lo, .int .i64 hi, .slice (some ⟨bw, ow, none⟩) ws.length cw] := (Apart.boxS (hk8) (bM6.below p2) (.inr hcw))
        have hR8 := hR6.apart ((Apart.of_below (b := n₀) (c := c₀) p2).trans hk8)
        clear hK6 hK5 HIH hJ8 hx8 hJ6 hxs p0 p1 p2 hb7 bM6 hR6 hA6 hA7 hk8
        go_wp2_with fail
        obtain ⟨g', hg'⟩ : ∃ g', gk = g' + 1 := ⟨gk - 1, by have := hig.out; omega⟩
        go_roundg g'
        case measure => omega
        case rel => exact ⟨i + 1, by have := hig.out; simp only [Hid]; omega, by omega, by go_num, bM8, hA8, hR8, HX8⟩
      · refine hK6 _ _ ?_
        refine wpHeldIn_take (i := 10) (v := ?_) (plain_of (by kernel_rfl)) rfl (by kernel_rfl) (fun _ _ _ h => h) (yieldsSoIn_of (by kernel_rfl) ?_ (fun _ => rfl)) trivial ?_; rotate_left; focus (intro w _; go_simp; try (with_reducible rfl))
        refine wpHeldIn_done (by kernel_rfl) ?_ _
        go_simp
        have HX8 : Hid (∃ ys : List Elb, ys.map Elb.es <+: G ∧ Jx (pre ++ ys) w8) := ⟨xs ++ xs8, (by rw [List.map_append, hxs]; exact ((List.prefix_append_right_inj _).2 hx8).trans (by rw [← HS2.out]; exact HPG.out _)), by rw [← List.append_assoc]; exact hJ8⟩
        clear hK6 hK5 HIH hJ8 hx8 hJ6 hxs p0 p1 p2 hb7 bM6 hR6 hA6 hA7
        go_wp2_with fail
        go_returns
        exact .inr ⟨rfl, HX8.out⟩
    · have ei : i = RL.length := by omega
      have HX6 : Hid (∃ ys : List Elb, ys.map Elb.es = G ∧ J (pre ++ ys) wr) := by rw [ei, HGA.out] at hX; exact hX
      clear hX ei
      go_wp2_with fail
      go_returns
      exact .inl ⟨rfl, hA, HX6.out⟩
set_option maxRecDepth 100000 in
set_option maxHeartbeats 8000000 in
theorem goOn_next (t : Wl.Trk) (ws : List Wl.Pt) (A Aw : Option Addr) (c cw : Nat) (ht : Wl.trkB t = true) (hw : Wl.ptsB ws = true) (n₀ c₀ l : Nat) (J Jx : List Elb → World → Prop) (hJ : OwnFrom c₀ J) (hJx : OwnFrom c₀ Jx)
    (w : World) (hn : n₀ ≤ c₀) (hcw : c₀ ≤ w.heap.size) (hP : Prs w n₀ A t.ps) (hQ : Prs w n₀ Aw ws) (v : Value) (pl : List Int) (hv : Row w c₀ v pl) (hpl : ∀ p ∈ pl, 0 ≤ p ∧ p < t.ps.length) (pre : List Elb) (h0 : J pre w) (hne : 0 < pl.length) (k : Nat) (hk : pl.length + (k + 1) = ws.length) (hbd : pre.length + (Wl.goL t ws (k + 1) pl).length ≤ 20000000)
    (IH0 : ∀ (v' : Value) (p : Int) (pre' : List Elb) (W : World), c₀ ≤ W.heap.size → Prs W n₀ A t.ps → Prs W n₀ Aw ws → Row W c₀ v' (pl ++ [p]) → (0 ≤ p ∧ p < t.ps.length) → pre'.length + (Wl.goL t ws k (pl ++ [p])).length ≤ 20000000 → J pre' W →
      Calls Try.prog 87 #[.agg (mcV t A c Aw ws.length cw), .func (.yield l) #[] #[], v'] W (GoPost n₀ c₀ J Jx (Wl.goL t ws k (pl ++ [p])) pre' W)) :
    Calls Try.prog 87 #[.agg (mcV t A c Aw ws.length cw), .func (.yield l) #[] #[], v] w (GoPost n₀ c₀ J Jx (Wl.goL t ws (k + 1) pl) pre w) := by
  rcases hv with ⟨_, e⟩ | ⟨bl, cap, rfl, hcap, hb1, hb2, hcc⟩
  · subst e; simp at hne
  obtain ⟨q, hq⟩ : ∃ q : Nat, pl.length = q + 1 := ⟨pl.length - 1, by omega⟩
  have hzq : pl[q]? = some (Wl.lastV pl) := by unfold Wl.lastV Wl.esAt; rw [hq, Nat.add_sub_cancel, List.getElem?_eq_getElem (by omega)]; rfl
  have cq := hcc q _ hzq
  have iq := hpl _ (List.mem_of_getElem? hzq)
  obtain ⟨hp8, hc3, hn8⟩ := Wl.trk_parts ht
  have hw8 := (Wl.pts_all hw).2
  have hwk : ws[pl.length]? = some (Wl.ptAt ws pl.length) := by unfold Wl.ptAt; rw [List.getElem?_eq_getElem (by omega)]; rfl
  obtain ⟨bw, ow, hAw, hbw, hcw2⟩ := hQ (by omega)
  obtain ⟨y0, y1⟩ := hcw2 _ _ hwk
  have hsa : Geo.sm (Wl.ptAt ws pl.length) := Wl.pts_sm hw (by omega)
  have hgb := Wl.goL_bd ht hw k
  have HRO : Hid (∀ W, Below w.heap.size w W → Calls Try.prog 55 #[.agg (mcV t A c Aw ws.length cw), .agg #[.int .i64 (Wl.ptAt ws pl.length).1, .int .i64 (Wl.ptAt ws pl.length).2]] W (OwnIPost (Wl.reachL t (Wl.ptAt ws pl.length)) W)) := fun W hW => reachO_any t A Aw c ws.length cw _ (Wl.trk_sm ht) hsa (by omega) W (fun h0 => by obtain ⟨b, off, e, hB, hc⟩ := hP h0; exact (prs_keep (fun _ => ⟨b, off, e, by omega, hc⟩) hW) h0)
  have HNE : Hid (∀ (p : Int), (0 ≤ p ∧ p < t.ps.length) → ∀ W, Calls Try.prog 100 #[.agg (mcV t A c Aw ws.length cw), .int .i64 (Wl.lastV pl), .int .i64 p] W fun e w' => e = .returned (.bool (Wl.nearB t (Wl.lastV pl) p)) ∧ Below W.heap.size W w') := fun p hp W => nearW_any t A c Aw ws.length cw _ _ (by omega) (by omega) (by omega) W
  have HRM : Hid (∀ (i : Nat) (p : Int), (Wl.reachL t (Wl.ptAt ws pl.length))[i]? = some p → 0 ≤ p ∧ p < t.ps.length) := fun i p h => (Wl.mem_reachL.1 (List.mem_of_getElem? h)).1
  have HRL : Hid ((Wl.reachL t (Wl.ptAt ws pl.length)).length ≤ 8) := Nat.le_trans (Wl.reachL_len _ _) hn8.2
  have HGS : Hid (∀ (i : Nat) (p : Int), (Wl.reachL t (Wl.ptAt ws pl.length))[i]? = some p → Wl.goTo t ws k pl (Wl.reachL t (Wl.ptAt ws pl.length)) (i + 1) = Wl.goTo t ws k pl (Wl.reachL t (Wl.ptAt ws pl.length)) i ++ (if 0 < (pl : List Int).length ∧ Wl.nearB t (Wl.lastV pl) p = false then [] else Wl.goL t ws k (pl ++ [p]))) := fun i p h => Wl.goTo_succ t ws k pl _ h
  have HG0 : Hid (Wl.goTo t ws k pl (Wl.reachL t (Wl.ptAt ws pl.length)) 0 = []) := rfl
  have HGA : Hid (Wl.goTo t ws k pl (Wl.reachL t (Wl.ptAt ws pl.length)) (Wl.reachL t (Wl.ptAt ws pl.length)).length = Wl.goL t ws (k + 1) pl) := Wl.goTo_all t ws k pl
  have HPG : Hid (∀ i, Wl.goTo t ws k pl (Wl.reachL t (Wl.ptAt ws pl.length)) i <+: Wl.goL t ws (k + 1) pl) := fun i => by have := Wl.goTo_pre t ws k pl (Wl.reachL t (Wl.ptAt ws pl.length)) i; rw [HGA.out] at this; exact this
  generalize Wl.goTo t ws k pl (Wl.reachL t (Wl.ptAt ws pl.length)) = GT at *
  generalize Wl.reachL t (Wl.ptAt ws pl.length) = RL at *
  generalize Wl.goL t ws (k + 1) pl = G at *
  generalize hNB : Wl.nearB t (Wl.lastV pl) = NB at *
  clear hNB
  generalize Wl.lastV pl = vq at *
  generalize hGK : (fun p : Int => Wl.goL t ws k (pl ++ [p])) = GK at *
  have HGK : ∀ p : Int, Wl.goL t ws k (pl ++ [p]) = GK p := fun p => by rw [← hGK]
  have IH := IH0
  simp only [HGK] at IH HGS hbd
  generalize Wl.ptAt ws pl.length = a at *
  obtain ⟨a1, a2⟩ := a
  obtain ⟨ps, cl, lo, hi⟩ := t
  unfold mcV at *
  dsimp only at *
  subst hAw
  have HP := Lib.hid hP
  have HQ := Lib.hid hQ
  have H0 := Lib.hid h0
  clear hGK HGK IH0 hP hQ h0 ht hw hp8 hc3 hsa hwk hgb hcw2
  have hmo : Try.prog.follows .mixedOrders = true := by kernel_rfl
  have hkw : pl.length < ws.length := by omega
  have hkz : (pl.length : Int) < ws.length := by omega
  have hke : ¬ pl.length = ws.length := by omega
  have hkb : ((pl.length : Int) == (ws.length : Int)) = false := by simp; omega
  have d3 : decide ((ws.length : Int) ≤ (pl.length : Int)) = false := decide_eq_false (by omega)
  have d5 : decide (ws.length ≤ pl.length) = false := decide_eq_false (by omega)
  have hwq : IntKind.i64.wrap ((pl.length : Int) - 1) = (q : Int) := by rw [hq]; exact (IntWalk.i64_in _ (by omega)).trans (by omega)
  have hql : q < pl.length := by omega
  have hqi : (q : Int) < pl.length := by omega
  have e2 : decide ((pl.length : Int) ≤ (q : Int)) = false := decide_eq_false (by omega)
  have e3 : decide (pl.length ≤ q) = false := decide_eq_false (by omega)
  have hg0 : decide (0 < pl.length) = true := decide_eq_true hne
  have hgi : decide ((0 : Int) < (pl.length : Int)) = true := decide_eq_true (by omega)
  have hpi : (0 : Int) < (pl.length : Int) := by omega
  have hl8 : pl.length ≤ 8 := by omega
  have hci : (pl.length : Int) ≤ (cap : Int) := by omega
  have HV : Hid (∀ k x, pl[k]? = some x → w.cell? ⟨bl, k, none⟩ = some (.int .i64 x)) := hcc
  clear hk hpl hke hq hzq hcc
  go_enter Try.func87, Try.ntmps87
  go_wp2_with fail
  have bM := BoxS.new w 70 #[.slice A ps.length c, .int .i64 cl, .int .i64 lo, .int .i64 hi, .slice (some ⟨bw, ow, none⟩) ws.length cw]
  have hB1 : Below w.heap.size w (w.alloc (.cells #[.slice A ps.length c, .int .i64 cl, .int .i64 lo, .int .i64 hi, .slice (some ⟨bw, ow, none⟩) ws.length cw] 70)) := by (repeat' (first | (with_reducible exact Below.refl _ _) | (with_reducible assumption) | (with_reducible refine Below.alloc ?_ ?_ _) | (with_reducible refine Below.drew ?_) | (with_reducible refine Below.setCell ?_ ?_ _) | go_size | (exact (by simp)) | omega))
  generalize World.alloc w _ = w1 at *
  have s4 := bM.cell 4 rfl
  have lM := bM.lt
  try go_wp2_with fail
  clear s4 lM hkb
  have q0 : Below w1.heap.size w1 w1.drew := (Below.refl _ _).drew
  have KC : Hid (∀ W', Below w1.heap.size w1 W' → (W'.cell? ⟨w.heap.size, 0, none⟩ = some (.slice A ps.length c) ∧ W'.cell? ⟨w.heap.size, 1, none⟩ = some (.int .i64 cl) ∧ W'.cell? ⟨w.heap.size, 2, none⟩ = some (.int .i64 lo) ∧ W'.cell? ⟨w.heap.size, 3, none⟩ = some (.int .i64 hi) ∧ W'.cell? ⟨w.heap.size, 4, none⟩ = some (.slice (some ⟨bw, ow, none⟩) ws.length cw)) ∧ W'.cell? ⟨bw, ow + pl.length * 2, none⟩ = some (.int .i64 a1) ∧ W'.cell? ⟨bw, ow + pl.length * 2 + 1, none⟩ = some (.int .i64 a2)) := fun W' h => by
    have h2 := hB1.trans (h.mono hB1.size)
    have b := bM.below h
    exact ⟨⟨b.cell 0 rfl, b.cell 1 rfl, b.cell 2 rfl, b.cell 3 rfl, b.cell 4 rfl⟩, (h2.cell (p := ⟨bw, _, none⟩) (show bw < w.heap.size by omega)).trans y0, (h2.cell (p := ⟨bw, _, none⟩) (show bw < w.heap.size by omega)).trans y1⟩

  clear y0 y1
  refine (wpIn_wide (n := 4)).1 ?_
  refine wpIn_region_held (fun W' => Below w1.heap.size w1 W') 30 hmo ?_
  refine wpHeldIn_take (i := 0) (v := ?_) (plain_of (by kernel_rfl)) rfl (by kernel_rfl) (fun _ _ _ h => h) (yieldsSoIn_of (by kernel_rfl) ?_ (fun _ => rfl)) q0 ?_; rotate_left; focus (intro wq hw; have kq := KC.out wq hw; clear hw; go_simp; try (with_reducible rfl))
  refine wpHeldIn_take (i := 1) (v := ?_) (plain_of (by kernel_rfl)) rfl (by kernel_rfl) (fun _ _ _ h => h) (yieldsSoIn_of (by kernel_rfl) ?_ (fun _ => rfl)) q0 ?_; rotate_left; focus (intro wq hw; clear hw; go_simp; try (with_reducible rfl))
  refine wpHeldIn_take (i := 2) (v := ?_) (plain_of (by kernel_rfl)) rfl (by kernel_rfl) (fun _ _ _ h => h) (yieldsSoIn_of (by kernel_rfl) ?_ (fun _ => rfl)) q0 ?_; rotate_left; focus (intro wq hw; have kq := KC.out wq hw; clear hw; go_simp; try (with_reducible rfl))
  refine wpHeldIn_take (i := 3) (v := ?_) (plain_of (by kernel_rfl)) rfl (by kernel_rfl) (fun _ _ _ h => h) (yieldsSoIn_of (by kernel_rfl) ?_ (fun _ => rfl)) q0 ?_; rotate_left; focus (intro wq hw; clear hw; go_simp; try (with_reducible rfl))
  refine wpHeldIn_take (i := 4) (v := ?_) (plain_of (by kernel_rfl)) rfl (by kernel_rfl) (fun _ _ _ h => h) (yieldsSoIn_of (by kernel_rfl) ?_ (fun _ => rfl)) q0 ?_; rotate_left; focus (intro wq hw; clear hw; go_simp; try (with_reducible rfl))
  refine wpHeldIn_take (i := 5) (v := ?_) (plain_of (by kernel_rfl)) rfl (by kernel_rfl) (fun _ _ _ h => h) (yieldsSoIn_of (by kernel_rfl) ?_ (fun _ => rfl)) q0 ?_; rotate_left; focus (intro wq hw; have kq := KC.out wq hw; clear hw; go_simp; try (with_reducible rfl))
  refine wpHeldIn_take (i := 8) (v := ?_) (plain_of (by kernel_rfl)) rfl (by kernel_rfl) (fun _ _ _ h => h) (yieldsSoIn_of (by kernel_rfl) ?_ (fun _ => rfl)) q0 ?_; rotate_left; focus (intro wq hw; clear hw; go_simp; try (with_reducible rfl))
  refine wpHeldIn_one (i := 6) (by kernel_rfl) (by kernel_rfl) rfl (by kernel_rfl) (fun K1 hK1 => ?_)
  go_simp
  refine ⟨trivial, (callsIn_wide.2 (HRO.out _ (hB1.trans (q0.mono hB1.size)))).mono ?_⟩
  rintro e w2 ⟨vr, rfl, hor, hb2⟩
  have q1 := q0.trans (hb2.mono q0.size)
  have hR2 : Row w2 c₀ vr RL := Row.of_own hor.out (by have := hB1.size; have := q0.size; omega)
  clear hor
  obtain ⟨Ar, cr, rfl⟩ := hR2.form
  refine hK1 _ _ q1 ?_
  refine wpHeldIn_take (i := 7) (v := ?_) (plain_of (by kernel_rfl)) rfl (by kernel_rfl) (fun _ _ _ h => h) (yieldsSoIn_of (by kernel_rfl) ?_ (fun _ => rfl)) q1 ?_; rotate_left; focus (intro wq hw; clear hw; go_simp; try (with_reducible rfl))
  refine wpHeldIn_done (by kernel_rfl) ?_ _
  go_simp
  have bM3 := bM.below q1
  have hA3 : Apart n₀ c₀ w w2 := (Apart.of_below (hB1.trans (q1.mono hB1.size)))
  have HX3 : Hid (∃ ys : List Elb, ys.map Elb.es = GT 0 ∧ J (pre ++ ys) w2) := ⟨[], by rw [HG0.out]; rfl, by rw [List.append_nil]; exact ownFrom_at hJ H0.out (hB1.trans (q1.mono hB1.size))⟩
  clear KC q0 q1 hb2 bM hB1 H0 HRO HG0 d3 d5 hkz
  try go_wp2_with fail
  go_loopg [41] RL.length (fun g x41 wx => ∃ i : Nat, Hid (i + g = RL.length) ∧ (i : Int) ≤ RL.length ∧ x41 = .int .i64 (i : Int) ∧ BoxS wx w.heap.size 70 #[.slice A ps.length c, .int .i64 cl, .int .i64 lo, .int .i64 hi, .slice (some ⟨bw, ow, none⟩) ws.length cw] ∧ Apart n₀ c₀ w wx ∧ Row wx c₀ (.slice Ar RL.length cr) RL ∧ Hid (∃ ys : List Elb, ys.map Elb.es = GT i ∧ J (pre ++ ys) wx))
  case atStart => exact ⟨0, by simp [Hid], by omega, rfl, bM3, hA3, hR2, HX3⟩
  case round =>
    clear bM3 hA3 hR2 HX3
    obtain ⟨i, hig, hi1, rfl, bM5, hA, hR, hX⟩ := hrel
    have hi0 := Int.natCast_nonneg i
    by_cases hlt : (i : Int) < RL.length
    · have hin : i < RL.length := by omega
      have hRi : RL[i]? = some RL[i] := List.getElem?_eq_getElem hin
      have hpr := HRM.out i _ hRi
      have HS1 := Lib.hid (HGS.out i _ hRi)
      have hprf := HPG.out (i + 1)
      have HN := Lib.hid (HNE.out _ hpr)
      obtain ⟨xs, hxs, hJ5⟩ := hX.out
      have hJ5 := Lib.hid hJ5
      rcases hR with ⟨_, e⟩ | ⟨br, cpr, e, hlr, hr1, hr2, hrc⟩
      · subst e; simp at hin
      injection e with eA _ ec
      subst eA ec
      have z0 := hrc i _ hRi
      have hR : Row wr c₀ (.slice (some ⟨br, 0, none⟩) RL.length cr) RL := .inr ⟨br, cr, rfl, hlr, hr1, hr2, hrc⟩
      have hw1 : IntKind.i64.wrap ((i : Int) + 1) = (i : Int) + 1 := IntWalk.i64_in _ (by have := HRL.out; omega)
      have lM := bM5.lt
      clear hX hrc hRi HGS HRM
      generalize RL[i] = p at *
      have q0 : Below wr.heap.size wr wr.drew := (Below.refl _ _).drew
      have hws := hA.size
      have KC : Hid (∀ W', Below wr.heap.size wr W' → (W'.cell? ⟨w.heap.size, 0, none⟩ = some (.slice A ps.length c) ∧ W'.cell? ⟨w.heap.size, 1, none⟩ = some (.int .i64 cl) ∧ W'.cell? ⟨w.heap.size, 2, none⟩ = some (.int .i64 lo) ∧ W'.cell? ⟨w.heap.size, 3, none⟩ = some (.int .i64 hi) ∧ W'.cell? ⟨w.heap.size, 4, none⟩ = some (.slice (some ⟨bw, ow, none⟩) ws.length cw)) ∧ W'.cell? ⟨bl, q, none⟩ = some (.int .i64 vq)) := fun W' h => by
        have b := bM5.below h
        exact ⟨⟨b.cell 0 rfl, b.cell 1 rfl, b.cell 2 rfl, b.cell 3 rfl, b.cell 4 rfl⟩, (World.cell?_of_block (a := ⟨bl, q, none⟩) ((hA.trans (Apart.of_below h)).block bl hb2 (.inr hb1))).trans cq⟩
      cases hb : NB p with
      | false =>
        rw [hb] at HN
        have HS2 : Hid (GT (i + 1) = GT i) := by unfold Hid; rw [HS1.out, if_pos ⟨hne, hb⟩, List.append_nil]
        clear hb HS1 hprf
        go_wp2_with fail
        refine (wpIn_wide (n := 4)).1 ?_
        refine wpIn_region_held (fun W' => Below wr.heap.size wr W') 30 hmo ?_
        refine wpHeldIn_take (i := 0) (v := ?_) (plain_of (by kernel_rfl)) rfl (by kernel_rfl) (fun _ _ _ h => h) (yieldsSoIn_of (by kernel_rfl) ?_ (fun _ => rfl)) q0 ?_; rotate_left; focus (intro wq hw; clear hw; go_simp; try (with_reducible rfl))
        refine wpHeldIn_take (i := 1) (v := ?_) (plain_of (by kernel_rfl)) rfl (by kernel_rfl) (fun _ _ _ h => h) (yieldsSoIn_of (by kernel_rfl) ?_ (fun _ => rfl)) q0 ?_; rotate_left; focus (intro wq hw; clear hw; go_simp; try (with_reducible rfl))
        refine wpHeldIn_take (i := 2) (v := ?_) (plain_of (by kernel_rfl)) rfl (by kernel_rfl) (fun _ _ _ h => h) (yieldsSoIn_of (by kernel_rfl) ?_ (fun _ => rfl)) q0 ?_; rotate_left; focus (intro wq hw; clear hw; go_simp; try (with_reducible rfl))
        refine wpHeldIn_take (i := 3) (v := ?_) (plain_of (by kernel_rfl)) rfl (by kernel_rfl) (fun _ _ _ h => h) (yieldsSoIn_of (by kernel_rfl) ?_ (fun _ => rfl)) q0 ?_; rotate_left; focus (intro wq hw; have kq := KC.out wq hw; clear hw; go_simp; try (with_reducible rfl))
        refine wpHeldIn_take (i := 4) (v := ?_) (plain_of (by kernel_rfl)) rfl (by kernel_rfl) (fun _ _ _ h => h) (yieldsSoIn_of (by kernel_rfl) ?_ (fun _ => rfl)) q0 ?_; rotate_left; focus (intro wq hw; clear hw; go_simp; try (with_reducible rfl))
        refine wpHeldIn_take (i := 5) (v := ?_) (plain_of (by kernel_rfl)) rfl (by kernel_rfl) (fun _ _ _ h => h) (yieldsSoIn_of (by kernel_rfl) ?_ (fun _ => rfl)) q0 ?_; rotate_left; focus (intro wq hw; clear hw; go_simp; try (with_reducible rfl))
        refine wpHeldIn_take (i := 6) (v := ?_) (plain_of (by kernel_rfl)) rfl (by kernel_rfl) (fun _ _ _ h => h) (yieldsSoIn_of (by kernel_rfl) ?_ (fun _ => rfl)) q0 ?_; rotate_left; focus (intro wq hw; clear hw; go_simp; try (with_reducible rfl))
        refine wpHeldIn_take (i := 7) (v := ?_) (plain_of (by kernel_rfl)) rfl (by kernel_rfl) (fun _ _ _ h => h) (yieldsSoIn_of (by kernel_rfl) ?_ (fun _ => rfl)) q0 ?_; rotate_left; focus (intro wq hw; clear hw; go_simp; try (with_reducible rfl))
        refine wpHeldIn_take (i := 8) (v := ?_) (plain_of (by kernel_rfl)) rfl (by kernel_rfl) (fun _ _ _ h => h) (yieldsSoIn_of (by kernel_rfl) ?_ (fun _ => rfl)) q0 ?_; rotate_left; focus (intro wq hw; have kq := KC.out wq hw; clear hw; go_simp; try (with_reducible rfl))
        refine wpHeldIn_take (i := 9) (v := ?_) (plain_of (by kernel_rfl)) rfl (by kernel_rfl) (fun _ _ _ h => h) (yieldsSoIn_of (by kernel_rfl) ?_ (fun _ => rfl)) q0 ?_; rotate_left; focus (intro wq hw; clear hw; go_simp; try (with_reducible rfl))
        refine wpHeldIn_one (i := 10) (by kernel_rfl) (by kernel_rfl) rfl (by kernel_rfl) (fun K3 hK3 => ?_)
        go_simp
        refine ⟨trivial, (callsIn_wide.2 (HN.out _)).mono ?_⟩
        rintro e w5 ⟨rfl, hb5⟩
        have q1 := q0.trans (hb5.mono q0.size)
        refine hK3 _ _ q1 ?_
        refine wpHeldIn_take (i := 11) (v := ?_) (plain_of (by kernel_rfl)) rfl (by kernel_rfl) (fun _ _ _ h => h) (yieldsSoIn_of (by kernel_rfl) ?_ (fun _ => rfl)) q1 ?_; rotate_left; focus (intro wq hw; clear hw; go_simp; try (with_reducible rfl))
        refine wpHeldIn_take (i := 12) (v := ?_) (plain_of (by kernel_rfl)) rfl (by kernel_rfl) (fun _ _ _ h => h) (yieldsSoIn_of (by kernel_rfl) ?_ (fun _ => rfl)) q1 ?_; rotate_left; focus (intro wq hw; clear hw; go_simp; try (with_reducible rfl))
        refine wpHeldIn_done (by kernel_rfl) ?_ _
        go_simp
        have bM6 := bM5.below q1
        have hA6 : Apart n₀ c₀ w w5 := hA.trans (Apart.of_below q1)
        have hR6 := hR.apart (Apart.of_below (b := n₀) (c := c₀) q1)
        have hJ6 : Hid (J (pre ++ xs) w5) := ownFrom_at hJ hJ5.out q1
        have HX6 : Hid (∃ ys : List Elb, ys.map Elb.es = GT (i + 1) ∧ J (pre ++ ys) w5) := ⟨xs, by rw [HS2.out, hxs], hJ6.out⟩
        clear KC q0 q1 hb5 bM5 hA hR hJ5 hJ6 z0 lM hr2 hws hxs
        go_wp2_with fail
        obtain ⟨g', hg'⟩ : ∃ g', gk = g' + 1 := ⟨gk - 1, by have := hig.out; omega⟩
        go_roundg g'
        case measure => omega
        case rel => exact ⟨i + 1, by have := hig.out; simp only [Hid]; omega, by omega, by go_num, bM6, hA6, hR6, HX6⟩
      | true =>
        rw [hb] at HN
        have HS2 : Hid (GT (i + 1) = GT i ++ GK p) := by unfold Hid; rw [HS1.out, if_neg (fun h => by rw [hb] at h; cases h.2)]
        have hlen : (pre ++ xs).length + (GK p).length ≤ 20000000 := by
          have h1 : xs.length = (GT i).length := by rw [← hxs, List.length_map]
          have h2 := hprf.length_le
          rw [HS2.out, List.length_append] at h2
          rw [List.length_append]
          omega
        clear hb HS1 hprf
        go_wp2_with fail
        refine (wpIn_wide (n := 4)).1 ?_
        refine wpIn_region_held (fun W' => Below wr.heap.size wr W') 30 hmo ?_
        refine wpHeldIn_take (i := 0) (v := ?_) (plain_of (by kernel_rfl)) rfl (by kernel_rfl) (fun _ _ _ h => h) (yieldsSoIn_of (by kernel_rfl) ?_ (fun _ => rfl)) q0 ?_; rotate_left; focus (intro wq hw; clear hw; go_simp; try (with_reducible rfl))
        refine wpHeldIn_take (i := 1) (v := ?_) (plain_of (by kernel_rfl)) rfl (by kernel_rfl) (fun _ _ _ h => h) (yieldsSoIn_of (by kernel_rfl) ?_ (fun _ => rfl)) q0 ?_; rotate_left; focus (intro wq hw; clear hw; go_simp; try (with_reducible rfl))
        refine wpHeldIn_take (i := 2) (v := ?_) (plain_of (by kernel_rfl)) rfl (by kernel_rfl) (fun _ _ _ h => h) (yieldsSoIn_of (by kernel_rfl) ?_ (fun _ => rfl)) q0 ?_; rotate_left; focus (intro wq hw; clear hw; go_simp; try (with_reducible rfl))
        refine wpHeldIn_take (i := 3) (v := ?_) (plain_of (by kernel_rfl)) rfl (by kernel_rfl) (fun _ _ _ h => h) (yieldsSoIn_of (by kernel_rfl) ?_ (fun _ => rfl)) q0 ?_; rotate_left; focus (intro wq hw; have kq := KC.out wq hw; clear hw; go_simp; try (with_reducible rfl))
        refine wpHeldIn_take (i := 4) (v := ?_) (plain_of (by kernel_rfl)) rfl (by kernel_rfl) (fun _ _ _ h => h) (yieldsSoIn_of (by kernel_rfl) ?_ (fun _ => rfl)) q0 ?_; rotate_left; focus (intro wq hw; clear hw; go_simp; try (with_reducible rfl))
        refine wpHeldIn_take (i := 5) (v := ?_) (plain_of (by kernel_rfl)) rfl (by kernel_rfl) (fun _ _ _ h => h) (yieldsSoIn_of (by kernel_rfl) ?_ (fun _ => rfl)) q0 ?_; rotate_left; focus (intro wq hw; clear hw; go_simp; try (with_reducible rfl))
        refine wpHeldIn_take (i := 6) (v := ?_) (plain_of (by kernel_rfl)) rfl (by kernel_rfl) (fun _ _ _ h => h) (yieldsSoIn_of (by kernel_rfl) ?_ (fun _ => rfl)) q0 ?_; rotate_left; focus (intro wq hw; clear hw; go_simp; try (with_reducible rfl))
        refine wpHeldIn_take (i := 7) (v := ?_) (plain_of (by kernel_rfl)) rfl (by kernel_rfl) (fun _ _ _ h => h) (yieldsSoIn_of (by kernel_rfl) ?_ (fun _ => rfl)) q0 ?_; rotate_left; focus (intro wq hw; clear hw; go_simp; try (with_reducible rfl))
        refine wpHeldIn_take (i := 8) (v := ?_) (plain_of (by kernel_rfl)) rfl (by kernel_rfl) (fun _ _ _ h => h) (yieldsSoIn_of (by kernel_rfl) ?_ (fun _ => rfl)) q0 ?_; rotate_left; focus (intro wq hw; have kq := KC.out wq hw; clear hw; go_simp; try (with_reducible rfl))
        refine wpHeldIn_take (i := 9) (v := ?_) (plain_of (by kernel_rfl)) rfl (by kernel_rfl) (fun _ _ _ h => h) (yieldsSoIn_of (by kernel_rfl) ?_ (fun _ => rfl)) q0 ?_; rotate_left; focus (intro wq hw; clear hw; go_simp; try (with_reducible rfl))
        refine wpHeldIn_one (i := 10) (by kernel_rfl) (by kernel_rfl) rfl (by kernel_rfl) (fun K3 hK3 => ?_)
        go_simp
        refine ⟨trivial, (callsIn_wide.2 (HN.out _)).mono ?_⟩
        rintro e w5 ⟨rfl, hb5⟩
        have q1 := q0.trans (hb5.mono q0.size)
        refine hK3 _ _ q1 ?_
        refine wpHeldIn_take (i := 11) (v := ?_) (plain_of (by kernel_rfl)) rfl (by kernel_rfl) (fun _ _ _ h => h) (yieldsSoIn_of (by kernel_rfl) ?_ (fun _ => rfl)) q1 ?_; rotate_left; focus (intro wq hw; clear hw; go_simp; try (with_reducible rfl))
        refine wpHeldIn_take (i := 12) (v := ?_) (plain_of (by kernel_rfl)) rfl (by kernel_rfl) (fun _ _ _ h => h) (yieldsSoIn_of (by kernel_rfl) ?_ (fun _ => rfl)) q1 ?_; rotate_left; focus (intro wq hw; clear hw; go_simp; try (with_reducible rfl))
        refine wpHeldIn_done (by kernel_rfl) ?_ _
        go_simp
        have bM6 := bM5.below q1
        have hA6 : Apart n₀ c₀ w w5 := hA.trans (Apart.of_below q1)
        have hR6 := hR.apart (Apart.of_below (b := n₀) (c := c₀) q1)
        have hJ6 : Hid (J (pre ++ xs) w5) := ownFrom_at hJ hJ5.out q1
        clear KC q0 q1 hb5 bM5 hA hR hJ5 z0 lM hr2 hws
        obtain ⟨w6, rfl⟩ : ∃ w6, w6 = w5 := ⟨_, rfl⟩
        have hbl6 : bl < w6.heap.size := Nat.lt_of_lt_of_le hb2 hA6.size
        have hcl6 : ∀ k x, pl[k]? = some x → w6.drew.cell? ⟨bl, k, none⟩ = some (.int .i64 x) := fun k x hx => (World.cell?_of_block (a := ⟨bl, k, none⟩) (hA6.block bl hb2 (.inr hb1))).trans (HV.out k x hx)
        have p0 : Below w6.heap.size w6 w6.drew := (Below.refl _ _).drew
        have KC : Hid (∀ W', Below w6.heap.size w6 W' → (W'.cell? ⟨w.heap.size, 0, none⟩ = some (.slice A ps.length c) ∧ W'.cell? ⟨w.heap.size, 1, none⟩ = some (.int .i64 cl) ∧ W'.cell? ⟨w.heap.size, 2, none⟩ = some (.int .i64 lo) ∧ W'.cell? ⟨w.heap.size, 3, none⟩ = some (.int .i64 hi) ∧ W'.cell? ⟨w.heap.size, 4, none⟩ = some (.slice (some ⟨bw, ow, none⟩) ws.length cw))) := fun W' h => by
          have b := bM6.below h
          exact ⟨b.cell 0 rfl, b.cell 1 rfl, b.cell 2 rfl, b.cell 3 rfl, b.cell 4 rfl⟩
        go_wp2_with fail
        refine (wpIn_wide (n := 4)).1 ?_
        refine wpIn_region_held (fun W' => Below w6.heap.size w6 W') 9 hmo ?_
        refine wpHeldIn_take (i := 0) (v := ?_) (plain_of (by kernel_rfl)) rfl (by kernel_rfl) (fun _ _ _ h => h) (yieldsSoIn_of (by kernel_rfl) ?_ (fun _ => rfl)) p0 ?_; rotate_left; focus (intro wq hw; have kq := KC.out wq hw; clear hw; go_simp; try (with_reducible rfl))
        refine wpHeldIn_take (i := 1) (v := ?_) (plain_of (by kernel_rfl)) rfl (by kernel_rfl) (fun _ _ _ h => h) (yieldsSoIn_of (by kernel_rfl) ?_ (fun _ => rfl)) p0 ?_; rotate_left; focus (intro wq hw; clear hw; go_simp; try (with_reducible rfl))
        refine wpHeldIn_take (i := 2) (v := ?_) (plain_of (by kernel_rfl)) rfl (by kernel_rfl) (fun _ _ _ h => h) (yieldsSoIn_of (by kernel_rfl) ?_ (fun _ => rfl)) p0 ?_; rotate_left; focus (intro wq hw; clear hw; go_simp; try (with_reducible rfl))
        refine wpHeldIn_take (i := 3) (v := ?_) (plain_of (by kernel_rfl)) rfl (by kernel_rfl) (fun _ _ _ h => h) (yieldsSoIn_of (by kernel_rfl) ?_ (fun _ => rfl)) p0 ?_; rotate_left; focus (intro wq hw; clear hw; go_simp; try (with_reducible rfl))
        refine wpHeldIn_take (i := 4) (v := ?_) (plain_of (by kernel_rfl)) rfl (by kernel_rfl) (fun _ _ _ h => h) (yieldsSoIn_of (by kernel_rfl) ?_ (fun _ => rfl)) p0 ?_; rotate_left; focus (intro wq hw; clear hw; go_simp; try (with_reducible rfl))
        refine wpHeldIn_take (i := 5) (v := ?_) (plain_of (by kernel_rfl)) rfl (by kernel_rfl) (fun _ _ _ h => h) (yieldsSoIn_of (by kernel_rfl) ?_ (fun _ => rfl)) p0 ?_; rotate_left; focus (intro wq hw; clear hw; go_simp; try (with_reducible rfl))
        refine wpHeldIn_take (i := 6) (v := ?_) (plain_of (by kernel_rfl)) rfl (by kernel_rfl) (fun _ _ _ h => h) (yieldsSoIn_of (by kernel_rfl) ?_ (fun _ => rfl)) p0 ?_; rotate_left; focus (intro wq hw; clear hw; go_simp; try (with_reducible rfl))
        have p1 : Below w6.heap.size w6 (w6.drew.alloc (.cells #[.int .i64 p] 3)) := p0.alloc (Nat.le_refl _) _
        refine wpHeldIn_one (i := 7) (by kernel_rfl) (by kernel_rfl) rfl (by kernel_rfl) (fun K' hK' => ?_); go_simp; refine hK' _ _ p1 ?_
        refine wpHeldIn_one (i := 8) (by kernel_rfl) (by kernel_rfl) rfl (by kernel_rfl) (fun K5 hK5 => ?_)
        refine wpIn_pushrow (wr := w6.drew) (.tmp 63) (.tmp 65) rfl p (some ⟨bl, 0, none⟩) pl rfl (.inr ⟨bl, rfl, hbl6, hcl6⟩) rfl (by omega) ?_
        intro v' w7 hown7 hb7
        have HO7 := Lib.hid hown7
        clear hown7
        have p2 := p0.trans hb7
        refine hK5 _ _ p2 ?_
        have hA7 : Apart n₀ c₀ w w7 := hA6.trans (Apart.of_below p2)
        have hJ7 := ownFrom_at hJ hJ6.out p2
        have HIH := Lib.hid (IH v' p (pre ++ xs) w7 (Nat.le_trans hcw hA7.size) (HP.out.keep (hA7.below (by omega))) (HQ.out.keep (hA7.below (by omega))) (Row.of_own HO7.out (by have := hA6.size; show c₀ ≤ w6.heap.size; omega)) hpr hlen hJ7)
        clear hJ7 HO7
        refine wpHeldIn_last (by kernel_rfl) rfl (by kernel_rfl) (fun K6 hK6 => ?_)
        go_simp
        refine ⟨trivial, (callsIn_wide.2 HIH.out).mono ?_⟩
        rintro e w8 (⟨rfl, hk8, xs8, hx8, hJ8⟩ | ⟨rfl, xs8, hx8, hJ8⟩)
        · refine hK6 _ _ ?_
          refine wpHeldIn_take (i := 10) (v := ?_) (plain_of (by kernel_rfl)) rfl (by kernel_rfl) (fun _ _ _ h => h) (yieldsSoIn_of (by kernel_rfl) ?_ (fun _ => rfl)) trivial ?_; rotate_left; focus (intro w _; go_simp; try (with_reducible rfl))
          refine wpHeldIn_done (by kernel_rfl) ?_ _
          go_simp
          have hA8 := hA7.trans hk8
          have HX8 : Hid (∃ ys : List Elb, ys.map Elb.es = GT (i + 1) ∧ J (pre ++ ys) w8) := ⟨xs ++ xs8, by rw [List.map_append, hxs, hx8, ← HS2.out], by rw [← List.append_assoc]; exact hJ8⟩
          have bM8 : BoxS w8 w.heap.size 70 #[.slice A ps.length c, .int .i64 cl, .int .i64 lo, .int .i64 hi, .slice (some ⟨bw, ow, none⟩) ws.length cw] := (Apart.boxS (hk8) (bM6.below p2) (.inr hcw))
          have hR8 := hR6.apart ((Apart.of_below (b := n₀) (c := c₀) p2).trans hk8)
          clear hK6 hK5 HIH hJ8 hx8 hJ6 hxs p0 p1 p2 hb7 bM6 hR6 hA6 hA7 hk8
          go_wp2_with fail
          obtain ⟨g', hg'⟩ : ∃ g', gk = g' + 1 := ⟨gk - 1, by have := hig.out; omega⟩
          go_roundg g'
          case measure => omega
          case rel => exact ⟨i + 1, by have := hig.out; simp only [Hid]; omega, by omega, by go_num, bM8, hA8, hR8, HX8⟩
        · refine hK6 _ _ ?_
          refine wpHeldIn_take (i := 10) (v := ?_) (plain_of (by kernel_rfl)) rfl (by kernel_rfl) (fun _ _ _ h => h) (yieldsSoIn_of (by kernel_rfl) ?_ (fun _ => rfl)) trivial ?_; rotate_left; focus (intro w _; go_simp; try (with_reducible rfl))
          refine wpHeldIn_done (by kernel_rfl) ?_ _
          go_simp
          have HX8 : Hid (∃ ys : List Elb, ys.map Elb.es <+: G ∧ Jx (pre ++ ys) w8) := ⟨xs ++ xs8, (by rw [List.map_append, hxs]; exact ((List.prefix_append_right_inj _).2 hx8).trans (by rw [← HS2.out]; exact HPG.out _)), by rw [← List.append_assoc]; exact hJ8⟩
          clear hK6 hK5 HIH hJ8 hx8 hJ6 hxs p0 p1 p2 hb7 bM6 hR6 hA6 hA7
          go_wp2_with fail
          go_returns
          exact .inr ⟨rfl, HX8.out⟩
    · have ei : i = RL.length := by omega
      have HX6 : Hid (∃ ys : List Elb, ys.map Elb.es = G ∧ J (pre ++ ys) wr) := by rw [ei, HGA.out] at hX; exact hX
      clear hX ei
      go_wp2_with fail
      go_returns
      exact .inl ⟨rfl, hA, HX6.out⟩
theorem goOn_ne (t : Wl.Trk) (ws : List Wl.Pt) (A Aw : Option Addr) (c cw : Nat) (ht : Wl.trkB t = true) (hw : Wl.ptsB ws = true) (n₀ c₀ l : Nat) (J Jx : List Elb → World → Prop) (hJ : OwnFrom c₀ J) (hJx : OwnFrom c₀ Jx)
    (hY : ∀ m pre (x : Elb) W1, J pre W1 → pre.length < 20000000 → Row W1 c₀ (.slice x.A x.es.length x.c) x.es → (x.es.length = ws.length ∧ ∀ p ∈ x.es, 0 ≤ p ∧ p < t.ps.length) → YieldAt Fence.wide m Try.prog l (encEl x) W1 (farYield n₀ c₀ J Jx pre x W1)) : ∀ (k : Nat) (w : World) (hn : n₀ ≤ c₀) (hcw : c₀ ≤ w.heap.size) (hP : Prs w n₀ A t.ps) (hQ : Prs w n₀ Aw ws) (v : Value) (pl : List Int) (hv : Row w c₀ v pl) (hpl : ∀ p ∈ pl, 0 ≤ p ∧ p < t.ps.length) (pre : List Elb) (h0 : J pre w) (hne : 0 < pl.length) (hk : pl.length + k = ws.length) (hbd : pre.length + (Wl.goL t ws k pl).length ≤ 20000000),
    Calls Try.prog 87 #[.agg (mcV t A c Aw ws.length cw), .func (.yield l) #[] #[], v] w (GoPost n₀ c₀ J Jx (Wl.goL t ws k pl) pre w)
  | 0, w, hn, hcw, hP, hQ, v, pl, hv, hpl, pre, h0, hne, hk, hbd => goOn_leaf t ws A Aw c cw ht hw n₀ c₀ l J Jx hJ hJx hY w hn hcw hP hQ v pl hv hpl pre h0 (by omega) hbd
  | k + 1, w, hn, hcw, hP, hQ, v, pl, hv, hpl, pre, h0, hne, hk, hbd => goOn_next t ws A Aw c cw ht hw n₀ c₀ l J Jx hJ hJx w hn hcw hP hQ v pl hv hpl pre h0 hne k hk hbd (fun v' p pre' W hW hP' hQ' hv' hp hb' h0' =>
      goOn_ne t ws A Aw c cw ht hw n₀ c₀ l J Jx hJ hJx hY k W hn hW hP' hQ' v' (pl ++ [p]) hv' (fun z hz => by
        rcases List.mem_append.1 hz with hz | hz
        · exact hpl z hz
        · rw [List.mem_singleton] at hz; subst hz; exact hp) pre' h0' (by simp) (by simp; omega) hb')
theorem goOn_all (t : Wl.Trk) (ws : List Wl.Pt) (A Aw : Option Addr) (c cw : Nat) (ht : Wl.trkB t = true) (hw : Wl.ptsB ws = true) (n₀ c₀ l : Nat) (J Jx : List Elb → World → Prop) (hJ : OwnFrom c₀ J) (hJx : OwnFrom c₀ Jx)
    (hY : ∀ m pre (x : Elb) W1, J pre W1 → pre.length < 20000000 → Row W1 c₀ (.slice x.A x.es.length x.c) x.es → (x.es.length = ws.length ∧ ∀ p ∈ x.es, 0 ≤ p ∧ p < t.ps.length) → YieldAt Fence.wide m Try.prog l (encEl x) W1 (farYield n₀ c₀ J Jx pre x W1)) (w : World) (hn : n₀ ≤ c₀) (hcw : c₀ ≤ w.heap.size) (hP : Prs w n₀ A t.ps) (hQ : Prs w n₀ Aw ws) (h0 : J [] w) :
    Calls Try.prog 87 #[.agg (mcV t A c Aw ws.length cw), .func (.yield l) #[] #[], .slice none 0 0] w (GoPost n₀ c₀ J Jx (Wl.elbsL t ws) [] w) := by
  have h1 : 1 ≤ ws.length := by
    have := hw
    unfold Wl.ptsB inB at this
    simp only [Bool.and_eq_true, decide_eq_true_eq] at this
    omega
  obtain ⟨k, hk⟩ : ∃ k, ws.length = k + 1 := ⟨ws.length - 1, by omega⟩
  have hb := Wl.goL_bd ht hw ws.length [] (Nat.le_refl _)
  unfold Wl.elbsL
  rw [hk] at hb ⊢
  have := goOn_first t ws A Aw c cw ht hw n₀ c₀ l J Jx hJ hJx w hn hcw hP hQ [] (fun p hp => by cases hp) [] h0 rfl k (by rw [hk]; simp) (by simp; omega) (fun v' p pre' W hW hP' hQ' hv' hp hb' h0' =>
    goOn_ne t ws A Aw c cw ht hw n₀ c₀ l J Jx hJ hJx hY k W hn hW hP' hQ' v' ([] ++ [p]) hv' (fun z hz => by
      rw [List.nil_append, List.mem_singleton] at hz; subst hz; exact hp) pre' h0' (by simp) (by rw [hk]; simp; omega) hb')
  rw [hk] at this
  exact this
theorem Row.low {W : World} {c₀ c₁ : Nat} {v : Value} {L : List Int} (h : Row W c₀ v L) (hc : c₁ ≤ c₀) : Row W c₁ v L := by
  rcases h with h | ⟨b, cap, e, hl, h1, h2, h3⟩
  · exact .inl h
  · exact .inr ⟨b, cap, e, hl, by omega, h2, h3⟩
abbrev ElbPr (t : Wl.Trk) (ws : List Wl.Pt) (w : World) (x : Elb) (W : World) : Prop := Row W w.heap.size (.slice x.A x.es.length x.c) x.es ∧ (x.es.length = ws.length ∧ ∀ p ∈ x.es, 0 ≤ p ∧ p < t.ps.length)
set_option maxRecDepth 100000 in
set_option maxHeartbeats 4000000 in
theorem elbows_far (t : Wl.Trk) (ws : List Wl.Pt) (A Aw : Option Addr) (c cw : Nat) (ht : Wl.trkB t = true) (hw : Wl.ptsB ws = true) (n₀ : Nat) (w : World) (hn0 : n₀ ≤ w.heap.size) (hP : Prs w n₀ A t.ps) (hQ : Prs w n₀ Aw ws) :
    SeqFarP Try.prog (ElbPr t ws w) 64 #[.agg (mcV t A c Aw ws.length cw)] #[] encEl n₀ (fun xs => xs.map Elb.es = Wl.elbsL t ws) (fun pre => pre.map Elb.es <+: Wl.elbsL t ws) 20000000 w := by
  intro l J Jx W hW hJ hJx hY h0
  have hWs := hW.size
  have HGO : Hid (∀ W1, Below W.heap.size W W1 → Calls Try.prog 87 #[.agg (mcV t A c Aw ws.length cw), .func (.yield l) #[] #[], .slice none 0 0] W1 (GoPost n₀ W.heap.size J Jx (Wl.elbsL t ws) [] W1)) := fun W1 hb =>
    goOn_all t ws A Aw c cw ht hw n₀ W.heap.size l J Jx hJ hJx (fun m pre x V h1 h2 h3 h4 => hY m pre x V h1 h2 ⟨h3.low hWs, h4⟩) W1 (by omega) hb.size (hP.keep ((hW.mono hn0).trans (hb.mono (by omega)))) (hQ.keep ((hW.mono hn0).trans (hb.mono (by omega)))) (ownFrom_at hJ h0 hb)
  show Calls Try.prog _ #[.agg (mcV t A c Aw ws.length cw), .func (.yield l) #[] #[]] W _
  obtain ⟨ps, cl, lo, hi⟩ := t
  unfold mcV at *
  dsimp only at *
  generalize Wl.elbsL ⟨ps, cl, lo, hi⟩ ws = G at *
  clear hY h0 hP hQ hW ht hw
  go_enter Try.func64, Try.ntmps64
  go_wp2_with fail
  have hb1 : Below W.heap.size W (W.alloc (.cells #[.slice A ps.length c, .int .i64 cl, .int .i64 lo, .int .i64 hi, .slice Aw ws.length cw] 70)) := by (repeat' (first | (with_reducible exact Below.refl _ _) | (with_reducible assumption) | (with_reducible refine Below.alloc ?_ ?_ _) | (with_reducible refine Below.drew ?_) | (with_reducible refine Below.setCell ?_ ?_ _) | go_size | (exact (by simp)) | omega))
  generalize World.alloc W _ = W1 at *
  refine (HGO.out _ hb1).mono ?_
  rintro e W2 (⟨rfl, _, xs, hx, hj⟩ | ⟨rfl, xs, hx, hj⟩)
  · have H := Lib.hid (And.intro hx hj)
    clear hx hj
    go_wp2_with fail
    go_end0
    exact ⟨⟨_, rfl⟩, .inl ⟨xs, H.out.1, H.out.2⟩⟩
  · have H := Lib.hid (And.intro hx hj)
    clear hx hj
    go_wp2_with fail
    go_end0
    exact ⟨⟨_, rfl⟩, .inr ⟨xs, H.out.1, H.out.2⟩⟩
end Go.Proofs.Ytmjcdggmofohcaa
