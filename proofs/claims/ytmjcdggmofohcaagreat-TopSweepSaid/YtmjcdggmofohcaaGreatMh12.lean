/- Texts of this proof, one behind the other: WlG, WlT, WlR, WlI, WlJ, WlK. Each says its own conditions. -/
import Derived.Test.YtmjcdggmofohcaaGreatMh04
import Derived.Test.YtmjcdggmofohcaaGreatMh10
import Derived.Test.YtmjcdggmofohcaaGreatMh11
namespace Go.Proofs.YtmjcdggmofohcaaGreat
open Go.RowKit Go.Shelf
attribute [local go_sem] Oper.semAt_some
set_option maxHeartbeats 1000000 in
theorem aroundI0_in (F : Fence) (n : Nat) (hF : F.fn 62) (hro : F.round = none) (A : Option Addr) (k c : Nat) (w : World) :
    CallsIn F n Tryz.prog 62 #[.slice A k c] w fun e w' => e = .returned (.func (.func 85) #[] #[.pointer (some ⟨w.heap.size, 0, none⟩)]) ∧ w' = w.alloc (.cells #[.slice A k c] 27) := by
  refine callsIn_of_wp Tryz.func62 rfl hF ?_ hro
  simp only [Tryz.ntmps62, List.size_toArray, List.length_cons, List.length_nil, Nat.reduceAdd, Nat.reduceSub, Array.replicate_succ, Array.replicate_zero, List.push_toArray, List.append_toArray, List.nil_append, List.cons_append]
  gi_wp2
  go_ret
  exact ⟨rfl, rfl⟩
theorem ints_below {w w' : World} {B : Nat} {v : Value} {xs : List Int} (h : Ints w B v xs) (hb : Below B w w') : Ints w' B v xs := h.keep hb
theorem aroundI_stops (F : Fence) (n : Nat) (hF : F.fn 85) (hro : F.round = none) (hn : 1 ≤ n) (Bs n₀ : Nat) (A : Option Addr) (c : Nat) (es : List Int) (hes : ∀ e ∈ es, smI e) (hlen : es.length ≤ 100) (w : World)
    (hBs : Boxed w Bs 27 (.slice A es.length c)) (hn0 : n₀ ≤ w.heap.size) (hP : Ints w n₀ (.slice A es.length c) es) :
    SeqStopsK F n Tryz.prog 85 #[.pointer (some ⟨Bs, 0, none⟩)] (fun x : Leg => #[.int .i64 x.1.1, .int .i64 x.1.2]) (KpS n₀ Bs) (fun ys => ys = legsTo es hes es.length) (fun pre => ∃ k, k ≤ es.length ∧ pre = legsTo es hes k) es.length w := fun l J Jx W hW hJ _ hY h0 =>
  aroundI_in F n hF hro hn l Bs n₀ A c es hes hlen J Jx hY W hJ (boxed_below hBs hW) (Nat.le_trans hn0 hW.size) (hP.keep (hW.mono hn0)) h0
def sumL (val : Leg → Int) (l : List Leg) : Int := (l.map val).sum
theorem sumL_snoc (val : Leg → Int) (l : List Leg) (x : Leg) : sumL val (l ++ [x]) = sumL val l + val x := by simp [sumL]
theorem sumL_bd {val : Leg → Int} {M : Int} (h : ∀ x, -M ≤ val x ∧ val x ≤ M) (l : List Leg) : -(M * l.length) ≤ sumL val l ∧ sumL val l ≤ M * l.length := by
  induction l with
  | nil => simp [sumL]
  | cons x l ih =>
    have hx := h x
    have e1 : sumL val (x :: l) = val x + sumL val l := by simp [sumL]
    have e2 : M * ((x :: l).length : Int) = M + M * (l.length : Int) := by rw [List.length_cons]; push_cast; rw [Int.mul_add]; omega
    rw [e1, e2]
    omega
def stL (t : Wl.Trk) (x : Leg) : Int := Wl.stepV t x.1.1 x.1.2
theorem stL_bd (t : Wl.Trk) (x : Leg) : -2000 ≤ stL t x ∧ stL t x ≤ 2000 := by
  obtain ⟨⟨a, b⟩, h1, h2⟩ := x
  unfold smI at h1 h2
  dsimp only at h1 h2
  unfold stL Wl.stepV
  dsimp only
  split
  · omega
  · split <;> omega
theorem legsTo_len (es : List Int) (h : ∀ e ∈ es, smI e) (k : Nat) : (legsTo es h k).length = k := by unfold legsTo; simp
def trnV (t : Wl.Trk) (es : List Int) (hes : ∀ e ∈ es, smI e) : Int := (sumL (stL t) (legsTo es hes es.length)).tdiv t.ps.length
set_option maxRecDepth 100000 in
set_option maxHeartbeats 4000000 in
theorem turnsW_in (n : Nat) (hn : 6 ≤ n) (t : Wl.Trk) (A Aw Ae : Option Addr) (c m cw ce : Nat) (es : List Int) (hes : ∀ e ∈ es, smI e) (hlen : es.length ≤ 100) (hl : t.ps.length ≤ 1000000000) (hpos : 0 < t.ps.length) (w : World) (hE : Ints w w.heap.size (.slice Ae es.length ce) es) :
    CallsIn Fence.wide n Tryz.prog 36 #[.agg (mcV t A c Aw m cw), .slice Ae es.length ce] w fun e w' => e = .returned (.int .i64 (trnV t es hes)) ∧ Below w.heap.size w w' := by
  have h1 : 1 ≤ n := by omega
  have HV : Hid (∀ x, -2000 ≤ stL t x ∧ stL t x ≤ 2000) := stL_bd t
  have HG : Hid (∀ (x : Leg) W, Calls Tryz.prog 63 #[.agg (mcV t A c Aw m cw), .int .i64 x.1.1, .int .i64 x.1.2] W fun e w' => e = .returned (.int .i64 (stL t x)) ∧ Below W.heap.size W w') := fun x W => stepW_any t A c Aw m cw x.1.1 x.1.2 (by have := x.2.1; unfold smI at this; omega) (by have := x.2.2; unfold smI at this; omega) hl W
  have HT : Hid (trnV t es hes = (sumL (stL t) (legsTo es hes es.length)).tdiv t.ps.length) := rfl
  have HE := Lib.hid hE
  have hlb := sumL_bd HV.out (legsTo es hes es.length)
  rw [legsTo_len] at hlb
  have HLB : Hid (-200000 ≤ sumL (stL t) (legsTo es hes es.length) ∧ sumL (stL t) (legsTo es hes es.length) ≤ 200000) := by unfold Hid; omega
  generalize trnV t es hes = R at *
  generalize stL t = val at *
  obtain ⟨ps, cl, lo, hi⟩ := t
  unfold mcV at *
  dsimp only at *
  clear hE hlb
  refine callsIn_of_wp_marks Tryz.func36 rfl trivial ?_ rfl
  simp only [Tryz.ntmps36, List.size_toArray, List.length_cons, List.length_nil, Nat.reduceAdd, Nat.reduceSub, Array.replicate_succ, Array.replicate_zero, List.push_toArray, List.append_toArray, List.nil_append, List.cons_append]
  gi_wp2_with (refine ⟨trivial, ?_⟩; gi_at_call 62; refine (aroundI0_in Fence.wide (n - 1) trivial rfl _ _ _ _).mono ?_; rintro e w' ⟨rfl, rfl⟩)
  have bG := ((BoxS.new w 61 #[.slice A ps.length c, .int .i64 cl, .int .i64 lo, .int .i64 hi, .slice Aw m cw]).alloc (.cells #[.int .i64 0] 3)).alloc (.cells #[.slice Ae es.length ce] 27)
  have bR := (Boxed.new (w.alloc (.cells #[.slice A ps.length c, .int .i64 cl, .int .i64 lo, .int .i64 hi, .slice Aw m cw] 61)) 3 (.int .i64 0)).alloc (.cells #[.slice Ae es.length ce] 27)
  have bA := Boxed.new ((w.alloc (.cells #[.slice A ps.length c, .int .i64 cl, .int .i64 lo, .int .i64 hi, .slice Aw m cw] 61)).alloc (.cells #[.int .i64 0] 3)) 27 (.slice Ae es.length ce)
  simp only [World.size_alloc] at bR bA
  have hB0 : Below w.heap.size w (((w.alloc (.cells #[.slice A ps.length c, .int .i64 cl, .int .i64 lo, .int .i64 hi, .slice Aw m cw] 61)).alloc (.cells #[.int .i64 0] 3)).alloc (.cells #[.slice Ae es.length ce] 27)) := (((Below.refl _ w).alloc (Nat.le_refl _) _).alloc (by simp) _).alloc (by simp; omega) _
  have hsz : (((w.alloc (.cells #[.slice A ps.length c, .int .i64 cl, .int .i64 lo, .int .i64 hi, .slice Aw m cw] 61)).alloc (.cells #[.int .i64 0] 3)).alloc (.cells #[.slice Ae es.length ce] 27)).heap.size = w.heap.size + 3 := by simp
  obtain ⟨W0, hW0⟩ : ∃ W0, (((w.alloc (.cells #[.slice A ps.length c, .int .i64 cl, .int .i64 lo, .int .i64 hi, .slice Aw m cw] 61)).alloc (.cells #[.int .i64 0] 3)).alloc (.cells #[.slice Ae es.length ce] 27)) = W0 := ⟨_, rfl⟩
  rw [hW0] at bG bR bA hB0 hsz ⊢
  clear hW0
  have hE1 : Ints W0 w.heap.size (.slice Ae es.length ce) es := HE.out.keep hB0
  refine wpIn_rangeFunc_ownH rfl h1 (gf := 85) (lb := #[.pointer (some ⟨w.heap.size + 1 + 1, 0, none⟩)]) rfl trivial (enters_of Tryz.func85 (by kernel_rfl) rfl)
    (aroundI_stops Fence.wide (n - 1) trivial rfl (by omega) (w.heap.size + 1 + 1) w.heap.size Ae ce es hes hlen W0 bA (by omega) hE1) KpS.trans (fun W l o o' hl _ _ _ => KpS.putObj W (by omega) (by omega) o') (Below.refl _ _) (fun _ => rfl)
    (fun pre W => (Boxed W (w.heap.size + 1) 3 (.int .i64 (sumL val pre)) ∧ BoxS W w.heap.size 61 #[.slice A ps.length c, .int .i64 cl, .int .i64 lo, .int .i64 hi, .slice Aw m cw]) ∧ Below w.heap.size w W)
    (fun _ _ _ => False)
    (OwnFrom.and (OwnFrom.and (Own.from (boxed_own _ _ _) _) (Own.from (boxS_own _ _ (fun _ => _)) _)) (ownFrom_below (Nat.le_refl _) (by omega)))
    (fun _ _ _ _ _ hs _ _ => hs)
    ⟨⟨bR, bG⟩, hB0⟩
    (fun x a' _ => a' = { tmps := #[.agg #[.slice A ps.length c, .int .i64 cl, .int .i64 lo, .int .i64 hi, .slice Aw m cw], .slice Ae es.length ce, .pointer (some ⟨w.heap.size, 0, none⟩), undef, .int .i64 0, .pointer (some ⟨w.heap.size + 1, 0, none⟩), .int .i64 x.1.1, .int .i64 x.1.2, .slice Ae es.length ce, .func (.func 85) #[] #[.pointer (some ⟨w.heap.size + 1 + 1, 0, none⟩)], .int .i64 x.1.1, .int .i64 x.1.2, undef, undef, undef, undef, undef, undef, undef, undef, undef, undef, undef, undef], defers := [] })
    (fun x a' _ X Y row hs hg hr => hs)
    ?assign ?body ?done ?stop
  case assign =>
    rintro l pre x W K ⟨⟨bR1, bG1⟩, hB1⟩ hK
    gi_wp2
    exact hK _ _ ((KeepsOthers.refl _).from _) (KpS.refl _ _ _) ⟨⟨bR1, bG1⟩, hB1⟩ rfl
  case body =>
    rintro l pre x a' W hl ⟨r, hr⟩ ⟨⟨bR1, bG1⟩, hB1⟩ rfl hlt
    have h1' : 1 ≤ n - 1 - 1 := by omega
    obtain ⟨v1, v2⟩ := sumL_bd HV.out pre
    obtain ⟨v3, v4⟩ := HV.out x
    have hsn := Lib.hid (sumL_snoc val pre x)
    generalize sumL val pre = s0 at *
    have HGX := Lib.hid (HG.out x)
    generalize val x = vx at *
    have hmo : Tryz.prog.follows .mixedOrders = true := by kernel_rfl
    have hsW := hB1.size
    gi_wp2
    refine wpIn_region_held (fun W' => Below W.heap.size W W') 6 hmo ?_
    have q0 : Below W.heap.size W W.drew := (Below.refl _ _).drew
    have C1 : Hid (∀ W', Below W.heap.size W W' → W'.cell? ⟨w.heap.size + 1, 0, none⟩ = some (.int .i64 s0)) := fun W' h => (boxed_below bR1 h).cell
    have C2 : Hid (∀ W', Below W.heap.size W W' → (W'.cell? ⟨w.heap.size, 0, none⟩ = some (.slice A ps.length c) ∧ W'.cell? ⟨w.heap.size, 1, none⟩ = some (.int .i64 cl) ∧ W'.cell? ⟨w.heap.size, 2, none⟩ = some (.int .i64 lo) ∧ W'.cell? ⟨w.heap.size, 3, none⟩ = some (.int .i64 hi) ∧ W'.cell? ⟨w.heap.size, 4, none⟩ = some (.slice Aw m cw))) := fun W' h => ⟨(bG1.below h).cell 0 rfl, (bG1.below h).cell 1 rfl, (bG1.below h).cell 2 rfl, (bG1.below h).cell 3 rfl, (bG1.below h).cell 4 rfl⟩
    refine wpHeldIn_take (i := 0) (v := ?_) (plain_of (by kernel_rfl)) rfl (by kernel_rfl) (fun _ _ _ h => h) (yieldsSoIn_of (by kernel_rfl) ?_ (fun _ => rfl)) q0 ?_; rotate_left; focus (intro wq hw; have kq := C1.out wq hw; clear hw; go_simp; try (with_reducible rfl))
    refine wpHeldIn_take (i := 1) (v := ?_) (plain_of (by kernel_rfl)) rfl (by kernel_rfl) (fun _ _ _ h => h) (yieldsSoIn_of (by kernel_rfl) ?_ (fun _ => rfl)) q0 ?_; rotate_left; focus (intro wq hw; have kq := C2.out wq hw; clear hw; go_simp; try (with_reducible rfl))
    refine wpHeldIn_take (i := 2) (v := ?_) (plain_of (by kernel_rfl)) rfl (by kernel_rfl) (fun _ _ _ h => h) (yieldsSoIn_of (by kernel_rfl) ?_ (fun _ => rfl)) q0 ?_; rotate_left; focus (intro wq hw; clear hw; go_simp; try (with_reducible rfl))
    refine wpHeldIn_take (i := 3) (v := ?_) (plain_of (by kernel_rfl)) rfl (by kernel_rfl) (fun _ _ _ h => h) (yieldsSoIn_of (by kernel_rfl) ?_ (fun _ => rfl)) q0 ?_; rotate_left; focus (intro wq hw; clear hw; go_simp; try (with_reducible rfl))
    refine wpHeldIn_one (i := 4) (by kernel_rfl) (by kernel_rfl) rfl (by rfl) (fun K' hK' => ?_)
    go_simp
    refine ⟨trivial, (CallsIn.inRound l (callsIn_wide.2 (HGX.out _))).mono ?_⟩
    rintro e w1 ⟨rfl, hb1⟩
    have q1 : Below W.heap.size W w1 := q0.trans hb1
    have bR2 := boxed_below bR1 q1
    have k1 := bR2.cell
    have k2 := bR2.frozen
    refine hK' _ _ q1 ?_
    refine wpHeldIn_take (i := 5) (v := ?_) (plain_of (by kernel_rfl)) rfl (by kernel_rfl) (fun _ _ _ h => h) (yieldsSoIn_of (by kernel_rfl) ?_ (fun _ => rfl)) q1 ?_; rotate_left; focus (intro wq hw; clear hw; go_simp; try (with_reducible rfl))
    refine wpHeldIn_last (by kernel_rfl) rfl (by rfl) (fun K2 hK2 => ?_)
    go_simp
    refine hK2 _ _ ?_
    refine wpHeldIn_done (by kernel_rfl) ?_ _
    gi_wp2
    have hwr : IntKind.i64.wrap (s0 + vx) = s0 + vx := IntWalk.i64_in _ (by omega)
    exact ⟨(keepsFrom_below _ q1).trans ((KeepsOthers.setCell _ _ _).from _), (KpS.of_below q1 hsW).trans (KpS.setCell _ (by omega) (by omega) _), ⟨by rw [hsn.out, hwr]; exact bR2.set _, (Below.heap_setCell _ _ _ w.heap.size (show w.heap.size ≠ w.heap.size + 1 by omega)).trans (bG1.below q1)⟩, (hB1.trans (q1.mono hsW)).setCell (p := ⟨w.heap.size + 1, 0, none⟩) (by simp) _⟩
  case done =>
    rintro D zs W hD rfl ⟨⟨bR1, bG1⟩, hB1⟩ hK
    have cR := bR1.cell
    have fR := bR1.frozen
    have cG := bG1.cell 0 rfl
    have lG := bG1.lt
    have hne : ¬ (ps.length : Int) = 0 := by omega
    have hne2 : ¬ ps.length = 0 := by omega
    have hne3 : ¬ ps = [] := by intro e; subst e; simp at hne2
    obtain ⟨S, hS⟩ : ∃ S, S = sumL val (legsTo es hes es.length) := ⟨_, rfl⟩
    have HLB2 := HLB.out
    rw [← hS] at cR HLB2
    have HS := Lib.hid hS
    have hwq : IntKind.i64.wrap (S.tdiv (ps.length : Int)) = S.tdiv (ps.length : Int) := IntWalk.i64_in _ (by
      have h1 := Int.natAbs_tdiv_le_natAbs S (ps.length : Int)
      omega)
    clear hS
    gi_wp2
    refine ⟨by simp, .inl ⟨_, _, rfl, run_takeDeferred hK, ?_⟩⟩
    exact ⟨_, results_tmp rfl _ _ _, by rw [HT.out, ← HS.out]; rfl, hB1.trans (belowK_b (w := w) (Nat.le_refl _) W D _ _ (by omega) hK rfl rfl)⟩
  case stop =>
    rintro D c pre W hD hpre h hK
    exact h.elim
theorem sumL_to (t : Wl.Trk) (es : List Int) (hes : ∀ e ∈ es, smI e) : ∀ k, k ≤ es.length → sumL (stL t) (legsTo es hes k) = Wl.stTo t es k
  | 0, _ => rfl
  | k + 1, h => by
    rw [legsTo_succ, sumL_snoc, sumL_to t es hes k (by omega)]
    show _ + Wl.stepV t _ _ = Wl.stTo t es k + Wl.stepV t (Wl.eAt es k) (Wl.eAt es (k + 1))
    unfold Wl.eAt
    rw [Nat.mod_eq_of_lt (show k < es.length by omega)]
    rfl
theorem trnV_eq (t : Wl.Trk) (es : List Int) (hes : ∀ e ∈ es, smI e) : trnV t es hes = Wl.turnsV t es := by
  unfold trnV Wl.turnsV
  rw [sumL_to t es hes _ (Nat.le_refl _)]
theorem turnsW_any (t : Wl.Trk) (A Aw Ae : Option Addr) (c m cw ce : Nat) (es : List Int) (hes : ∀ e ∈ es, smI e) (hlen : es.length ≤ 100) (hl : t.ps.length ≤ 1000000000) (hpos : 0 < t.ps.length) (w : World) (hE : Ints w w.heap.size (.slice Ae es.length ce) es) :
    Calls Tryz.prog 36 #[.agg (mcV t A c Aw m cw), .slice Ae es.length ce] w fun e w' => e = .returned (.int .i64 (Wl.turnsV t es)) ∧ Below w.heap.size w w' := by
  have := turnsW_in 9 (by omega) t A Aw Ae c m cw ce es hes hlen hl hpos w hE
  rw [trnV_eq] at this
  exact (callsIn_wide (n := 9)).1 this
end Go.Proofs.YtmjcdggmofohcaaGreat
namespace Go.Proofs.YtmjcdggmofohcaaGreat
open Go.RowKit
set_option maxRecDepth 100000 in
set_option maxHeartbeats 8000000 in
theorem carryW_no (t : Wl.Trk) (ws : List Wl.Pt) (es : List Int) (A Aw Ae : Option Addr) (c cw ce : Nat) (ht : Wl.trkB t = true) (hw : Wl.ptsB ws = true) (hle : es.length ≤ 1000000000) (hlw : ws.length ≤ 1000000000) (w : World) (hP : Prs w w.heap.size A t.ps) (hQ : Prs w w.heap.size Aw ws) (hE : Ints w w.heap.size (.slice Ae es.length ce) es) (hno : es.length ≠ ws.length ∨ Wl.fitTo t ws es es.length = false) :
    Calls Tryz.prog 61 #[.agg (mcV t A c Aw ws.length cw), .slice Ae es.length ce] w fun e w' => e = .returned (.bool false) ∧ Below w.heap.size w w' := by
  obtain ⟨hp8, hc3, hn8⟩ := Wl.trk_parts ht
  have HREA : Hid (∀ (p : Nat) (a : Wl.Pt), p < t.ps.length → Geo.sm a → ∀ W, Below w.heap.size w W → Calls Tryz.prog 84 #[.agg (mcV t A c Aw ws.length cw), .int .i64 (p : Nat), .agg #[.int .i64 a.1, .int .i64 a.2]] W fun e w' => e = .returned (.bool (Wl.reachB t p a)) ∧ Below W.heap.size W w') := fun p a hpl hs W hW => reachesW_any t A c Aw ws.length cw p a hpl (Wl.trk_sm ht p hpl) hs W (prs_keep hP hW) (by omega)
  have HWA : Hid (∀ (x : Int) W, Calls Tryz.prog 64 #[.int .i64 x, .int .i64 0, .int .i64 ((t.ps.length : Int) - 1)] W fun e w' => e = .returned (.bool (inB x 0 ((t.ps.length : Int) - 1))) ∧ w' = W) := fun x W => withinW_any _ _ _ W
  have HSW : Hid (∀ k, k < ws.length → Geo.sm (Wl.ptAt ws k)) := fun k hk => Wl.pts_sm hw hk
  have HFS0 : Hid (∀ k, Wl.fitTo t ws es (k + 1) = (Wl.fitTo t ws es k && (inB (Wl.esAt es k) 0 ((t.ps.length : Int) - 1) && Wl.reachB t (Wl.esAt es k) (Wl.ptAt ws k)))) := fun _ => rfl
  have HF0 : Hid (Wl.fitTo t ws es 0 = true) := rfl
  have HFN : Hid (∀ k, k < es.length → (inB (Wl.esAt es k) 0 ((t.ps.length : Int) - 1) && Wl.reachB t (Wl.esAt es k) (Wl.ptAt ws k)) = false → Wl.fitTo t ws es es.length = false) := fun k hk h => Wl.fitTo_no h _ hk
  have HP := Lib.hid hP
  have HQ := Lib.hid hQ
  have HE := Lib.hid hE
  have hmo : Tryz.prog.follows .mixedOrders = true := by kernel_rfl
  clear hP hQ hE ht hw hc3 hp8
  obtain ⟨ps, cl, lo, hi⟩ := t
  unfold mcV at *
  dsimp only at *
  by_cases hlen : es.length = ws.length
  · have hfn : Hid (Wl.fitTo ⟨ps, cl, lo, hi⟩ ws es es.length = false) := hno.elim (fun h => absurd hlen h) id
    clear hno
    generalize Wl.fitTo ⟨ps, cl, lo, hi⟩ ws es = FT at *
    have hli : (es.length : Int) = (ws.length : Int) := by omega
    have hnb : ((es.length : Int) != (ws.length : Int)) = false := by simpa using hli
    have HL := Lib.hid hlen
    clear hlen hli
    go_enter Tryz.func61, Tryz.ntmps61
    go_wp2_with fail
    have bS0 := (BoxS.new w 61 #[.slice A ps.length c, .int .i64 cl, .int .i64 lo, .int .i64 hi, .slice Aw ws.length cw]).alloc (.cells #[.bool false] 4)
    have bR0 := BoxS.new (w.alloc (.cells #[.slice A ps.length c, .int .i64 cl, .int .i64 lo, .int .i64 hi, .slice Aw ws.length cw] 61)) 4 #[.bool false]
    rw [World.size_alloc] at bR0
    have hB0 : Below w.heap.size w ((w.alloc (.cells #[.slice A ps.length c, .int .i64 cl, .int .i64 lo, .int .i64 hi, .slice Aw ws.length cw] 61)).alloc (.cells #[.bool false] 4)) := by (repeat' (first | (with_reducible exact Below.refl _ _) | (with_reducible assumption) | (with_reducible refine Below.alloc ?_ ?_ _) | (with_reducible refine Below.drew ?_) | (with_reducible refine Below.setCell ?_ ?_ _) | go_size | (exact (by simp)) | omega))
    generalize World.alloc (World.alloc w _) _ = w0 at *
    have c4 := bS0.cell 4 rfl
    have l0 := bS0.lt
    try go_wp2_with fail
    clear c4 l0 hnb
    go_loopg [17] es.length (fun g x17 wx => ∃ k : Nat, Hid (k + g = es.length) ∧ (k : Int) ≤ es.length ∧ x17 = .int .i64 (k : Int) ∧ Hid (FT k = true) ∧ Below w.heap.size w wx ∧ BoxS wx w.heap.size 61 #[.slice A ps.length c, .int .i64 cl, .int .i64 lo, .int .i64 hi, .slice Aw ws.length cw] ∧ BoxS wx (w.heap.size + 1) 4 #[.bool false])
    case atStart => exact ⟨0, by simp [Hid], by omega, rfl, HF0, hB0, bS0, bR0⟩
    case round =>
      clear hB0 bS0 bR0
      obtain ⟨k, hk, hk1, rfl, hall, hB, bS, bR⟩ := hrel
      have hk0 := Int.natCast_nonneg k
      by_cases hlt : (k : Int) < es.length
      · skip
        have hkn : k < es.length := by omega
        have hkw : k < ws.length := by have := HL.out; omega
        have HFS := Lib.hid (HFS0.out k)
        have HN1 := Lib.hid (HFN.out k hkn)
        have HW1 := Lib.hid (HWA.out (Wl.esAt es k))
        have hsa := HSW.out k hkw
        have hek : es[k]? = some (Wl.esAt es k) := by unfold Wl.esAt; rw [List.getElem?_eq_getElem hkn]; rfl
        have hwk : ws[k]? = some (Wl.ptAt ws k) := by unfold Wl.ptAt; rw [List.getElem?_eq_getElem hkw]; rfl
        obtain ⟨bw, ow, rfl, hbw, hcw⟩ := HQ.out (by omega)
        obtain ⟨y0, y1⟩ := hcw k _ hwk
        rcases HE.out with ⟨_, e⟩ | ⟨be, oe, cape, e, hbe, hce⟩
        · subst e; simp at hkn
        injection e with eA _ ec
        subst eA ec
        have z0 := (hB.cell (p := ⟨be, _, none⟩) hbe).trans (hce k _ hek)
        have hw1 : IntKind.i64.wrap ((k : Int) + 1) = (k : Int) + 1 := IntWalk.i64_in _ (by omega)
        have hw2 : IntKind.i64.wrap ((ps.length : Int) - 1) = (ps.length : Int) - 1 := IntWalk.i64_in _ (by omega)
        have d1 : decide ((k : Int) < 0) = false := decide_eq_false (by omega)
        have d3 : decide ((ws.length : Int) ≤ (k : Int)) = false := decide_eq_false (by omega)
        have d5 : decide (ws.length ≤ k) = false := decide_eq_false (by omega)
        have hbr : be < wr.heap.size := by have := hB.size; omega
        have q0 : Below wr.heap.size wr wr.drew := (Below.refl _ _).drew
        have KC : Hid (∀ W', Below wr.heap.size wr W' → (W'.cell? ⟨w.heap.size, 0, none⟩ = some (.slice A ps.length c) ∧ W'.cell? ⟨w.heap.size, 1, none⟩ = some (.int .i64 cl) ∧ W'.cell? ⟨w.heap.size, 2, none⟩ = some (.int .i64 lo) ∧ W'.cell? ⟨w.heap.size, 3, none⟩ = some (.int .i64 hi) ∧ W'.cell? ⟨w.heap.size, 4, none⟩ = some (.slice (some ⟨bw, ow, none⟩) ws.length cw)) ∧ W'.cell? ⟨bw, ow + k * 2, none⟩ = some (.int .i64 (Wl.ptAt ws k).1) ∧ W'.cell? ⟨bw, ow + k * 2 + 1, none⟩ = some (.int .i64 (Wl.ptAt ws k).2)) := fun W' h => by
          have h2 := hB.trans (h.mono hB.size)
          have b := bS.below h
          exact ⟨⟨b.cell 0 rfl, b.cell 1 rfl, b.cell 2 rfl, b.cell 3 rfl, b.cell 4 rfl⟩, (h2.cell (p := ⟨bw, _, none⟩) hbw).trans y0, (h2.cell (p := ⟨bw, _, none⟩) hbw).trans y1⟩
        clear hce hcw hek hwk y0 y1 HFN HFS0
        generalize Wl.esAt es k = ex at *
        generalize Wl.ptAt ws k = a at *
        obtain ⟨a1, a2⟩ := a
        dsimp only at KC
        cases hin : inB ex 0 ((ps.length : Int) - 1)
        · rw [hin] at HW1
          clear hin
          go_wp2_with fail
          clear z0
          refine (wpIn_wide (n := 4)).1 ?_
          refine wpIn_region_held (fun W' => Below wr.heap.size wr W') 30 hmo ?_
          refine wpHeldIn_take (i := 0) (v := ?_) (plain_of (by kernel_rfl)) rfl (by kernel_rfl) (fun _ _ _ h => h) (yieldsSoIn_of (by kernel_rfl) ?_ (fun _ => rfl)) q0 ?_; rotate_left; focus (intro wq hw; clear hw; go_simp; try (with_reducible rfl))
          refine wpHeldIn_take (i := 1) (v := ?_) (plain_of (by kernel_rfl)) rfl (by kernel_rfl) (fun _ _ _ h => h) (yieldsSoIn_of (by kernel_rfl) ?_ (fun _ => rfl)) q0 ?_; rotate_left; focus (intro wq hw; clear hw; go_simp; try (with_reducible rfl))
          refine wpHeldIn_take (i := 2) (v := ?_) (plain_of (by kernel_rfl)) rfl (by kernel_rfl) (fun _ _ _ h => h) (yieldsSoIn_of (by kernel_rfl) ?_ (fun _ => rfl)) q0 ?_; rotate_left; focus (intro wq hw; clear hw; go_simp; try (with_reducible rfl))
          refine wpHeldIn_take (i := 3) (v := ?_) (plain_of (by kernel_rfl)) rfl (by kernel_rfl) (fun _ _ _ h => h) (yieldsSoIn_of (by kernel_rfl) ?_ (fun _ => rfl)) q0 ?_; rotate_left; focus (intro wq hw; have kq := KC.out wq hw; clear hw; go_simp; try (with_reducible rfl))
          refine wpHeldIn_take (i := 4) (v := ?_) (plain_of (by kernel_rfl)) rfl (by kernel_rfl) (fun _ _ _ h => h) (yieldsSoIn_of (by kernel_rfl) ?_ (fun _ => rfl)) q0 ?_; rotate_left; focus (intro wq hw; clear hw; go_simp; try (with_reducible rfl))
          refine wpHeldIn_take (i := 5) (v := ?_) (plain_of (by kernel_rfl)) rfl (by kernel_rfl) (fun _ _ _ h => h) (yieldsSoIn_of (by kernel_rfl) ?_ (fun _ => rfl)) q0 ?_; rotate_left; focus (intro wq hw; clear hw; go_simp; try (with_reducible rfl))
          refine wpHeldIn_one (i := 6) (by kernel_rfl) (by kernel_rfl) rfl (by kernel_rfl) (fun K1 hK1 => ?_)
          go_simp
          refine ⟨trivial, (callsIn_wide.2 (HW1.out _)).mono ?_⟩
          rintro e w2 ⟨rfl, hw2⟩
          have hw2 := hw2.symm
          subst hw2
          refine hK1 _ _ q0 ?_
          refine wpHeldIn_take (i := 7) (v := ?_) (plain_of (by kernel_rfl)) rfl (by kernel_rfl) (fun _ _ _ h => h) (yieldsSoIn_of (by kernel_rfl) ?_ (fun _ => rfl)) q0 ?_; rotate_left; focus (intro wq hw; clear hw; go_simp; try (with_reducible rfl))
          refine wpHeldIn_take (i := 8) (v := ?_) (plain_of (by kernel_rfl)) rfl (by kernel_rfl) (fun _ _ _ h => h) (yieldsSoIn_of (by kernel_rfl) ?_ (fun _ => rfl)) q0 ?_; rotate_left; focus (intro wq hw; clear hw; go_simp; try (with_reducible rfl))
          refine wpHeldIn_take (i := 9) (plain_of (by kernel_rfl)) rfl (by kernel_rfl) (fun _ _ _ h => h) (yieldsSoIn_skip (by kernel_rfl) (fun _ => trivial)) q0 ?_
          refine wpHeldIn_take (i := 10) (plain_of (by kernel_rfl)) rfl (by kernel_rfl) (fun _ _ _ h => h) (yieldsSoIn_skip (by kernel_rfl) (fun _ => trivial)) q0 ?_
          refine wpHeldIn_take (i := 11) (plain_of (by kernel_rfl)) rfl (by kernel_rfl) (fun _ _ _ h => h) (yieldsSoIn_skip (by kernel_rfl) (fun _ => trivial)) q0 ?_
          refine wpHeldIn_take (i := 12) (plain_of (by kernel_rfl)) rfl (by kernel_rfl) (fun _ _ _ h => h) (yieldsSoIn_skip (by kernel_rfl) (fun _ => trivial)) q0 ?_
          refine wpHeldIn_take (i := 13) (plain_of (by kernel_rfl)) rfl (by kernel_rfl) (fun _ _ _ h => h) (yieldsSoIn_skip (by kernel_rfl) (fun _ => trivial)) q0 ?_
          refine wpHeldIn_take (i := 14) (plain_of (by kernel_rfl)) rfl (by kernel_rfl) (fun _ _ _ h => h) (yieldsSoIn_skip (by kernel_rfl) (fun _ => trivial)) q0 ?_
          refine wpHeldIn_take (i := 15) (plain_of (by kernel_rfl)) rfl (by kernel_rfl) (fun _ _ _ h => h) (yieldsSoIn_skip (by kernel_rfl) (fun _ => trivial)) q0 ?_
          refine wpHeldIn_take (i := 16) (plain_of (by kernel_rfl)) rfl (by kernel_rfl) (fun _ _ _ h => h) (yieldsSoIn_skip (by kernel_rfl) (fun _ => trivial)) q0 ?_
          refine wpHeldIn_take (i := 17) (plain_of (by kernel_rfl)) rfl (by kernel_rfl) (fun _ _ _ h => h) (yieldsSoIn_skip (by kernel_rfl) (fun _ => trivial)) q0 ?_
          refine wpHeldIn_take (i := 18) (v := ?_) (plain_of (by kernel_rfl)) rfl (by kernel_rfl) (fun _ _ _ h => h) (yieldsSoIn_of (by kernel_rfl) ?_ (fun _ => rfl)) q0 ?_; rotate_left; focus (intro wq hw; clear hw; go_simp; try (with_reducible rfl))
          refine wpHeldIn_done (by kernel_rfl) ?_ _
          go_simp
          have bS5 := bS.below q0
          have bR5 := bR.below q0
          have hB5 := hB.trans (q0.mono hB.size)
          clear KC
          try generalize World.drew wr = wz at *
          have fR := bR5.frozen 0
          have xR := bR5.cell 0 rfl
          have lR := bR5.lt
          go_wp2_with fail
          have bR6 := bR5.put9 0 (.bool false)
          have hc6 := bR6.cell 0 rfl
          have hB6 : Below w.heap.size w _ := hB5.setCell (p := ⟨w.heap.size + 1, 0, none⟩) (by simp) (.bool false)
          refine bodyPost_ret (v := .bool false) (by simp [results, Tryz.f61, go_sem, hc6]) rfl ?_
          exact ⟨rfl, hB6⟩
        · rw [hin] at HW1
          have hie : 0 ≤ ex ∧ ex < ps.length := by
            unfold inB at hin
            simp only [Bool.and_eq_true, decide_eq_true_eq] at hin
            omega
          obtain ⟨p, hp⟩ : ∃ p : Nat, ex = p := ⟨ex.toNat, by omega⟩
          subst hp
          have HRE := Lib.hid (fun W (hW : Below wr.heap.size wr W) => HREA.out p (a1, a2) (by omega) hsa W (hB.trans (hW.mono hB.size)))
          cases hre : Wl.reachB ⟨ps, cl, lo, hi⟩ p (a1, a2)
          · rw [hre] at HRE
            clear hin hre
            go_wp2_with fail
            clear z0
            refine (wpIn_wide (n := 4)).1 ?_
            refine wpIn_region_held (fun W' => Below wr.heap.size wr W') 30 hmo ?_
            refine wpHeldIn_take (i := 0) (v := ?_) (plain_of (by kernel_rfl)) rfl (by kernel_rfl) (fun _ _ _ h => h) (yieldsSoIn_of (by kernel_rfl) ?_ (fun _ => rfl)) q0 ?_; rotate_left; focus (intro wq hw; clear hw; go_simp; try (with_reducible rfl))
            refine wpHeldIn_take (i := 1) (v := ?_) (plain_of (by kernel_rfl)) rfl (by kernel_rfl) (fun _ _ _ h => h) (yieldsSoIn_of (by kernel_rfl) ?_ (fun _ => rfl)) q0 ?_; rotate_left; focus (intro wq hw; clear hw; go_simp; try (with_reducible rfl))
            refine wpHeldIn_take (i := 2) (v := ?_) (plain_of (by kernel_rfl)) rfl (by kernel_rfl) (fun _ _ _ h => h) (yieldsSoIn_of (by kernel_rfl) ?_ (fun _ => rfl)) q0 ?_; rotate_left; focus (intro wq hw; clear hw; go_simp; try (with_reducible rfl))
            refine wpHeldIn_take (i := 3) (v := ?_) (plain_of (by kernel_rfl)) rfl (by kernel_rfl) (fun _ _ _ h => h) (yieldsSoIn_of (by kernel_rfl) ?_ (fun _ => rfl)) q0 ?_; rotate_left; focus (intro wq hw; have kq := KC.out wq hw; clear hw; go_simp; try (with_reducible rfl))
            refine wpHeldIn_take (i := 4) (v := ?_) (plain_of (by kernel_rfl)) rfl (by kernel_rfl) (fun _ _ _ h => h) (yieldsSoIn_of (by kernel_rfl) ?_ (fun _ => rfl)) q0 ?_; rotate_left; focus (intro wq hw; clear hw; go_simp; try (with_reducible rfl))
            refine wpHeldIn_take (i := 5) (v := ?_) (plain_of (by kernel_rfl)) rfl (by kernel_rfl) (fun _ _ _ h => h) (yieldsSoIn_of (by kernel_rfl) ?_ (fun _ => rfl)) q0 ?_; rotate_left; focus (intro wq hw; clear hw; go_simp; try (with_reducible rfl))
            refine wpHeldIn_one (i := 6) (by kernel_rfl) (by kernel_rfl) rfl (by kernel_rfl) (fun K1 hK1 => ?_)
            go_simp
            refine ⟨trivial, (callsIn_wide.2 (HW1.out _)).mono ?_⟩
            rintro e w2 ⟨rfl, hw2⟩
            have hw2 := hw2.symm
            subst hw2
            refine hK1 _ _ q0 ?_
            refine wpHeldIn_take (i := 7) (v := ?_) (plain_of (by kernel_rfl)) rfl (by kernel_rfl) (fun _ _ _ h => h) (yieldsSoIn_of (by kernel_rfl) ?_ (fun _ => rfl)) q0 ?_; rotate_left; focus (intro wq hw; clear hw; go_simp; try (with_reducible rfl))
            refine wpHeldIn_take (i := 8) (v := ?_) (plain_of (by kernel_rfl)) rfl (by kernel_rfl) (fun _ _ _ h => h) (yieldsSoIn_of (by kernel_rfl) ?_ (fun _ => rfl)) q0 ?_; rotate_left; focus (intro wq hw; clear hw; go_simp; try (with_reducible rfl))
            refine wpHeldIn_take (i := 9) (v := ?_) (plain_of (by kernel_rfl)) rfl (by kernel_rfl) (fun _ _ _ h => h) (yieldsSoIn_of (by kernel_rfl) ?_ (fun _ => rfl)) q0 ?_; rotate_left; focus (intro wq hw; have kq := KC.out wq hw; clear hw; go_simp; try (with_reducible rfl))
            refine wpHeldIn_take (i := 10) (v := ?_) (plain_of (by kernel_rfl)) rfl (by kernel_rfl) (fun _ _ _ h => h) (yieldsSoIn_of (by kernel_rfl) ?_ (fun _ => rfl)) q0 ?_; rotate_left; focus (intro wq hw; clear hw; go_simp; try (with_reducible rfl))
            refine wpHeldIn_take (i := 11) (v := ?_) (plain_of (by kernel_rfl)) rfl (by kernel_rfl) (fun _ _ _ h => h) (yieldsSoIn_of (by kernel_rfl) ?_ (fun _ => rfl)) q0 ?_; rotate_left; focus (intro wq hw; clear hw; go_simp; try (with_reducible rfl))
            refine wpHeldIn_take (i := 12) (v := ?_) (plain_of (by kernel_rfl)) rfl (by kernel_rfl) (fun _ _ _ h => h) (yieldsSoIn_of (by kernel_rfl) ?_ (fun _ => rfl)) q0 ?_; rotate_left; focus (intro wq hw; have kq := KC.out wq hw; clear hw; go_simp; try (with_reducible rfl))
            refine wpHeldIn_take (i := 13) (v := ?_) (plain_of (by kernel_rfl)) rfl (by kernel_rfl) (fun _ _ _ h => h) (yieldsSoIn_of (by kernel_rfl) ?_ (fun _ => rfl)) q0 ?_; rotate_left; focus (intro wq hw; clear hw; go_simp; try (with_reducible rfl))
            refine wpHeldIn_take (i := 14) (v := ?_) (plain_of (by kernel_rfl)) rfl (by kernel_rfl) (fun _ _ _ h => h) (yieldsSoIn_of (by kernel_rfl) ?_ (fun _ => rfl)) q0 ?_; rotate_left; focus (intro wq hw; clear hw; go_simp; try (with_reducible rfl))
            refine wpHeldIn_take (i := 15) (v := ?_) (plain_of (by kernel_rfl)) rfl (by kernel_rfl) (fun _ _ _ h => h) (yieldsSoIn_of (by kernel_rfl) ?_ (fun _ => rfl)) q0 ?_; rotate_left; focus (intro wq hw; have kq := KC.out wq hw; clear hw; go_simp; try (with_reducible rfl))
            refine wpHeldIn_one (i := 16) (by kernel_rfl) (by kernel_rfl) rfl (by kernel_rfl) (fun K2 hK2 => ?_)
            go_simp
            refine ⟨trivial, (callsIn_wide.2 (HRE.out _ q0)).mono ?_⟩
            rintro e w5 ⟨rfl, hb5⟩
            have q1 := q0.trans (hb5.mono q0.size)
            refine hK2 _ _ q1 ?_
            refine wpHeldIn_take (i := 17) (v := ?_) (plain_of (by kernel_rfl)) rfl (by kernel_rfl) (fun _ _ _ h => h) (yieldsSoIn_of (by kernel_rfl) ?_ (fun _ => rfl)) q1 ?_; rotate_left; focus (intro wq hw; clear hw; go_simp; try (with_reducible rfl))
            refine wpHeldIn_take (i := 18) (v := ?_) (plain_of (by kernel_rfl)) rfl (by kernel_rfl) (fun _ _ _ h => h) (yieldsSoIn_of (by kernel_rfl) ?_ (fun _ => rfl)) q1 ?_; rotate_left; focus (intro wq hw; clear hw; go_simp; try (with_reducible rfl))
            refine wpHeldIn_done (by kernel_rfl) ?_ _
            go_simp
            have bS5 := bS.below q1
            have bR5 := bR.below q1
            have hB5 := hB.trans (q1.mono hB.size)
            clear KC
            try generalize World.drew wr = wz at *
            have fR := bR5.frozen 0
            have xR := bR5.cell 0 rfl
            have lR := bR5.lt
            go_wp2_with fail
            have bR6 := bR5.put9 0 (.bool false)
            have hc6 := bR6.cell 0 rfl
            have hB6 : Below w.heap.size w _ := hB5.setCell (p := ⟨w.heap.size + 1, 0, none⟩) (by simp) (.bool false)
            refine bodyPost_ret (v := .bool false) (by simp [results, Tryz.f61, go_sem, hc6]) rfl ?_
            exact ⟨rfl, hB6⟩
          · rw [hre] at HRE
            have HF2 : Hid (FT (k + 1) = true) := by unfold Hid; rw [HFS.out, hall.out, hin, hre]; rfl
            clear hin hre
            go_wp2_with fail
            clear z0
            refine (wpIn_wide (n := 4)).1 ?_
            refine wpIn_region_held (fun W' => Below wr.heap.size wr W') 30 hmo ?_
            refine wpHeldIn_take (i := 0) (v := ?_) (plain_of (by kernel_rfl)) rfl (by kernel_rfl) (fun _ _ _ h => h) (yieldsSoIn_of (by kernel_rfl) ?_ (fun _ => rfl)) q0 ?_; rotate_left; focus (intro wq hw; clear hw; go_simp; try (with_reducible rfl))
            refine wpHeldIn_take (i := 1) (v := ?_) (plain_of (by kernel_rfl)) rfl (by kernel_rfl) (fun _ _ _ h => h) (yieldsSoIn_of (by kernel_rfl) ?_ (fun _ => rfl)) q0 ?_; rotate_left; focus (intro wq hw; clear hw; go_simp; try (with_reducible rfl))
            refine wpHeldIn_take (i := 2) (v := ?_) (plain_of (by kernel_rfl)) rfl (by kernel_rfl) (fun _ _ _ h => h) (yieldsSoIn_of (by kernel_rfl) ?_ (fun _ => rfl)) q0 ?_; rotate_left; focus (intro wq hw; clear hw; go_simp; try (with_reducible rfl))
            refine wpHeldIn_take (i := 3) (v := ?_) (plain_of (by kernel_rfl)) rfl (by kernel_rfl) (fun _ _ _ h => h) (yieldsSoIn_of (by kernel_rfl) ?_ (fun _ => rfl)) q0 ?_; rotate_left; focus (intro wq hw; have kq := KC.out wq hw; clear hw; go_simp; try (with_reducible rfl))
            refine wpHeldIn_take (i := 4) (v := ?_) (plain_of (by kernel_rfl)) rfl (by kernel_rfl) (fun _ _ _ h => h) (yieldsSoIn_of (by kernel_rfl) ?_ (fun _ => rfl)) q0 ?_; rotate_left; focus (intro wq hw; clear hw; go_simp; try (with_reducible rfl))
            refine wpHeldIn_take (i := 5) (v := ?_) (plain_of (by kernel_rfl)) rfl (by kernel_rfl) (fun _ _ _ h => h) (yieldsSoIn_of (by kernel_rfl) ?_ (fun _ => rfl)) q0 ?_; rotate_left; focus (intro wq hw; clear hw; go_simp; try (with_reducible rfl))
            refine wpHeldIn_one (i := 6) (by kernel_rfl) (by kernel_rfl) rfl (by kernel_rfl) (fun K1 hK1 => ?_)
            go_simp
            refine ⟨trivial, (callsIn_wide.2 (HW1.out _)).mono ?_⟩
            rintro e w2 ⟨rfl, hw2⟩
            have hw2 := hw2.symm
            subst hw2
            refine hK1 _ _ q0 ?_
            refine wpHeldIn_take (i := 7) (v := ?_) (plain_of (by kernel_rfl)) rfl (by kernel_rfl) (fun _ _ _ h => h) (yieldsSoIn_of (by kernel_rfl) ?_ (fun _ => rfl)) q0 ?_; rotate_left; focus (intro wq hw; clear hw; go_simp; try (with_reducible rfl))
            refine wpHeldIn_take (i := 8) (v := ?_) (plain_of (by kernel_rfl)) rfl (by kernel_rfl) (fun _ _ _ h => h) (yieldsSoIn_of (by kernel_rfl) ?_ (fun _ => rfl)) q0 ?_; rotate_left; focus (intro wq hw; clear hw; go_simp; try (with_reducible rfl))
            refine wpHeldIn_take (i := 9) (v := ?_) (plain_of (by kernel_rfl)) rfl (by kernel_rfl) (fun _ _ _ h => h) (yieldsSoIn_of (by kernel_rfl) ?_ (fun _ => rfl)) q0 ?_; rotate_left; focus (intro wq hw; have kq := KC.out wq hw; clear hw; go_simp; try (with_reducible rfl))
            refine wpHeldIn_take (i := 10) (v := ?_) (plain_of (by kernel_rfl)) rfl (by kernel_rfl) (fun _ _ _ h => h) (yieldsSoIn_of (by kernel_rfl) ?_ (fun _ => rfl)) q0 ?_; rotate_left; focus (intro wq hw; clear hw; go_simp; try (with_reducible rfl))
            refine wpHeldIn_take (i := 11) (v := ?_) (plain_of (by kernel_rfl)) rfl (by kernel_rfl) (fun _ _ _ h => h) (yieldsSoIn_of (by kernel_rfl) ?_ (fun _ => rfl)) q0 ?_; rotate_left; focus (intro wq hw; clear hw; go_simp; try (with_reducible rfl))
            refine wpHeldIn_take (i := 12) (v := ?_) (plain_of (by kernel_rfl)) rfl (by kernel_rfl) (fun _ _ _ h => h) (yieldsSoIn_of (by kernel_rfl) ?_ (fun _ => rfl)) q0 ?_; rotate_left; focus (intro wq hw; have kq := KC.out wq hw; clear hw; go_simp; try (with_reducible rfl))
            refine wpHeldIn_take (i := 13) (v := ?_) (plain_of (by kernel_rfl)) rfl (by kernel_rfl) (fun _ _ _ h => h) (yieldsSoIn_of (by kernel_rfl) ?_ (fun _ => rfl)) q0 ?_; rotate_left; focus (intro wq hw; clear hw; go_simp; try (with_reducible rfl))
            refine wpHeldIn_take (i := 14) (v := ?_) (plain_of (by kernel_rfl)) rfl (by kernel_rfl) (fun _ _ _ h => h) (yieldsSoIn_of (by kernel_rfl) ?_ (fun _ => rfl)) q0 ?_; rotate_left; focus (intro wq hw; clear hw; go_simp; try (with_reducible rfl))
            refine wpHeldIn_take (i := 15) (v := ?_) (plain_of (by kernel_rfl)) rfl (by kernel_rfl) (fun _ _ _ h => h) (yieldsSoIn_of (by kernel_rfl) ?_ (fun _ => rfl)) q0 ?_; rotate_left; focus (intro wq hw; have kq := KC.out wq hw; clear hw; go_simp; try (with_reducible rfl))
            refine wpHeldIn_one (i := 16) (by kernel_rfl) (by kernel_rfl) rfl (by kernel_rfl) (fun K2 hK2 => ?_)
            go_simp
            refine ⟨trivial, (callsIn_wide.2 (HRE.out _ q0)).mono ?_⟩
            rintro e w5 ⟨rfl, hb5⟩
            have q1 := q0.trans (hb5.mono q0.size)
            refine hK2 _ _ q1 ?_
            refine wpHeldIn_take (i := 17) (v := ?_) (plain_of (by kernel_rfl)) rfl (by kernel_rfl) (fun _ _ _ h => h) (yieldsSoIn_of (by kernel_rfl) ?_ (fun _ => rfl)) q1 ?_; rotate_left; focus (intro wq hw; clear hw; go_simp; try (with_reducible rfl))
            refine wpHeldIn_take (i := 18) (v := ?_) (plain_of (by kernel_rfl)) rfl (by kernel_rfl) (fun _ _ _ h => h) (yieldsSoIn_of (by kernel_rfl) ?_ (fun _ => rfl)) q1 ?_; rotate_left; focus (intro wq hw; clear hw; go_simp; try (with_reducible rfl))
            refine wpHeldIn_done (by kernel_rfl) ?_ _
            go_simp
            have bS5 := bS.below q1
            have bR5 := bR.below q1
            have hB5 := hB.trans (q1.mono hB.size)
            clear KC
            go_wp2_with fail
            obtain ⟨g', hg'⟩ : ∃ g', gk = g' + 1 := ⟨gk - 1, by have := hk.out; omega⟩
            go_roundg g'
            case measure => omega
            case rel => exact ⟨k + 1, by have := hk.out; simp only [Hid]; omega, by omega, by go_num, HF2, hB5, bS5, bR5⟩
      · have ek : k = es.length := by omega
        have := hall.out
        rw [ek, hfn.out] at this
        cases this
  · have hli : ¬ (es.length : Int) = (ws.length : Int) := by omega
    have hnb : ((es.length : Int) != (ws.length : Int)) = true := by simpa using hli
    clear hno hlen
    go_enter Tryz.func61, Tryz.ntmps61
    go_wp2_with fail
    have bS0 := (BoxS.new w 61 #[.slice A ps.length c, .int .i64 cl, .int .i64 lo, .int .i64 hi, .slice Aw ws.length cw]).alloc (.cells #[.bool false] 4)
    have bR5 := BoxS.new (w.alloc (.cells #[.slice A ps.length c, .int .i64 cl, .int .i64 lo, .int .i64 hi, .slice Aw ws.length cw] 61)) 4 #[.bool false]
    rw [World.size_alloc] at bR5
    have hB5 : Below w.heap.size w ((w.alloc (.cells #[.slice A ps.length c, .int .i64 cl, .int .i64 lo, .int .i64 hi, .slice Aw ws.length cw] 61)).alloc (.cells #[.bool false] 4)) := by (repeat' (first | (with_reducible exact Below.refl _ _) | (with_reducible assumption) | (with_reducible refine Below.alloc ?_ ?_ _) | (with_reducible refine Below.drew ?_) | (with_reducible refine Below.setCell ?_ ?_ _) | go_size | (exact (by simp)) | omega))
    generalize World.alloc (World.alloc w _) _ = w0 at *
    have c4 := bS0.cell 4 rfl
    have l0 := bS0.lt
    have fR := bR5.frozen 0
    have xR := bR5.cell 0 rfl
    have lR := bR5.lt
    go_wp2_with fail
    refine bodyPost_ret (v := .bool false) (by simp [results, Tryz.f61, go_sem, xR]) rfl ?_
    exact ⟨rfl, hB5⟩
end Go.Proofs.YtmjcdggmofohcaaGreat
namespace Go.Proofs.YtmjcdggmofohcaaGreat
namespace Wl
theorem eAt_esAt {es : List Int} {k : Nat} (h : k < es.length) : eAt es k = esAt es k := by unfold eAt esAt; rw [Nat.mod_eq_of_lt h]
theorem eAt_mod (es : List Int) (k : Nat) : eAt es k = esAt es (k % es.length) := rfl
theorem elbV_B {t : Trk} {ws : List Pt} {es : List Int} (h0 : 0 < ws.length) (h : elbV t ws es = true) : elbB t es := by
  obtain ⟨hl, hf, hn⟩ := elbV_iff.1 h
  have hm : ∀ k, k % es.length < es.length := fun k => Nat.mod_lt _ (by omega)
  refine ⟨fun k => ?_, fun k => ?_⟩
  · have := hf _ (hm k)
    rw [fitB_mem, mem_reachL] at this
    exact this.1
  · have := hn _ (hm k)
    rw [eAt_mod, eAt_mod]
    rwa [Nat.mod_add_mod] at this
theorem stTo_bd {t : Trk} {es : List Int} (h : elbB t es) : ∀ k : Nat, -(k : Int) ≤ stTo t es k ∧ stTo t es k ≤ k
  | 0 => by simp [stTo]
  | k + 1 => by
    have ih := stTo_bd h k
    have hn := h.2 k
    unfold nearB at hn
    simp only [Bool.and_eq_true, decide_eq_true_eq] at hn
    show -((k + 1 : Nat) : Int) ≤ stTo t es k + stepV t (eAt es k) (eAt es (k + 1)) ∧ stTo t es k + stepV t (eAt es k) (eAt es (k + 1)) ≤ ((k + 1 : Nat) : Int)
    omega
theorem turnsV_bd {t : Trk} {es : List Int} (h : elbB t es) : -(es.length : Int) ≤ turnsV t es ∧ turnsV t es ≤ es.length := by
  have h1 := stTo_bd h es.length
  have h2 := Int.natAbs_tdiv_le_natAbs (stTo t es es.length) (t.ps.length : Int)
  unfold turnsV
  omega
theorem trkB_cl {t : Trk} (h : trkB t = true) : t.cl = 0 ∨ t.cl = 1 := by
  unfold trkB at h
  simp only [Bool.and_eq_true, Bool.or_eq_true, decide_eq_true_eq] at h
  obtain ⟨⟨⟨⟨_, h2⟩, _⟩, _⟩, _⟩ := h
  unfold inB at h2
  simp only [Bool.and_eq_true, decide_eq_true_eq] at h2
  omega
/-- The theorem of the planimeter. -/
theorem meterV {t : Trk} {ws : List Pt} {es : List Int} (ht : trkB t = true) (h0 : 0 < ws.length) (h : elbV t ws es = true) :
    sweepV t ws es = dbl ws - turnsV t es * dbl t.ps ∧ (t.cl ≠ 1 → turnsV t es = 0) ∧ -(ws.length : Int) ≤ turnsV t es ∧ turnsV t es ≤ ws.length := by
  obtain ⟨_, hc, hn⟩ := trk_parts ht
  have hl := (elbV_iff.1 h).1
  have hB := elbV_B h0 h
  obtain ⟨m1, m2⟩ := meter (ws := ws) hc hB hl (by omega)
  have := turnsV_bd hB
  exact ⟨m1, m2, by omega, by omega⟩
/-- Put a number into an ascending list, once. -/
def insA (n : Int) : List Int → List Int
  | [] => [n]
  | x :: l => if n < x then n :: x :: l else if n = x then x :: l else x :: insA n l
def ascOf (l : List Int) : List Int := l.foldl (fun a n => insA n a) []
def rollsL (t : Trk) (ws : List Pt) : List Int := ascOf ((elbsL t ws).map (sweepV t ws))
abbrev asc (l : List Int) : Prop := l.Pairwise (· < ·)
theorem mem_insA {n x : Int} : ∀ {l : List Int}, x ∈ insA n l ↔ x = n ∨ x ∈ l
  | [] => by simp [insA]
  | y :: l => by
    show x ∈ (if n < y then n :: y :: l else if n = y then y :: l else y :: insA n l) ↔ _
    split
    · simp
    · split
      · rename_i e
        subst e
        simp
      · rw [List.mem_cons, mem_insA (l := l), List.mem_cons]
        constructor
        · rintro (h | h | h)
          · exact .inr (.inl h)
          · exact .inl h
          · exact .inr (.inr h)
        · rintro (h | h | h)
          · exact .inr (.inl h)
          · exact .inl h
          · exact .inr (.inr h)
theorem asc_insA {n : Int} : ∀ {l : List Int}, asc l → asc (insA n l)
  | [], _ => List.pairwise_singleton _ _
  | y :: l, h => by
    show asc (if n < y then n :: y :: l else if n = y then y :: l else y :: insA n l)
    have hp := List.pairwise_cons.1 h
    split
    · rename_i hn
      refine List.pairwise_cons.2 ⟨fun z hz => ?_, h⟩
      rcases List.mem_cons.1 hz with rfl | hz
      · exact hn
      · have := hp.1 z hz; omega
    · split
      · exact h
      · refine List.pairwise_cons.2 ⟨fun z hz => ?_, asc_insA hp.2⟩
        rcases mem_insA.1 hz with rfl | hz
        · omega
        · exact hp.1 z hz
theorem fold_insA : ∀ (l a : List Int), asc a → asc (l.foldl (fun a n => insA n a) a) ∧ ∀ x, x ∈ l.foldl (fun a n => insA n a) a ↔ x ∈ a ∨ x ∈ l
  | [], a, h => ⟨h, fun x => by simp⟩
  | n :: l, a, h => by
    obtain ⟨h1, h2⟩ := fold_insA l (insA n a) (asc_insA h)
    refine ⟨h1, fun x => ?_⟩
    show x ∈ l.foldl (fun a n => insA n a) (insA n a) ↔ _
    rw [h2, mem_insA, List.mem_cons]
    constructor
    · rintro ((h | h) | h)
      · exact .inr (.inl h)
      · exact .inl h
      · exact .inr (.inr h)
    · rintro (h | h | h)
      · exact .inl (.inr h)
      · exact .inl (.inl h)
      · exact .inr h
theorem asc_ascOf (l : List Int) : asc (ascOf l) := (fold_insA l [] List.Pairwise.nil).1
theorem mem_ascOf {l : List Int} {x : Int} : x ∈ ascOf l ↔ x ∈ l := by
  have := (fold_insA l [] List.Pairwise.nil).2 x
  rw [show (ascOf l) = l.foldl (fun a n => insA n a) [] from rfl, this]
  simp
/-- Two ascending lists of the same numbers are one. -/
theorem asc_one : ∀ {a b : List Int}, asc a → asc b → (∀ x, x ∈ a ↔ x ∈ b) → a = b
  | [], [], _, _, _ => rfl
  | [], y :: b, _, _, h => absurd ((h y).2 List.mem_cons_self) (by simp)
  | x :: a, [], _, _, h => absurd ((h x).1 List.mem_cons_self) (by simp)
  | x :: a, y :: b, ha, hb, h => by
    have pa := List.pairwise_cons.1 ha
    have pb := List.pairwise_cons.1 hb
    have e : x = y := by
      rcases List.mem_cons.1 ((h x).1 List.mem_cons_self) with e | e
      · exact e
      · rcases List.mem_cons.1 ((h y).2 List.mem_cons_self) with e' | e'
        · exact e'.symm
        · have := pb.1 x e
          have := pa.1 y e'
          omega
    subst e
    rw [asc_one pa.2 pb.2 (fun z => ?_)]
    constructor
    · intro hz
      rcases List.mem_cons.1 ((h z).1 (List.mem_cons_of_mem _ hz)) with e | e
      · have := pa.1 z hz; omega
      · exact e
    · intro hz
      rcases List.mem_cons.1 ((h z).2 (List.mem_cons_of_mem _ hz)) with e | e
      · have := pb.1 z hz; omega
      · exact e
theorem mem_rollsL {t : Trk} {ws : List Pt} (h0 : 0 < ws.length) {n : Int} : n ∈ rollsL t ws ↔ ∃ es, elbV t ws es = true ∧ sweepV t ws es = n := by
  unfold rollsL
  rw [mem_ascOf, List.mem_map]
  constructor
  · rintro ⟨es, h1, h2⟩
    exact ⟨es, (mem_elbsL h0).1 h1, h2⟩
  · rintro ⟨es, h1, h2⟩
    exact ⟨es, (mem_elbsL h0).2 h1, h2⟩
/-- The sweeps on a track that is not closed. -/
theorem rolls_open {t : Trk} {ws : List Pt} (ht : trkB t = true) (hc : t.cl = 0) (h0 : 0 < ws.length) (hne : elbsL t ws ≠ []) : rollsL t ws = [dbl ws] := by
  refine asc_one (asc_ascOf _) (List.pairwise_singleton _ _) (fun x => ?_)
  rw [mem_rollsL h0, List.mem_singleton]
  have hs : ∀ es, elbV t ws es = true → sweepV t ws es = dbl ws := fun es he => by
    obtain ⟨m1, m2, _⟩ := meterV ht h0 he
    rw [m1, m2 (by omega), Int.zero_mul, Int.sub_zero]
  constructor
  · rintro ⟨es, he, rfl⟩
    exact hs es he
  · rintro rfl
    obtain ⟨es, hes⟩ := List.exists_mem_of_ne_nil _ hne
    have he := (mem_elbsL h0).1 hes
    exact ⟨es, he, hs es he⟩
end Wl
end Go.Proofs.YtmjcdggmofohcaaGreat
namespace Go.Proofs.YtmjcdggmofohcaaGreat
open Go.RowKit Go.Shelf
attribute [local go_sem] Oper.semAt_some
def encA (s : Side) : Value := .agg #[.int .i64 s.1.1.1, .int .i64 s.1.1.2]
def encB (s : Side) : Value := .agg #[.int .i64 s.1.2.1, .int .i64 s.1.2.2]
theorem encA_at {ps : List (Int × Int)} {h : ∀ p ∈ ps, Geo.sm p} {k : Nat} {p : Int × Int} (hp : ps[k]? = some p) : encA (sideAt ps h k) = .agg #[.int .i64 p.1, .int .i64 p.2] := by
  unfold encA sideAt
  simp [hp]
theorem encB_at {ps : List (Int × Int)} {h : ∀ p ∈ ps, Geo.sm p} {k : Nat} {q : Int × Int} (hq : ps[(k + 1) % ps.length]? = some q) : encB (sideAt ps h k) = .agg #[.int .i64 q.1, .int .i64 q.2] := by
  unfold encB sideAt
  simp [hq]
set_option maxRecDepth 100000 in
set_option maxHeartbeats 4000000 in
/-- The closure of around: for every loop body that keeps what lay below n₀. -/
theorem around1_in (F : Fence) (n : Nat) (hF : F.fn 87) (hro : F.round = none) (hn : 1 ≤ n) (l Bs n₀ : Nat) (A : Option Addr) (c : Nat) (ps : List (Int × Int)) (hps : ∀ p ∈ ps, Geo.sm p) (hlen : ps.length ≤ 100) (J Jx : List Side → World → Prop)
    (hY : ∀ pre x W, J pre W → pre.length < ps.length → YieldAt F (n - 1) Tryz.prog l #[encA x, encB x] W fun e W' =>
      (e = .returned (.bool true) ∧ J (pre ++ [x]) W' ∧ KpS n₀ Bs W W') ∨ (e = .returned (.bool false) ∧ Jx (pre ++ [x]) W'))
    (W : World) (hJ : AbidesFrom W.heap.size J) (hBs : Boxed W Bs 22 (.slice A ps.length c)) (hn0 : n₀ ≤ W.heap.size) (hP : Prs W n₀ A ps) (h0 : J [] W) :
    CallsIn F n Tryz.prog 87 #[.func (.yield l) #[] #[], .pointer (some ⟨Bs, 0, none⟩)] W fun e W' => (∃ v, e = .returned v) ∧
      ((∃ ys, ys = sidesTo ps hps ps.length ∧ J ys W') ∨ (∃ pre, (∃ k, k ≤ ps.length ∧ pre = sidesTo ps hps k) ∧ Jx pre W')) := by
  refine callsIn_of_wp Tryz.func87 rfl hF ?_ hro
  have hBc := hBs.cell
  simp only [Tryz.ntmps87, List.size_toArray, List.length_cons, List.length_nil, Nat.reduceAdd, Nat.reduceSub, Array.replicate_succ, Array.replicate_zero, List.push_toArray, List.append_toArray, List.nil_append, List.cons_append]
  gi_wp2
  gi_loopw [7] (fun i wr => ∃ k : Nat, (k : Int) ≤ ps.length ∧ i = .int .i64 k ∧ KpS n₀ Bs W wr ∧ W.heap.size ≤ wr.heap.size ∧ J (sidesTo ps hps k) wr) (fun i _ => (ps.length - intOf i).toNat)
  case atStart => exact ⟨0, by omega, rfl, KpS.refl _ _ _, Nat.le_refl _, h0⟩
  case round =>
    obtain ⟨k, hk, rfl, hB, hsz, hJs⟩ := hrel
    have hk0 := Int.natCast_nonneg k
    by_cases hlt : (k : Int) < ps.length
    · have hkl : k < ps.length := by omega
      have hpk : ps[k]? = some ps[k] := List.getElem?_eq_getElem hkl
      have hm : (k + 1) % ps.length < ps.length := Nat.mod_lt _ (by omega)
      have hqk : ps[(k + 1) % ps.length]? = some ps[(k + 1) % ps.length] := List.getElem?_eq_getElem hm
      obtain ⟨b, off, rfl, hb, hc⟩ := hP (by omega)
      have d0 := (hB.1.cell (p := ⟨b, off + k * 2, none⟩) hb).trans (hc k _ hpk).1
      have d1 := (hB.1.cell (p := ⟨b, off + k * 2 + 1, none⟩) hb).trans (hc k _ hpk).2
      have d2 := (hB.1.cell (p := ⟨b, off + (k + 1) % ps.length * 2, none⟩) hb).trans (hc _ _ hqk).1
      have d3 := (hB.1.cell (p := ⟨b, off + (k + 1) % ps.length * 2 + 1, none⟩) hb).trans (hc _ _ hqk).2
      have hBs4 : Boxed wr Bs 22 (.slice (some ⟨b, off, none⟩) ps.length c) := hB.2 _ hBs
      have d4 := hBs4.cell
      have hbr : b < wr.heap.size := by omega
      have hBr : Bs < wr.heap.size := hBs4.lt
      clear hBs4
      have HE := encA_at (h := hps) hpk
      have HE2 := encB_at (h := hps) hqk
      have hr1 : ((k : Int) + 1) % (ps.length : Int) = (((k + 1) % ps.length : Nat) : Int) := by rw [Int.natCast_emod]; rfl
      have hr2 : ((k : Int) + 1).tmod (ps.length : Int) = (((k + 1) % ps.length : Nat) : Int) := by rw [Int.tmod_eq_emod_of_nonneg (by omega)]; exact hr1
      have hss := sidesTo_succ ps hps k
      have hpl : (sidesTo ps hps k).length < ps.length := by unfold sidesTo; simp; omega
      generalize sideAt ps hps k = sd at *
      generalize (k + 1) % ps.length = r at *
      generalize hpe : ps[k] = p at *
      generalize hqe : ps[r] = q at *
      have hw1 : IntKind.i64.wrap ((k : Int) + 1) = (k : Int) + 1 := IntWalk.i64_in _ (by omega)
      have hw2 : IntKind.i64.wrap (r : Int) = (r : Int) := IntWalk.i64_in _ (by omega)
      have hne : ¬ (ps.length : Int) = 0 := by omega
      have hne2 : ¬ ps.length = 0 := by omega
      have hne3 : ¬ ps = [] := by intro e; subst e; simp at hne2
      have hr0 : (0 : Int) ≤ (r : Int) := Int.natCast_nonneg r
      have hrl : (r : Int) < (ps.length : Int) := by omega
      obtain ⟨fn, tmps, assign, body, hy, hR⟩ := hY (sidesTo ps hps k) sd ((wr.alloc (.cells #[.int .i64 p.1, .int .i64 p.2] 53)).drew) (hJ _ _ _ none hJs ((World.grownBy_alloc wr _ none).trans ⟨rfl, rfl, rfl, Nat.le_refl _, fun _ _ _ => rfl⟩) (fun r e => by cases e)) hpl
      rw [HE, HE2] at hy
      have HSS := Lib.hid hss
      have hk2 : KpS n₀ Bs wr ((wr.alloc (.cells #[.int .i64 p.1, .int .i64 p.2] 53)).drew) := (KpS.alloc _ (by omega) _).trans (KpS.drew _)
      have HR := Lib.hid hR
      clear hpe hqe hpk hqk hss HE HE2 hR hm hJs hY
      gi_wp2
      have hmo : Tryz.prog.follows .mixedOrders = true := by kernel_rfl
      refine wpIn_region_held (fun W => W = (wr.alloc (.cells #[.int .i64 p.1, .int .i64 p.2] 53)).drew) 10 hmo ?_
      refine wpHeldIn_take (i := 0) (v := ?_) (plain_of (by kernel_rfl)) rfl (by kernel_rfl) (fun _ _ _ h => h) (yieldsSoIn_of (by kernel_rfl) ?_ (fun _ => rfl)) rfl ?_; rotate_left; focus (intro w hw; cases hw; go_simp; try (with_reducible rfl))
      refine wpHeldIn_take (i := 1) (v := ?_) (plain_of (by kernel_rfl)) rfl (by kernel_rfl) (fun _ _ _ h => h) (yieldsSoIn_of (by kernel_rfl) ?_ (fun _ => rfl)) rfl ?_; rotate_left; focus (intro w hw; cases hw; go_simp; try (with_reducible rfl))
      refine wpHeldIn_take (i := 2) (v := ?_) (plain_of (by kernel_rfl)) rfl (by kernel_rfl) (fun _ _ _ h => h) (yieldsSoIn_of (by kernel_rfl) ?_ (fun _ => rfl)) rfl ?_; rotate_left; focus (intro w hw; cases hw; go_simp; try (with_reducible rfl))
      refine wpHeldIn_take (i := 3) (v := ?_) (plain_of (by kernel_rfl)) rfl (by kernel_rfl) (fun _ _ _ h => h) (yieldsSoIn_of (by kernel_rfl) ?_ (fun _ => rfl)) rfl ?_; rotate_left; focus (intro w hw; cases hw; go_simp; try (with_reducible rfl))
      refine wpHeldIn_take (i := 4) (v := ?_) (plain_of (by kernel_rfl)) rfl (by kernel_rfl) (fun _ _ _ h => h) (yieldsSoIn_of (by kernel_rfl) ?_ (fun _ => rfl)) rfl ?_; rotate_left; focus (intro w hw; cases hw; go_simp; try (with_reducible rfl))
      refine wpHeldIn_take (i := 5) (v := ?_) (plain_of (by kernel_rfl)) rfl (by kernel_rfl) (fun _ _ _ h => h) (yieldsSoIn_of (by kernel_rfl) ?_ (fun _ => rfl)) rfl ?_; rotate_left; focus (intro w hw; cases hw; go_simp; try (with_reducible rfl))
      refine wpHeldIn_take (i := 6) (v := ?_) (plain_of (by kernel_rfl)) rfl (by kernel_rfl) (fun _ _ _ h => h) (yieldsSoIn_of (by kernel_rfl) ?_ (fun _ => rfl)) rfl ?_; rotate_left; focus (intro w hw; cases hw; go_simp; try (with_reducible rfl))
      refine wpHeldIn_take (i := 7) (v := ?_) (plain_of (by kernel_rfl)) rfl (by kernel_rfl) (fun _ _ _ h => h) (yieldsSoIn_of (by kernel_rfl) ?_ (fun _ => rfl)) rfl ?_; rotate_left; focus (intro w hw; cases hw; go_simp; try (with_reducible rfl))
      refine wpHeldIn_take (i := 8) (v := ?_) (plain_of (by kernel_rfl)) rfl (by kernel_rfl) (fun _ _ _ h => h) (yieldsSoIn_of (by kernel_rfl) ?_ (fun _ => rfl)) rfl ?_; rotate_left; focus (intro w hw; cases hw; go_simp; try (with_reducible rfl))
      refine wpHeldIn_take (i := 9) (v := ?_) (plain_of (by kernel_rfl)) rfl (by kernel_rfl) (fun _ _ _ h => h) (yieldsSoIn_of (by kernel_rfl) ?_ (fun _ => rfl)) rfl ?_; rotate_left; focus (intro w hw; cases hw; go_simp; try (with_reducible rfl))
      refine wpHeldIn_last (by kernel_rfl) rfl (by rfl) (fun K' hK' => ?_)
      go_simp
      refine HR.out.mono ?_
      rintro e W3 (⟨rfl, hJ3, hk3⟩ | ⟨rfl, hJx3⟩)
      · refine hK' _ _ ?_
        refine wpHeldIn_take (i := 11) (v := ?_) (plain_of (by kernel_rfl)) rfl (by kernel_rfl) (fun _ _ _ h => h) (yieldsSoIn_of (by kernel_rfl) ?_ (fun _ => rfl)) trivial ?_; rotate_left; focus (intro w _; go_simp; try (with_reducible rfl))
        refine wpHeldIn_done (by kernel_rfl) ?_ _
        gi_wp2
        go_roundw
        case rel => exact ⟨k + 1, by omega, by go_num, hB.trans (hk2.trans hk3), by have := hk2.1.size; have := hk3.1.size; omega, by rw [HSS.out]; exact hJ3⟩
        case measure => simp [intOf]; omega
      · refine hK' _ _ ?_
        refine wpHeldIn_take (i := 11) (v := ?_) (plain_of (by kernel_rfl)) rfl (by kernel_rfl) (fun _ _ _ h => h) (yieldsSoIn_of (by kernel_rfl) ?_ (fun _ => rfl)) trivial ?_; rotate_left; focus (intro w _; go_simp; try (with_reducible rfl))
        refine wpHeldIn_done (by kernel_rfl) ?_ _
        gi_wp2
        refine bodyPost_ret (results_none rfl _ _ _) rfl ?_
        exact ⟨⟨_, rfl⟩, .inr ⟨_, ⟨k + 1, by omega, HSS.out.symm⟩, hJx3⟩⟩
    · obtain rfl : k = ps.length := by omega
      gi_wp2
      go_end0
      exact ⟨⟨_, rfl⟩, .inl hJs⟩
end Go.Proofs.YtmjcdggmofohcaaGreat
namespace Go.Proofs.YtmjcdggmofohcaaGreat
open Go.RowKit Go.Shelf
attribute [local go_sem] Oper.semAt_some
set_option maxHeartbeats 1000000 in
theorem around_in (F : Fence) (n : Nat) (hF : F.fn 66) (hro : F.round = none) (A : Option Addr) (k c : Nat) (w : World) :
    CallsIn F n Tryz.prog 66 #[.slice A k c] w fun e w' => e = .returned (.func (.func 87) #[] #[.pointer (some ⟨w.heap.size, 0, none⟩)]) ∧ w' = w.alloc (.cells #[.slice A k c] 22) := by
  refine callsIn_of_wp Tryz.func66 rfl hF ?_ hro
  simp only [Tryz.ntmps66, List.size_toArray, List.length_cons, List.length_nil, Nat.reduceAdd, Nat.reduceSub, Array.replicate_succ, Array.replicate_zero, List.push_toArray, List.append_toArray, List.nil_append, List.cons_append]
  gi_wp2
  go_ret
  exact ⟨rfl, rfl⟩
theorem around_stops (F : Fence) (n : Nat) (hF : F.fn 87) (hro : F.round = none) (hn : 1 ≤ n) (Bs n₀ : Nat) (A : Option Addr) (c : Nat) (ps : List (Int × Int)) (hps : ∀ p ∈ ps, Geo.sm p) (hlen : ps.length ≤ 100) (w : World)
    (hBs : Boxed w Bs 22 (.slice A ps.length c)) (hn0 : n₀ ≤ w.heap.size) (hP : Prs w n₀ A ps) :
    SeqStopsK F n Tryz.prog 87 #[.pointer (some ⟨Bs, 0, none⟩)] (fun x : Side => #[encA x, encB x]) (KpS n₀ Bs) (fun ys => ys = sidesTo ps hps ps.length) (fun pre => ∃ k, k ≤ ps.length ∧ pre = sidesTo ps hps k) ps.length w := fun l J Jx W hW hJ _ hY h0 =>
  around1_in F n hF hro hn l Bs n₀ A c ps hps hlen J Jx hY W hJ (boxed_below hBs hW) (Nat.le_trans hn0 hW.size) (hP.keep (hW.mono hn0)) h0
def crS (x : Side) : Int := x.1.1.1 * x.1.2.2 - x.1.1.2 * x.1.2.1
theorem crS_bd (x : Side) : (-1000000 ≤ x.1.1.1 * x.1.2.2 ∧ x.1.1.1 * x.1.2.2 ≤ 1000000) ∧ -1000000 ≤ x.1.1.2 * x.1.2.1 ∧ x.1.1.2 * x.1.2.1 ≤ 1000000 := by
  obtain ⟨⟨⟨a1, a2⟩, b1, b2⟩, h1, h2⟩ := x
  unfold Geo.sm at h1 h2
  dsimp only at *
  exact ⟨mul_bd (x := 1000) (y := 1000) h1.1.1 h1.1.2 h2.2.1 h2.2.2, mul_bd (x := 1000) (y := 1000) h1.2.1 h1.2.2 h2.1.1 h2.1.2⟩
set_option maxRecDepth 100000 in
set_option maxHeartbeats 4000000 in
theorem doubled_in (n : Nat) (hn : 6 ≤ n) (A : Option Addr) (c : Nat) (ps : List (Int × Int)) (hps : ∀ p ∈ ps, Geo.sm p) (hlen : ps.length ≤ 100) (w : World) (hP : Prs w w.heap.size A ps) :
    CallsIn Fence.wide n Tryz.prog 38 #[.slice A ps.length c] w fun e w' => e = .returned (.int .i64 (sumOf crS (sidesTo ps hps ps.length))) ∧ Below w.heap.size w w' := by
  have h1 : 1 ≤ n := by omega
  have HV : Hid (∀ x, -2000000 ≤ crS x ∧ crS x ≤ 2000000) := fun x => by
    have := crS_bd x
    unfold crS
    omega
  have HP := Lib.hid hP
  clear hP
  refine callsIn_of_wp_marks Tryz.func38 rfl trivial ?_ rfl
  simp only [Tryz.ntmps38, List.size_toArray, List.length_cons, List.length_nil, Nat.reduceAdd, Nat.reduceSub, Array.replicate_succ, Array.replicate_zero, List.push_toArray, List.append_toArray, List.nil_append, List.cons_append]
  gi_wp2_with (refine ⟨trivial, ?_⟩; gi_at_call 66; refine (around_in Fence.wide (n - 1) trivial rfl _ _ _ _).mono ?_; rintro e w' ⟨rfl, rfl⟩)
  have bR := (Boxed.new w 3 (.int .i64 0)).alloc (.cells #[.slice A ps.length c] 22)
  have bA := Boxed.new (w.alloc (.cells #[.int .i64 0] 3)) 22 (.slice A ps.length c)
  simp only [World.size_alloc] at bA
  have hB0 : Below w.heap.size w ((w.alloc (.cells #[.int .i64 0] 3)).alloc (.cells #[.slice A ps.length c] 22)) := ((Below.refl _ w).alloc (Nat.le_refl _) _).alloc (by simp) _
  have hsz : ((w.alloc (.cells #[.int .i64 0] 3)).alloc (.cells #[.slice A ps.length c] 22)).heap.size = w.heap.size + 2 := by simp
  obtain ⟨W0, hW0⟩ : ∃ W0, ((w.alloc (.cells #[.int .i64 0] 3)).alloc (.cells #[.slice A ps.length c] 22)) = W0 := ⟨_, rfl⟩
  rw [hW0] at bR bA hB0 hsz ⊢
  clear hW0
  have hP1 : Prs W0 w.heap.size A ps := HP.out.keep hB0
  refine wpIn_rangeFunc_ownH rfl h1 (gf := 87) (lb := #[.pointer (some ⟨w.heap.size + 1, 0, none⟩)]) rfl trivial (enters_of Tryz.func87 (by kernel_rfl) rfl)
    (around_stops Fence.wide (n - 1) trivial rfl (by omega) (w.heap.size + 1) w.heap.size A c ps hps hlen W0 bA (by omega) hP1) KpS.trans (fun W l o o' hl _ _ _ => KpS.putObj W (by omega) (by omega) o') (Below.refl _ _) (fun _ => rfl)
    (fun pre W => Boxed W w.heap.size 3 (.int .i64 (sumOf crS pre)) ∧ Below w.heap.size w W)
    (fun _ _ _ => False)
    (OwnFrom.and (Own.from (boxed_own _ _ _) _) (ownFrom_below (Nat.le_refl _) (by omega)))
    (fun _ _ _ _ _ hs _ _ => hs)
    ⟨bR, hB0⟩
    (fun x a' W => ∃ Ba Bb, (w.heap.size < Ba ∧ w.heap.size < Bb) ∧ (BoxS W Ba 53 #[.int .i64 x.1.1.1, .int .i64 x.1.1.2] ∧ BoxS W Bb 53 #[.int .i64 x.1.2.1, .int .i64 x.1.2.2]) ∧ a' = { tmps := #[.slice A ps.length c, undef, .int .i64 0, .pointer (some ⟨w.heap.size, 0, none⟩), .pointer (some ⟨Ba, 0, none⟩), .pointer (some ⟨Bb, 0, none⟩), .slice A ps.length c, .func (.func 87) #[] #[.pointer (some ⟨w.heap.size + 1, 0, none⟩)], encA x, encB x, undef, undef, undef, undef, undef, undef, undef, undef, undef, undef, undef, undef, undef, undef], defers := [] })
    (fun x a' _ X Y row hs hg hr => by obtain ⟨Ba, Bb, e1, ⟨e2, e3⟩, e4⟩ := hs; exact ⟨Ba, Bb, e1, ⟨boxS_own Ba 53 (fun (_ : Unit) => #[.int .i64 x.1.1.1, .int .i64 x.1.1.2]) () X Y row e2 hg (fun r e => (hr r e).2), boxS_own Bb 53 (fun (_ : Unit) => #[.int .i64 x.1.2.1, .int .i64 x.1.2.2]) () X Y row e3 hg (fun r e => (hr r e).2)⟩, e4⟩)
    ?assign ?body ?done ?stop
  case assign =>
    rintro l pre x W K ⟨bR1, hB1⟩ hK
    unfold encA encB
    gi_wp2
    exact hK _ _ (((KeepsOthers.alloc _ _).from _).trans ((KeepsOthers.alloc _ _).from _)) ((KpS.alloc W hB1.size _).trans (KpS.alloc _ (by have := hB1.size; simp; omega) _)) ⟨(bR1.alloc _).alloc _, (hB1.alloc hB1.size _).alloc (by have := hB1.size; simp; omega) _⟩ ⟨W.heap.size, W.heap.size + 1, ⟨bR1.lt, by have := bR1.lt; omega⟩, ⟨(BoxS.new W _ _).alloc _, by have := BoxS.new (W.alloc (.cells #[.int .i64 x.1.1.1, .int .i64 x.1.1.2] 53)) 53 #[.int .i64 x.1.2.1, .int .i64 x.1.2.2]; rwa [World.size_alloc] at this⟩, rfl⟩
  case body =>
    rintro l pre x a' W hl ⟨r, hr⟩ ⟨bR1, hB1⟩ ⟨Ba, Bb, ⟨hBa, hBb⟩, ⟨bXa, bXb⟩, rfl⟩ hlt
    obtain ⟨v1, v2⟩ := sumOf_bd HV.out pre
    have hsn := Lib.hid (sumOf_snoc crS pre x)
    obtain ⟨⟨m1, m2⟩, m3, m4⟩ := crS_bd x
    have hcr : Hid (crS x = x.1.1.1 * x.1.2.2 - x.1.1.2 * x.1.2.1) := rfl
    generalize sumOf crS pre = s0 at *
    generalize crS x = vx at *
    have c0 := bR1.cell
    have f0 := bR1.frozen
    obtain ⟨y0, y1⟩ := boxS2 bXa
    obtain ⟨y2, y3⟩ := boxS2 bXb
    have l1 := bXa.lt
    have l2 := bXb.lt
    have l3 := bR1.lt
    have hsW := hB1.size
    have e1 : IntKind.i64.wrap (x.1.1.1 * x.1.2.2) = x.1.1.1 * x.1.2.2 := IntWalk.i64_in _ (by omega)
    have e2 : IntKind.i64.wrap (x.1.1.2 * x.1.2.1) = x.1.1.2 * x.1.2.1 := IntWalk.i64_in _ (by omega)
    have e3 : IntKind.i64.wrap (x.1.1.1 * x.1.2.2 - x.1.1.2 * x.1.2.1) = vx := by rw [hcr.out]; exact IntWalk.i64_in _ (by omega)
    have e4 : IntKind.i64.wrap (s0 + vx) = s0 + vx := IntWalk.i64_in _ (by have := hcr.out; omega)
    clear m1 m2 m3 m4 v1 v2 hcr
    gi_wp2
    exact ⟨(KeepsOthers.setCell _ _ _).from _, KpS.setCell _ (by omega) (by omega) _, by rw [hsn.out]; exact bR1.set _, hB1.setCell (p := ⟨w.heap.size, 0, none⟩) (Nat.le_refl _) _⟩
  case done =>
    rintro D zs W hD rfl ⟨bR1, hB1⟩ hK
    have cR := bR1.cell
    have fR := bR1.frozen
    gi_wp2
    refine ⟨by simp, .inl ⟨_, _, rfl, run_takeDeferred hK, ?_⟩⟩
    exact ⟨_, results_tmp rfl _ _ _, rfl, hB1.trans (belowK_b (w := w) (Nat.le_refl _) W D _ _ (by omega) hK rfl rfl)⟩
  case stop =>
    rintro D c pre W hD hpre h hK
    exact h.elim
end Go.Proofs.YtmjcdggmofohcaaGreat
namespace Go.Proofs.YtmjcdggmofohcaaGreat
open Go.RowKit
namespace Wl
theorem sum_to (ps : List Pt) (h : ∀ p ∈ ps, Geo.sm p) : ∀ k, sumOf crS (sidesTo ps h k) = dblTo ps k
  | 0 => rfl
  | k + 1 => by
    rw [sidesTo_succ, sumOf_snoc, sum_to ps h k]
    rfl
theorem pts_all {ps : List Pt} (h : ptsB ps = true) : (∀ p ∈ ps, Geo.sm p) ∧ ps.length ≤ 8 := by
  refine ⟨fun p hp => ?_, ?_⟩
  · obtain ⟨k, hk, rfl⟩ := List.getElem_of_mem hp
    have := pts_sm h hk
    unfold ptAt at this
    rwa [List.getElem?_eq_getElem hk] at this
  · unfold ptsB inB at h
    simp only [Bool.and_eq_true, decide_eq_true_eq] at h
    omega
end Wl
theorem doubledW_any (A : Option Addr) (c : Nat) (ps : List Wl.Pt) (hps : ∀ p ∈ ps, Geo.sm p) (hlen : ps.length ≤ 100) (w : World) (hP : Prs w w.heap.size A ps) :
    Calls Tryz.prog 38 #[.slice A ps.length c] w fun e w' => e = .returned (.int .i64 (Wl.dbl ps)) ∧ Below w.heap.size w w' := by
  have := doubled_in 9 (by omega) A c ps hps hlen w hP
  rw [Wl.sum_to] at this
  exact (callsIn_wide (n := 9)).1 this
set_option maxHeartbeats 1000000 in
theorem AreaW_any (A : Option Addr) (c : Nat) (ps : List Wl.Pt) (hl : ps.length ≤ 1000000000) (w : World) (hP : Prs w w.heap.size A ps) :
    Calls Tryz.prog 14 #[.slice A ps.length c] w (TwoPost (if Wl.ptsB ps then Wl.dbl ps else 0) (if Wl.ptsB ps then 0 else 51) w) := by
  have HV := Lib.hid (validWalkW_any A c ps hl w hP)
  cases hb : Wl.ptsB ps
  · rw [hb] at HV
    clear hP hb
    go_enter Tryz.func14, Tryz.ntmps14
    go_wp2_with fail
    refine HV.out.mono ?_
    rintro e w1 ⟨rfl, hb1⟩
    go_wp2_with fail
    go_returns
    exact ⟨rfl, hb1⟩
  · rw [hb] at HV
    obtain ⟨h1, h2⟩ := Wl.pts_all hb
    have HD : Hid (∀ W, Below w.heap.size w W → Calls Tryz.prog 38 #[.slice A ps.length c] W fun e w' => e = .returned (.int .i64 (Wl.dbl ps)) ∧ Below W.heap.size W w') := fun W hW => doubledW_any A c ps h1 (by omega) W (prs_keep hP hW)
    generalize Wl.dbl ps = D at *
    clear hP hb h1 h2
    go_enter Tryz.func14, Tryz.ntmps14
    go_wp2_with fail
    refine HV.out.mono ?_
    rintro e w1 ⟨rfl, hb1⟩
    go_wp2_with fail
    refine (HD.out _ hb1).mono ?_
    rintro e w2 ⟨rfl, hb2⟩
    have hB2 := hb1.trans (hb2.mono hb1.size)
    go_wp2_with fail
    go_returns
    exact ⟨rfl, hB2⟩
end Go.Proofs.YtmjcdggmofohcaaGreat
