/- Walks: the turns of elbows, by the program. -/
import Derived.Test.YtmjcdggmofohcaaWlH
import Derived.Test.YtmjcdggmofohcaaWlE
import Derived.Test.YtmjcdggmofohcaaTotal
namespace Go.Proofs.Ytmjcdggmofohcaa
open Go.RowKit Go.Shelf
attribute [local go_sem] Oper.semAt_some
set_option maxHeartbeats 1000000 in
theorem aroundI0_in (F : Fence) (n : Nat) (hF : F.fn 85) (hro : F.round = none) (A : Option Addr) (k c : Nat) (w : World) :
    CallsIn F n Try.prog 85 #[.slice A k c] w fun e w' => e = .returned (.func (.func 101) #[] #[.pointer (some ⟨w.heap.size, 0, none⟩)]) ∧ w' = w.alloc (.cells #[.slice A k c] 35) := by
  refine callsIn_of_wp Try.func85 rfl hF ?_ hro
  simp only [Try.ntmps85, List.size_toArray, List.length_cons, List.length_nil, Nat.reduceAdd, Nat.reduceSub, Array.replicate_succ, Array.replicate_zero, List.push_toArray, List.append_toArray, List.nil_append, List.cons_append]
  gi_wp2
  go_ret
  exact ⟨rfl, rfl⟩
theorem ints_below {w w' : World} {B : Nat} {v : Value} {xs : List Int} (h : Ints w B v xs) (hb : Below B w w') : Ints w' B v xs := h.keep hb
theorem aroundI_stops (F : Fence) (n : Nat) (hF : F.fn 101) (hro : F.round = none) (hn : 1 ≤ n) (Bs n₀ : Nat) (A : Option Addr) (c : Nat) (es : List Int) (hes : ∀ e ∈ es, smI e) (hlen : es.length ≤ 100) (w : World)
    (hBs : Boxed w Bs 35 (.slice A es.length c)) (hn0 : n₀ ≤ w.heap.size) (hP : Ints w n₀ (.slice A es.length c) es) :
    SeqStopsK F n Try.prog 101 #[.pointer (some ⟨Bs, 0, none⟩)] (fun x : Leg => #[.int .i64 x.1.1, .int .i64 x.1.2]) (KpS n₀ Bs) (fun ys => ys = legsTo es hes es.length) (fun pre => ∃ k, k ≤ es.length ∧ pre = legsTo es hes k) es.length w := fun l J Jx W hW hJ _ hY h0 =>
  aroundI_in F n hF hro hn l Bs n₀ A c es hes hlen J Jx hY W hJ (boxed_below hBs hW) (Nat.le_trans hn0 hW.size) (hP.keep (hW.mono hn0)) h0
def sumL (val : Leg → Int) (l : List Leg) : Int := (l.map val).sum
theorem sumL_snoc (val : Leg → Int) (l : List Leg) (x : Leg) : sumL val (l ++ [x]) = sumL val l + val x := by simp [sumL]
theorem sumL_bd {val : Leg → Int} {M : Int} (h : ∀ x, -M ≤ val x ∧ val x ≤ M) (l : List Leg) : -(M * l.length) ≤ sumL val l ∧ sumL val l ≤ M * l.length := by
  induction l with
  | nil => simp [sumL]
  | cons x l ih =>
    have hx := h x
    have e1 : sumL val (x :: l) = val x + sumL val l := by simp [sumL]
    have e2 : M * ((x :: l).length : Int) = M + M * (l.length : Int) := by rw [List.length_cons]; push_cast; rw [Int.mul_add]; omega
    rw [e1, e2]
    omega
def stL (t : Wl.Trk) (x : Leg) : Int := Wl.stepV t x.1.1 x.1.2
theorem stL_bd (t : Wl.Trk) (x : Leg) : -2000 ≤ stL t x ∧ stL t x ≤ 2000 := by
  obtain ⟨⟨a, b⟩, h1, h2⟩ := x
  unfold smI at h1 h2
  dsimp only at h1 h2
  unfold stL Wl.stepV
  dsimp only
  split
  · omega
  · split <;> omega
theorem legsTo_len (es : List Int) (h : ∀ e ∈ es, smI e) (k : Nat) : (legsTo es h k).length = k := by unfold legsTo; simp
def trnV (t : Wl.Trk) (es : List Int) (hes : ∀ e ∈ es, smI e) : Int := (sumL (stL t) (legsTo es hes es.length)).tdiv t.ps.length
set_option maxRecDepth 100000 in
set_option maxHeartbeats 4000000 in
theorem turnsW_in (n : Nat) (hn : 6 ≤ n) (t : Wl.Trk) (A Aw Ae : Option Addr) (c m cw ce : Nat) (es : List Int) (hes : ∀ e ∈ es, smI e) (hlen : es.length ≤ 100) (hl : t.ps.length ≤ 1000000000) (hpos : 0 < t.ps.length) (w : World) (hE : Ints w w.heap.size (.slice Ae es.length ce) es) :
    CallsIn Fence.wide n Try.prog 61 #[.agg (mcV t A c Aw m cw), .slice Ae es.length ce] w fun e w' => e = .returned (.int .i64 (trnV t es hes)) ∧ Below w.heap.size w w' := by
  have h1 : 1 ≤ n := by omega
  have HV : Hid (∀ x, -2000 ≤ stL t x ∧ stL t x ≤ 2000) := stL_bd t
  have HG : Hid (∀ (x : Leg) W, Calls Try.prog 86 #[.agg (mcV t A c Aw m cw), .int .i64 x.1.1, .int .i64 x.1.2] W fun e w' => e = .returned (.int .i64 (stL t x)) ∧ Below W.heap.size W w') := fun x W => stepW_any t A c Aw m cw x.1.1 x.1.2 (by have := x.2.1; unfold smI at this; omega) (by have := x.2.2; unfold smI at this; omega) hl W
  have HT : Hid (trnV t es hes = (sumL (stL t) (legsTo es hes es.length)).tdiv t.ps.length) := rfl
  have HE := Lib.hid hE
  have hlb := sumL_bd HV.out (legsTo es hes es.length)
  rw [legsTo_len] at hlb
  have HLB : Hid (-200000 ≤ sumL (stL t) (legsTo es hes es.length) ∧ sumL (stL t) (legsTo es hes es.length) ≤ 200000) := by unfold Hid; omega
  generalize trnV t es hes = R at *
  generalize stL t = val at *
  obtain ⟨ps, cl, lo, hi⟩ := t
  unfold mcV at *
  dsimp only at *
  clear hE hlb
  refine callsIn_of_wp_marks Try.func61 rfl trivial ?_ rfl
  simp only [Try.ntmps61, List.size_toArray, List.length_cons, List.length_nil, Nat.reduceAdd, Nat.reduceSub, Array.replicate_succ, Array.replicate_zero, List.push_toArray, List.append_toArray, List.nil_append, List.cons_append]
  gi_wp2_with (refine ⟨trivial, ?_⟩; gi_at_call 85; refine (aroundI0_in Fence.wide (n - 1) trivial rfl _ _ _ _).mono ?_; rintro e w' ⟨rfl, rfl⟩)
  have bG := ((BoxS.new w 70 #[.slice A ps.length c, .int .i64 cl, .int .i64 lo, .int .i64 hi, .slice Aw m cw]).alloc (.cells #[.int .i64 0] 3)).alloc (.cells #[.slice Ae es.length ce] 35)
  have bR := (Boxed.new (w.alloc (.cells #[.slice A ps.length c, .int .i64 cl, .int .i64 lo, .int .i64 hi, .slice Aw m cw] 70)) 3 (.int .i64 0)).alloc (.cells #[.slice Ae es.length ce] 35)
  have bA := Boxed.new ((w.alloc (.cells #[.slice A ps.length c, .int .i64 cl, .int .i64 lo, .int .i64 hi, .slice Aw m cw] 70)).alloc (.cells #[.int .i64 0] 3)) 35 (.slice Ae es.length ce)
  simp only [World.size_alloc] at bR bA
  have hB0 : Below w.heap.size w (((w.alloc (.cells #[.slice A ps.length c, .int .i64 cl, .int .i64 lo, .int .i64 hi, .slice Aw m cw] 70)).alloc (.cells #[.int .i64 0] 3)).alloc (.cells #[.slice Ae es.length ce] 35)) := (((Below.refl _ w).alloc (Nat.le_refl _) _).alloc (by simp) _).alloc (by simp; omega) _
  have hsz : (((w.alloc (.cells #[.slice A ps.length c, .int .i64 cl, .int .i64 lo, .int .i64 hi, .slice Aw m cw] 70)).alloc (.cells #[.int .i64 0] 3)).alloc (.cells #[.slice Ae es.length ce] 35)).heap.size = w.heap.size + 3 := by simp
  obtain ⟨W0, hW0⟩ : ∃ W0, (((w.alloc (.cells #[.slice A ps.length c, .int .i64 cl, .int .i64 lo, .int .i64 hi, .slice Aw m cw] 70)).alloc (.cells #[.int .i64 0] 3)).alloc (.cells #[.slice Ae es.length ce] 35)) = W0 := ⟨_, rfl⟩
  rw [hW0] at bG bR bA hB0 hsz ⊢
  clear hW0
  have hE1 : Ints W0 w.heap.size (.slice Ae es.length ce) es := HE.out.keep hB0
  refine wpIn_rangeFunc_ownH rfl h1 (gf := 101) (lb := #[.pointer (some ⟨w.heap.size + 1 + 1, 0, none⟩)]) rfl trivial (enters_of Try.func101 (by kernel_rfl) rfl)
    (aroundI_stops Fence.wide (n - 1) trivial rfl (by omega) (w.heap.size + 1 + 1) w.heap.size Ae ce es hes hlen W0 bA (by omega) hE1) KpS.trans (fun W l o o' hl _ _ _ => KpS.putObj W (by omega) (by omega) o') (Below.refl _ _) (fun _ => rfl)
    (fun pre W => (Boxed W (w.heap.size + 1) 3 (.int .i64 (sumL val pre)) ∧ BoxS W w.heap.size 70 #[.slice A ps.length c, .int .i64 cl, .int .i64 lo, .int .i64 hi, .slice Aw m cw]) ∧ Below w.heap.size w W)
    (fun _ _ _ => False)
    (OwnFrom.and (OwnFrom.and (Own.from (boxed_own _ _ _) _) (Own.from (boxS_own _ _ (fun _ => _)) _)) (ownFrom_below (Nat.le_refl _) (by omega)))
    (fun _ _ _ _ _ hs _ _ => hs)
    ⟨⟨bR, bG⟩, hB0⟩
    (fun x a' _ => a' = { tmps := #[.agg #[.slice A ps.length c, .int .i64 cl, .int .i64 lo, .int .i64 hi, .slice Aw m cw], .slice Ae es.length ce, .pointer (some ⟨w.heap.size, 0, none⟩), undef, .int .i64 0, .pointer (some ⟨w.heap.size + 1, 0, none⟩), .int .i64 x.1.1, .int .i64 x.1.2, .slice Ae es.length ce, .func (.func 101) #[] #[.pointer (some ⟨w.heap.size + 1 + 1, 0, none⟩)], .int .i64 x.1.1, .int .i64 x.1.2, undef, undef, undef, undef, undef, undef, undef, undef, undef, undef, undef, undef], defers := [] })
    (fun x a' _ X Y row hs hg hr => hs)
    ?assign ?body ?done ?stop
  case assign =>
    rintro l pre x W K ⟨⟨bR1, bG1⟩, hB1⟩ hK
    gi_wp2
    exact hK _ _ ((KeepsOthers.refl _).from _) (KpS.refl _ _ _) ⟨⟨bR1, bG1⟩, hB1⟩ rfl
  case body =>
    rintro l pre x a' W hl ⟨r, hr⟩ ⟨⟨bR1, bG1⟩, hB1⟩ rfl hlt
    have h1' : 1 ≤ n - 1 - 1 := by omega
    obtain ⟨v1, v2⟩ := sumL_bd HV.out pre
    obtain ⟨v3, v4⟩ := HV.out x
    have hsn := Lib.hid (sumL_snoc val pre x)
    generalize sumL val pre = s0 at *
    have HGX := Lib.hid (HG.out x)
    generalize val x = vx at *
    have hmo : Try.prog.follows .mixedOrders = true := by kernel_rfl
    have hsW := hB1.size
    gi_wp2
    refine wpIn_region_held (fun W' => Below W.heap.size W W') 6 hmo ?_
    have q0 : Below W.heap.size W W.drew := (Below.refl _ _).drew
    have C1 : Hid (∀ W', Below W.heap.size W W' → W'.cell? ⟨w.heap.size + 1, 0, none⟩ = some (.int .i64 s0)) := fun W' h => (boxed_below bR1 h).cell
    have C2 : Hid (∀ W', Below W.heap.size W W' → (W'.cell? ⟨w.heap.size, 0, none⟩ = some (.slice A ps.length c) ∧ W'.cell? ⟨w.heap.size, 1, none⟩ = some (.int .i64 cl) ∧ W'.cell? ⟨w.heap.size, 2, none⟩ = some (.int .i64 lo) ∧ W'.cell? ⟨w.heap.size, 3, none⟩ = some (.int .i64 hi) ∧ W'.cell? ⟨w.heap.size, 4, none⟩ = some (.slice Aw m cw))) := fun W' h => ⟨(bG1.below h).cell 0 rfl, (bG1.below h).cell 1 rfl, (bG1.below h).cell 2 rfl, (bG1.below h).cell 3 rfl, (bG1.below h).cell 4 rfl⟩
    refine wpHeldIn_take (i := 0) (v := ?_) (plain_of (by kernel_rfl)) rfl (by kernel_rfl) (fun _ _ _ h => h) (yieldsSoIn_of (by kernel_rfl) ?_ (fun _ => rfl)) q0 ?_; rotate_left; focus (intro wq hw; have kq := C1.out wq hw; clear hw; go_simp; try (with_reducible rfl))
    refine wpHeldIn_take (i := 1) (v := ?_) (plain_of (by kernel_rfl)) rfl (by kernel_rfl) (fun _ _ _ h => h) (yieldsSoIn_of (by kernel_rfl) ?_ (fun _ => rfl)) q0 ?_; rotate_left; focus (intro wq hw; have kq := C2.out wq hw; clear hw; go_simp; try (with_reducible rfl))
    refine wpHeldIn_take (i := 2) (v := ?_) (plain_of (by kernel_rfl)) rfl (by kernel_rfl) (fun _ _ _ h => h) (yieldsSoIn_of (by kernel_rfl) ?_ (fun _ => rfl)) q0 ?_; rotate_left; focus (intro wq hw; clear hw; go_simp; try (with_reducible rfl))
    refine wpHeldIn_take (i := 3) (v := ?_) (plain_of (by kernel_rfl)) rfl (by kernel_rfl) (fun _ _ _ h => h) (yieldsSoIn_of (by kernel_rfl) ?_ (fun _ => rfl)) q0 ?_; rotate_left; focus (intro wq hw; clear hw; go_simp; try (with_reducible rfl))
    refine wpHeldIn_one (i := 4) (by kernel_rfl) (by kernel_rfl) rfl (by rfl) (fun K' hK' => ?_)
    go_simp
    refine ⟨trivial, (CallsIn.inRound l (callsIn_wide.2 (HGX.out _))).mono ?_⟩
    rintro e w1 ⟨rfl, hb1⟩
    have q1 : Below W.heap.size W w1 := q0.trans hb1
    have bR2 := boxed_below bR1 q1
    have k1 := bR2.cell
    have k2 := bR2.frozen
    refine hK' _ _ q1 ?_
    refine wpHeldIn_take (i := 5) (v := ?_) (plain_of (by kernel_rfl)) rfl (by kernel_rfl) (fun _ _ _ h => h) (yieldsSoIn_of (by kernel_rfl) ?_ (fun _ => rfl)) q1 ?_; rotate_left; focus (intro wq hw; clear hw; go_simp; try (with_reducible rfl))
    refine wpHeldIn_last (by kernel_rfl) rfl (by rfl) (fun K2 hK2 => ?_)
    go_simp
    refine hK2 _ _ ?_
    refine wpHeldIn_done (by kernel_rfl) ?_ _
    gi_wp2
    have hwr : IntKind.i64.wrap (s0 + vx) = s0 + vx := IntWalk.i64_in _ (by omega)
    exact ⟨(keepsFrom_below _ q1).trans ((KeepsOthers.setCell _ _ _).from _), (KpS.of_below q1 hsW).trans (KpS.setCell _ (by omega) (by omega) _), ⟨by rw [hsn.out, hwr]; exact bR2.set _, (Below.heap_setCell _ _ _ w.heap.size (show w.heap.size ≠ w.heap.size + 1 by omega)).trans (bG1.below q1)⟩, (hB1.trans (q1.mono hsW)).setCell (p := ⟨w.heap.size + 1, 0, none⟩) (by simp) _⟩
  case done =>
    rintro D zs W hD rfl ⟨⟨bR1, bG1⟩, hB1⟩ hK
    have cR := bR1.cell
    have fR := bR1.frozen
    have cG := bG1.cell 0 rfl
    have lG := bG1.lt
    have hne : ¬ (ps.length : Int) = 0 := by omega
    have hne2 : ¬ ps.length = 0 := by omega
    have hne3 : ¬ ps = [] := by intro e; subst e; simp at hne2
    obtain ⟨S, hS⟩ : ∃ S, S = sumL val (legsTo es hes es.length) := ⟨_, rfl⟩
    have HLB2 := HLB.out
    rw [← hS] at cR HLB2
    have HS := Lib.hid hS
    have hwq : IntKind.i64.wrap (S.tdiv (ps.length : Int)) = S.tdiv (ps.length : Int) := IntWalk.i64_in _ (by
      have h1 := Int.natAbs_tdiv_le_natAbs S (ps.length : Int)
      omega)
    clear hS
    gi_wp2
    refine ⟨by simp, .inl ⟨_, _, rfl, run_takeDeferred hK, ?_⟩⟩
    exact ⟨_, results_tmp rfl _ _ _, by rw [HT.out, ← HS.out]; rfl, hB1.trans (belowK_b (w := w) (Nat.le_refl _) W D _ _ (by omega) hK rfl rfl)⟩
  case stop =>
    rintro D c pre W hD hpre h hK
    exact h.elim
theorem sumL_to (t : Wl.Trk) (es : List Int) (hes : ∀ e ∈ es, smI e) : ∀ k, k ≤ es.length → sumL (stL t) (legsTo es hes k) = Wl.stTo t es k
  | 0, _ => rfl
  | k + 1, h => by
    rw [legsTo_succ, sumL_snoc, sumL_to t es hes k (by omega)]
    show _ + Wl.stepV t _ _ = Wl.stTo t es k + Wl.stepV t (Wl.eAt es k) (Wl.eAt es (k + 1))
    unfold Wl.eAt
    rw [Nat.mod_eq_of_lt (show k < es.length by omega)]
    rfl
theorem trnV_eq (t : Wl.Trk) (es : List Int) (hes : ∀ e ∈ es, smI e) : trnV t es hes = Wl.turnsV t es := by
  unfold trnV Wl.turnsV
  rw [sumL_to t es hes _ (Nat.le_refl _)]
theorem turnsW_any (t : Wl.Trk) (A Aw Ae : Option Addr) (c m cw ce : Nat) (es : List Int) (hes : ∀ e ∈ es, smI e) (hlen : es.length ≤ 100) (hl : t.ps.length ≤ 1000000000) (hpos : 0 < t.ps.length) (w : World) (hE : Ints w w.heap.size (.slice Ae es.length ce) es) :
    Calls Try.prog 61 #[.agg (mcV t A c Aw m cw), .slice Ae es.length ce] w fun e w' => e = .returned (.int .i64 (Wl.turnsV t es)) ∧ Below w.heap.size w w' := by
  have := turnsW_in 9 (by omega) t A Aw Ae c m cw ce es hes hlen hl hpos w hE
  rw [trnV_eq] at this
  exact (callsIn_wide (n := 9)).1 this
end Go.Proofs.Ytmjcdggmofohcaa
