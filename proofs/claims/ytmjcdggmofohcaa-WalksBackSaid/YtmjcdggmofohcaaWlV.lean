/- Walks: how often the place changes, by the program. -/
import Derived.Test.YtmjcdggmofohcaaWlM
namespace Go.Proofs.Ytmjcdggmofohcaa
open Go.RowKit Go.Shelf
attribute [local go_sem] Oper.semAt_some
def mvL (x : Leg) : Int := if x.1.1 = x.1.2 then 0 else 1
theorem mvL_bd (x : Leg) : -1 ≤ mvL x ∧ mvL x ≤ 1 := by unfold mvL; split <;> omega
theorem mvL_to (es : List Int) (hes : ∀ e ∈ es, smI e) : ∀ k, k ≤ es.length → sumL mvL (legsTo es hes k) = Wl.mvTo es k
  | 0, _ => rfl
  | k + 1, h => by
    rw [legsTo_succ, sumL_snoc, mvL_to es hes k (by omega)]
    rfl
set_option maxRecDepth 100000 in
set_option maxHeartbeats 4000000 in
theorem movesW_in (n : Nat) (hn : 6 ≤ n) (t : Wl.Trk) (A Aw Ae : Option Addr) (c m cw ce : Nat) (es : List Int) (hes : ∀ e ∈ es, smI e) (hlen : es.length ≤ 100) (w : World) (hE : Ints w w.heap.size (.slice Ae es.length ce) es) :
    CallsIn Fence.wide n Try.prog 68 #[.agg (mcV t A c Aw m cw), .slice Ae es.length ce] w fun e w' => e = .returned (.int .i64 (Wl.movesV es)) ∧ Below w.heap.size w w' := by
  have h1 : 1 ≤ n := by omega
  have HT : Hid (Wl.movesV es = sumL mvL (legsTo es hes es.length)) := (mvL_to es hes _ (Nat.le_refl _)).symm
  have HE := Lib.hid hE
  have HVB : Hid (∀ pre : List Leg, -(1 * (pre.length : Int)) ≤ sumL mvL pre ∧ sumL mvL pre ≤ 1 * (pre.length : Int)) := fun pre => sumL_bd mvL_bd pre
  have HSN : Hid (∀ (pre : List Leg) (x : Leg), sumL mvL (pre ++ [x]) = sumL mvL pre + (if x.1.1 = x.1.2 then 0 else 1)) := fun pre x => sumL_snoc mvL pre x
  generalize Wl.movesV es = R at *
  generalize mvL = val at *
  obtain ⟨ps, cl, lo, hi⟩ := t
  unfold mcV at *
  dsimp only at *
  clear hE
  refine callsIn_of_wp_marks Try.func68 rfl trivial ?_ rfl
  simp only [Try.ntmps68, List.size_toArray, List.length_cons, List.length_nil, Nat.reduceAdd, Nat.reduceSub, Array.replicate_succ, Array.replicate_zero, List.push_toArray, List.append_toArray, List.nil_append, List.cons_append]
  gi_wp2_with (refine ⟨trivial, ?_⟩; gi_at_call 85; refine (aroundI0_in Fence.wide (n - 1) trivial rfl _ _ _ _).mono ?_; rintro e w' ⟨rfl, rfl⟩)
  have bR := (Boxed.new (w.alloc (.cells #[.slice A ps.length c, .int .i64 cl, .int .i64 lo, .int .i64 hi, .slice Aw m cw] 70)) 3 (.int .i64 0)).alloc (.cells #[.slice Ae es.length ce] 35)
  have bA := Boxed.new ((w.alloc (.cells #[.slice A ps.length c, .int .i64 cl, .int .i64 lo, .int .i64 hi, .slice Aw m cw] 70)).alloc (.cells #[.int .i64 0] 3)) 35 (.slice Ae es.length ce)
  simp only [World.size_alloc] at bR bA
  have hB0 : Below w.heap.size w (((w.alloc (.cells #[.slice A ps.length c, .int .i64 cl, .int .i64 lo, .int .i64 hi, .slice Aw m cw] 70)).alloc (.cells #[.int .i64 0] 3)).alloc (.cells #[.slice Ae es.length ce] 35)) := (((Below.refl _ w).alloc (Nat.le_refl _) _).alloc (by simp) _).alloc (by simp; omega) _
  have hsz : (((w.alloc (.cells #[.slice A ps.length c, .int .i64 cl, .int .i64 lo, .int .i64 hi, .slice Aw m cw] 70)).alloc (.cells #[.int .i64 0] 3)).alloc (.cells #[.slice Ae es.length ce] 35)).heap.size = w.heap.size + 3 := by simp
  obtain ⟨W0, hW0⟩ : ∃ W0, (((w.alloc (.cells #[.slice A ps.length c, .int .i64 cl, .int .i64 lo, .int .i64 hi, .slice Aw m cw] 70)).alloc (.cells #[.int .i64 0] 3)).alloc (.cells #[.slice Ae es.length ce] 35)) = W0 := ⟨_, rfl⟩
  rw [hW0] at bR bA hB0 hsz ⊢
  clear hW0
  have hE1 : Ints W0 w.heap.size (.slice Ae es.length ce) es := HE.out.keep hB0
  refine wpIn_rangeFunc_ownH rfl h1 (gf := 101) (lb := #[.pointer (some ⟨w.heap.size + 1 + 1, 0, none⟩)]) rfl trivial (enters_of Try.func101 (by kernel_rfl) rfl)
    (aroundI_stops Fence.wide (n - 1) trivial rfl (by omega) (w.heap.size + 1 + 1) w.heap.size Ae ce es hes hlen W0 bA (by omega) hE1) KpS.trans (fun W l o o' hl _ _ _ => KpS.putObj W (by omega) (by omega) o') (Below.refl _ _) (fun _ => rfl)
    (fun pre W => Boxed W (w.heap.size + 1) 3 (.int .i64 (sumL val pre)) ∧ Below w.heap.size w W)
    (fun _ _ _ => False)
    (OwnFrom.and (Own.from (boxed_own _ _ _) _) (ownFrom_below (Nat.le_refl _) (by omega)))
    (fun _ _ _ _ _ hs _ _ => hs)
    ⟨bR, hB0⟩
    (fun x a' _ => a' = { tmps := #[.agg #[.slice A ps.length c, .int .i64 cl, .int .i64 lo, .int .i64 hi, .slice Aw m cw], .slice Ae es.length ce, .pointer (some ⟨w.heap.size, 0, none⟩), undef, .int .i64 0, .pointer (some ⟨w.heap.size + 1, 0, none⟩), .int .i64 x.1.1, .int .i64 x.1.2, .slice Ae es.length ce, .func (.func 101) #[] #[.pointer (some ⟨w.heap.size + 1 + 1, 0, none⟩)], .int .i64 x.1.1, .int .i64 x.1.2, undef, undef, undef, undef, undef, undef], defers := [] })
    (fun x a' _ X Y row hs hg hr => hs)
    ?assign ?body ?done ?stop
  case assign =>
    rintro l pre x W K ⟨bR1, hB1⟩ hK
    gi_wp2
    exact hK _ _ ((KeepsOthers.refl _).from _) (KpS.refl _ _ _) ⟨bR1, hB1⟩ rfl
  case body =>
    rintro l pre x a' W hl ⟨r, hr⟩ ⟨bR1, hB1⟩ rfl hlt
    obtain ⟨v1, v2⟩ := HVB.out pre
    have hsn := Lib.hid (HSN.out pre x)
    generalize sumL val pre = s0 at *
    have hsW := hB1.size
    have k1 := bR1.cell
    have k2 := bR1.frozen
    have hwr : IntKind.i64.wrap (s0 + 1) = s0 + 1 := IntWalk.i64_in _ (by omega)
    obtain ⟨⟨x1, x2⟩, hx1, hx2⟩ := x
    dsimp only at *
    by_cases he : x1 = x2
    · have hb : (x1 != x2) = false := by simpa using he
      rw [if_pos he, Int.add_zero] at hsn
      have hsn := Lib.hid hsn
      clear he
      gi_wp2
      exact ⟨(KeepsOthers.refl _).from _, KpS.refl _ _ _, by rw [hsn.out]; exact bR1, hB1⟩
    · have hb : (x1 != x2) = true := by simpa using he
      rw [if_neg he] at hsn
      have hsn := Lib.hid hsn
      clear he
      gi_wp2
      exact ⟨(KeepsOthers.setCell _ _ _).from _, KpS.setCell _ (by omega) (by omega) _, by rw [hsn.out]; exact bR1.set _, hB1.setCell (p := ⟨w.heap.size + 1, 0, none⟩) (by simp) _⟩
  case done =>
    rintro D zs W hD rfl ⟨bR1, hB1⟩ hK
    have cR := bR1.cell
    gi_wp2
    refine ⟨by simp, .inl ⟨_, _, rfl, run_takeDeferred hK, ?_⟩⟩
    exact ⟨_, results_tmp rfl _ _ _, by rw [HT.out]; rfl, hB1.trans (belowK_b (w := w) (Nat.le_refl _) W D _ _ (by omega) hK rfl rfl)⟩
  case stop =>
    rintro D c pre W hD hpre h hK
    exact h.elim
theorem movesW_any (t : Wl.Trk) (A Aw Ae : Option Addr) (c m cw ce : Nat) (es : List Int) (hes : ∀ e ∈ es, smI e) (hlen : es.length ≤ 100) (w : World) (hE : Ints w w.heap.size (.slice Ae es.length ce) es) :
    Calls Try.prog 68 #[.agg (mcV t A c Aw m cw), .slice Ae es.length ce] w fun e w' => e = .returned (.int .i64 (Wl.movesV es)) ∧ Below w.heap.size w w' :=
  (callsIn_wide (n := 9)).1 (movesW_in 9 (by omega) t A Aw Ae c m cw ce es hes hlen w hE)
end Go.Proofs.Ytmjcdggmofohcaa
