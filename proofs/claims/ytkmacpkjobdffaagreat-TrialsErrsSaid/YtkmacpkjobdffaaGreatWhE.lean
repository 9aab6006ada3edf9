/- Wh.Desks: the iterator over all truths: a loop over an iterator that calls its own loop's yield. -/
import Derived.Test.YtkmacpkjobdffaaGreatWhD
import Derived.Test.YtkmacpkjobdffaaGreatFarP
namespace Go.Proofs.YtkmacpkjobdffaaGreat
open Go.RowKit Go.Shelf
attribute [local go_sem] Oper.semAt_some
namespace Wh
/-- Factors are a truth. -/
def trB (s : Wh.Desk) (f : TrS) : Bool := decide ((wrongN s f.1 : Int) ≤ s.wr)
def truthsL (s : Wh.Desk) : List TrS := (casesL s).filter (trB s)
end Wh

set_option maxRecDepth 100000 in
set_option maxHeartbeats 8000000 in
theorem truths_far (s : Wh.Desk) (hs : Wh.Ok s) (hl : s.ws.length ≤ 1000) (hk : ∀ k, k < s.ws.length → Wh.ksm (Wh.wkAt s.ws k)) (A : Option Addr) (c : Nat) (n₀ : Nat) (w : World) (hn0 : n₀ ≤ w.heap.size) (hg : Wks w n₀ A s.ws) :
    SeqFar Tryz.prog 109 #[.agg (dkV s A c)] #[] encTr n₀ (fun ys => ys = Wh.truthsL s) (fun pre => pre <+: Wh.truthsL s) 500000 w := by
  intro l J Jx W hW hJ hJx hY h0
  have HSEQ : Hid (∀ w', SeqFar Tryz.prog 125 #[.agg (dkV s A c)] #[] encTr n₀ (fun ys => ys = Wh.casesL s) (fun pre => pre <+: Wh.casesL s) 500000 w') := fun w' => cases_far s hs A c n₀ w'
  have HWR : Hid (∀ (f : Wh.TrS) (V : World), Below n₀ w V → Calls Tryz.prog 126 #[.agg (dkV s A c), .agg #[.int .i64 f.1.1, .int .i64 f.1.2]] V fun e w' => e = .returned (.int .i64 (Wh.wrongN s f.1)) ∧ Below V.heap.size V w') := fun f V hV =>
    wrong_any s hs A c f.1 V hl f.2 hk ((hg.keep hV).wider (by have := hV.size; omega))
  have HTR : Hid (∀ (pre : List Wh.TrS) (x : Wh.TrS), (pre ++ [x]).filter (Wh.trB s) = pre.filter (Wh.trB s) ++ (if ((Wh.wrongN s x.1 : Nat) : Int) ≤ s.wr then [x] else [])) := fun pre x => by
    rw [List.filter_append]
    congr 1
    rw [List.filter_cons]
    unfold Wh.trB
    simp
  have HTL : Hid (Wh.truthsL s = (Wh.casesL s).filter (Wh.trB s)) := rfl
  have HPR : Hid (∀ pre : List Wh.TrS, pre <+: Wh.casesL s → pre.filter (Wh.trB s) <+: Wh.truthsL s) := fun pre h => h.filter _
  have hw8 := hs.w2
  have H0 : Hid (J [] W) := h0
  have hWn : Below n₀ w W := hW.mono hn0
  clear h0 hg hs hk hl
  obtain ⟨full, read, slip, skew, circ, glo, ghi, wrn, cs⟩ := s
  dsimp only at *
  generalize Wh.wrongN ⟨full, read, slip, skew, circ, glo, ghi, wrn, cs⟩ = WN at *
  generalize hfl : Wh.trB ⟨full, read, slip, skew, circ, glo, ghi, wrn, cs⟩ = tr at *
  generalize Wh.casesL ⟨full, read, slip, skew, circ, glo, ghi, wrn, cs⟩ = CL at *
  generalize Wh.truthsL ⟨full, read, slip, skew, circ, glo, ghi, wrn, cs⟩ = TL at *
  clear hfl
  unfold dkV at HSEQ HWR
  dsimp only at HSEQ HWR
  show Calls Tryz.prog _ #[.agg #[.int .i64 full, .int .i64 read, .int .i64 slip, .int .i64 skew, .int .i64 circ, .int .i64 glo, .int .i64 ghi, .int .i64 wrn, .slice A cs.length c], .func (.yield l) #[] #[]] W _
  refine (callsIn_wide (n := 8)).1 ?_
  refine callsIn_of_wp_marks Tryz.func109 rfl trivial ?_ rfl
  simp only [Tryz.ntmps109, List.size_toArray, List.length_cons, List.length_nil, Nat.reduceAdd, Nat.reduceSub, Array.replicate_succ, Array.replicate_zero, List.push_toArray, List.append_toArray, List.nil_append, List.cons_append]
  gi_wp2
  have bD0 := (BoxS.new W 115 #[.int .i64 full, .int .i64 read, .int .i64 slip, .int .i64 skew, .int .i64 circ, .int .i64 glo, .int .i64 ghi, .int .i64 wrn, .slice A cs.length c]).alloc (.cells #[.func (.yield l) #[] #[]] 170)
  have bY0 := Boxed.new (W.alloc (.cells #[.int .i64 full, .int .i64 read, .int .i64 slip, .int .i64 skew, .int .i64 circ, .int .i64 glo, .int .i64 ghi, .int .i64 wrn, .slice A cs.length c] 115)) 170 (.func (.yield l) #[] #[])
  rw [World.size_alloc] at bY0
  have J0 : J [] ((W.alloc (.cells #[.int .i64 full, .int .i64 read, .int .i64 slip, .int .i64 skew, .int .i64 circ, .int .i64 glo, .int .i64 ghi, .int .i64 wrn, .slice A cs.length c] 115)).alloc (.cells #[.func (.yield l) #[] #[]] 170)) := hJ.alloc _ (hJ.alloc _ H0.out)
  have z0 : ((W.alloc (.cells #[.int .i64 full, .int .i64 read, .int .i64 slip, .int .i64 skew, .int .i64 circ, .int .i64 glo, .int .i64 ghi, .int .i64 wrn, .slice A cs.length c] 115)).alloc (.cells #[.func (.yield l) #[] #[]] 170)).heap.size = W.heap.size + 2 := by simp
  have B0 : Below n₀ w ((W.alloc (.cells #[.int .i64 full, .int .i64 read, .int .i64 slip, .int .i64 skew, .int .i64 circ, .int .i64 glo, .int .i64 ghi, .int .i64 wrn, .slice A cs.length c] 115)).alloc (.cells #[.func (.yield l) #[] #[]] 170)) := (hWn.alloc (by have := hWn.size; omega) _).alloc (by have := hWn.size; simp; omega) _
  have hWs := hWn.size
  clear H0 hW hWn
  generalize World.alloc (World.alloc W _) _ = W0 at *
  refine wpIn_far (n₀ := n₀) (gf := 125) (pb := #[.agg #[.int .i64 full, .int .i64 read, .int .i64 slip, .int .i64 skew, .int .i64 circ, .int .i64 glo, .int .i64 ghi, .int .i64 wrn, .slice A cs.length c]]) (lb := #[]) rfl (enters_of Tryz.func125 (by kernel_rfl) rfl)
    (HSEQ.out W0) (Below.refl _ _) (by omega) (fun _ => rfl)
    (fun pre V => ((Hid (J (pre.filter tr) V) ∧ BoxS V W.heap.size 115 #[.int .i64 full, .int .i64 read, .int .i64 slip, .int .i64 skew, .int .i64 circ, .int .i64 glo, .int .i64 ghi, .int .i64 wrn, .slice A cs.length c]) ∧ Boxed V (W.heap.size + 1) 170 (.func (.yield l) #[] #[])) ∧ Below n₀ w V)
    (fun cc pre V => cc = .ret ∧ Hid (Jx (pre.filter tr) V))
    (OwnFrom.and (OwnFrom.and (OwnFrom.and (ownFrom_map (ownFrom_le hJ (by omega)) _) (Own.from (boxS_own _ _ (fun _ => _)) _)) (Own.from (boxed_own _ _ (fun _ => _)) _)) (ownFrom_below hn0 (by omega)))
    (fun cc => OwnFrom.and (ownFrom_pure _ _) (ownFrom_map (ownFrom_le hJx (by omega)) _))
    ⟨⟨⟨J0, bD0⟩, bY0⟩, B0⟩
    (fun x a' V => ∃ Bx, W.heap.size + 1 < Bx ∧ BoxS V Bx 121 #[.int .i64 x.1.1, .int .i64 x.1.2] ∧ a' = { tmps := #[.agg #[.int .i64 full, .int .i64 read, .int .i64 slip, .int .i64 skew, .int .i64 circ, .int .i64 glo, .int .i64 ghi, .int .i64 wrn, .slice A cs.length c], .func (.yield l) #[] #[], .pointer (some ⟨W.heap.size, 0, none⟩), .pointer (some ⟨W.heap.size + 1, 0, none⟩), .pointer (some ⟨Bx, 0, none⟩), .agg #[.int .i64 full, .int .i64 read, .int .i64 slip, .int .i64 skew, .int .i64 circ, .int .i64 glo, .int .i64 ghi, .int .i64 wrn, .slice A cs.length c], .func (.func 125) #[.agg #[.int .i64 full, .int .i64 read, .int .i64 slip, .int .i64 skew, .int .i64 circ, .int .i64 glo, .int .i64 ghi, .int .i64 wrn, .slice A cs.length c]] #[], .agg #[.int .i64 x.1.1, .int .i64 x.1.2], undef, undef, undef, undef, undef, undef, undef, undef, undef, undef, undef, undef, undef], defers := [] })
    (fun x a' _ X Y row hs hg hr => by obtain ⟨Bx, e1, e2, e3⟩ := hs; exact ⟨Bx, e1, boxS_own Bx 121 (fun (_ : Unit) => #[.int .i64 x.1.1, .int .i64 x.1.2]) () X Y row e2 hg (fun r e => (hr r e).2), e3⟩)
    ?assign ?body ?done ?stop
  case assign =>
    rintro l2 pre x V K ⟨⟨⟨hJ1, bD⟩, bY⟩, hB⟩ hK
    unfold encTr
    gi_wp2
    have hJ2 : J (pre.filter tr) (V.alloc (.cells #[.int .i64 x.1.1, .int .i64 x.1.2] 121)) := hJ.alloc _ hJ1.out
    exact hK _ _ (Apart.alloc _ _) ⟨⟨⟨hJ2, bD.alloc _⟩, bY.alloc _⟩, hB.alloc (by have := hB.size; omega) _⟩ ⟨V.heap.size, bY.lt, BoxS.new V _ _, rfl⟩
  case body =>
    rintro l2 pre x a' V ⟨⟨⟨hJ1, bD⟩, bY⟩, hB⟩ ⟨Bx, hBx, bX, rfl⟩ hlt
    have HT := HTR.out pre x
    have HW1 : Hid (∀ V', Below V.heap.size V V' → Calls Tryz.prog 126 #[.agg #[.int .i64 full, .int .i64 read, .int .i64 slip, .int .i64 skew, .int .i64 circ, .int .i64 glo, .int .i64 ghi, .int .i64 wrn, .slice A cs.length c], .agg #[.int .i64 x.1.1, .int .i64 x.1.2]] V' fun e w' => e = .returned (.int .i64 (WN x.1)) ∧ Below V'.heap.size V' w') := fun V' hV' => HWR.out x V' (hB.trans (hV'.mono (by have := hB.size; omega)))
    have q0 : Below V.heap.size V V.drew := (Below.refl _ _).drew
    have hmo : Tryz.prog.follows .mixedOrders = true := by kernel_rfl
    have KC : Hid (∀ V', Below V.heap.size V V' → (((V'.cell? ⟨W.heap.size, 0, none⟩ = some (.int .i64 full) ∧ V'.cell? ⟨W.heap.size, 1, none⟩ = some (.int .i64 read) ∧ V'.cell? ⟨W.heap.size, 2, none⟩ = some (.int .i64 slip)) ∧ V'.cell? ⟨W.heap.size, 3, none⟩ = some (.int .i64 skew) ∧ V'.cell? ⟨W.heap.size, 4, none⟩ = some (.int .i64 circ) ∧ V'.cell? ⟨W.heap.size, 5, none⟩ = some (.int .i64 glo)) ∧ V'.cell? ⟨W.heap.size, 6, none⟩ = some (.int .i64 ghi) ∧ V'.cell? ⟨W.heap.size, 7, none⟩ = some (.int .i64 wrn) ∧ V'.cell? ⟨W.heap.size, 8, none⟩ = some (.slice A cs.length c)) ∧ (V'.cell? ⟨Bx, 0, none⟩ = some (.int .i64 x.1.1) ∧ V'.cell? ⟨Bx, 1, none⟩ = some (.int .i64 x.1.2)) ∧ V'.cell? ⟨W.heap.size + 1, 0, none⟩ = some (.func (.yield l) #[] #[])) :=
      fun V' h => ⟨boxS9 (bD.below h), boxS2 (bX.below h), (boxed_below bY h).cell⟩
    generalize WN x.1 = m at *
    have hBs := hB.size
    by_cases htr : (m : Int) ≤ wrn
    · rw [if_pos htr] at HT
      have HT2 := Lib.hid HT
      clear HT
      gi_wp2
      refine wpIn_region_held (fun V' => Below V.heap.size V V') 10 hmo ?_
      refine wpHeldIn_take (i := 0) (v := ?_) (plain_of (by kernel_rfl)) rfl (by kernel_rfl) (fun _ _ _ h => h) (yieldsSoIn_of (by kernel_rfl) ?_ (fun _ => rfl)) q0 ?_; rotate_left; focus (intro wq hw; have kq := KC.out wq hw; clear hw; go_simp; try (with_reducible rfl))
      refine wpHeldIn_take (i := 1) (v := ?_) (plain_of (by kernel_rfl)) rfl (by kernel_rfl) (fun _ _ _ h => h) (yieldsSoIn_of (by kernel_rfl) ?_ (fun _ => rfl)) q0 ?_; rotate_left; focus (intro wq hw; have kq := KC.out wq hw; clear hw; go_simp; try (with_reducible rfl))
      refine wpHeldIn_take (i := 3) (v := ?_) (plain_of (by kernel_rfl)) rfl (by kernel_rfl) (fun _ _ _ h => h) (yieldsSoIn_of (by kernel_rfl) ?_ (fun _ => rfl)) q0 ?_; rotate_left; focus (intro wq hw; clear hw; go_simp; try (with_reducible rfl))
      refine wpHeldIn_take (i := 4) (v := ?_) (plain_of (by kernel_rfl)) rfl (by kernel_rfl) (fun _ _ _ h => h) (yieldsSoIn_of (by kernel_rfl) ?_ (fun _ => rfl)) q0 ?_; rotate_left; focus (intro wq hw; clear hw; go_simp; try (with_reducible rfl))
      refine wpHeldIn_take (i := 5) (v := ?_) (plain_of (by kernel_rfl)) rfl (by kernel_rfl) (fun _ _ _ h => h) (yieldsSoIn_of (by kernel_rfl) ?_ (fun _ => rfl)) q0 ?_; rotate_left; focus (intro wq hw; have kq := KC.out wq hw; clear hw; go_simp; try (with_reducible rfl))
      refine wpHeldIn_one (i := 2) (by kernel_rfl) (by kernel_rfl) rfl (by kernel_rfl) (fun K1 hK1 => ?_)
      go_simp
      refine ⟨trivial, (CallsIn.inRound l2 (callsIn_wide.2 (HW1.out _ q0))).mono ?_⟩
      rintro e V2 ⟨rfl, hb2⟩
      have q1 := q0.trans (hb2.mono q0.size)
      refine hK1 _ _ q1 ?_
      refine wpHeldIn_take (i := 6) (v := ?_) (plain_of (by kernel_rfl)) rfl (by kernel_rfl) (fun _ _ _ h => h) (yieldsSoIn_of (by kernel_rfl) ?_ (fun _ => rfl)) q1 ?_; rotate_left; focus (intro wq hw; clear hw; go_simp; try (with_reducible rfl))
      refine wpHeldIn_take (i := 7) (v := ?_) (plain_of (by kernel_rfl)) rfl (by kernel_rfl) (fun _ _ _ h => h) (yieldsSoIn_of (by kernel_rfl) ?_ (fun _ => rfl)) q1 ?_; rotate_left; focus (intro wq hw; clear hw; go_simp; try (with_reducible rfl))
      refine wpHeldIn_take (i := 8) (v := ?_) (plain_of (by kernel_rfl)) rfl (by kernel_rfl) (fun _ _ _ h => h) (yieldsSoIn_of (by kernel_rfl) ?_ (fun _ => rfl)) q1 ?_; rotate_left; focus (intro wq hw; have kq := KC.out wq hw; clear hw; go_simp; try (with_reducible rfl))
      refine wpHeldIn_take (i := 9) (v := ?_) (plain_of (by kernel_rfl)) rfl (by kernel_rfl) (fun _ _ _ h => h) (yieldsSoIn_of (by kernel_rfl) ?_ (fun _ => rfl)) q1 ?_; rotate_left; focus (intro wq hw; have kq := KC.out wq hw; clear hw; go_simp; try (with_reducible rfl))
      refine wpHeldIn_last (by kernel_rfl) rfl (by kernel_rfl) (fun K2 hK2 => ?_)
      have J2 : J (pre.filter tr) V2 := ownFrom_at hJ hJ1.out q1
      obtain ⟨fn, tmps, assign, body, hy, hR⟩ := hY 7 _ x V2 J2 (Nat.lt_of_le_of_lt (List.length_filter_le _ _) hlt)
      unfold encTr at hy
      have HR := Lib.hid hR
      clear hR
      go_simp
      refine RoundIn.mono (show RoundIn (Fence.wide.inRound l2) 7 _ l fn tmps assign body V2 _ from HR.out) ?_
      rintro e V3 (⟨rfl, hJ3, hk3⟩ | ⟨rfl, hJx3, hk3⟩)
      · refine hK2 _ _ ?_
        refine wpHeldIn_take (i := 11) (v := ?_) (plain_of (by kernel_rfl)) rfl (by kernel_rfl) (fun _ _ _ h => h) (yieldsSoIn_of (by kernel_rfl) ?_ (fun _ => rfl)) trivial ?_; rotate_left; focus (intro w _; go_simp; try (with_reducible rfl))
        refine wpHeldIn_take (i := 12) (v := ?_) (plain_of (by kernel_rfl)) rfl (by kernel_rfl) (fun _ _ _ h => h) (yieldsSoIn_of (by kernel_rfl) ?_ (fun _ => rfl)) trivial ?_; rotate_left; focus (intro w _; go_simp; try (with_reducible rfl))
        refine wpHeldIn_done (by kernel_rfl) ?_ _
        go_simp
        gi_wp2
        exact ⟨(Apart.of_below q1).trans (hk3.wider (Nat.le_refl _) (by omega)), ⟨⟨by unfold Hid; rw [HT2.out]; exact hJ3, hk3.boxS (bD.below q1) (.inr (Nat.le_refl _))⟩, hk3.boxed (boxed_below bY q1) (.inr (by omega))⟩, (hB.trans (q1.mono (by omega))).trans (hk3.below (by have := q1.size; omega))⟩
      · refine hK2 _ _ ?_
        refine wpHeldIn_take (i := 11) (v := ?_) (plain_of (by kernel_rfl)) rfl (by kernel_rfl) (fun _ _ _ h => h) (yieldsSoIn_of (by kernel_rfl) ?_ (fun _ => rfl)) trivial ?_; rotate_left; focus (intro w _; go_simp; try (with_reducible rfl))
        refine wpHeldIn_take (i := 12) (v := ?_) (plain_of (by kernel_rfl)) rfl (by kernel_rfl) (fun _ _ _ h => h) (yieldsSoIn_of (by kernel_rfl) ?_ (fun _ => rfl)) trivial ?_; rotate_left; focus (intro w _; go_simp; try (with_reducible rfl))
        refine wpHeldIn_done (by kernel_rfl) ?_ _
        go_simp
        gi_wp2
        exact ⟨(Apart.of_below q1).trans (hk3.wider (Nat.le_refl _) (by omega)), rfl, by unfold Hid; rw [HT2.out]; exact hJx3⟩
    · rw [if_neg htr, List.append_nil] at HT
      have HT2 := Lib.hid HT
      have htd : decide ((m : Int) ≤ wrn) = false := decide_eq_false htr
      clear HT htr
      gi_wp2
      refine wpIn_region_held (fun V' => Below V.heap.size V V') 30 hmo ?_
      refine wpHeldIn_take (i := 0) (v := ?_) (plain_of (by kernel_rfl)) rfl (by kernel_rfl) (fun _ _ _ h => h) (yieldsSoIn_of (by kernel_rfl) ?_ (fun _ => rfl)) q0 ?_; rotate_left; focus (intro wq hw; have kq := KC.out wq hw; clear hw; go_simp; try (with_reducible rfl))
      refine wpHeldIn_take (i := 1) (v := ?_) (plain_of (by kernel_rfl)) rfl (by kernel_rfl) (fun _ _ _ h => h) (yieldsSoIn_of (by kernel_rfl) ?_ (fun _ => rfl)) q0 ?_; rotate_left; focus (intro wq hw; have kq := KC.out wq hw; clear hw; go_simp; try (with_reducible rfl))
      refine wpHeldIn_take (i := 3) (v := ?_) (plain_of (by kernel_rfl)) rfl (by kernel_rfl) (fun _ _ _ h => h) (yieldsSoIn_of (by kernel_rfl) ?_ (fun _ => rfl)) q0 ?_; rotate_left; focus (intro wq hw; clear hw; go_simp; try (with_reducible rfl))
      refine wpHeldIn_take (i := 4) (v := ?_) (plain_of (by kernel_rfl)) rfl (by kernel_rfl) (fun _ _ _ h => h) (yieldsSoIn_of (by kernel_rfl) ?_ (fun _ => rfl)) q0 ?_; rotate_left; focus (intro wq hw; clear hw; go_simp; try (with_reducible rfl))
      refine wpHeldIn_take (i := 5) (v := ?_) (plain_of (by kernel_rfl)) rfl (by kernel_rfl) (fun _ _ _ h => h) (yieldsSoIn_of (by kernel_rfl) ?_ (fun _ => rfl)) q0 ?_; rotate_left; focus (intro wq hw; have kq := KC.out wq hw; clear hw; go_simp; try (with_reducible rfl))
      refine wpHeldIn_one (i := 2) (by kernel_rfl) (by kernel_rfl) rfl (by kernel_rfl) (fun K1 hK1 => ?_)
      go_simp
      refine ⟨trivial, (CallsIn.inRound l2 (callsIn_wide.2 (HW1.out _ q0))).mono ?_⟩
      rintro e V2 ⟨rfl, hb2⟩
      have q1 := q0.trans (hb2.mono q0.size)
      refine hK1 _ _ q1 ?_
      refine wpHeldIn_take (i := 6) (v := ?_) (plain_of (by kernel_rfl)) rfl (by kernel_rfl) (fun _ _ _ h => h) (yieldsSoIn_of (by kernel_rfl) ?_ (fun _ => rfl)) q1 ?_; rotate_left; focus (intro wq hw; clear hw; go_simp; try (with_reducible rfl))
      refine wpHeldIn_take (i := 7) (v := ?_) (plain_of (by kernel_rfl)) rfl (by kernel_rfl) (fun _ _ _ h => h) (yieldsSoIn_of (by kernel_rfl) ?_ (fun _ => rfl)) q1 ?_; rotate_left; focus (intro wq hw; clear hw; go_simp; try (with_reducible rfl))
      refine wpHeldIn_skip (i := 8) (plain_of (by kernel_rfl)) rfl (by kernel_rfl) (by kernel_rfl) (fun _ => trivial) (by kernel_rfl) (fun _ _ _ h => h) q1 ?_
      refine wpHeldIn_skip (i := 9) (plain_of (by kernel_rfl)) rfl (by kernel_rfl) (by kernel_rfl) (fun _ => trivial) (by kernel_rfl) (fun _ _ _ h => h) q1 ?_
      refine wpHeldIn_skip (i := 10) (plain_of (by kernel_rfl)) rfl (by kernel_rfl) (by kernel_rfl) (fun _ => trivial) (by kernel_rfl) (fun _ _ _ h => h) q1 ?_
      refine wpHeldIn_skip (i := 11) (plain_of (by kernel_rfl)) rfl (by kernel_rfl) (by kernel_rfl) (fun _ => trivial) (by kernel_rfl) (fun _ _ _ h => h) q1 ?_
      refine wpHeldIn_take (i := 12) (v := ?_) (plain_of (by kernel_rfl)) rfl (by kernel_rfl) (fun _ _ _ h => h) (yieldsSoIn_of (by kernel_rfl) ?_ (fun _ => rfl)) q1 ?_; rotate_left; focus (intro wq hw; clear hw; go_simp; try (with_reducible rfl))
      refine wpHeldIn_done (by kernel_rfl) ?_ _
      go_simp
      have J2 : J (pre.filter tr) V2 := ownFrom_at hJ hJ1.out q1
      gi_wp2
      exact ⟨Apart.of_below q1, ⟨⟨by unfold Hid; rw [HT2.out]; exact J2, bD.below q1⟩, boxed_below bY q1⟩, hB.trans (q1.mono (by omega))⟩
  case done =>
    rintro D zs V hD rfl ⟨⟨⟨hJ1, bD⟩, bY⟩, hB⟩ hK
    gi_wp2
    refine ⟨by simp, .inl ⟨_, _, rfl, run_takeDeferred hK, ?_⟩⟩
    exact ⟨_, results_none rfl _ _ _, ⟨_, rfl⟩, .inl ⟨_, rfl, hJ.putObj _ (by rw [HTL.out]; exact hJ1.out) (by omega) hK rfl⟩⟩
  case stop =>
    rintro D cc pre V hD hpre ⟨rfl, hx⟩ hK
    gi_wp2
    refine ⟨by simp, .inl ⟨_, _, rfl, run_takeDeferred hK, ?_⟩⟩
    exact ⟨_, results_none rfl _ _ _, ⟨_, rfl⟩, .inr ⟨_, HPR.out _ hpre, hJx.putObj _ hx.out (by omega) hK rfl⟩⟩
end Go.Proofs.YtkmacpkjobdffaaGreat
