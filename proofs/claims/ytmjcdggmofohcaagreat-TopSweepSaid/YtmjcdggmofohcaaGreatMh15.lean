/- Texts of this proof, one behind the other: WhE, WhF, WhG, WhH, Shelf. Each says its own conditions. -/
import Derived.Test.YtmjcdggmofohcaaGreatMh14
import Derived.Shelf.SlIterI.Nil
import Derived.Shelf.SortM.Plain
import Derived.Shelf.SortM.SortNone
import Derived.Ground.GgzProg
import Derived.Ground.SlgmProg
import Derived.Test.YtmjcdggmofohcaaGreatChecked
namespace Go.Proofs.YtmjcdggmofohcaaGreat
open Go.RowKit Go.Shelf
attribute [local go_sem] Oper.semAt_some
namespace Wh
/-- Factors are a truth. -/
def trB (s : Wh.Desk) (f : TrS) : Bool := decide ((wrongN s f.1 : Int) ≤ s.wr)
def truthsL (s : Wh.Desk) : List TrS := (casesL s).filter (trB s)
end Wh

set_option maxRecDepth 100000 in
set_option maxHeartbeats 8000000 in
theorem truths_far (s : Wh.Desk) (hs : Wh.Ok s) (hl : s.ws.length ≤ 1000) (hk : ∀ k, k < s.ws.length → Wh.ksm (Wh.wkAt s.ws k)) (A : Option Addr) (c : Nat) (n₀ : Nat) (w : World) (hn0 : n₀ ≤ w.heap.size) (hg : Wks w n₀ A s.ws) :
    SeqFar Tryz.prog 68 #[.agg (dkV s A c)] #[] encTr n₀ (fun ys => ys = Wh.truthsL s) (fun pre => pre <+: Wh.truthsL s) 500000 w := by
  intro l J Jx W hW hJ hJx hY h0
  have HSEQ : Hid (∀ w', SeqFar Tryz.prog 90 #[.agg (dkV s A c)] #[] encTr n₀ (fun ys => ys = Wh.casesL s) (fun pre => pre <+: Wh.casesL s) 500000 w') := fun w' => cases_far s hs A c n₀ w'
  have HWR : Hid (∀ (f : Wh.TrS) (V : World), Below n₀ w V → Calls Tryz.prog 91 #[.agg (dkV s A c), .agg #[.int .i64 f.1.1, .int .i64 f.1.2]] V fun e w' => e = .returned (.int .i64 (Wh.wrongN s f.1)) ∧ Below V.heap.size V w') := fun f V hV =>
    wrong_any s hs A c f.1 V hl f.2 hk ((hg.keep hV).wider (by have := hV.size; omega))
  have HTR : Hid (∀ (pre : List Wh.TrS) (x : Wh.TrS), (pre ++ [x]).filter (Wh.trB s) = pre.filter (Wh.trB s) ++ (if ((Wh.wrongN s x.1 : Nat) : Int) ≤ s.wr then [x] else [])) := fun pre x => by
    rw [List.filter_append]
    congr 1
    rw [List.filter_cons]
    unfold Wh.trB
    simp
  have HTL : Hid (Wh.truthsL s = (Wh.casesL s).filter (Wh.trB s)) := rfl
  have HPR : Hid (∀ pre : List Wh.TrS, pre <+: Wh.casesL s → pre.filter (Wh.trB s) <+: Wh.truthsL s) := fun pre h => h.filter _
  have hw8 := hs.w2
  have H0 : Hid (J [] W) := h0
  have hWn : Below n₀ w W := hW.mono hn0
  clear h0 hg hs hk hl
  obtain ⟨full, read, slip, skew, circ, glo, ghi, wrn, cs⟩ := s
  dsimp only at *
  generalize Wh.wrongN ⟨full, read, slip, skew, circ, glo, ghi, wrn, cs⟩ = WN at *
  generalize hfl : Wh.trB ⟨full, read, slip, skew, circ, glo, ghi, wrn, cs⟩ = tr at *
  generalize Wh.casesL ⟨full, read, slip, skew, circ, glo, ghi, wrn, cs⟩ = CL at *
  generalize Wh.truthsL ⟨full, read, slip, skew, circ, glo, ghi, wrn, cs⟩ = TL at *
  clear hfl
  unfold dkV at HSEQ HWR
  dsimp only at HSEQ HWR
  show Calls Tryz.prog _ #[.agg #[.int .i64 full, .int .i64 read, .int .i64 slip, .int .i64 skew, .int .i64 circ, .int .i64 glo, .int .i64 ghi, .int .i64 wrn, .slice A cs.length c], .func (.yield l) #[] #[]] W _
  refine (callsIn_wide (n := 8)).1 ?_
  refine callsIn_of_wp_marks Tryz.func68 rfl trivial ?_ rfl
  simp only [Tryz.ntmps68, List.size_toArray, List.length_cons, List.length_nil, Nat.reduceAdd, Nat.reduceSub, Array.replicate_succ, Array.replicate_zero, List.push_toArray, List.append_toArray, List.nil_append, List.cons_append]
  gi_wp2
  have bD0 := (BoxS.new W 77 #[.int .i64 full, .int .i64 read, .int .i64 slip, .int .i64 skew, .int .i64 circ, .int .i64 glo, .int .i64 ghi, .int .i64 wrn, .slice A cs.length c]).alloc (.cells #[.func (.yield l) #[] #[]] 139)
  have bY0 := Boxed.new (W.alloc (.cells #[.int .i64 full, .int .i64 read, .int .i64 slip, .int .i64 skew, .int .i64 circ, .int .i64 glo, .int .i64 ghi, .int .i64 wrn, .slice A cs.length c] 77)) 139 (.func (.yield l) #[] #[])
  rw [World.size_alloc] at bY0
  have J0 : J [] ((W.alloc (.cells #[.int .i64 full, .int .i64 read, .int .i64 slip, .int .i64 skew, .int .i64 circ, .int .i64 glo, .int .i64 ghi, .int .i64 wrn, .slice A cs.length c] 77)).alloc (.cells #[.func (.yield l) #[] #[]] 139)) := hJ.alloc _ (hJ.alloc _ H0.out)
  have z0 : ((W.alloc (.cells #[.int .i64 full, .int .i64 read, .int .i64 slip, .int .i64 skew, .int .i64 circ, .int .i64 glo, .int .i64 ghi, .int .i64 wrn, .slice A cs.length c] 77)).alloc (.cells #[.func (.yield l) #[] #[]] 139)).heap.size = W.heap.size + 2 := by simp
  have B0 : Below n₀ w ((W.alloc (.cells #[.int .i64 full, .int .i64 read, .int .i64 slip, .int .i64 skew, .int .i64 circ, .int .i64 glo, .int .i64 ghi, .int .i64 wrn, .slice A cs.length c] 77)).alloc (.cells #[.func (.yield l) #[] #[]] 139)) := (hWn.alloc (by have := hWn.size; omega) _).alloc (by have := hWn.size; simp; omega) _
  have hWs := hWn.size
  clear H0 hW hWn
  generalize World.alloc (World.alloc W _) _ = W0 at *
  refine wpIn_far (n₀ := n₀) (gf := 90) (pb := #[.agg #[.int .i64 full, .int .i64 read, .int .i64 slip, .int .i64 skew, .int .i64 circ, .int .i64 glo, .int .i64 ghi, .int .i64 wrn, .slice A cs.length c]]) (lb := #[]) rfl (enters_of Tryz.func90 (by kernel_rfl) rfl)
    (HSEQ.out W0) (Below.refl _ _) (by omega) (fun _ => rfl)
    (fun pre V => ((Hid (J (pre.filter tr) V) ∧ BoxS V W.heap.size 77 #[.int .i64 full, .int .i64 read, .int .i64 slip, .int .i64 skew, .int .i64 circ, .int .i64 glo, .int .i64 ghi, .int .i64 wrn, .slice A cs.length c]) ∧ Boxed V (W.heap.size + 1) 139 (.func (.yield l) #[] #[])) ∧ Below n₀ w V)
    (fun cc pre V => cc = .ret ∧ Hid (Jx (pre.filter tr) V))
    (OwnFrom.and (OwnFrom.and (OwnFrom.and (ownFrom_map (ownFrom_le hJ (by omega)) _) (Own.from (boxS_own _ _ (fun _ => _)) _)) (Own.from (boxed_own _ _ (fun _ => _)) _)) (ownFrom_below hn0 (by omega)))
    (fun cc => OwnFrom.and (ownFrom_pure _ _) (ownFrom_map (ownFrom_le hJx (by omega)) _))
    ⟨⟨⟨J0, bD0⟩, bY0⟩, B0⟩
    (fun x a' V => ∃ Bx, W.heap.size + 1 < Bx ∧ BoxS V Bx 84 #[.int .i64 x.1.1, .int .i64 x.1.2] ∧ a' = { tmps := #[.agg #[.int .i64 full, .int .i64 read, .int .i64 slip, .int .i64 skew, .int .i64 circ, .int .i64 glo, .int .i64 ghi, .int .i64 wrn, .slice A cs.length c], .func (.yield l) #[] #[], .pointer (some ⟨W.heap.size, 0, none⟩), .pointer (some ⟨W.heap.size + 1, 0, none⟩), .pointer (some ⟨Bx, 0, none⟩), .agg #[.int .i64 full, .int .i64 read, .int .i64 slip, .int .i64 skew, .int .i64 circ, .int .i64 glo, .int .i64 ghi, .int .i64 wrn, .slice A cs.length c], .func (.func 90) #[.agg #[.int .i64 full, .int .i64 read, .int .i64 slip, .int .i64 skew, .int .i64 circ, .int .i64 glo, .int .i64 ghi, .int .i64 wrn, .slice A cs.length c]] #[], .agg #[.int .i64 x.1.1, .int .i64 x.1.2], undef, undef, undef, undef, undef, undef, undef, undef, undef, undef, undef, undef, undef], defers := [] })
    (fun x a' _ X Y row hs hg hr => by obtain ⟨Bx, e1, e2, e3⟩ := hs; exact ⟨Bx, e1, boxS_own Bx 84 (fun (_ : Unit) => #[.int .i64 x.1.1, .int .i64 x.1.2]) () X Y row e2 hg (fun r e => (hr r e).2), e3⟩)
    ?assign ?body ?done ?stop
  case assign =>
    rintro l2 pre x V K ⟨⟨⟨hJ1, bD⟩, bY⟩, hB⟩ hK
    unfold encTr
    gi_wp2
    have hJ2 : J (pre.filter tr) (V.alloc (.cells #[.int .i64 x.1.1, .int .i64 x.1.2] 84)) := hJ.alloc _ hJ1.out
    exact hK _ _ (Apart.alloc _ _) ⟨⟨⟨hJ2, bD.alloc _⟩, bY.alloc _⟩, hB.alloc (by have := hB.size; omega) _⟩ ⟨V.heap.size, bY.lt, BoxS.new V _ _, rfl⟩
  case body =>
    rintro l2 pre x a' V ⟨⟨⟨hJ1, bD⟩, bY⟩, hB⟩ ⟨Bx, hBx, bX, rfl⟩ hlt
    have HT := HTR.out pre x
    have HW1 : Hid (∀ V', Below V.heap.size V V' → Calls Tryz.prog 91 #[.agg #[.int .i64 full, .int .i64 read, .int .i64 slip, .int .i64 skew, .int .i64 circ, .int .i64 glo, .int .i64 ghi, .int .i64 wrn, .slice A cs.length c], .agg #[.int .i64 x.1.1, .int .i64 x.1.2]] V' fun e w' => e = .returned (.int .i64 (WN x.1)) ∧ Below V'.heap.size V' w') := fun V' hV' => HWR.out x V' (hB.trans (hV'.mono (by have := hB.size; omega)))
    have q0 : Below V.heap.size V V.drew := (Below.refl _ _).drew
    have hmo : Tryz.prog.follows .mixedOrders = true := by kernel_rfl
    have KC : Hid (∀ V', Below V.heap.size V V' → (((V'.cell? ⟨W.heap.size, 0, none⟩ = some (.int .i64 full) ∧ V'.cell? ⟨W.heap.size, 1, none⟩ = some (.int .i64 read) ∧ V'.cell? ⟨W.heap.size, 2, none⟩ = some (.int .i64 slip)) ∧ V'.cell? ⟨W.heap.size, 3, none⟩ = some (.int .i64 skew) ∧ V'.cell? ⟨W.heap.size, 4, none⟩ = some (.int .i64 circ) ∧ V'.cell? ⟨W.heap.size, 5, none⟩ = some (.int .i64 glo)) ∧ V'.cell? ⟨W.heap.size, 6, none⟩ = some (.int .i64 ghi) ∧ V'.cell? ⟨W.heap.size, 7, none⟩ = some (.int .i64 wrn) ∧ V'.cell? ⟨W.heap.size, 8, none⟩ = some (.slice A cs.length c)) ∧ (V'.cell? ⟨Bx, 0, none⟩ = some (.int .i64 x.1.1) ∧ V'.cell? ⟨Bx, 1, none⟩ = some (.int .i64 x.1.2)) ∧ V'.cell? ⟨W.heap.size + 1, 0, none⟩ = some (.func (.yield l) #[] #[])) :=
      fun V' h => ⟨boxS9 (bD.below h), boxS2 (bX.below h), (boxed_below bY h).cell⟩
    generalize WN x.1 = m at *
    have hBs := hB.size
    by_cases htr : (m : Int) ≤ wrn
    · rw [if_pos htr] at HT
      have HT2 := Lib.hid HT
      clear HT
      gi_wp2
      refine wpIn_region_held (fun V' => Below V.heap.size V V') 10 hmo ?_
      refine wpHeldIn_take (i := 0) (v := ?_) (plain_of (by kernel_rfl)) rfl (by kernel_rfl) (fun _ _ _ h => h) (yieldsSoIn_of (by kernel_rfl) ?_ (fun _ => rfl)) q0 ?_; rotate_left; focus (intro wq hw; have kq := KC.out wq hw; clear hw; go_simp; try (with_reducible rfl))
      refine wpHeldIn_take (i := 1) (v := ?_) (plain_of (by kernel_rfl)) rfl (by kernel_rfl) (fun _ _ _ h => h) (yieldsSoIn_of (by kernel_rfl) ?_ (fun _ => rfl)) q0 ?_; rotate_left; focus (intro wq hw; have kq := KC.out wq hw; clear hw; go_simp; try (with_reducible rfl))
      refine wpHeldIn_take (i := 3) (v := ?_) (plain_of (by kernel_rfl)) rfl (by kernel_rfl) (fun _ _ _ h => h) (yieldsSoIn_of (by kernel_rfl) ?_ (fun _ => rfl)) q0 ?_; rotate_left; focus (intro wq hw; clear hw; go_simp; try (with_reducible rfl))
      refine wpHeldIn_take (i := 4) (v := ?_) (plain_of (by kernel_rfl)) rfl (by kernel_rfl) (fun _ _ _ h => h) (yieldsSoIn_of (by kernel_rfl) ?_ (fun _ => rfl)) q0 ?_; rotate_left; focus (intro wq hw; clear hw; go_simp; try (with_reducible rfl))
      refine wpHeldIn_take (i := 5) (v := ?_) (plain_of (by kernel_rfl)) rfl (by kernel_rfl) (fun _ _ _ h => h) (yieldsSoIn_of (by kernel_rfl) ?_ (fun _ => rfl)) q0 ?_; rotate_left; focus (intro wq hw; have kq := KC.out wq hw; clear hw; go_simp; try (with_reducible rfl))
      refine wpHeldIn_one (i := 2) (by kernel_rfl) (by kernel_rfl) rfl (by kernel_rfl) (fun K1 hK1 => ?_)
      go_simp
      refine ⟨trivial, (CallsIn.inRound l2 (callsIn_wide.2 (HW1.out _ q0))).mono ?_⟩
      rintro e V2 ⟨rfl, hb2⟩
      have q1 := q0.trans (hb2.mono q0.size)
      refine hK1 _ _ q1 ?_
      refine wpHeldIn_take (i := 6) (v := ?_) (plain_of (by kernel_rfl)) rfl (by kernel_rfl) (fun _ _ _ h => h) (yieldsSoIn_of (by kernel_rfl) ?_ (fun _ => rfl)) q1 ?_; rotate_left; focus (intro wq hw; clear hw; go_simp; try (with_reducible rfl))
      refine wpHeldIn_take (i := 7) (v := ?_) (plain_of (by kernel_rfl)) rfl (by kernel_rfl) (fun _ _ _ h => h) (yieldsSoIn_of (by kernel_rfl) ?_ (fun _ => rfl)) q1 ?_; rotate_left; focus (intro wq hw; clear hw; go_simp; try (with_reducible rfl))
      refine wpHeldIn_take (i := 8) (v := ?_) (plain_of (by kernel_rfl)) rfl (by kernel_rfl) (fun _ _ _ h => h) (yieldsSoIn_of (by kernel_rfl) ?_ (fun _ => rfl)) q1 ?_; rotate_left; focus (intro wq hw; have kq := KC.out wq hw; clear hw; go_simp; try (with_reducible rfl))
      refine wpHeldIn_take (i := 9) (v := ?_) (plain_of (by kernel_rfl)) rfl (by kernel_rfl) (fun _ _ _ h => h) (yieldsSoIn_of (by kernel_rfl) ?_ (fun _ => rfl)) q1 ?_; rotate_left; focus (intro wq hw; have kq := KC.out wq hw; clear hw; go_simp; try (with_reducible rfl))
      refine wpHeldIn_last (by kernel_rfl) rfl (by kernel_rfl) (fun K2 hK2 => ?_)
      have J2 : J (pre.filter tr) V2 := ownFrom_at hJ hJ1.out q1
      obtain ⟨fn, tmps, assign, body, hy, hR⟩ := hY 7 _ x V2 J2 (Nat.lt_of_le_of_lt (List.length_filter_le _ _) hlt)
      unfold encTr at hy
      have HR := Lib.hid hR
      clear hR
      go_simp
      refine RoundIn.mono (show RoundIn (Fence.wide.inRound l2) 7 _ l fn tmps assign body V2 _ from HR.out) ?_
      rintro e V3 (⟨rfl, hJ3, hk3⟩ | ⟨rfl, hJx3, hk3⟩)
      · refine hK2 _ _ ?_
        refine wpHeldIn_take (i := 11) (v := ?_) (plain_of (by kernel_rfl)) rfl (by kernel_rfl) (fun _ _ _ h => h) (yieldsSoIn_of (by kernel_rfl) ?_ (fun _ => rfl)) trivial ?_; rotate_left; focus (intro w _; go_simp; try (with_reducible rfl))
        refine wpHeldIn_take (i := 12) (v := ?_) (plain_of (by kernel_rfl)) rfl (by kernel_rfl) (fun _ _ _ h => h) (yieldsSoIn_of (by kernel_rfl) ?_ (fun _ => rfl)) trivial ?_; rotate_left; focus (intro w _; go_simp; try (with_reducible rfl))
        refine wpHeldIn_done (by kernel_rfl) ?_ _
        go_simp
        gi_wp2
        exact ⟨(Apart.of_below q1).trans (hk3.wider (Nat.le_refl _) (by omega)), ⟨⟨by unfold Hid; rw [HT2.out]; exact hJ3, hk3.boxS (bD.below q1) (.inr (Nat.le_refl _))⟩, hk3.boxed (boxed_below bY q1) (.inr (by omega))⟩, (hB.trans (q1.mono (by omega))).trans (hk3.below (by have := q1.size; omega))⟩
      · refine hK2 _ _ ?_
        refine wpHeldIn_take (i := 11) (v := ?_) (plain_of (by kernel_rfl)) rfl (by kernel_rfl) (fun _ _ _ h => h) (yieldsSoIn_of (by kernel_rfl) ?_ (fun _ => rfl)) trivial ?_; rotate_left; focus (intro w _; go_simp; try (with_reducible rfl))
        refine wpHeldIn_take (i := 12) (v := ?_) (plain_of (by kernel_rfl)) rfl (by kernel_rfl) (fun _ _ _ h => h) (yieldsSoIn_of (by kernel_rfl) ?_ (fun _ => rfl)) trivial ?_; rotate_left; focus (intro w _; go_simp; try (with_reducible rfl))
        refine wpHeldIn_done (by kernel_rfl) ?_ _
        go_simp
        gi_wp2
        exact ⟨(Apart.of_below q1).trans (hk3.wider (Nat.le_refl _) (by omega)), rfl, by unfold Hid; rw [HT2.out]; exact hJx3⟩
    · rw [if_neg htr, List.append_nil] at HT
      have HT2 := Lib.hid HT
      have htd : decide ((m : Int) ≤ wrn) = false := decide_eq_false htr
      clear HT htr
      gi_wp2
      refine wpIn_region_held (fun V' => Below V.heap.size V V') 30 hmo ?_
      refine wpHeldIn_take (i := 0) (v := ?_) (plain_of (by kernel_rfl)) rfl (by kernel_rfl) (fun _ _ _ h => h) (yieldsSoIn_of (by kernel_rfl) ?_ (fun _ => rfl)) q0 ?_; rotate_left; focus (intro wq hw; have kq := KC.out wq hw; clear hw; go_simp; try (with_reducible rfl))
      refine wpHeldIn_take (i := 1) (v := ?_) (plain_of (by kernel_rfl)) rfl (by kernel_rfl) (fun _ _ _ h => h) (yieldsSoIn_of (by kernel_rfl) ?_ (fun _ => rfl)) q0 ?_; rotate_left; focus (intro wq hw; have kq := KC.out wq hw; clear hw; go_simp; try (with_reducible rfl))
      refine wpHeldIn_take (i := 3) (v := ?_) (plain_of (by kernel_rfl)) rfl (by kernel_rfl) (fun _ _ _ h => h) (yieldsSoIn_of (by kernel_rfl) ?_ (fun _ => rfl)) q0 ?_; rotate_left; focus (intro wq hw; clear hw; go_simp; try (with_reducible rfl))
      refine wpHeldIn_take (i := 4) (v := ?_) (plain_of (by kernel_rfl)) rfl (by kernel_rfl) (fun _ _ _ h => h) (yieldsSoIn_of (by kernel_rfl) ?_ (fun _ => rfl)) q0 ?_; rotate_left; focus (intro wq hw; clear hw; go_simp; try (with_reducible rfl))
      refine wpHeldIn_take (i := 5) (v := ?_) (plain_of (by kernel_rfl)) rfl (by kernel_rfl) (fun _ _ _ h => h) (yieldsSoIn_of (by kernel_rfl) ?_ (fun _ => rfl)) q0 ?_; rotate_left; focus (intro wq hw; have kq := KC.out wq hw; clear hw; go_simp; try (with_reducible rfl))
      refine wpHeldIn_one (i := 2) (by kernel_rfl) (by kernel_rfl) rfl (by kernel_rfl) (fun K1 hK1 => ?_)
      go_simp
      refine ⟨trivial, (CallsIn.inRound l2 (callsIn_wide.2 (HW1.out _ q0))).mono ?_⟩
      rintro e V2 ⟨rfl, hb2⟩
      have q1 := q0.trans (hb2.mono q0.size)
      refine hK1 _ _ q1 ?_
      refine wpHeldIn_take (i := 6) (v := ?_) (plain_of (by kernel_rfl)) rfl (by kernel_rfl) (fun _ _ _ h => h) (yieldsSoIn_of (by kernel_rfl) ?_ (fun _ => rfl)) q1 ?_; rotate_left; focus (intro wq hw; clear hw; go_simp; try (with_reducible rfl))
      refine wpHeldIn_take (i := 7) (v := ?_) (plain_of (by kernel_rfl)) rfl (by kernel_rfl) (fun _ _ _ h => h) (yieldsSoIn_of (by kernel_rfl) ?_ (fun _ => rfl)) q1 ?_; rotate_left; focus (intro wq hw; clear hw; go_simp; try (with_reducible rfl))
      refine wpHeldIn_skip (i := 8) (plain_of (by kernel_rfl)) rfl (by kernel_rfl) (by kernel_rfl) (fun _ => trivial) (by kernel_rfl) (fun _ _ _ h => h) q1 ?_
      refine wpHeldIn_skip (i := 9) (plain_of (by kernel_rfl)) rfl (by kernel_rfl) (by kernel_rfl) (fun _ => trivial) (by kernel_rfl) (fun _ _ _ h => h) q1 ?_
      refine wpHeldIn_skip (i := 10) (plain_of (by kernel_rfl)) rfl (by kernel_rfl) (by kernel_rfl) (fun _ => trivial) (by kernel_rfl) (fun _ _ _ h => h) q1 ?_
      refine wpHeldIn_skip (i := 11) (plain_of (by kernel_rfl)) rfl (by kernel_rfl) (by kernel_rfl) (fun _ => trivial) (by kernel_rfl) (fun _ _ _ h => h) q1 ?_
      refine wpHeldIn_take (i := 12) (v := ?_) (plain_of (by kernel_rfl)) rfl (by kernel_rfl) (fun _ _ _ h => h) (yieldsSoIn_of (by kernel_rfl) ?_ (fun _ => rfl)) q1 ?_; rotate_left; focus (intro wq hw; clear hw; go_simp; try (with_reducible rfl))
      refine wpHeldIn_done (by kernel_rfl) ?_ _
      go_simp
      have J2 : J (pre.filter tr) V2 := ownFrom_at hJ hJ1.out q1
      gi_wp2
      exact ⟨Apart.of_below q1, ⟨⟨by unfold Hid; rw [HT2.out]; exact J2, bD.below q1⟩, boxed_below bY q1⟩, hB.trans (q1.mono (by omega))⟩
  case done =>
    rintro D zs V hD rfl ⟨⟨⟨hJ1, bD⟩, bY⟩, hB⟩ hK
    gi_wp2
    refine ⟨by simp, .inl ⟨_, _, rfl, run_takeDeferred hK, ?_⟩⟩
    exact ⟨_, results_none rfl _ _ _, ⟨_, rfl⟩, .inl ⟨_, rfl, hJ.putObj _ (by rw [HTL.out]; exact hJ1.out) (by omega) hK rfl⟩⟩
  case stop =>
    rintro D cc pre V hD hpre ⟨rfl, hx⟩ hK
    gi_wp2
    refine ⟨by simp, .inl ⟨_, _, rfl, run_takeDeferred hK, ?_⟩⟩
    exact ⟨_, results_none rfl _ _ _, ⟨_, rfl⟩, .inr ⟨_, HPR.out _ hpre, hJx.putObj _ hx.out (by omega) hK rfl⟩⟩
end Go.Proofs.YtmjcdggmofohcaaGreat
namespace Go.Proofs.YtmjcdggmofohcaaGreat
open Go.RowKit
set_option maxRecDepth 100000 in
set_option maxHeartbeats 4000000 in
theorem validWheel_any (d : Wh.Desk) (w : World) :
    Calls Tryz.prog 88 #[.agg (whV d)] w fun e w' => e = .returned (.bool (Wh.whB d)) ∧ Below w.heap.size w w' := by
  obtain ⟨full, read, slip, skew, circ, glo, ghi, wrn, ws⟩ := d
  unfold whV
  dsimp only
  have H0 : Hid (∀ W, Calls Tryz.prog 107 #[.int .i64 full, .int .i64 10, .int .i64 10000] W fun e w' => e = .returned (.bool (inB full 10 10000)) ∧ w' = W) := fun W => within_any full 10 10000 W
  have H1 : Hid (∀ W, Calls Tryz.prog 107 #[.int .i64 read, .int .i64 0, .int .i64 20] W fun e w' => e = .returned (.bool (inB read 0 20)) ∧ w' = W) := fun W => within_any read 0 20 W
  have H2 : Hid (∀ W, Calls Tryz.prog 107 #[.int .i64 slip, .int .i64 0, .int .i64 20] W fun e w' => e = .returned (.bool (inB slip 0 20)) ∧ w' = W) := fun W => within_any slip 0 20 W
  have H3 : Hid (∀ W, Calls Tryz.prog 107 #[.int .i64 skew, .int .i64 0, .int .i64 20] W fun e w' => e = .returned (.bool (inB skew 0 20)) ∧ w' = W) := fun W => within_any skew 0 20 W
  have H4 : Hid (∀ W, Calls Tryz.prog 107 #[.int .i64 circ, .int .i64 0, .int .i64 9999] W fun e w' => e = .returned (.bool (inB circ 0 9999)) ∧ w' = W) := fun W => within_any circ 0 9999 W
  have H5 : Hid (∀ W, Calls Tryz.prog 107 #[.int .i64 glo, .int .i64 0, .int .i64 ghi] W fun e w' => e = .returned (.bool (inB glo 0 ghi)) ∧ w' = W) := fun W => within_any glo 0 ghi W
  have H7 : Hid (∀ W, Calls Tryz.prog 107 #[.int .i64 wrn, .int .i64 0, .int .i64 8] W fun e w' => e = .returned (.bool (inB wrn 0 8)) ∧ w' = W) := fun W => within_any wrn 0 8 W
  have HR : Hid (Wh.whB ⟨full, read, slip, skew, circ, glo, ghi, wrn, ws⟩ = (((((((inB full 10 10000 && inB read 0 20) && inB slip 0 20) && inB skew 0 20) && inB circ 0 9999) && inB glo 0 ghi) && decide (ghi ≤ 9999)) && inB wrn 0 8)) := rfl
  generalize Wh.whB ⟨full, read, slip, skew, circ, glo, ghi, wrn, ws⟩ = R at *
  generalize inB full 10 10000 = b0 at *
  generalize inB read 0 20 = b1 at *
  generalize inB slip 0 20 = b2 at *
  generalize inB skew 0 20 = b3 at *
  generalize inB circ 0 9999 = b4 at *
  generalize inB glo 0 ghi = b5 at *
  generalize inB wrn 0 8 = b7 at *
  cases b0 with
  | false =>
    go_enter Tryz.func88, Tryz.ntmps88
    go_wp2_with fail
    refine (H0.out _).mono ?_
    rintro e w1 ⟨rfl, rfl⟩
    go_wp2_with fail
    go_returns
    exact ⟨by rw [HR.out]; first | rfl | simp [*], (Below.refl _ _).alloc (Nat.le_refl _) _⟩
  | true =>
    cases b1 with
    | false =>
      go_enter Tryz.func88, Tryz.ntmps88
      go_wp2_with fail
      refine (H0.out _).mono ?_
      rintro e w1 ⟨rfl, rfl⟩
      go_wp2_with fail
      refine (H1.out _).mono ?_
      rintro e w2 ⟨rfl, rfl⟩
      go_wp2_with fail
      go_returns
      exact ⟨by rw [HR.out]; first | rfl | simp [*], (Below.refl _ _).alloc (Nat.le_refl _) _⟩
    | true =>
      cases b2 with
      | false =>
        go_enter Tryz.func88, Tryz.ntmps88
        go_wp2_with fail
        refine (H0.out _).mono ?_
        rintro e w1 ⟨rfl, rfl⟩
        go_wp2_with fail
        refine (H1.out _).mono ?_
        rintro e w2 ⟨rfl, rfl⟩
        go_wp2_with fail
        refine (H2.out _).mono ?_
        rintro e w3 ⟨rfl, rfl⟩
        go_wp2_with fail
        go_returns
        exact ⟨by rw [HR.out]; first | rfl | simp [*], (Below.refl _ _).alloc (Nat.le_refl _) _⟩
      | true =>
        cases b3 with
        | false =>
          go_enter Tryz.func88, Tryz.ntmps88
          go_wp2_with fail
          refine (H0.out _).mono ?_
          rintro e w1 ⟨rfl, rfl⟩
          go_wp2_with fail
          refine (H1.out _).mono ?_
          rintro e w2 ⟨rfl, rfl⟩
          go_wp2_with fail
          refine (H2.out _).mono ?_
          rintro e w3 ⟨rfl, rfl⟩
          go_wp2_with fail
          refine (H3.out _).mono ?_
          rintro e w4 ⟨rfl, rfl⟩
          go_wp2_with fail
          go_returns
          exact ⟨by rw [HR.out]; first | rfl | simp [*], (Below.refl _ _).alloc (Nat.le_refl _) _⟩
        | true =>
          cases b4 with
          | false =>
            go_enter Tryz.func88, Tryz.ntmps88
            go_wp2_with fail
            refine (H0.out _).mono ?_
            rintro e w1 ⟨rfl, rfl⟩
            go_wp2_with fail
            refine (H1.out _).mono ?_
            rintro e w2 ⟨rfl, rfl⟩
            go_wp2_with fail
            refine (H2.out _).mono ?_
            rintro e w3 ⟨rfl, rfl⟩
            go_wp2_with fail
            refine (H3.out _).mono ?_
            rintro e w4 ⟨rfl, rfl⟩
            go_wp2_with fail
            refine (H4.out _).mono ?_
            rintro e w5 ⟨rfl, rfl⟩
            go_wp2_with fail
            go_returns
            exact ⟨by rw [HR.out]; first | rfl | simp [*], (Below.refl _ _).alloc (Nat.le_refl _) _⟩
          | true =>
            cases b5 with
            | false =>
              go_enter Tryz.func88, Tryz.ntmps88
              go_wp2_with fail
              refine (H0.out _).mono ?_
              rintro e w1 ⟨rfl, rfl⟩
              go_wp2_with fail
              refine (H1.out _).mono ?_
              rintro e w2 ⟨rfl, rfl⟩
              go_wp2_with fail
              refine (H2.out _).mono ?_
              rintro e w3 ⟨rfl, rfl⟩
              go_wp2_with fail
              refine (H3.out _).mono ?_
              rintro e w4 ⟨rfl, rfl⟩
              go_wp2_with fail
              refine (H4.out _).mono ?_
              rintro e w5 ⟨rfl, rfl⟩
              go_wp2_with fail
              refine (H5.out _).mono ?_
              rintro e w6 ⟨rfl, rfl⟩
              go_wp2_with fail
              go_returns
              exact ⟨by rw [HR.out]; first | rfl | simp [*], (Below.refl _ _).alloc (Nat.le_refl _) _⟩
            | true =>
              by_cases hd6 : ghi ≤ 9999
              · have dd6 : decide (ghi ≤ 9999) = true := decide_eq_true hd6
                cases b7 with
                | false =>
                  go_enter Tryz.func88, Tryz.ntmps88
                  go_wp2_with fail
                  refine (H0.out _).mono ?_
                  rintro e w1 ⟨rfl, rfl⟩
                  go_wp2_with fail
                  refine (H1.out _).mono ?_
                  rintro e w2 ⟨rfl, rfl⟩
                  go_wp2_with fail
                  refine (H2.out _).mono ?_
                  rintro e w3 ⟨rfl, rfl⟩
                  go_wp2_with fail
                  refine (H3.out _).mono ?_
                  rintro e w4 ⟨rfl, rfl⟩
                  go_wp2_with fail
                  refine (H4.out _).mono ?_
                  rintro e w5 ⟨rfl, rfl⟩
                  go_wp2_with fail
                  refine (H5.out _).mono ?_
                  rintro e w6 ⟨rfl, rfl⟩
                  go_wp2_with fail
                  refine (H7.out _).mono ?_
                  rintro e w8 ⟨rfl, rfl⟩
                  go_wp2_with fail
                  go_returns
                  exact ⟨by rw [HR.out]; first | rfl | simp [*], (Below.refl _ _).alloc (Nat.le_refl _) _⟩
                | true =>
                  go_enter Tryz.func88, Tryz.ntmps88
                  go_wp2_with fail
                  refine (H0.out _).mono ?_
                  rintro e w1 ⟨rfl, rfl⟩
                  go_wp2_with fail
                  refine (H1.out _).mono ?_
                  rintro e w2 ⟨rfl, rfl⟩
                  go_wp2_with fail
                  refine (H2.out _).mono ?_
                  rintro e w3 ⟨rfl, rfl⟩
                  go_wp2_with fail
                  refine (H3.out _).mono ?_
                  rintro e w4 ⟨rfl, rfl⟩
                  go_wp2_with fail
                  refine (H4.out _).mono ?_
                  rintro e w5 ⟨rfl, rfl⟩
                  go_wp2_with fail
                  refine (H5.out _).mono ?_
                  rintro e w6 ⟨rfl, rfl⟩
                  go_wp2_with fail
                  refine (H7.out _).mono ?_
                  rintro e w8 ⟨rfl, rfl⟩
                  go_wp2_with fail
                  go_returns
                  exact ⟨by rw [HR.out]; first | rfl | simp [*], (Below.refl _ _).alloc (Nat.le_refl _) _⟩
              · have dd6 : decide (ghi ≤ 9999) = false := decide_eq_false hd6
                go_enter Tryz.func88, Tryz.ntmps88
                go_wp2_with fail
                refine (H0.out _).mono ?_
                rintro e w1 ⟨rfl, rfl⟩
                go_wp2_with fail
                refine (H1.out _).mono ?_
                rintro e w2 ⟨rfl, rfl⟩
                go_wp2_with fail
                refine (H2.out _).mono ?_
                rintro e w3 ⟨rfl, rfl⟩
                go_wp2_with fail
                refine (H3.out _).mono ?_
                rintro e w4 ⟨rfl, rfl⟩
                go_wp2_with fail
                refine (H4.out _).mono ?_
                rintro e w5 ⟨rfl, rfl⟩
                go_wp2_with fail
                refine (H5.out _).mono ?_
                rintro e w6 ⟨rfl, rfl⟩
                go_wp2_with fail
                go_returns
                exact ⟨by rw [HR.out]; first | rfl | simp [*], (Below.refl _ _).alloc (Nat.le_refl _) _⟩

set_option maxRecDepth 100000 in
set_option maxHeartbeats 4000000 in
theorem validWalk_any (d : Wh.Desk) (hf : 0 ≤ d.full ∧ d.full ≤ 10000) (k : Wh.Wk) (w : World) :
    Calls Tryz.prog 89 #[.agg (whV d), .agg #[.int .i64 k.1, .int .i64 k.2.1, .int .i64 k.2.2.1, .int .i64 k.2.2.2.1, .int .i64 k.2.2.2.2]] w fun e w' => e = .returned (.bool (Wh.wkB d.full k)) ∧ Below w.heap.size w w' := by
  obtain ⟨full, read, slip, skew, circ, glo, ghi, wrn, ws⟩ := d
  obtain ⟨se, si, ins, st, en⟩ := k
  unfold whV
  dsimp only at *
  have hw1 : IntKind.i64.wrap (full - 1) = full - 1 := IntWalk.i64_in _ (by omega)
  have H0 : Hid (∀ W, Calls Tryz.prog 108 #[.int .i64 se] W fun e w' => e = .returned (.bool (Wh.signB se)) ∧ w' = W) := fun W => isSign_any se W
  have H1 : Hid (∀ W, Calls Tryz.prog 108 #[.int .i64 si] W fun e w' => e = .returned (.bool (Wh.signB si)) ∧ w' = W) := fun W => isSign_any si W
  have H2 : Hid (∀ W, Calls Tryz.prog 107 #[.int .i64 ins, .int .i64 0, .int .i64 1] W fun e w' => e = .returned (.bool (inB ins 0 1)) ∧ w' = W) := fun W => within_any ins 0 1 W
  have H3 : Hid (∀ W, Calls Tryz.prog 107 #[.int .i64 st, .int .i64 0, .int .i64 (full - 1)] W fun e w' => e = .returned (.bool (inB st 0 (full - 1))) ∧ w' = W) := fun W => within_any st 0 (full - 1) W
  have H4 : Hid (∀ W, Calls Tryz.prog 107 #[.int .i64 en, .int .i64 0, .int .i64 (full - 1)] W fun e w' => e = .returned (.bool (inB en 0 (full - 1))) ∧ w' = W) := fun W => within_any en 0 (full - 1) W
  have HR : Hid (Wh.wkB full (se, si, ins, st, en) = ((((Wh.signB se && Wh.signB si) && inB ins 0 1) && inB st 0 (full - 1)) && inB en 0 (full - 1))) := rfl
  generalize Wh.wkB full (se, si, ins, st, en) = R at *
  generalize Wh.signB se = b0 at *
  generalize Wh.signB si = b1 at *
  generalize inB ins 0 1 = b2 at *
  generalize inB st 0 (full - 1) = b3 at *
  generalize inB en 0 (full - 1) = b4 at *
  cases b0 with
  | false =>
    go_enter Tryz.func89, Tryz.ntmps89
    go_wp2_with fail
    refine (H0.out _).mono ?_
    rintro e w1 ⟨rfl, rfl⟩
    go_wp2_with fail
    go_returns
    exact ⟨by rw [HR.out]; first | rfl | simp [*], by (repeat' (first | (with_reducible exact Below.refl _ _) | (with_reducible assumption) | (with_reducible refine Below.alloc ?_ ?_ _) | (with_reducible refine Below.drew ?_) | (with_reducible refine Below.setCell ?_ ?_ _) | go_size | (exact (by simp)) | omega))⟩
  | true =>
    cases b1 with
    | false =>
      go_enter Tryz.func89, Tryz.ntmps89
      go_wp2_with fail
      refine (H0.out _).mono ?_
      rintro e w1 ⟨rfl, rfl⟩
      go_wp2_with fail
      refine (H1.out _).mono ?_
      rintro e w2 ⟨rfl, rfl⟩
      go_wp2_with fail
      go_returns
      exact ⟨by rw [HR.out]; first | rfl | simp [*], by (repeat' (first | (with_reducible exact Below.refl _ _) | (with_reducible assumption) | (with_reducible refine Below.alloc ?_ ?_ _) | (with_reducible refine Below.drew ?_) | (with_reducible refine Below.setCell ?_ ?_ _) | go_size | (exact (by simp)) | omega))⟩
    | true =>
      cases b2 with
      | false =>
        go_enter Tryz.func89, Tryz.ntmps89
        go_wp2_with fail
        refine (H0.out _).mono ?_
        rintro e w1 ⟨rfl, rfl⟩
        go_wp2_with fail
        refine (H1.out _).mono ?_
        rintro e w2 ⟨rfl, rfl⟩
        go_wp2_with fail
        refine (H2.out _).mono ?_
        rintro e w3 ⟨rfl, rfl⟩
        go_wp2_with fail
        go_returns
        exact ⟨by rw [HR.out]; first | rfl | simp [*], by (repeat' (first | (with_reducible exact Below.refl _ _) | (with_reducible assumption) | (with_reducible refine Below.alloc ?_ ?_ _) | (with_reducible refine Below.drew ?_) | (with_reducible refine Below.setCell ?_ ?_ _) | go_size | (exact (by simp)) | omega))⟩
      | true =>
        cases b3 with
        | false =>
          go_enter Tryz.func89, Tryz.ntmps89
          go_wp2_with fail
          refine (H0.out _).mono ?_
          rintro e w1 ⟨rfl, rfl⟩
          go_wp2_with fail
          refine (H1.out _).mono ?_
          rintro e w2 ⟨rfl, rfl⟩
          go_wp2_with fail
          refine (H2.out _).mono ?_
          rintro e w3 ⟨rfl, rfl⟩
          go_wp2_with fail
          refine (H3.out _).mono ?_
          rintro e w4 ⟨rfl, rfl⟩
          go_wp2_with fail
          go_returns
          exact ⟨by rw [HR.out]; first | rfl | simp [*], by (repeat' (first | (with_reducible exact Below.refl _ _) | (with_reducible assumption) | (with_reducible refine Below.alloc ?_ ?_ _) | (with_reducible refine Below.drew ?_) | (with_reducible refine Below.setCell ?_ ?_ _) | go_size | (exact (by simp)) | omega))⟩
        | true =>
          cases b4 with
          | false =>
            go_enter Tryz.func89, Tryz.ntmps89
            go_wp2_with fail
            refine (H0.out _).mono ?_
            rintro e w1 ⟨rfl, rfl⟩
            go_wp2_with fail
            refine (H1.out _).mono ?_
            rintro e w2 ⟨rfl, rfl⟩
            go_wp2_with fail
            refine (H2.out _).mono ?_
            rintro e w3 ⟨rfl, rfl⟩
            go_wp2_with fail
            refine (H3.out _).mono ?_
            rintro e w4 ⟨rfl, rfl⟩
            go_wp2_with fail
            refine (H4.out _).mono ?_
            rintro e w5 ⟨rfl, rfl⟩
            go_wp2_with fail
            go_returns
            exact ⟨by rw [HR.out]; first | rfl | simp [*], by (repeat' (first | (with_reducible exact Below.refl _ _) | (with_reducible assumption) | (with_reducible refine Below.alloc ?_ ?_ _) | (with_reducible refine Below.drew ?_) | (with_reducible refine Below.setCell ?_ ?_ _) | go_size | (exact (by simp)) | omega))⟩
          | true =>
            go_enter Tryz.func89, Tryz.ntmps89
            go_wp2_with fail
            refine (H0.out _).mono ?_
            rintro e w1 ⟨rfl, rfl⟩
            go_wp2_with fail
            refine (H1.out _).mono ?_
            rintro e w2 ⟨rfl, rfl⟩
            go_wp2_with fail
            refine (H2.out _).mono ?_
            rintro e w3 ⟨rfl, rfl⟩
            go_wp2_with fail
            refine (H3.out _).mono ?_
            rintro e w4 ⟨rfl, rfl⟩
            go_wp2_with fail
            refine (H4.out _).mono ?_
            rintro e w5 ⟨rfl, rfl⟩
            go_wp2_with fail
            go_returns
            exact ⟨by rw [HR.out]; first | rfl | simp [*], by (repeat' (first | (with_reducible exact Below.refl _ _) | (with_reducible assumption) | (with_reducible refine Below.alloc ?_ ?_ _) | (with_reducible refine Below.drew ?_) | (with_reducible refine Below.setCell ?_ ?_ _) | go_size | (exact (by simp)) | omega))⟩

namespace Wh
def allTo (full : Int) (ws : List Wk) : Nat → Bool
  | 0 => true
  | k + 1 => allTo full ws k && wkB full (wkAt ws k)
theorem allTo_iff (full : Int) (ws : List Wk) : ∀ k, allTo full ws k = true ↔ ∀ j, j < k → wkB full (wkAt ws j) = true
  | 0 => by simp [allTo]
  | k + 1 => by
    unfold allTo
    rw [Bool.and_eq_true, allTo_iff full ws k]
    constructor
    · rintro ⟨h1, h2⟩ j hj
      by_cases e : j = k
      · subst e; exact h2
      · exact h1 j (by omega)
    · intro h
      exact ⟨fun j hj => h j (by omega), h k (by omega)⟩
theorem allTo_no {full : Int} {ws : List Wk} {j k : Nat} (hj : j < k) (h : wkB full (wkAt ws j) = false) : allTo full ws k = false := by
  cases e : allTo full ws k with
  | false => rfl
  | true => rw [(allTo_iff full ws k).1 e j hj] at h; cases h
def wksB (d : Desk) : Bool := decide (d.ws.length ≤ 8) && allTo d.full d.ws d.ws.length
def okB (d : Desk) : Bool := whB d && wksB d
def chkE (d : Desk) : Int := if whB d then (if wksB d then 0 else 31) else 30
theorem ok_wh {d : Desk} (h : whB d = true) : Ok d := by
  unfold whB inB at h
  simp only [Bool.and_eq_true, decide_eq_true_eq] at h
  constructor <;> omega
theorem okB_iff {d : Desk} : okB d = true ↔ whB d = true ∧ wksB d = true := by unfold okB; rw [Bool.and_eq_true]
theorem ok_of {d : Desk} (h : okB d = true) : Ok d := ok_wh (okB_iff.1 h).1
theorem ok_len {d : Desk} (h : okB d = true) : d.ws.length ≤ 8 := by
  have := (okB_iff.1 h).2
  unfold wksB at this
  rw [Bool.and_eq_true, decide_eq_true_eq] at this
  exact this.1
theorem ok_wk {d : Desk} (h : okB d = true) : ∀ k, k < d.ws.length → wkB d.full (wkAt d.ws k) = true := by
  have := (okB_iff.1 h).2
  unfold wksB at this
  rw [Bool.and_eq_true] at this
  exact (allTo_iff _ _ _).1 this.2
theorem ok_sm {d : Desk} (h : okB d = true) : ∀ k, k < d.ws.length → ksm (wkAt d.ws k) := fun k hk => wkB_sm (ok_of h).f2 (ok_wk h k hk)
theorem chkE_yes {d : Desk} (h : okB d = true) : chkE d = 0 := by unfold chkE; rw [(okB_iff.1 h).1, (okB_iff.1 h).2]; rfl
theorem chkE_zero {d : Desk} : chkE d = 0 ↔ okB d = true := by
  unfold chkE okB
  cases whB d <;> cases wksB d <;> simp
end Wh
theorem boxS8 {W : World} {B : Nat} {t : TypeId} {a b c d e f g h : Value} (H : BoxS W B t #[a, b, c, d, e, f, g, h]) : ((W.cell? ⟨B, 0, none⟩ = some a ∧ W.cell? ⟨B, 1, none⟩ = some b ∧ W.cell? ⟨B, 2, none⟩ = some c) ∧ W.cell? ⟨B, 3, none⟩ = some d ∧ W.cell? ⟨B, 4, none⟩ = some e ∧ W.cell? ⟨B, 5, none⟩ = some f) ∧ W.cell? ⟨B, 6, none⟩ = some g ∧ W.cell? ⟨B, 7, none⟩ = some h := ⟨⟨⟨H.cell 0 rfl, H.cell 1 rfl, H.cell 2 rfl⟩, H.cell 3 rfl, H.cell 4 rfl, H.cell 5 rfl⟩, H.cell 6 rfl, H.cell 7 rfl⟩

set_option maxRecDepth 100000 in
set_option maxHeartbeats 4000000 in
theorem wCheck_any (d : Wh.Desk) (A : Option Addr) (c : Nat) (w : World) (hl : d.ws.length ≤ 1000000000) (hg : Wks w w.heap.size A d.ws) :
    Calls Tryz.prog 67 #[.agg (whV d), .slice A d.ws.length c] w (ErrPost (Wh.chkE d) w) := by
  have H1 : Hid (∀ W, Calls Tryz.prog 88 #[.agg (whV d)] W fun e w' => e = .returned (.bool (Wh.whB d)) ∧ Below W.heap.size W w') := fun W => validWheel_any d W
  have HVC : Hid (Wh.whB d = true → ∀ k W, Calls Tryz.prog 89 #[.agg (whV d), .agg #[.int .i64 (Wh.wkAt d.ws k).1, .int .i64 (Wh.wkAt d.ws k).2.1, .int .i64 (Wh.wkAt d.ws k).2.2.1, .int .i64 (Wh.wkAt d.ws k).2.2.2.1, .int .i64 (Wh.wkAt d.ws k).2.2.2.2]] W fun e w' => e = .returned (.bool (Wh.wkB d.full (Wh.wkAt d.ws k))) ∧ Below W.heap.size W w') := fun h k W => validWalk_any d (by have := Wh.ok_wh h; have := this.f1; have := (Wh.ok_wh h).f2; omega) _ W
  have HE : Hid (Wh.chkE d = if Wh.whB d then (if decide (d.ws.length ≤ 8) && Wh.allTo d.full d.ws d.ws.length then 0 else 31) else 30) := rfl
  have HS0 : Hid (∀ k, Wh.allTo d.full d.ws (k + 1) = (Wh.allTo d.full d.ws k && Wh.wkB d.full (Wh.wkAt d.ws k))) := fun k => rfl
  have HA0 : Hid (Wh.allTo d.full d.ws 0 = true) := rfl
  have HNO : Hid (∀ k, k < d.ws.length → Wh.wkB d.full (Wh.wkAt d.ws k) = false → Wh.allTo d.full d.ws d.ws.length = false) := fun k hk => Wh.allTo_no hk
  have HG := Lib.hid hg
  have hll : (d.ws.length : Int) ≤ 1000000000 := by omega
  clear hg
  generalize Wh.chkE d = E at *
  generalize Wh.allTo d.full d.ws = AT at *
  generalize Wh.wkB d.full = WB at *
  generalize Wh.whB d = HB at *
  obtain ⟨full, read, slip, skew, circ, glo, ghi, wrn, ws⟩ := d
  unfold whV at *
  dsimp only at *
  cases HB with
  | false =>
    have HE2 : Hid (E = 30) := HE.out
    go_enter Tryz.func67, Tryz.ntmps67
    go_wp2_with fail
    have bS1 := BoxS.new w 42 #[.int .i64 full, .int .i64 read, .int .i64 slip, .int .i64 skew, .int .i64 circ, .int .i64 glo, .int .i64 ghi, .int .i64 wrn]
    have hB1 : Below w.heap.size w (w.alloc (.cells #[.int .i64 full, .int .i64 read, .int .i64 slip, .int .i64 skew, .int .i64 circ, .int .i64 glo, .int .i64 ghi, .int .i64 wrn] 42)) := by (repeat' (first | (with_reducible exact Below.refl _ _) | (with_reducible assumption) | (with_reducible refine Below.alloc ?_ ?_ _) | (with_reducible refine Below.drew ?_) | (with_reducible refine Below.setCell ?_ ?_ _) | go_size | (exact (by simp)) | omega))
    generalize World.alloc w _ = w1 at *
    refine (H1.out _).mono ?_
    rintro e w2 ⟨rfl, hb2⟩
    have bS2 := bS1.below hb2
    have hB2 := hB1.trans (hb2.mono hB1.size)
    clear bS1 hB1 hb2
    go_wp2_with fail
    go_returns
    exact ⟨by rw [HE2.out]; rfl, hB2⟩
  | true =>
    have HVC2 := Lib.hid (HVC.out rfl)
    by_cases h8 : ws.length ≤ 8
    · have h8i : decide ((8 : Int) < (ws.length : Int)) = false := decide_eq_false (by omega)
      have HE2 : Hid (E = if AT ws.length then 0 else 31) := by
        have := HE.out
        rw [if_pos rfl, decide_eq_true h8, Bool.true_and] at this
        exact this
      clear HE
      go_enter Tryz.func67, Tryz.ntmps67
      go_wp2_with fail
      have bS1 := BoxS.new w 42 #[.int .i64 full, .int .i64 read, .int .i64 slip, .int .i64 skew, .int .i64 circ, .int .i64 glo, .int .i64 ghi, .int .i64 wrn]
      have hB1 : Below w.heap.size w (w.alloc (.cells #[.int .i64 full, .int .i64 read, .int .i64 slip, .int .i64 skew, .int .i64 circ, .int .i64 glo, .int .i64 ghi, .int .i64 wrn] 42)) := by (repeat' (first | (with_reducible exact Below.refl _ _) | (with_reducible assumption) | (with_reducible refine Below.alloc ?_ ?_ _) | (with_reducible refine Below.drew ?_) | (with_reducible refine Below.setCell ?_ ?_ _) | go_size | (exact (by simp)) | omega))
      generalize World.alloc w _ = w1 at *
      refine (H1.out _).mono ?_
      rintro e w2 ⟨rfl, hb2⟩
      have bS2 := bS1.below hb2
      have hB2 := hB1.trans (hb2.mono hB1.size)
      clear bS1 hB1 hb2
      obtain ⟨⟨⟨s0, s1, s2⟩, s3, s4, s5⟩, s6, s7⟩ := boxS8 bS2
      go_wp2_with fail
      clear s0 s1 s2 s3 s4 s5 s6 s7
      go_loopw [15] (fun x wr => ∃ k : Nat, (k : Int) ≤ ws.length ∧ x = .int .i64 k ∧ Hid (AT k = true) ∧ BoxS wr w.heap.size 42 #[.int .i64 full, .int .i64 read, .int .i64 slip, .int .i64 skew, .int .i64 circ, .int .i64 glo, .int .i64 ghi, .int .i64 wrn] ∧ Below w.heap.size w wr) (fun x _ => (ws.length - intOf x).toNat)
      case atStart => exact ⟨0, by omega, rfl, HA0.out, bS2, hB2⟩
      case round =>
        clear bS2 hB2
        obtain ⟨k, hk, rfl, hall, bS, hB⟩ := hrel
        have hk0 := Int.natCast_nonneg k
        by_cases hlt : (k : Int) < ws.length
        · have hkn : k < ws.length := by omega
          obtain ⟨bb, off, rfl, hbb, hc⟩ := HG.out (by omega)
          obtain ⟨h0, h1, h2, h3, h4⟩ := hc k hkn
          have a0 := (hB.cell (p := ⟨bb, _, none⟩) hbb).trans h0
          have a1 := (hB.cell (p := ⟨bb, _, none⟩) hbb).trans h1
          have a2 := (hB.cell (p := ⟨bb, _, none⟩) hbb).trans h2
          have a3 := (hB.cell (p := ⟨bb, _, none⟩) hbb).trans h3
          have a4 := (hB.cell (p := ⟨bb, _, none⟩) hbb).trans h4
          have HV1 := Lib.hid (HVC2.out k)
          have HS := Lib.hid (HS0.out k)
          have HN1 := Lib.hid (HNO.out k hkn)
          have hw1 : IntKind.i64.wrap ((k : Int) + 1) = (k : Int) + 1 := IntWalk.i64_in _ (by omega)
          have hlw0 : w.heap.size < wr.heap.size := bS.lt
          clear hc h0 h1 h2 h3 h4 HVC2 HVC
          generalize WB (Wh.wkAt ws k) = b at *
          generalize Wh.wkAt ws k = ct at *
          obtain ⟨c0, c1, c2, c3, c4⟩ := ct
          dsimp only at a0 a1 a2 a3 a4 HV1
          obtain ⟨⟨⟨s0, s1, s2⟩, s3, s4, s5⟩, s6, s7⟩ := boxS8 bS
          go_wp2_with fail
          have hBa : Below w.heap.size w (wr.alloc (.cells #[.int .i64 c0, .int .i64 c1, .int .i64 c2, .int .i64 c3, .int .i64 c4] 45)) := hB.alloc hB.size _
          have bSa := bS.alloc (.cells #[.int .i64 c0, .int .i64 c1, .int .i64 c2, .int .i64 c3, .int .i64 c4] 45)
          clear a0 a1 a2 a3 a4 s0 s1 s2 s3 s4 s5 s6 s7
          generalize World.alloc wr _ = w5 at *
          refine (HV1.out _).mono ?_
          rintro e w6 ⟨rfl, hb6⟩
          have hB6 := hBa.trans (hb6.mono hBa.size)
          have bS6 := bSa.below hb6
          cases b with
          | true =>
            go_wp2_with fail
            go_roundw
            case rel => exact ⟨k + 1, by omega, by go_num, by unfold Hid; rw [HS.out, hall.out]; rfl, bS6, hB6⟩
            case measure => simp [intOf]; omega
          | false =>
            go_wp2_with fail
            go_returns
            exact ⟨by rw [HE2.out, HN1.out (by first | rfl | trivial)]; rfl, hB6⟩
        · obtain rfl : k = ws.length := by omega
          go_wp2_with fail
          go_returns
          exact ⟨by rw [HE2.out, hall.out]; rfl, hB⟩
    · have h8i : decide ((8 : Int) < (ws.length : Int)) = true := decide_eq_true (by omega)
      have HE2 : Hid (E = 31) := by
        have := HE.out
        rw [if_pos rfl, decide_eq_false h8, Bool.false_and] at this
        exact this
      clear HE
      go_enter Tryz.func67, Tryz.ntmps67
      go_wp2_with fail
      have bS1 := BoxS.new w 42 #[.int .i64 full, .int .i64 read, .int .i64 slip, .int .i64 skew, .int .i64 circ, .int .i64 glo, .int .i64 ghi, .int .i64 wrn]
      have hB1 : Below w.heap.size w (w.alloc (.cells #[.int .i64 full, .int .i64 read, .int .i64 slip, .int .i64 skew, .int .i64 circ, .int .i64 glo, .int .i64 ghi, .int .i64 wrn] 42)) := by (repeat' (first | (with_reducible exact Below.refl _ _) | (with_reducible assumption) | (with_reducible refine Below.alloc ?_ ?_ _) | (with_reducible refine Below.drew ?_) | (with_reducible refine Below.setCell ?_ ?_ _) | go_size | (exact (by simp)) | omega))
      generalize World.alloc w _ = w1 at *
      refine (H1.out _).mono ?_
      rintro e w2 ⟨rfl, hb2⟩
      have bS2 := bS1.below hb2
      have hB2 := hB1.trans (hb2.mono hB1.size)
      clear bS1 hB1 hb2
      go_wp2_with fail
      go_returns
      exact ⟨by rw [HE2.out]; rfl, hB2⟩
end Go.Proofs.YtmjcdggmofohcaaGreat
namespace Go.Proofs.YtmjcdggmofohcaaGreat
open Go.RowKit Go.Shelf
attribute [local go_sem] Oper.semAt_some
namespace Wh
def spE (d : Desk) : Int := if okB d then (if truthsL d = [] then 3 else 0) else chkE d
def zeroV : Array Value := #[.int .i64 0, .int .i64 0, .int .i64 0, .int .i64 0, .int .i64 0, .int .i64 0, .int .i64 0, .int .i64 0, .slice none 0 0]
def spV (d : Desk) (A : Option Addr) (c : Nat) : Array Value := if spE d = 0 then dkV d A c else zeroV
theorem sp_no {d : Desk} (h : okB d = false) : spE d = chkE d := by unfold spE; rw [h]; rfl
theorem sp_none {d : Desk} (h : okB d = true) (h2 : truthsL d = []) : spE d = 3 := by unfold spE; rw [h, if_pos rfl, if_pos h2]
theorem sp_yes {d : Desk} (h : okB d = true) (h2 : truthsL d ≠ []) : spE d = 0 := by unfold spE; rw [h, if_pos rfl, if_neg h2]
theorem chkE_no {d : Desk} (h : okB d = false) : chkE d ≠ 0 := fun e => by rw [chkE_zero.1 e] at h; cases h
theorem sp_ok {d : Desk} (h : spE d = 0) : okB d = true ∧ truthsL d ≠ [] := by
  unfold spE at h
  split at h
  · rename_i h1
    split at h
    · omega
    · rename_i h2; exact ⟨h1, h2⟩
  · rename_i h1
    exact absurd h (chkE_no (by simpa using h1))
theorem spV_yes {d : Desk} (h : spE d = 0) (A : Option Addr) (c : Nat) : spV d A c = dkV d A c := by unfold spV; rw [if_pos h]
theorem spV_no {d : Desk} (h : spE d ≠ 0) (A : Option Addr) (c : Nat) : spV d A c = #[.int .i64 0, .int .i64 0, .int .i64 0, .int .i64 0, .int .i64 0, .int .i64 0, .int .i64 0, .int .i64 0, .slice none 0 0] := by unfold spV; rw [if_neg h]; rfl
end Wh
def SpPost (v : Array Value) (x : Int) (w : World) (e : Ending) (w' : World) : Prop := e = .returned (.tuple #[.agg v, .int .i64 x]) ∧ Below w.heap.size w w'
theorem nine_put {W : World} {B : Nat} {t : TypeId} {a b c d e f g i j : Value} (h : BoxS W B t #[a, b, c, d, e, f, g, i, j]) (u0 u1 u2 u3 u4 u5 u6 u7 u8 : Value) :
    BoxS (((((((((W.setCell ⟨B, 0, none⟩ (u0)).setCell ⟨B, 1, none⟩ (u1)).setCell ⟨B, 2, none⟩ (u2)).setCell ⟨B, 3, none⟩ (u3)).setCell ⟨B, 4, none⟩ (u4)).setCell ⟨B, 5, none⟩ (u5)).setCell ⟨B, 6, none⟩ (u6)).setCell ⟨B, 7, none⟩ (u7)).setCell ⟨B, 8, none⟩ (u8)) B t #[u0, u1, u2, u3, u4, u5, u6, u7, u8] := by
  have h0 : BoxS (W.setCell ⟨B, 0, none⟩ (u0)) B t #[u0, b, c, d, e, f, g, i, j] := h.put9 0 u0
  have h1 : BoxS ((W.setCell ⟨B, 0, none⟩ (u0)).setCell ⟨B, 1, none⟩ (u1)) B t #[u0, u1, c, d, e, f, g, i, j] := h0.put9 1 u1
  have h2 : BoxS (((W.setCell ⟨B, 0, none⟩ (u0)).setCell ⟨B, 1, none⟩ (u1)).setCell ⟨B, 2, none⟩ (u2)) B t #[u0, u1, u2, d, e, f, g, i, j] := h1.put9 2 u2
  have h3 : BoxS ((((W.setCell ⟨B, 0, none⟩ (u0)).setCell ⟨B, 1, none⟩ (u1)).setCell ⟨B, 2, none⟩ (u2)).setCell ⟨B, 3, none⟩ (u3)) B t #[u0, u1, u2, u3, e, f, g, i, j] := h2.put9 3 u3
  have h4 : BoxS (((((W.setCell ⟨B, 0, none⟩ (u0)).setCell ⟨B, 1, none⟩ (u1)).setCell ⟨B, 2, none⟩ (u2)).setCell ⟨B, 3, none⟩ (u3)).setCell ⟨B, 4, none⟩ (u4)) B t #[u0, u1, u2, u3, u4, f, g, i, j] := h3.put9 4 u4
  have h5 : BoxS ((((((W.setCell ⟨B, 0, none⟩ (u0)).setCell ⟨B, 1, none⟩ (u1)).setCell ⟨B, 2, none⟩ (u2)).setCell ⟨B, 3, none⟩ (u3)).setCell ⟨B, 4, none⟩ (u4)).setCell ⟨B, 5, none⟩ (u5)) B t #[u0, u1, u2, u3, u4, u5, g, i, j] := h4.put9 5 u5
  have h6 : BoxS (((((((W.setCell ⟨B, 0, none⟩ (u0)).setCell ⟨B, 1, none⟩ (u1)).setCell ⟨B, 2, none⟩ (u2)).setCell ⟨B, 3, none⟩ (u3)).setCell ⟨B, 4, none⟩ (u4)).setCell ⟨B, 5, none⟩ (u5)).setCell ⟨B, 6, none⟩ (u6)) B t #[u0, u1, u2, u3, u4, u5, u6, i, j] := h5.put9 6 u6
  have h7 : BoxS ((((((((W.setCell ⟨B, 0, none⟩ (u0)).setCell ⟨B, 1, none⟩ (u1)).setCell ⟨B, 2, none⟩ (u2)).setCell ⟨B, 3, none⟩ (u3)).setCell ⟨B, 4, none⟩ (u4)).setCell ⟨B, 5, none⟩ (u5)).setCell ⟨B, 6, none⟩ (u6)).setCell ⟨B, 7, none⟩ (u7)) B t #[u0, u1, u2, u3, u4, u5, u6, u7, j] := h6.put9 7 u7
  have h8 : BoxS (((((((((W.setCell ⟨B, 0, none⟩ (u0)).setCell ⟨B, 1, none⟩ (u1)).setCell ⟨B, 2, none⟩ (u2)).setCell ⟨B, 3, none⟩ (u3)).setCell ⟨B, 4, none⟩ (u4)).setCell ⟨B, 5, none⟩ (u5)).setCell ⟨B, 6, none⟩ (u6)).setCell ⟨B, 7, none⟩ (u7)).setCell ⟨B, 8, none⟩ (u8)) B t #[u0, u1, u2, u3, u4, u5, u6, u7, u8] := h7.put9 8 u8
  exact h8
theorem nine_other {W : World} {B B' : Nat} {t : TypeId} {vs : Array Value} (h : BoxS W B t vs) (hne : B ≠ B') (u0 u1 u2 u3 u4 u5 u6 u7 u8 : Value) :
    BoxS (((((((((W.setCell ⟨B', 0, none⟩ (u0)).setCell ⟨B', 1, none⟩ (u1)).setCell ⟨B', 2, none⟩ (u2)).setCell ⟨B', 3, none⟩ (u3)).setCell ⟨B', 4, none⟩ (u4)).setCell ⟨B', 5, none⟩ (u5)).setCell ⟨B', 6, none⟩ (u6)).setCell ⟨B', 7, none⟩ (u7)).setCell ⟨B', 8, none⟩ (u8)) B t vs := by
  have oth : ∀ {W : World} (_ : BoxS W B t vs) (i : Nat) (v : Value), BoxS (W.setCell ⟨B', i, none⟩ v) B t vs := fun h i v => (Below.heap_setCell _ _ _ B hne).trans h
  exact (oth (oth (oth (oth (oth (oth (oth (oth (oth h 0 u0) 1 u1) 2 u2) 3 u3) 4 u4) 5 u5) 6 u6) 7 u7) 8 u8)
theorem nine_apart {b c B : Nat} (W : World) (h1 : b ≤ B) (h2 : B < c) (u0 u1 u2 u3 u4 u5 u6 u7 u8 : Value) : Apart b c W (((((((((W.setCell ⟨B, 0, none⟩ (u0)).setCell ⟨B, 1, none⟩ (u1)).setCell ⟨B, 2, none⟩ (u2)).setCell ⟨B, 3, none⟩ (u3)).setCell ⟨B, 4, none⟩ (u4)).setCell ⟨B, 5, none⟩ (u5)).setCell ⟨B, 6, none⟩ (u6)).setCell ⟨B, 7, none⟩ (u7)).setCell ⟨B, 8, none⟩ (u8)) := by
  have a : ∀ (W : World) (i : Nat) (v : Value), Apart b c W (W.setCell ⟨B, i, none⟩ v) := fun W i v => Apart.setCell _ _ h1 h2 _
  exact (((((((a _ 0 u0).trans (a _ 1 u1)).trans (a _ 2 u2)).trans (a _ 3 u3)).trans (a _ 4 u4)).trans (a _ 5 u5)).trans (a _ 6 u6)).trans (a _ 7 u7) |>.trans (a _ 8 u8)

set_option maxRecDepth 100000 in
set_option maxHeartbeats 4000000 in
theorem lay_no (d : Wh.Desk) (A : Option Addr) (c : Nat) (w : World) (hl : d.ws.length ≤ 1000000000) (hg : Wks w w.heap.size A d.ws) (hok : Wh.okB d = false) :
    Calls Tryz.prog 39 #[.agg (whV d), .slice A d.ws.length c] w (SpPost Wh.zeroV (Wh.chkE d) w) := by
  have HC : Hid (∀ W, Below w.heap.size w W → Calls Tryz.prog 67 #[.agg (whV d), .slice A d.ws.length c] W (ErrPost (Wh.chkE d) W)) := fun W hW => wCheck_any d A c W hl ((hg.keep hW).wider hW.size)
  have hne : (Wh.chkE d == 0) = false := by simpa using Wh.chkE_no hok
  generalize Wh.chkE d = E at *
  obtain ⟨full, read, slip, skew, circ, glo, ghi, wrn, ws⟩ := d
  unfold whV at *
  dsimp only at *
  unfold Wh.zeroV
  clear hg hok
  go_enter Tryz.func39, Tryz.ntmps39
  go_wp2_with fail
  have bZ := ((BoxS.new (w.alloc (.cells #[.int .i64 full, .int .i64 read, .int .i64 slip, .int .i64 skew, .int .i64 circ, .int .i64 glo, .int .i64 ghi, .int .i64 wrn] 42)) 77 #[.int .i64 0, .int .i64 0, .int .i64 0, .int .i64 0, .int .i64 0, .int .i64 0, .int .i64 0, .int .i64 0, .slice none 0 0]).alloc (.cells #[.int .i64 0] 29))
  have bE := BoxS.new ((w.alloc (.cells #[.int .i64 full, .int .i64 read, .int .i64 slip, .int .i64 skew, .int .i64 circ, .int .i64 glo, .int .i64 ghi, .int .i64 wrn] 42)).alloc (.cells #[.int .i64 0, .int .i64 0, .int .i64 0, .int .i64 0, .int .i64 0, .int .i64 0, .int .i64 0, .int .i64 0, .slice none 0 0] 77)) 29 #[.int .i64 0]
  have hB1 : Below w.heap.size w (((w.alloc (.cells #[.int .i64 full, .int .i64 read, .int .i64 slip, .int .i64 skew, .int .i64 circ, .int .i64 glo, .int .i64 ghi, .int .i64 wrn] 42)).alloc (.cells #[.int .i64 0, .int .i64 0, .int .i64 0, .int .i64 0, .int .i64 0, .int .i64 0, .int .i64 0, .int .i64 0, .slice none 0 0] 77)).alloc (.cells #[.int .i64 0] 29)) := by (repeat' (first | (with_reducible exact Below.refl _ _) | (with_reducible assumption) | (with_reducible refine Below.alloc ?_ ?_ _) | (with_reducible refine Below.drew ?_) | (with_reducible refine Below.setCell ?_ ?_ _) | go_size | (exact (by simp)) | omega))
  rw [World.size_alloc] at bZ bE
  rw [World.size_alloc] at bE
  generalize World.alloc (World.alloc (World.alloc w _) _) _ = w1 at *
  refine (HC.out _ hB1).mono ?_
  rintro e w2 ⟨rfl, hb2⟩
  have bZ2 := bZ.below hb2
  have bE2 := bE.below hb2
  have hB2 := hB1.trans (hb2.mono hB1.size)
  clear bZ bE hb2 hB1
  obtain ⟨⟨⟨z0, z1, z2⟩, z3, z4, z5⟩, z6, z7, z8⟩ := boxS9 bZ2
  have e0 := bE2.cell 0 rfl
  have f0 := bZ2.frozen 0
  have f1 := bZ2.frozen 1
  have f2 := bZ2.frozen 2
  have f3 := bZ2.frozen 3
  have f4 := bZ2.frozen 4
  have f5 := bZ2.frozen 5
  have f6 := bZ2.frozen 6
  have f7 := bZ2.frozen 7
  have f8 := bZ2.frozen 8
  have fe := bE2.frozen 0
  go_wp2_with fail
  have bZ3 := nine_put bZ2 (.int .i64 0) (.int .i64 0) (.int .i64 0) (.int .i64 0) (.int .i64 0) (.int .i64 0) (.int .i64 0) (.int .i64 0) (.slice none 0 0)
  have bE3 := nine_other bE2 (B' := w.heap.size + 1) (by omega) (.int .i64 0) (.int .i64 0) (.int .i64 0) (.int .i64 0) (.int .i64 0) (.int .i64 0) (.int .i64 0) (.int .i64 0) (.slice none 0 0)
  have hB3 : Below w.heap.size w (((((((((w2.setCell ⟨w.heap.size + 1, 0, none⟩ (.int .i64 0)).setCell ⟨w.heap.size + 1, 1, none⟩ (.int .i64 0)).setCell ⟨w.heap.size + 1, 2, none⟩ (.int .i64 0)).setCell ⟨w.heap.size + 1, 3, none⟩ (.int .i64 0)).setCell ⟨w.heap.size + 1, 4, none⟩ (.int .i64 0)).setCell ⟨w.heap.size + 1, 5, none⟩ (.int .i64 0)).setCell ⟨w.heap.size + 1, 6, none⟩ (.int .i64 0)).setCell ⟨w.heap.size + 1, 7, none⟩ (.int .i64 0)).setCell ⟨w.heap.size + 1, 8, none⟩ (.slice none 0 0)) := by (repeat' (first | (with_reducible exact Below.refl _ _) | (with_reducible assumption) | (with_reducible refine Below.alloc ?_ ?_ _) | (with_reducible refine Below.drew ?_) | (with_reducible refine Below.setCell ?_ ?_ _) | go_size | (exact (by simp)) | omega))
  generalize World.setCell (World.setCell (World.setCell (World.setCell (World.setCell (World.setCell (World.setCell (World.setCell (World.setCell w2 _ _) _ _) _ _) _ _) _ _) _ _) _ _) _ _) _ _ = w3 at *
  have bZ4 := bZ3.other (B' := w.heap.size + 1 + 1) (by omega) (.int .i64 E)
  have e4 : (w3.setCell ⟨w.heap.size + 1 + 1, 0, none⟩ (.int .i64 E)).cell? ⟨w.heap.size + 1 + 1, 0, none⟩ = some (.int .i64 E) := (bE3.put1 (.int .i64 E)).cell 0 rfl
  have hB4 : Below w.heap.size w (w3.setCell ⟨w.heap.size + 1 + 1, 0, none⟩ (.int .i64 E)) := by (repeat' (first | (with_reducible exact Below.refl _ _) | (with_reducible assumption) | (with_reducible refine Below.alloc ?_ ?_ _) | (with_reducible refine Below.drew ?_) | (with_reducible refine Below.setCell ?_ ?_ _) | go_size | (exact (by simp)) | omega))
  clear z0 z1 z2 z3 z4 z5 z6 z7 z8 e0 f0 f1 f2 f3 f4 f5 f6 f7 f8 fe
  obtain ⟨⟨⟨z0, z1, z2⟩, z3, z4, z5⟩, z6, z7, z8⟩ := boxS9 bZ4
  exact bodyPost_ret (v := .tuple #[.agg #[.int .i64 0, .int .i64 0, .int .i64 0, .int .i64 0, .int .i64 0, .int .i64 0, .int .i64 0, .int .i64 0, .slice none 0 0], .int .i64 E]) (by simp [results, Tryz.results39, go_sem, z0, z1, z2, z3, z4, z5, z6, z7, z8, e4]) rfl ⟨rfl, hB4⟩

set_option maxRecDepth 100000 in
set_option maxHeartbeats 8000000 in
theorem lay_ok (d : Wh.Desk) (A : Option Addr) (c : Nat) (w : World) (hg : Wks w w.heap.size A d.ws) (hok : Wh.okB d = true) :
    Calls Tryz.prog 39 #[.agg (whV d), .slice A d.ws.length c] w (SpPost (Wh.spV d A c) (Wh.spE d) w) := by
  have hs := Wh.ok_of hok
  have hlen := Wh.ok_len hok
  have HC : Hid (∀ W, Below w.heap.size w W → Calls Tryz.prog 67 #[.agg (whV d), .slice A d.ws.length c] W (ErrPost 0 W)) := fun W hW => by
    have := wCheck_any d A c W (by omega) ((hg.keep hW).wider hW.size)
    rw [Wh.chkE_yes hok] at this
    exact this
  have HSEQ : Hid (∀ w', Below w.heap.size w w' → SeqFar Tryz.prog 68 #[.agg (dkV d A c)] #[] encTr w.heap.size (fun ys => ys = Wh.truthsL d) (fun pre => pre <+: Wh.truthsL d) 500000 w') := fun w' h => truths_far d hs (by omega) (Wh.ok_sm hok) A c w.heap.size w' h.size (hg.keep h)
  have HN : Hid (Wh.truthsL d = [] → Wh.spE d = 3 ∧ Wh.spV d A c = #[.int .i64 0, .int .i64 0, .int .i64 0, .int .i64 0, .int .i64 0, .int .i64 0, .int .i64 0, .int .i64 0, .slice none 0 0]) := fun h => by
    have := Wh.sp_none hok h
    exact ⟨this, by unfold Wh.spV; rw [this]; rfl⟩
  have HY : Hid (Wh.truthsL d ≠ [] → Wh.spE d = 0 ∧ Wh.spV d A c = dkV d A c) := fun h => by
    have := Wh.sp_yes hok h
    exact ⟨this, by unfold Wh.spV; rw [this]; rfl⟩
  clear hg hok hs hlen
  generalize Wh.truthsL d = TL at *
  generalize Wh.spE d = SE at *
  generalize Wh.spV d A c = SV at *
  obtain ⟨full, read, slip, skew, circ, glo, ghi, wrn, ws⟩ := d
  unfold dkV at *
  unfold whV at *
  dsimp only at *
  refine (callsIn_wide (n := 8)).1 ?_
  refine callsIn_of_wp_marks Tryz.func39 rfl trivial ?_ rfl
  simp only [Tryz.ntmps39, List.size_toArray, List.length_cons, List.length_nil, Nat.reduceAdd, Nat.reduceSub, Array.replicate_succ, Array.replicate_zero, List.push_toArray, List.append_toArray, List.nil_append, List.cons_append]
  gi_wp2
  have bS := ((BoxS.new w 42 #[.int .i64 full, .int .i64 read, .int .i64 slip, .int .i64 skew, .int .i64 circ, .int .i64 glo, .int .i64 ghi, .int .i64 wrn]).alloc (.cells #[.int .i64 0, .int .i64 0, .int .i64 0, .int .i64 0, .int .i64 0, .int .i64 0, .int .i64 0, .int .i64 0, .slice none 0 0] 77)).alloc (.cells #[.int .i64 0] 29)
  have bZ := ((BoxS.new (w.alloc (.cells #[.int .i64 full, .int .i64 read, .int .i64 slip, .int .i64 skew, .int .i64 circ, .int .i64 glo, .int .i64 ghi, .int .i64 wrn] 42)) 77 #[.int .i64 0, .int .i64 0, .int .i64 0, .int .i64 0, .int .i64 0, .int .i64 0, .int .i64 0, .int .i64 0, .slice none 0 0]).alloc (.cells #[.int .i64 0] 29))
  have bE := BoxS.new ((w.alloc (.cells #[.int .i64 full, .int .i64 read, .int .i64 slip, .int .i64 skew, .int .i64 circ, .int .i64 glo, .int .i64 ghi, .int .i64 wrn] 42)).alloc (.cells #[.int .i64 0, .int .i64 0, .int .i64 0, .int .i64 0, .int .i64 0, .int .i64 0, .int .i64 0, .int .i64 0, .slice none 0 0] 77)) 29 #[.int .i64 0]
  have hB1 : Below w.heap.size w (((w.alloc (.cells #[.int .i64 full, .int .i64 read, .int .i64 slip, .int .i64 skew, .int .i64 circ, .int .i64 glo, .int .i64 ghi, .int .i64 wrn] 42)).alloc (.cells #[.int .i64 0, .int .i64 0, .int .i64 0, .int .i64 0, .int .i64 0, .int .i64 0, .int .i64 0, .int .i64 0, .slice none 0 0] 77)).alloc (.cells #[.int .i64 0] 29)) := by (repeat' (first | (with_reducible exact Below.refl _ _) | (with_reducible assumption) | (with_reducible refine Below.alloc ?_ ?_ _) | (with_reducible refine Below.drew ?_) | (with_reducible refine Below.setCell ?_ ?_ _) | go_size | (exact (by simp)) | omega))
  rw [World.size_alloc] at bZ bE
  rw [World.size_alloc] at bE
  generalize World.alloc (World.alloc (World.alloc w _) _) _ = w1 at *
  refine ⟨trivial, (callsIn_wide.2 (HC.out _ hB1)).mono ?_⟩
  rintro e w2 ⟨rfl, hb2⟩
  have bS2 := bS.below hb2
  have bZ2 := bZ.below hb2
  have bE2 := bE.below hb2
  have hB2 := hB1.trans (hb2.mono hB1.size)
  clear bS bZ bE hb2 hB1 HC
  obtain ⟨⟨⟨s0, s1, s2⟩, s3, s4, s5⟩, s6, s7⟩ := boxS8 bS2
  gi_wp2
  have bW3 := BoxS.new w2 77 #[.int .i64 full, .int .i64 read, .int .i64 slip, .int .i64 skew, .int .i64 circ, .int .i64 glo, .int .i64 ghi, .int .i64 wrn, .slice A ws.length c]
  have bZ3 := bZ2.alloc (.cells #[.int .i64 full, .int .i64 read, .int .i64 slip, .int .i64 skew, .int .i64 circ, .int .i64 glo, .int .i64 ghi, .int .i64 wrn, .slice A ws.length c] 77)
  have bE3 := bE2.alloc (.cells #[.int .i64 full, .int .i64 read, .int .i64 slip, .int .i64 skew, .int .i64 circ, .int .i64 glo, .int .i64 ghi, .int .i64 wrn, .slice A ws.length c] 77)
  have hB3 : Below w.heap.size w (w2.alloc (.cells #[.int .i64 full, .int .i64 read, .int .i64 slip, .int .i64 skew, .int .i64 circ, .int .i64 glo, .int .i64 ghi, .int .i64 wrn, .slice A ws.length c] 77)) := hB2.alloc hB2.size _
  have hz3 : (w2.alloc (.cells #[.int .i64 full, .int .i64 read, .int .i64 slip, .int .i64 skew, .int .i64 circ, .int .i64 glo, .int .i64 ghi, .int .i64 wrn, .slice A ws.length c] 77)).heap.size = w2.heap.size + 1 := by simp
  have lz := bZ2.lt
  have le := bE2.lt
  have hws := hB2.size
  clear bZ2 bE2 bS2 s0 s1 s2 s3 s4 s5 s6 s7 hB2
  generalize World.alloc w2 _ = w3 at *
  refine wpIn_far (n₀ := w.heap.size) (gf := 68) (pb := #[.agg #[.int .i64 full, .int .i64 read, .int .i64 slip, .int .i64 skew, .int .i64 circ, .int .i64 glo, .int .i64 ghi, .int .i64 wrn, .slice A ws.length c]]) (lb := #[]) rfl (enters_of Tryz.func68 (by kernel_rfl) rfl)
    (HSEQ.out w3 hB3) (Below.refl _ _) (by omega) (fun _ => rfl)
    (fun pre V => (((Hid (pre = []) ∧ BoxS V w2.heap.size 77 #[.int .i64 full, .int .i64 read, .int .i64 slip, .int .i64 skew, .int .i64 circ, .int .i64 glo, .int .i64 ghi, .int .i64 wrn, .slice A ws.length c]) ∧ BoxS V (w.heap.size + 1) 77 #[.int .i64 0, .int .i64 0, .int .i64 0, .int .i64 0, .int .i64 0, .int .i64 0, .int .i64 0, .int .i64 0, .slice none 0 0]) ∧ BoxS V (w.heap.size + 1 + 1) 29 #[.int .i64 0]) ∧ Below w.heap.size w V)
    (fun cc pre V => (((cc = .ret ∧ Hid (pre ≠ [])) ∧ BoxS V (w.heap.size + 1) 77 #[.int .i64 full, .int .i64 read, .int .i64 slip, .int .i64 skew, .int .i64 circ, .int .i64 glo, .int .i64 ghi, .int .i64 wrn, .slice A ws.length c]) ∧ BoxS V (w.heap.size + 1 + 1) 29 #[.int .i64 0]) ∧ Below w.heap.size w V)
    (OwnFrom.and (OwnFrom.and (OwnFrom.and (OwnFrom.and (ownFrom_pure _ (fun pre => Hid (pre = []))) (Own.from (boxS_own _ _ (fun _ => _)) _)) (Own.from (boxS_own _ _ (fun _ => _)) _)) (Own.from (boxS_own _ _ (fun _ => _)) _)) (ownFrom_below (Nat.le_refl _) (by omega)))
    (fun cc => OwnFrom.and (OwnFrom.and (OwnFrom.and (ownFrom_pure _ (fun pre => cc = .ret ∧ Hid (pre ≠ []))) (Own.from (boxS_own _ _ (fun _ => _)) _)) (Own.from (boxS_own _ _ (fun _ => _)) _)) (ownFrom_below (Nat.le_refl _) (by omega)))
    ⟨⟨⟨⟨rfl, bW3⟩, bZ3⟩, bE3⟩, hB3⟩
    (fun x a' V => a' = { tmps := #[.agg #[.int .i64 full, .int .i64 read, .int .i64 slip, .int .i64 skew, .int .i64 circ, .int .i64 glo, .int .i64 ghi, .int .i64 wrn], .slice A ws.length c, .pointer (some ⟨w.heap.size, 0, none⟩), undef, .pointer (some ⟨w.heap.size + 1, 0, none⟩), .pointer (some ⟨w.heap.size + 1 + 1, 0, none⟩), .int .i64 0, .pointer (some ⟨w2.heap.size, 0, none⟩), .agg #[.int .i64 full, .int .i64 read, .int .i64 slip, .int .i64 skew, .int .i64 circ, .int .i64 glo, .int .i64 ghi, .int .i64 wrn], .slice A ws.length c, .int .i64 0, .int .i64 0, .bool false, undef, undef, .agg #[.int .i64 full, .int .i64 read, .int .i64 slip, .int .i64 skew, .int .i64 circ, .int .i64 glo, .int .i64 ghi, .int .i64 wrn], .slice A ws.length c, .agg #[.int .i64 full, .int .i64 read, .int .i64 slip, .int .i64 skew, .int .i64 circ, .int .i64 glo, .int .i64 ghi, .int .i64 wrn, .slice A ws.length c], .agg #[.int .i64 full, .int .i64 read, .int .i64 slip, .int .i64 skew, .int .i64 circ, .int .i64 glo, .int .i64 ghi, .int .i64 wrn, .slice A ws.length c], .func (.func 68) #[.agg #[.int .i64 full, .int .i64 read, .int .i64 slip, .int .i64 skew, .int .i64 circ, .int .i64 glo, .int .i64 ghi, .int .i64 wrn, .slice A ws.length c]] #[], .agg #[.int .i64 x.1.1, .int .i64 x.1.2], undef, undef], defers := [] })
    (fun x a' => ownFrom_pure _ (fun _ => _))
    ?assign ?body ?done ?stop
  case assign =>
    rintro l2 pre x V K h hK
    unfold encTr
    gi_wp2
    exact hK _ _ (Apart.refl _ _ _) h (by simp)
  case body =>
    rintro l2 pre x a' V ⟨⟨⟨⟨hp, bW⟩, bZ⟩, bE⟩, hB⟩ rfl hlt
    obtain ⟨⟨⟨s0, s1, s2⟩, s3, s4, s5⟩, s6, s7, s8⟩ := boxS9 bW
    obtain ⟨⟨⟨z0, z1, z2⟩, z3, z4, z5⟩, z6, z7, z8⟩ := boxS9 bZ
    have e0 := bE.cell 0 rfl
    have f0 := bZ.frozen 0
    have f1 := bZ.frozen 1
    have f2 := bZ.frozen 2
    have f3 := bZ.frozen 3
    have f4 := bZ.frozen 4
    have f5 := bZ.frozen 5
    have f6 := bZ.frozen 6
    have f7 := bZ.frozen 7
    have f8 := bZ.frozen 8
    have fe := bE.frozen 0
    gi_wp2
    have bZ4 := (nine_put bZ (.int .i64 full) (.int .i64 read) (.int .i64 slip) (.int .i64 skew) (.int .i64 circ) (.int .i64 glo) (.int .i64 ghi) (.int .i64 wrn) (.slice A ws.length c)).other (B' := w.heap.size + 1 + 1) (by omega) (.int .i64 0)
    have bE4 := (nine_other bE (B' := w.heap.size + 1) (by omega) (.int .i64 full) (.int .i64 read) (.int .i64 slip) (.int .i64 skew) (.int .i64 circ) (.int .i64 glo) (.int .i64 ghi) (.int .i64 wrn) (.slice A ws.length c)).put1 (.int .i64 0)
    have hA4 := (nine_apart (b := w.heap.size) (c := w3.heap.size) (B := w.heap.size + 1) V (by omega) (by omega) (.int .i64 full) (.int .i64 read) (.int .i64 slip) (.int .i64 skew) (.int .i64 circ) (.int .i64 glo) (.int .i64 ghi) (.int .i64 wrn) (.slice A ws.length c)).trans (Apart.setCell _ ⟨w.heap.size + 1 + 1, 0, none⟩ (by simp; omega) (by simp; omega) (.int .i64 0))
    exact ⟨hA4, ⟨⟨⟨rfl, by unfold Hid; simp⟩, bZ4⟩, bE4⟩, hB.trans (hA4.below hB.size)⟩
  case done =>
    rintro D zs V hD rfl ⟨⟨⟨⟨hp, bW⟩, bZ⟩, bE⟩, hB⟩ hK
    obtain ⟨n1, n2⟩ := HN.out hp.out
    have e0 := bE.cell 0 rfl
    obtain ⟨⟨⟨z0, z1, z2⟩, z3, z4, z5⟩, z6, z7, z8⟩ := boxS9 bZ
    have f0 := bZ.frozen 0
    have f1 := bZ.frozen 1
    have f2 := bZ.frozen 2
    have f3 := bZ.frozen 3
    have f4 := bZ.frozen 4
    have f5 := bZ.frozen 5
    have f6 := bZ.frozen 6
    have f7 := bZ.frozen 7
    have f8 := bZ.frozen 8
    have fe := bE.frozen 0
    gi_wp2
    have bZ4 := (nine_put bZ (.int .i64 0) (.int .i64 0) (.int .i64 0) (.int .i64 0) (.int .i64 0) (.int .i64 0) (.int .i64 0) (.int .i64 0) (.slice none 0 0)).other (B' := w.heap.size + 1 + 1) (by omega) (.int .i64 3)
    have bE4 := (nine_other bE (B' := w.heap.size + 1) (by omega) (.int .i64 0) (.int .i64 0) (.int .i64 0) (.int .i64 0) (.int .i64 0) (.int .i64 0) (.int .i64 0) (.int .i64 0) (.slice none 0 0)).put1 (.int .i64 3)
    have hA4 := (nine_apart (b := w.heap.size) (c := w3.heap.size) (B := w.heap.size + 1) V (by omega) (by omega) (.int .i64 0) (.int .i64 0) (.int .i64 0) (.int .i64 0) (.int .i64 0) (.int .i64 0) (.int .i64 0) (.int .i64 0) (.slice none 0 0)).trans (Apart.setCell _ ⟨w.heap.size + 1 + 1, 0, none⟩ (by simp; omega) (by simp; omega) (.int .i64 3))
    have hK4 := hA4.obj hK (.inr hD)
    have hB4 := hB.trans (hA4.below hB.size)
    clear z0 z1 z2 z3 z4 z5 z6 z7 z8 e0 f0 f1 f2 f3 f4 f5 f6 f7 f8 fe hA4 bZ bE bW hB hK
    generalize World.setCell (World.setCell (World.setCell (World.setCell (World.setCell (World.setCell (World.setCell (World.setCell (World.setCell (World.setCell V _ _) _ _) _ _) _ _) _ _) _ _) _ _) _ _) _ _) _ _ = V4 at *
    refine ⟨by simp, .inl ⟨_, _, rfl, run_takeDeferred hK4, ?_⟩⟩
    have bZ5 : BoxS (V4.putObj D (.deferred none)) (w.heap.size + 1) 77 #[.int .i64 0, .int .i64 0, .int .i64 0, .int .i64 0, .int .i64 0, .int .i64 0, .int .i64 0, .int .i64 0, .slice none 0 0] := (World.putObj_heap_other (by omega)).trans bZ4
    have bE5 : BoxS (V4.putObj D (.deferred none)) (w.heap.size + 1 + 1) 29 #[.int .i64 3] := (World.putObj_heap_other (by omega)).trans bE4
    have e5 := bE5.cell 0 rfl
    obtain ⟨⟨⟨z0, z1, z2⟩, z3, z4, z5⟩, z6, z7, z8⟩ := boxS9 bZ5
    refine ⟨.tuple #[.agg #[.int .i64 0, .int .i64 0, .int .i64 0, .int .i64 0, .int .i64 0, .int .i64 0, .int .i64 0, .int .i64 0, .slice none 0 0], .int .i64 3], by simp [results, Tryz.f39, go_sem, z0, z1, z2, z3, z4, z5, z6, z7, z8, e5], by rw [n1, n2], hB4.trans (belowK_b (w := w) (Nat.le_refl _) V4 D _ _ (by omega) hK4 rfl rfl)⟩
  case stop =>
    rintro D cc pre V hD hpre ⟨⟨⟨⟨rfl, hp⟩, bZ⟩, bE⟩, hB⟩ hK
    obtain ⟨n1, n2⟩ := HY.out (fun h => hp.out (by rw [h] at hpre; exact List.prefix_nil.1 hpre))
    gi_wp2
    refine ⟨by simp, .inl ⟨_, _, rfl, run_takeDeferred hK, ?_⟩⟩
    have bZ5 : BoxS (V.putObj D (.deferred none)) (w.heap.size + 1) 77 #[.int .i64 full, .int .i64 read, .int .i64 slip, .int .i64 skew, .int .i64 circ, .int .i64 glo, .int .i64 ghi, .int .i64 wrn, .slice A ws.length c] := (World.putObj_heap_other (by omega)).trans bZ
    have bE5 : BoxS (V.putObj D (.deferred none)) (w.heap.size + 1 + 1) 29 #[.int .i64 0] := (World.putObj_heap_other (by omega)).trans bE
    have e5 := bE5.cell 0 rfl
    obtain ⟨⟨⟨z0, z1, z2⟩, z3, z4, z5⟩, z6, z7, z8⟩ := boxS9 bZ5
    refine ⟨.tuple #[.agg #[.int .i64 full, .int .i64 read, .int .i64 slip, .int .i64 skew, .int .i64 circ, .int .i64 glo, .int .i64 ghi, .int .i64 wrn, .slice A ws.length c], .int .i64 0], by simp [results, Tryz.f39, go_sem, z0, z1, z2, z3, z4, z5, z6, z7, z8, e5], by rw [n1, n2], hB.trans (belowK_b (w := w) (Nat.le_refl _) V D _ _ (by omega) hK rfl rfl)⟩

theorem lay_any (d : Wh.Desk) (A : Option Addr) (c : Nat) (w : World) (hl : d.ws.length ≤ 1000000000) (hg : Wks w w.heap.size A d.ws) :
    Calls Tryz.prog 39 #[.agg (whV d), .slice A d.ws.length c] w (SpPost (Wh.spV d A c) (Wh.spE d) w) := by
  cases hok : Wh.okB d with
  | false =>
    have h1 := Wh.sp_no hok
    have h2 : Wh.spV d A c = Wh.zeroV := by unfold Wh.spV; rw [h1, if_neg (Wh.chkE_no hok)]
    rw [h1, h2]
    exact lay_no d A c w hl hg hok
  | true => exact lay_ok d A c w hg hok
end Go.Proofs.YtmjcdggmofohcaaGreat
namespace Go.Proofs.YtmjcdggmofohcaaGreat
open Go.RowKit Go.Shelf
attribute [local go_sem] Oper.semAt_some
namespace Wh
def manyV (s : Desk) : Int := if spE s = 0 then (truthsL s).length else 0
theorem casesL_len (s : Desk) (hs : Ok s) : (casesL s).length ≤ 410000 := by
  unfold casesL
  rw [casesTo_len]
  have h1 : na s ≤ 10000 := by unfold na; have := hs.g1; have := hs.g3; omega
  have h2 : nb s ≤ 41 := by unfold nb; have := hs.k2; omega
  exact Nat.mul_le_mul h1 h2
theorem truthsL_len (s : Desk) (hs : Ok s) : (truthsL s).length ≤ 410000 := Nat.le_trans (List.length_filter_le _ _) (casesL_len s hs)
end Wh

end Go.Proofs.YtmjcdggmofohcaaGreat
namespace Go.Proofs
open Go.Shelf
def Tryz.keysA_ren : Go.Shelf.Ren := ⟨fun | 7 => 31 | 10 => 59 | n => n, fun | 23 => 64 | 26 => 3 | 3 => 4 | 28 => 69 | 0 => 0 | 27 => 68 | 33 => 112 | 4 => 4 | n => n, fun | n => n⟩
theorem Tryz.keysA : Go.Proofs.SlLaysZI.n7 Tryz.prog Tryz.keysA_ren := {
  mixed := by kernel_rfl
  f7 := ⟨Tryz.f31.name, by decide, Tryz.func31.trans (congrArg some (by kernel_rfl))⟩
  f10 := ⟨Tryz.f59.name, by decide, Tryz.func59.trans (congrArg some (by kernel_rfl))⟩
  t0 := Tryz.underlying0
  a0 := Tryz.isAgg0
  z0 := Tryz.sizeOf0
  v0 := Tryz.zeroValue0
  t4 := Tryz.underlying4
  a4 := Tryz.isAgg4
  z4 := Tryz.sizeOf4
  v4 := Tryz.zeroValue4
  t23 := Tryz.underlying64
  a23 := Tryz.isAgg64
  z23 := Tryz.sizeOf64
  v23 := Tryz.zeroValue64
  t26 := Tryz.underlying3
  a26 := Tryz.isAgg3
  z26 := Tryz.sizeOf3
  v26 := Tryz.zeroValue3
  t27 := Tryz.underlying68
  a27 := Tryz.isAgg68
  z27 := Tryz.sizeOf68
  v27 := Tryz.zeroValue68
  t28 := Tryz.underlying69
  a28 := Tryz.isAgg69
  z28 := Tryz.sizeOf69
  v28 := Tryz.zeroValue69
  t33 := Tryz.underlying112
  a33 := Tryz.isAgg112
  z33 := Tryz.sizeOf112
  v33 := Tryz.zeroValue112 }
def Tryz.sortedA_ren : Go.Shelf.Ren := ⟨fun | 6 => 30 | 8 => 57 | 9 => 58 | 11 => 81 | 13 => 83 | 12 => 82 | 23 => 105 | 24 => 106 | 14 => 96 | 15 => 97 | 16 => 98 | 17 => 99 | 18 => 100 | 19 => 101 | 20 => 102 | 21 => 103 | 22 => 104 | 25 => 110 | 26 => 111 | 27 => 112 | 28 => 113 | 29 => 114 | 30 => 115 | 31 => 118 | n => n, fun | 26 => 3 | 28 => 69 | 24 => 27 | 0 => 0 | 3 => 3 | 37 => 134 | 48 => 150 | 50 => 152 | 4 => 4 | 40 => 144 | 39 => 143 | 45 => 72 | 5 => 5 | 9 => 9 | 51 => 154 | 55 => 158 | 57 => 160 | 58 => 124 | 33 => 112 | n => n, fun | n => n⟩
theorem Tryz.sortedA : Go.Proofs.SlLaysZI.n6 Tryz.prog Tryz.sortedA_ren := {
  mixed := by kernel_rfl
  f6 := ⟨Tryz.f30.name, by decide, Tryz.func30.trans (congrArg some (by kernel_rfl))⟩
  f8 := ⟨Tryz.f57.name, by decide, Tryz.func57.trans (congrArg some (by kernel_rfl))⟩
  f11 := ⟨Tryz.f81.name, by decide, Tryz.func81.trans (congrArg some (by kernel_rfl))⟩
  t0 := Tryz.underlying0
  a0 := Tryz.isAgg0
  z0 := Tryz.sizeOf0
  v0 := Tryz.zeroValue0
  t24 := Tryz.underlying27
  a24 := Tryz.isAgg27
  z24 := Tryz.sizeOf27
  v24 := Tryz.zeroValue27
  t26 := Tryz.underlying3
  a26 := Tryz.isAgg3
  z26 := Tryz.sizeOf3
  v26 := Tryz.zeroValue3
  t28 := Tryz.underlying69
  a28 := Tryz.isAgg69
  z28 := Tryz.sizeOf69
  v28 := Tryz.zeroValue69
  i26 := by kernel_rfl }
def Tryz.sortA_ren : Go.Shelf.Ren := ⟨fun | 5 => 58 | 8 => 83 | 7 => 82 | 19 => 105 | 20 => 106 | 10 => 96 | 11 => 97 | 12 => 98 | 13 => 99 | 14 => 100 | 15 => 101 | 16 => 102 | 17 => 103 | 18 => 104 | 30 => 110 | 31 => 111 | 32 => 112 | 33 => 113 | 34 => 114 | 35 => 115 | 40 => 118 | n => n, fun | 23 => 27 | 25 => 3 | 3 => 3 | 32 => 134 | 22 => 27 | 0 => 0 | 44 => 150 | 46 => 152 | 4 => 4 | 36 => 144 | 35 => 143 | 41 => 72 | 5 => 5 | 9 => 9 | 53 => 154 | 57 => 158 | 63 => 160 | 64 => 124 | n => n, fun | n => n⟩
theorem Tryz.sortA : Go.Proofs.SlLaysM.n5 Tryz.prog Tryz.sortA_ren := {
  mixed := by kernel_rfl
  f5 := ⟨Tryz.f58.name, by decide, Tryz.func58.trans (congrArg some (by kernel_rfl))⟩
  f7 := ⟨Tryz.f82.name, by decide, Tryz.func82.trans (congrArg some (by kernel_rfl))⟩
  f8 := Tryz.func83.trans (congrArg some (by kernel_rfl))
  f10 := ⟨Tryz.f96.name, by decide, Tryz.func96.trans (congrArg some (by kernel_rfl))⟩
  f11 := ⟨Tryz.f97.name, by decide, Tryz.func97.trans (congrArg some (by kernel_rfl))⟩
  f12 := ⟨Tryz.f98.name, by decide, Tryz.func98.trans (congrArg some (by kernel_rfl))⟩
  f13 := ⟨Tryz.f99.name, by decide, Tryz.func99.trans (congrArg some (by kernel_rfl))⟩
  f14 := ⟨Tryz.f100.name, by decide, Tryz.func100.trans (congrArg some (by kernel_rfl))⟩
  f15 := ⟨Tryz.f101.name, by decide, Tryz.func101.trans (congrArg some (by kernel_rfl))⟩
  f16 := ⟨Tryz.f102.name, by decide, Tryz.func102.trans (congrArg some (by kernel_rfl))⟩
  f17 := ⟨Tryz.f103.name, by decide, Tryz.func103.trans (congrArg some (by kernel_rfl))⟩
  f18 := ⟨Tryz.f104.name, by decide, Tryz.func104.trans (congrArg some (by kernel_rfl))⟩
  f19 := Tryz.func105.trans (congrArg some (by kernel_rfl))
  f20 := Tryz.func106.trans (congrArg some (by kernel_rfl))
  f30 := ⟨Tryz.f110.name, by decide, Tryz.func110.trans (congrArg some (by kernel_rfl))⟩
  f31 := Tryz.func111.trans (congrArg some (by kernel_rfl))
  f32 := Tryz.func112.trans (congrArg some (by kernel_rfl))
  f33 := ⟨Tryz.f113.name, by decide, Tryz.func113.trans (congrArg some (by kernel_rfl))⟩
  f34 := ⟨Tryz.f114.name, by decide, Tryz.func114.trans (congrArg some (by kernel_rfl))⟩
  f35 := ⟨Tryz.f115.name, by decide, Tryz.func115.trans (congrArg some (by kernel_rfl))⟩
  f40 := ⟨Tryz.f118.name, by decide, Tryz.func118.trans (congrArg some (by kernel_rfl))⟩
  t0 := Tryz.underlying0
  a0 := Tryz.isAgg0
  z0 := Tryz.sizeOf0
  v0 := Tryz.zeroValue0
  t3 := Tryz.underlying3
  a3 := Tryz.isAgg3
  z3 := Tryz.sizeOf3
  v3 := Tryz.zeroValue3
  t4 := Tryz.underlying4
  a4 := Tryz.isAgg4
  z4 := Tryz.sizeOf4
  v4 := Tryz.zeroValue4
  t5 := Tryz.underlying5
  a5 := Tryz.isAgg5
  z5 := Tryz.sizeOf5
  v5 := Tryz.zeroValue5
  t9 := Tryz.underlying9
  a9 := Tryz.isAgg9
  z9 := Tryz.sizeOf9
  v9 := Tryz.zeroValue9
  t22 := Tryz.underlying27
  a22 := Tryz.isAgg27
  z22 := Tryz.sizeOf27
  v22 := Tryz.zeroValue27
  t23 := Tryz.underlying27
  a23 := Tryz.isAgg27
  z23 := Tryz.sizeOf27
  v23 := Tryz.zeroValue27
  t25 := Tryz.underlying3
  a25 := Tryz.isAgg3
  z25 := Tryz.sizeOf3
  v25 := Tryz.zeroValue3
  t32 := Tryz.underlying134
  a32 := Tryz.isAgg134
  z32 := Tryz.sizeOf134
  v32 := Tryz.zeroValue134
  t35 := Tryz.underlying143
  a35 := Tryz.isAgg143
  z35 := Tryz.sizeOf143
  v35 := Tryz.zeroValue143
  t36 := Tryz.underlying144
  a36 := Tryz.isAgg144
  z36 := Tryz.sizeOf144
  v36 := Tryz.zeroValue144
  t41 := Tryz.underlying72
  a41 := Tryz.isAgg72
  z41 := Tryz.sizeOf72
  v41 := Tryz.zeroValue72
  t44 := Tryz.underlying150
  a44 := Tryz.isAgg150
  z44 := Tryz.sizeOf150
  v44 := Tryz.zeroValue150
  t46 := Tryz.underlying152
  a46 := Tryz.isAgg152
  z46 := Tryz.sizeOf152
  v46 := Tryz.zeroValue152
  t53 := Tryz.underlying154
  a53 := Tryz.isAgg154
  z53 := Tryz.sizeOf154
  v53 := Tryz.zeroValue154
  t57 := Tryz.underlying158
  a57 := Tryz.isAgg158
  z57 := Tryz.sizeOf158
  v57 := Tryz.zeroValue158
  t63 := Tryz.underlying160
  a63 := Tryz.isAgg160
  z63 := Tryz.sizeOf160
  v63 := Tryz.zeroValue160
  t64 := Tryz.underlying124
  a64 := Tryz.isAgg124
  z64 := Tryz.sizeOf124
  v64 := Tryz.zeroValue124 }
end Go.Proofs
