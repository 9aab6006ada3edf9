/- Wheels: how many truths there are. -/
import Derived.Test.YtecmlakcpgkfbaaWhG
namespace Go.Proofs.Ytecmlakcpgkfbaa
open Go.RowKit Go.Shelf
attribute [local go_sem] Oper.semAt_some
namespace Wh
def manyV (s : Desk) : Int := if spE s = 0 then (truthsL s).length else 0
theorem casesL_len (s : Desk) (hs : Ok s) : (casesL s).length ≤ 410000 := by
  unfold casesL
  rw [casesTo_len]
  have h1 : na s ≤ 10000 := by unfold na; have := hs.g1; have := hs.g3; omega
  have h2 : nb s ≤ 41 := by unfold nb; have := hs.k2; omega
  exact Nat.mul_le_mul h1 h2
theorem truthsL_len (s : Desk) (hs : Ok s) : (truthsL s).length ≤ 410000 := Nat.le_trans (List.length_filter_le _ _) (casesL_len s hs)
end Wh
def TwoPost (v x : Int) (w : World) (e : Ending) (w' : World) : Prop := e = .returned (.tuple #[.int .i64 v, .int .i64 x]) ∧ Below w.heap.size w w'

set_option maxRecDepth 100000 in
set_option maxHeartbeats 8000000 in
theorem Many_any (s : Wh.Desk) (A : Option Addr) (c : Nat) (w : World) (hl : s.ws.length ≤ 1000000000) (hg : Wks w w.heap.size A s.ws) :
    Calls Try.prog 18 #[.agg (whV s), .slice A s.ws.length c] w (TwoPost (Wh.manyV s) (Wh.spE s) w) := by
  have HP : Hid (∀ W, Below w.heap.size w W → Calls Try.prog 55 #[.agg (whV s), .slice A s.ws.length c] W (SpPost (Wh.spV s A c) (Wh.spE s) W)) := fun W hW => lay_any s A c W hl ((hg.keep hW).wider hW.size)
  by_cases h0 : Wh.spE s = 0
  · obtain ⟨hok, hne⟩ := Wh.sp_ok h0
    have hs := Wh.ok_of hok
    have hlen := Wh.ok_len hok
    have HSEQ : Hid (∀ w', Below w.heap.size w w' → SeqFar Try.prog 56 #[.agg (dkV s A c)] #[] encTr w.heap.size (fun ys => ys = Wh.truthsL s) (fun pre => pre <+: Wh.truthsL s) 500000 w') := fun w' h => truths_far s hs (by omega) (Wh.ok_sm hok) A c w.heap.size w' h.size (hg.keep h)
    have HM : Hid (Wh.manyV s = (Wh.truthsL s).length) := by unfold Hid Wh.manyV; rw [if_pos h0]
    rw [Wh.spV_yes h0, h0] at HP
    rw [h0]
    clear hg hok hs hne h0 hlen
    generalize Wh.truthsL s = TL at *
    generalize Wh.manyV s = MV at *
    obtain ⟨full, read, slip, skew, circ, glo, ghi, wrn, ws⟩ := s
    unfold dkV at *
    unfold whV at *
    dsimp only at *
    refine (callsIn_wide (n := 8)).1 ?_
    refine callsIn_of_wp_marks Try.func18 rfl trivial ?_ rfl
    simp only [Try.ntmps18, List.size_toArray, List.length_cons, List.length_nil, Nat.reduceAdd, Nat.reduceSub, Array.replicate_succ, Array.replicate_zero, List.push_toArray, List.append_toArray, List.nil_append, List.cons_append]
    gi_wp2
    have hB1 : Below w.heap.size w (w.alloc (.cells #[.int .i64 full, .int .i64 read, .int .i64 slip, .int .i64 skew, .int .i64 circ, .int .i64 glo, .int .i64 ghi, .int .i64 wrn] 25)) := by (repeat' (first | (with_reducible exact Below.refl _ _) | (with_reducible assumption) | (with_reducible refine Below.alloc ?_ ?_ _) | (with_reducible refine Below.drew ?_) | (with_reducible refine Below.setCell ?_ ?_ _) | go_size | (exact (by simp)) | omega))
    generalize World.alloc w _ = w1 at *
    refine ⟨trivial, (callsIn_wide.2 (HP.out _ hB1)).mono ?_⟩
    rintro e w2 ⟨rfl, hb2⟩
    have hB2 := hB1.trans (hb2.mono hB1.size)
    clear hb2 hB1 HP
    gi_wp2
    have bM3 := BoxS.new (w2.alloc (.cells #[.int .i64 full, .int .i64 read, .int .i64 slip, .int .i64 skew, .int .i64 circ, .int .i64 glo, .int .i64 ghi, .int .i64 wrn, .slice A ws.length c] 77)) 3 #[.int .i64 0]
    rw [World.size_alloc] at bM3
    have hB3 : Below w.heap.size w ((w2.alloc (.cells #[.int .i64 full, .int .i64 read, .int .i64 slip, .int .i64 skew, .int .i64 circ, .int .i64 glo, .int .i64 ghi, .int .i64 wrn, .slice A ws.length c] 77)).alloc (.cells #[.int .i64 0] 3)) := (hB2.alloc hB2.size _).alloc (by have := hB2.size; simp; omega) _
    have hz3 : ((w2.alloc (.cells #[.int .i64 full, .int .i64 read, .int .i64 slip, .int .i64 skew, .int .i64 circ, .int .i64 glo, .int .i64 ghi, .int .i64 wrn, .slice A ws.length c] 77)).alloc (.cells #[.int .i64 0] 3)).heap.size = w2.heap.size + 2 := by simp
    have hws := hB2.size
    clear hB2
    generalize World.alloc (World.alloc w2 _) _ = w3 at *
    refine wpIn_far (n₀ := w.heap.size) (gf := 56) (pb := #[.agg #[.int .i64 full, .int .i64 read, .int .i64 slip, .int .i64 skew, .int .i64 circ, .int .i64 glo, .int .i64 ghi, .int .i64 wrn, .slice A ws.length c]]) (lb := #[]) rfl (enters_of Try.func56 (by kernel_rfl) rfl)
      (HSEQ.out w3 hB3) (Below.refl _ _) (by omega) (fun _ => rfl)
      (fun pre V => BoxS V (w2.heap.size + 1) 3 #[.int .i64 (pre.length : Nat)] ∧ Below w.heap.size w V)
      (fun _ _ _ => False)
      (OwnFrom.and (Own.from (boxS_own _ _ (fun pre : List Wh.TrS => #[.int .i64 (pre.length : Nat)])) _) (ownFrom_below (Nat.le_refl _) (by omega)))
      (fun _ _ _ _ _ hs _ _ => hs)
      ⟨bM3, hB3⟩
      (fun x a' V => a' = { tmps := #[.agg #[.int .i64 full, .int .i64 read, .int .i64 slip, .int .i64 skew, .int .i64 circ, .int .i64 glo, .int .i64 ghi, .int .i64 wrn], .slice A ws.length c, .pointer (some ⟨w.heap.size, 0, none⟩), undef, .int .i64 0, .int .i64 0, .pointer (some ⟨w2.heap.size, 0, none⟩), .int .i64 0, .pointer (some ⟨w2.heap.size + 1, 0, none⟩), .tuple #[.agg #[.int .i64 full, .int .i64 read, .int .i64 slip, .int .i64 skew, .int .i64 circ, .int .i64 glo, .int .i64 ghi, .int .i64 wrn, .slice A ws.length c], .int .i64 0], .agg #[.int .i64 full, .int .i64 read, .int .i64 slip, .int .i64 skew, .int .i64 circ, .int .i64 glo, .int .i64 ghi, .int .i64 wrn], .slice A ws.length c, .tuple #[.agg #[.int .i64 full, .int .i64 read, .int .i64 slip, .int .i64 skew, .int .i64 circ, .int .i64 glo, .int .i64 ghi, .int .i64 wrn, .slice A ws.length c], .int .i64 0], .agg #[.int .i64 full, .int .i64 read, .int .i64 slip, .int .i64 skew, .int .i64 circ, .int .i64 glo, .int .i64 ghi, .int .i64 wrn, .slice A ws.length c], .int .i64 0, .int .i64 0, .bool false, undef, .agg #[.int .i64 full, .int .i64 read, .int .i64 slip, .int .i64 skew, .int .i64 circ, .int .i64 glo, .int .i64 ghi, .int .i64 wrn, .slice A ws.length c], .func (.func 56) #[.agg #[.int .i64 full, .int .i64 read, .int .i64 slip, .int .i64 skew, .int .i64 circ, .int .i64 glo, .int .i64 ghi, .int .i64 wrn, .slice A ws.length c]] #[], .agg #[.int .i64 x.1.1, .int .i64 x.1.2], undef, undef, undef], defers := [] })
      (fun x a' => ownFrom_pure _ (fun _ => _))
      ?assign ?body ?done ?stop
    case assign =>
      rintro l2 pre x V K h hK
      unfold encTr
      gi_wp2
      exact hK _ _ (Apart.refl _ _ _) h (by simp)
    case body =>
      rintro l2 pre x a' V ⟨bM, hB⟩ rfl hlt
      have e0 := bM.cell 0 rfl
      have f0 := bM.frozen 0
      have hw1 : IntKind.i64.wrap ((pre.length : Int) + 1) = (pre.length : Int) + 1 := IntWalk.i64_in _ (by omega)
      gi_wp2
      have hA := Apart.setCell (b := w.heap.size) (c := w3.heap.size) V ⟨w2.heap.size + 1, 0, none⟩ (by simp; omega) (by simp; omega) (.int .i64 ((pre.length : Int) + 1))
      refine ⟨hA, ?_, hB.trans (hA.below hB.size)⟩
      have := bM.put1 (.int .i64 ((pre.length : Int) + 1))
      rw [List.length_append]
      exact this
    case done =>
      rintro D zs V hD rfl ⟨bM, hB⟩ hK
      have e0 := bM.cell 0 rfl
      gi_wp2
      refine ⟨by simp, .inl ⟨_, _, rfl, run_takeDeferred hK, ?_⟩⟩
      refine ⟨.tuple #[.int .i64 (zs.length : Nat), .int .i64 0], by simp [results, Try.f18, go_sem], by rw [HM.out], hB.trans (belowK_b (w := w) (Nat.le_refl _) V D _ _ (by omega) hK rfl rfl)⟩
    case stop =>
      rintro D cc pre V hD hpre h hK
      exact h.elim
  · have hne : ¬ Wh.spE s = 0 := h0
    have HM : Hid (Wh.manyV s = 0) := by unfold Hid Wh.manyV; rw [if_neg h0]
    rw [Wh.spV_no h0] at HP
    have hb : (Wh.spE s == 0) = false := by simpa using h0
    clear hg h0
    generalize Wh.manyV s = MV at *
    generalize Wh.spE s = E at *
    obtain ⟨full, read, slip, skew, circ, glo, ghi, wrn, ws⟩ := s
    unfold whV at *
    dsimp only at *
    go_enter Try.func18, Try.ntmps18
    go_wp2_with fail
    have hB1 : Below w.heap.size w (w.alloc (.cells #[.int .i64 full, .int .i64 read, .int .i64 slip, .int .i64 skew, .int .i64 circ, .int .i64 glo, .int .i64 ghi, .int .i64 wrn] 25)) := by (repeat' (first | (with_reducible exact Below.refl _ _) | (with_reducible assumption) | (with_reducible refine Below.alloc ?_ ?_ _) | (with_reducible refine Below.drew ?_) | (with_reducible refine Below.setCell ?_ ?_ _) | go_size | (exact (by simp)) | omega))
    generalize World.alloc w _ = w1 at *
    refine (HP.out _ hB1).mono ?_
    rintro e w2 ⟨rfl, hb2⟩
    have hB2 := hB1.trans (hb2.mono hB1.size)
    go_wp2_with fail
    go_returns
    exact ⟨by rw [HM.out]; rfl, hB2.alloc hB2.size _⟩
end Go.Proofs.Ytecmlakcpgkfbaa
