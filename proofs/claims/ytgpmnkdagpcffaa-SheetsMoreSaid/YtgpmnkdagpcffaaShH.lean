/- Sheets: how many truths there are. -/
import Derived.Test.YtgpmnkdagpcffaaShG
namespace Go.Proofs.Ytgpmnkdagpcffaa
open Go.RowKit Go.Shelf
attribute [local go_sem] Oper.semAt_some
namespace Sh
def manyV (s : Sheet) : Int := if spE s = 0 then (truthsL s).length else 0
theorem sp_three (s : Sheet) : spE s = 0 ∨ spE s = 3 ∨ spE s = 40 := by
  unfold spE
  split
  · split <;> simp
  · simp
theorem sp_ok {s : Sheet} (h : spE s = 0) : okB s = true ∧ truthsL s ≠ [] := by
  unfold spE at h
  split at h
  · rename_i h1
    split at h
    · omega
    · rename_i h2; exact ⟨h1, h2⟩
  · omega
theorem spV_yes {s : Sheet} (h : spE s = 0) (A : Option Addr) (c : Nat) : spV s A c = shV s A c := by unfold spV; rw [if_pos h]
theorem spV_no {s : Sheet} (h : spE s ≠ 0) (A : Option Addr) (c : Nat) : spV s A c = #[.int .i64 0, .int .i64 0, .int .i64 0, .int .i64 0, .slice none 0 0, .int .i64 0] := by unfold spV; rw [if_neg h]; rfl
theorem casesL_len (s : Sheet) (hs : Ok s) : (casesL s).length ≤ 40401 := by
  unfold casesL
  rw [casesTo_len]
  have h1 : na s ≤ 201 := by unfold na; have := hs.a1; have := hs.a3; omega
  have h2 : nb s ≤ 201 := by unfold nb; have := hs.b1; have := hs.b3; omega
  exact Nat.mul_le_mul h1 h2
theorem truthsL_len (s : Sheet) (hs : Ok s) : (truthsL s).length ≤ 40401 := Nat.le_trans (List.length_filter_le _ _) (casesL_len s hs)
end Sh
def TwoPost (v x : Int) (w : World) (e : Ending) (w' : World) : Prop := e = .returned (.tuple #[.int .i64 v, .int .i64 x]) ∧ Below w.heap.size w w'

set_option maxRecDepth 100000 in
set_option maxHeartbeats 8000000 in
theorem Many_any (s : Sheet) (A : Option Addr) (c : Nat) (w : World) (hl : s.cs.length ≤ 1000000000) (hg : Cts w w.heap.size A s.cs) :
    Calls Try.prog 17 #[.agg (shV s A c)] w (TwoPost (Sh.manyV s) (Sh.spE s) w) := by
  have HP : Hid (∀ W, Below w.heap.size w W → Calls Try.prog 60 #[.agg (shV s A c)] W (SpPost (Sh.spV s A c) (Sh.spE s) W)) := fun W hW => spread_any s A c W hl ((hg.keep hW).wider hW.size)
  by_cases h0 : Sh.spE s = 0
  · obtain ⟨hok, hne⟩ := Sh.sp_ok h0
    have hs := Sh.ok_of hok
    have HSEQ : Hid (∀ w', Below w.heap.size w w' → SeqFar Try.prog 61 #[.agg (shV s A c)] #[] encFa w.heap.size (fun ys => ys = Sh.truthsL s) (fun pre => pre <+: Sh.truthsL s) 50000 w') := fun w' h => truths_far s hs A c w.heap.size w' h.size (hg.keep h)
    have HM : Hid (Sh.manyV s = (Sh.truthsL s).length) := by unfold Hid Sh.manyV; rw [if_pos h0]
    rw [Sh.spV_yes h0, h0] at HP
    rw [h0]
    clear hg hok hs hne h0
    obtain ⟨al, ah, bl, bh, cs, wrn⟩ := s
    unfold shV at HP HSEQ ⊢
    dsimp only at *
    generalize Sh.truthsL ⟨al, ah, bl, bh, cs, wrn⟩ = TL at *
    generalize Sh.manyV ⟨al, ah, bl, bh, cs, wrn⟩ = MV at *
    refine (callsIn_wide (n := 8)).1 ?_
    refine callsIn_of_wp_marks Try.func17 rfl trivial ?_ rfl
    simp only [Try.ntmps17, List.size_toArray, List.length_cons, List.length_nil, Nat.reduceAdd, Nat.reduceSub, Array.replicate_succ, Array.replicate_zero, List.push_toArray, List.append_toArray, List.nil_append, List.cons_append]
    gi_wp2
    have hB1 : Below w.heap.size w (w.alloc (.cells #[.int .i64 al, .int .i64 ah, .int .i64 bl, .int .i64 bh, .slice A cs.length c, .int .i64 wrn] 26)) := by (repeat' (first | (with_reducible exact Below.refl _ _) | (with_reducible assumption) | (with_reducible refine Below.alloc ?_ ?_ _) | (with_reducible refine Below.drew ?_) | (with_reducible refine Below.setCell ?_ ?_ _) | go_size | (exact (by simp)) | omega))
    generalize World.alloc w _ = w1 at *
    refine ⟨trivial, (callsIn_wide.2 (HP.out _ hB1)).mono ?_⟩
    rintro e w2 ⟨rfl, hb2⟩
    have hB2 := hB1.trans (hb2.mono hB1.size)
    clear hb2 hB1 HP
    gi_wp2
    have bM3 := BoxS.new (w2.alloc (.cells #[.int .i64 al, .int .i64 ah, .int .i64 bl, .int .i64 bh, .slice A cs.length c, .int .i64 wrn] 87)) 3 #[.int .i64 0]
    rw [World.size_alloc] at bM3
    have hB3 : Below w.heap.size w ((w2.alloc (.cells #[.int .i64 al, .int .i64 ah, .int .i64 bl, .int .i64 bh, .slice A cs.length c, .int .i64 wrn] 87)).alloc (.cells #[.int .i64 0] 3)) := (hB2.alloc hB2.size _).alloc (by have := hB2.size; simp; omega) _
    have hz3 : ((w2.alloc (.cells #[.int .i64 al, .int .i64 ah, .int .i64 bl, .int .i64 bh, .slice A cs.length c, .int .i64 wrn] 87)).alloc (.cells #[.int .i64 0] 3)).heap.size = w2.heap.size + 2 := by simp
    have hws := hB2.size
    clear hB2
    generalize World.alloc (World.alloc w2 _) _ = w3 at *
    refine wpIn_far (n₀ := w.heap.size) (gf := 61) (pb := #[.agg #[.int .i64 al, .int .i64 ah, .int .i64 bl, .int .i64 bh, .slice A cs.length c, .int .i64 wrn]]) (lb := #[]) rfl (enters_of Try.func61 (by kernel_rfl) rfl)
      (HSEQ.out w3 hB3) (Below.refl _ _) (by omega) (fun _ => rfl)
      (fun pre V => BoxS V (w2.heap.size + 1) 3 #[.int .i64 (pre.length : Nat)] ∧ Below w.heap.size w V)
      (fun _ _ _ => False)
      (OwnFrom.and (Own.from (boxS_own _ _ (fun pre : List Sh.FaS => #[.int .i64 (pre.length : Nat)])) _) (ownFrom_below (Nat.le_refl _) (by omega)))
      (fun _ _ _ _ _ hs _ _ => hs)
      ⟨bM3, hB3⟩
      (fun x a' V => a' = { tmps := #[.agg #[.int .i64 al, .int .i64 ah, .int .i64 bl, .int .i64 bh, .slice A cs.length c, .int .i64 wrn], .pointer (some ⟨w.heap.size, 0, none⟩), .int .i64 0, .int .i64 0, .pointer (some ⟨w2.heap.size, 0, none⟩), .int .i64 0, .pointer (some ⟨w2.heap.size + 1, 0, none⟩), .tuple #[.agg #[.int .i64 al, .int .i64 ah, .int .i64 bl, .int .i64 bh, .slice A cs.length c, .int .i64 wrn], .int .i64 0], .agg #[.int .i64 al, .int .i64 ah, .int .i64 bl, .int .i64 bh, .slice A cs.length c, .int .i64 wrn], .tuple #[.agg #[.int .i64 al, .int .i64 ah, .int .i64 bl, .int .i64 bh, .slice A cs.length c, .int .i64 wrn], .int .i64 0], .agg #[.int .i64 al, .int .i64 ah, .int .i64 bl, .int .i64 bh, .slice A cs.length c, .int .i64 wrn], .int .i64 0, .int .i64 0, .bool false, undef, .agg #[.int .i64 al, .int .i64 ah, .int .i64 bl, .int .i64 bh, .slice A cs.length c, .int .i64 wrn], .func (.func 61) #[.agg #[.int .i64 al, .int .i64 ah, .int .i64 bl, .int .i64 bh, .slice A cs.length c, .int .i64 wrn]] #[], .agg #[.int .i64 x.1.1, .int .i64 x.1.2], undef, undef, undef], defers := [] })
      (fun x a' => ownFrom_pure _ (fun _ => _))
      ?assign ?body ?done ?stop
    case assign =>
      rintro l2 pre x V K h hK
      unfold encFa
      gi_wp2
      exact hK _ _ (Apart.refl _ _ _) h (by simp)
    case body =>
      rintro l2 pre x a' V ⟨bM, hB⟩ rfl hlt
      have e0 := bM.cell 0 rfl
      have f0 := bM.frozen 0
      have hw1 : IntKind.i64.wrap ((pre.length : Int) + 1) = (pre.length : Int) + 1 := IntWalk.i64_in _ (by omega)
      gi_wp2
      have hA := Apart.setCell (b := w.heap.size) (c := w3.heap.size) V ⟨w2.heap.size + 1, 0, none⟩ (by simp; omega) (by simp; omega) (.int .i64 ((pre.length : Int) + 1))
      refine ⟨hA, ?_, hB.trans (hA.below hB.size)⟩
      have := bM.put1 (.int .i64 ((pre.length : Int) + 1))
      rw [List.length_append]
      exact this
    case done =>
      rintro D zs V hD rfl ⟨bM, hB⟩ hK
      have e0 := bM.cell 0 rfl
      gi_wp2
      refine ⟨by simp, .inl ⟨_, _, rfl, run_takeDeferred hK, ?_⟩⟩
      refine ⟨.tuple #[.int .i64 (zs.length : Nat), .int .i64 0], by simp [results, Try.f17, go_sem], by rw [HM.out], hB.trans (belowK_b (w := w) (Nat.le_refl _) V D _ _ (by omega) hK rfl rfl)⟩
    case stop =>
      rintro D cc pre V hD hpre h hK
      exact h.elim
  · have hne : ¬ Sh.spE s = 0 := h0
    have HM : Hid (Sh.manyV s = 0) := by unfold Hid Sh.manyV; rw [if_neg h0]
    rw [Sh.spV_no h0] at HP
    have hb : (Sh.spE s == 0) = false := by simpa using h0
    clear hg h0
    obtain ⟨al, ah, bl, bh, cs, wrn⟩ := s
    unfold shV at HP ⊢
    dsimp only at *
    generalize Sh.manyV ⟨al, ah, bl, bh, cs, wrn⟩ = MV at *
    generalize Sh.spE ⟨al, ah, bl, bh, cs, wrn⟩ = E at *
    go_enter Try.func17, Try.ntmps17
    go_wp2_with fail
    have hB1 : Below w.heap.size w (w.alloc (.cells #[.int .i64 al, .int .i64 ah, .int .i64 bl, .int .i64 bh, .slice A cs.length c, .int .i64 wrn] 26)) := by (repeat' (first | (with_reducible exact Below.refl _ _) | (with_reducible assumption) | (with_reducible refine Below.alloc ?_ ?_ _) | (with_reducible refine Below.drew ?_) | (with_reducible refine Below.setCell ?_ ?_ _) | go_size | (exact (by simp)) | omega))
    generalize World.alloc w _ = w1 at *
    refine (HP.out _ hB1).mono ?_
    rintro e w2 ⟨rfl, hb2⟩
    have hB2 := hB1.trans (hb2.mono hB1.size)
    go_wp2_with fail
    go_returns
    exact ⟨by rw [HM.out]; rfl, hB2.alloc hB2.size _⟩
end Go.Proofs.Ytgpmnkdagpcffaa
