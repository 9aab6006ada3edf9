/- Sheets: what is known of something in all truths. -/
import Derived.Test.YtgpmnkdagpcffaaShH
namespace Go.Proofs.Ytgpmnkdagpcffaa
open Go.RowKit Go.Shelf
attribute [local go_sem] Oper.semAt_some
namespace Sh
def knownV (b : FaS → Bool) (L : List FaS) : Int := if L.all b then 1 else if L.any b then 3 else 2
theorem prefix_any {b : FaS → Bool} {p L : List FaS} (h : p <+: L) (h1 : p.any b = true) : L.any b = true := by
  obtain ⟨x, hx, hb⟩ := List.any_eq_true.1 h1
  exact List.any_eq_true.2 ⟨x, h.subset hx, hb⟩
theorem prefix_all {b : FaS → Bool} {p L : List FaS} (h : p <+: L) (h1 : p.all b = false) : L.all b = false := by
  cases e : L.all b with
  | false => rfl
  | true =>
    rw [List.all_eq_true] at e
    have : p.all b = true := List.all_eq_true.2 (fun x hx => e x (h.subset hx))
    rw [this] at h1
    cases h1
theorem any_snoc (b : FaS → Bool) (p : List FaS) (x : FaS) : (p ++ [x]).any b = (p.any b || b x) := by simp
theorem all_snoc (b : FaS → Bool) (p : List FaS) (x : FaS) : (p ++ [x]).all b = (p.all b && b x) := by simp
theorem one_of {b : FaS → Bool} {p : List FaS} (h : p.any b = false) (h2 : p.all b = true) : p = [] := by
  cases p with
  | nil => rfl
  | cons x l => simp at h h2; rw [h.1] at h2; simp at h2
end Sh

set_option maxRecDepth 100000 in
set_option maxHeartbeats 8000000 in
theorem known_any (s : Sheet) (hs : Sh.Ok s) (hne : Sh.truthsL s ≠ []) (A : Option Addr) (c : Nat) (g : Nat) (lb : Array Value) (b : Sh.FaS → Bool) (w : World) (hg : Cts w w.heap.size A s.cs)
    (eg : ∀ args W, (callFunc g args).run Try.prog W = .ok (.enter g args) W)
    (hb : ∀ (x : Sh.FaS) W, Below w.heap.size w W → Calls Try.prog g (#[.agg #[.int .i64 x.1.1, .int .i64 x.1.2]] ++ lb) W fun e W' => e = .returned (.bool (b x)) ∧ Below W.heap.size W W') :
    Calls Try.prog 73 #[.agg (shV s A c), .func (.func g) #[] lb] w (ErrPost (Sh.knownV b (Sh.truthsL s)) w) := by
  have HSEQ : Hid (∀ w', Below w.heap.size w w' → SeqFar Try.prog 61 #[.agg (shV s A c)] #[] encFa w.heap.size (fun ys => ys = Sh.truthsL s) (fun pre => pre <+: Sh.truthsL s) 50000 w') := fun w' h => truths_far s hs A c w.heap.size w' h.size (hg.keep h)
  have HB := Lib.hid hb
  have HNE := Lib.hid hne
  clear hg hs hb hne
  obtain ⟨al, ah, bl, bh, cs, wrn⟩ := s
  unfold shV at HSEQ ⊢
  dsimp only at *
  generalize Sh.truthsL ⟨al, ah, bl, bh, cs, wrn⟩ = TL at *
  have HV : Hid (Sh.knownV b TL = if TL.all b then 1 else if TL.any b then 3 else 2) := rfl
  generalize Sh.knownV b TL = KV at *
  refine (callsIn_wide (n := 8)).1 ?_
  refine callsIn_of_wp_marks Try.func73 rfl trivial ?_ rfl
  simp only [Try.ntmps73, List.size_toArray, List.length_cons, List.length_nil, Nat.reduceAdd, Nat.reduceSub, Array.replicate_succ, Array.replicate_zero, List.push_toArray, List.append_toArray, List.nil_append, List.cons_append]
  gi_wp2
  obtain ⟨B1, hB1⟩ : ∃ B1, B1 = w.heap.size + 1 := ⟨_, rfl⟩
  obtain ⟨B2, hB2⟩ : ∃ B2, B2 = w.heap.size + 1 + 1 := ⟨_, rfl⟩
  obtain ⟨B3, hB3⟩ : ∃ B3, B3 = w.heap.size + 1 + 1 + 1 := ⟨_, rfl⟩
  obtain ⟨B4, hB4⟩ : ∃ B4, B4 = w.heap.size + 1 + 1 + 1 + 1 := ⟨_, rfl⟩
  have bG0 : Boxed (((((w.alloc (.cells #[.int .i64 al, .int .i64 ah, .int .i64 bl, .int .i64 bh, .slice A cs.length c, .int .i64 wrn] 87)).alloc (.cells #[.func (.func g) #[] lb] 107)).alloc (.cells #[.int .i64 0] 3)).alloc (.cells #[.bool false] 4)).alloc (.cells #[.bool true] 4)) B1 107 (.func (.func g) #[] lb) := by
    have := ((((Boxed.new (w.alloc (.cells #[.int .i64 al, .int .i64 ah, .int .i64 bl, .int .i64 bh, .slice A cs.length c, .int .i64 wrn] 87)) 107 (.func (.func g) #[] lb)).alloc (.cells #[.int .i64 0] 3)).alloc (.cells #[.bool false] 4)).alloc (.cells #[.bool true] 4))
    simp only [World.size_alloc] at this
    rw [hB1]; exact this
  have bR0 : BoxS (((((w.alloc (.cells #[.int .i64 al, .int .i64 ah, .int .i64 bl, .int .i64 bh, .slice A cs.length c, .int .i64 wrn] 87)).alloc (.cells #[.func (.func g) #[] lb] 107)).alloc (.cells #[.int .i64 0] 3)).alloc (.cells #[.bool false] 4)).alloc (.cells #[.bool true] 4)) B2 3 #[.int .i64 0] := by
    have := (((BoxS.new ((w.alloc (.cells #[.int .i64 al, .int .i64 ah, .int .i64 bl, .int .i64 bh, .slice A cs.length c, .int .i64 wrn] 87)).alloc (.cells #[.func (.func g) #[] lb] 107)) 3 #[.int .i64 0]).alloc (.cells #[.bool false] 4)).alloc (.cells #[.bool true] 4))
    simp only [World.size_alloc] at this
    rw [hB2]; exact this
  have bS0 : BoxS (((((w.alloc (.cells #[.int .i64 al, .int .i64 ah, .int .i64 bl, .int .i64 bh, .slice A cs.length c, .int .i64 wrn] 87)).alloc (.cells #[.func (.func g) #[] lb] 107)).alloc (.cells #[.int .i64 0] 3)).alloc (.cells #[.bool false] 4)).alloc (.cells #[.bool true] 4)) B3 4 #[.bool false] := by
    have := ((BoxS.new (((w.alloc (.cells #[.int .i64 al, .int .i64 ah, .int .i64 bl, .int .i64 bh, .slice A cs.length c, .int .i64 wrn] 87)).alloc (.cells #[.func (.func g) #[] lb] 107)).alloc (.cells #[.int .i64 0] 3)) 4 #[.bool false]).alloc (.cells #[.bool true] 4))
    simp only [World.size_alloc] at this
    rw [hB3]; exact this
  have bA0 : BoxS (((((w.alloc (.cells #[.int .i64 al, .int .i64 ah, .int .i64 bl, .int .i64 bh, .slice A cs.length c, .int .i64 wrn] 87)).alloc (.cells #[.func (.func g) #[] lb] 107)).alloc (.cells #[.int .i64 0] 3)).alloc (.cells #[.bool false] 4)).alloc (.cells #[.bool true] 4)) B4 4 #[.bool true] := by
    have := (BoxS.new ((((w.alloc (.cells #[.int .i64 al, .int .i64 ah, .int .i64 bl, .int .i64 bh, .slice A cs.length c, .int .i64 wrn] 87)).alloc (.cells #[.func (.func g) #[] lb] 107)).alloc (.cells #[.int .i64 0] 3)).alloc (.cells #[.bool false] 4)) 4 #[.bool true])
    simp only [World.size_alloc] at this
    rw [hB4]; exact this
  have hBw : Below w.heap.size w (((((w.alloc (.cells #[.int .i64 al, .int .i64 ah, .int .i64 bl, .int .i64 bh, .slice A cs.length c, .int .i64 wrn] 87)).alloc (.cells #[.func (.func g) #[] lb] 107)).alloc (.cells #[.int .i64 0] 3)).alloc (.cells #[.bool false] 4)).alloc (.cells #[.bool true] 4)) := by (repeat' (first | (with_reducible exact Below.refl _ _) | (with_reducible assumption) | (with_reducible refine Below.alloc ?_ ?_ _) | (with_reducible refine Below.drew ?_) | (with_reducible refine Below.setCell ?_ ?_ _) | go_size | (exact (by simp)) | omega))
  have hz : (((((w.alloc (.cells #[.int .i64 al, .int .i64 ah, .int .i64 bl, .int .i64 bh, .slice A cs.length c, .int .i64 wrn] 87)).alloc (.cells #[.func (.func g) #[] lb] 107)).alloc (.cells #[.int .i64 0] 3)).alloc (.cells #[.bool false] 4)).alloc (.cells #[.bool true] 4)).heap.size = w.heap.size + 5 := by simp
  rw [← hB4, ← hB3, ← hB2, ← hB1]
  have hord : w.heap.size < B1 ∧ B1 < B2 ∧ B2 < B3 ∧ B3 < B4 ∧ B4 < (((((w.alloc (.cells #[.int .i64 al, .int .i64 ah, .int .i64 bl, .int .i64 bh, .slice A cs.length c, .int .i64 wrn] 87)).alloc (.cells #[.func (.func g) #[] lb] 107)).alloc (.cells #[.int .i64 0] 3)).alloc (.cells #[.bool false] 4)).alloc (.cells #[.bool true] 4)).heap.size := by omega
  generalize (((((w.alloc (.cells #[.int .i64 al, .int .i64 ah, .int .i64 bl, .int .i64 bh, .slice A cs.length c, .int .i64 wrn] 87)).alloc (.cells #[.func (.func g) #[] lb] 107)).alloc (.cells #[.int .i64 0] 3)).alloc (.cells #[.bool false] 4)).alloc (.cells #[.bool true] 4)) = w5 at *
  clear hB1 hB2 hB3 hB4
  obtain ⟨k1, k2, k3, k4, k5⟩ := hord
  refine wpIn_far (n₀ := w.heap.size) (gf := 61) (pb := #[.agg #[.int .i64 al, .int .i64 ah, .int .i64 bl, .int .i64 bh, .slice A cs.length c, .int .i64 wrn]]) (lb := #[]) rfl (enters_of Try.func61 (by kernel_rfl) rfl)
    (HSEQ.out w5 hBw) (Below.refl _ _) (by omega) (fun _ => rfl)
    (fun (pre : List Sh.FaS) V => ((((Hid (pre = [] ∨ pre.any b = pre.all b) ∧ Boxed V B1 107 (.func (.func g) #[] lb)) ∧ BoxS V B2 3 #[.int .i64 0]) ∧ BoxS V B3 4 #[.bool (pre.any b)]) ∧ BoxS V B4 4 #[.bool (pre.all b)]) ∧ Below w.heap.size w V)
    (fun cc (pre : List Sh.FaS) V => ((cc = .ret ∧ Hid (pre.any b = true ∧ pre.all b = false)) ∧ BoxS V B2 3 #[.int .i64 3]) ∧ Below w.heap.size w V)
    (OwnFrom.and (OwnFrom.and (OwnFrom.and (OwnFrom.and (OwnFrom.and (ownFrom_pure _ (fun pre : List Sh.FaS => Hid (pre = [] ∨ pre.any b = pre.all b))) (Own.from (boxed_own _ _ (fun _ => _)) _)) (Own.from (boxS_own _ _ (fun _ => _)) _)) (Own.from (boxS_own _ _ (fun pre : List Sh.FaS => #[.bool (pre.any b)])) _)) (Own.from (boxS_own _ _ (fun pre : List Sh.FaS => #[.bool (pre.all b)])) _)) (ownFrom_below (Nat.le_refl _) (by omega)))
    (fun cc => OwnFrom.and (OwnFrom.and (ownFrom_pure _ (fun pre : List Sh.FaS => cc = .ret ∧ Hid (pre.any b = true ∧ pre.all b = false))) (Own.from (boxS_own _ _ (fun _ => _)) _)) (ownFrom_below (Nat.le_refl _) (by omega)))
    ⟨⟨⟨⟨⟨.inl rfl, bG0⟩, bR0⟩, bS0⟩, bA0⟩, hBw⟩
    (fun x a' V => ∃ Bx, B4 < Bx ∧ BoxS V Bx 90 #[.int .i64 x.1.1, .int .i64 x.1.2] ∧ a' = { tmps := #[.agg #[.int .i64 al, .int .i64 ah, .int .i64 bl, .int .i64 bh, .slice A cs.length c, .int .i64 wrn], .func (.func g) #[] lb, .pointer (some ⟨w.heap.size, 0, none⟩), .pointer (some ⟨B1, 0, none⟩), .pointer (some ⟨B2, 0, none⟩), .pointer (some ⟨B3, 0, none⟩), .pointer (some ⟨B4, 0, none⟩), .pointer (some ⟨Bx, 0, none⟩), undef, .agg #[.int .i64 al, .int .i64 ah, .int .i64 bl, .int .i64 bh, .slice A cs.length c, .int .i64 wrn], .func (.func 61) #[.agg #[.int .i64 al, .int .i64 ah, .int .i64 bl, .int .i64 bh, .slice A cs.length c, .int .i64 wrn]] #[], .agg #[.int .i64 x.1.1, .int .i64 x.1.2], undef, undef, undef, undef, undef, undef, undef, undef, undef, undef, undef, undef, undef, undef, undef], defers := [] })
    (fun x a' _ X Y row hs hg hr => by obtain ⟨Bx, e1, e2, e3⟩ := hs; exact ⟨Bx, e1, boxS_own Bx 90 (fun (_ : Unit) => #[.int .i64 x.1.1, .int .i64 x.1.2]) () X Y row e2 hg (fun r e => (hr r e).2), e3⟩)
    ?assign ?body ?done ?stop
  case assign =>
    rintro l2 pre x V K ⟨⟨⟨⟨⟨hp, bG⟩, bR⟩, bS⟩, bA⟩, hB⟩ hK
    unfold encFa
    gi_wp2
    exact hK _ _ (Apart.alloc _ _) ⟨⟨⟨⟨⟨hp, bG.alloc _⟩, bR.alloc _⟩, bS.alloc _⟩, bA.alloc _⟩, hB.alloc hB.size _⟩ ⟨V.heap.size, bA.lt, BoxS.new V _ _, rfl⟩
  case body =>
    rintro l2 pre x a' V ⟨⟨⟨⟨⟨hp, bG⟩, bR⟩, bS⟩, bA⟩, hB⟩ ⟨Bx, hBx, bX, rfl⟩ hlt
    have HB1 := Lib.hid (HB.out x V hB)
    have HA1 := Lib.hid (Sh.any_snoc b pre x)
    have HA2 := Lib.hid (Sh.all_snoc b pre x)
    have HP : Hid (pre.any b = false → pre.all b = true → pre = []) := fun h1 h2 => Sh.one_of h1 h2
    have g0 := bG.cell
    have x0 := bX.cell 0 rfl
    have x1 := bX.cell 1 rfl
    have HE : Hid (pre = [] → pre.any b = false ∧ pre.all b = true) := fun h => by rw [h]; exact ⟨rfl, rfl⟩
    generalize b x = bx at *
    gi_wp2
    refine ⟨trivial, (CallsIn.inRound l2 (callsIn_wide.2 HB1.out)).mono ?_⟩
    rintro e V2 ⟨rfl, hb2⟩
    have bG2 := boxed_below bG hb2
    have bR2 := bR.below hb2
    have bS2 := bS.below hb2
    have bA2 := bA.below hb2
    have hB2 := hB.trans (hb2.mono hB.size)
    have hA2 : Apart w.heap.size w5.heap.size V V2 := Apart.of_below hb2
    clear g0 x0 x1 bG bR bS bA bX hb2 HB1
    generalize pre.any b = sm at *
    generalize pre.all b = am at *
    have r0 := bR2.cell 0 rfl
    have r1 := bR2.frozen 0
    have s0 := bS2.cell 0 rfl
    have s1 := bS2.frozen 0
    have a0 := bA2.cell 0 rfl
    have a1 := bA2.frozen 0
    cases sm with
    | false =>
      cases am with
      | false =>
        cases bx with
        | false =>
          gi_wp2
          have bS3 := (bS2.put1 (.bool false)).other (B' := B4) (by omega) (.bool false)
          have bA3 := (bA2.other (B' := B3) (by omega) (.bool false)).put1 (.bool false)
          have bR3 := (bR2.other (B' := B3) (by omega) (.bool false)).other (B' := B4) (by omega) (.bool false)
          have bG3 := (Boxed.other bG2 (B' := B3) (by omega) (.bool false)).other (B' := B4) (by omega) (.bool false)
          have hA3 := (hA2.trans (Apart.setCell V2 ⟨B3, 0, none⟩ (by simp; omega) (by simp; omega) (.bool false))).trans (Apart.setCell _ ⟨B4, 0, none⟩ (by simp; omega) (by simp; omega) (.bool false))
          exact ⟨hA3, ⟨⟨⟨⟨⟨.inr (by rw [HA1.out, HA2.out]; rfl), bG3⟩, bR3⟩, by rw [HA1.out]; exact bS3⟩, by rw [HA2.out]; exact bA3⟩, hB.trans (hA3.below hB.size)⟩⟩
        | true =>
          gi_wp2
          have bS3 := (bS2.put1 (.bool true)).other (B' := B4) (by omega) (.bool false)
          have bA3 := (bA2.other (B' := B3) (by omega) (.bool true)).put1 (.bool false)
          have bR3 := (bR2.other (B' := B3) (by omega) (.bool true)).other (B' := B4) (by omega) (.bool false)
          have bG3 := (Boxed.other bG2 (B' := B3) (by omega) (.bool true)).other (B' := B4) (by omega) (.bool false)
          have hA3 := (hA2.trans (Apart.setCell V2 ⟨B3, 0, none⟩ (by simp; omega) (by simp; omega) (.bool true))).trans (Apart.setCell _ ⟨B4, 0, none⟩ (by simp; omega) (by simp; omega) (.bool false))
          have bR4 := bR3.put1 (.int .i64 3)
          have hA4 := hA3.trans (Apart.setCell _ ⟨B2, 0, none⟩ (by simp; omega) (by simp; omega) (.int .i64 3))
          exact ⟨hA4, ⟨⟨rfl, by unfold Hid; rw [HA1.out, HA2.out]; exact ⟨rfl, rfl⟩⟩, bR4⟩, hB.trans (hA4.below hB.size)⟩
      | true =>
        cases bx with
        | false =>
          gi_wp2
          have bS3 := (bS2.put1 (.bool false)).other (B' := B4) (by omega) (.bool false)
          have bA3 := (bA2.other (B' := B3) (by omega) (.bool false)).put1 (.bool false)
          have bR3 := (bR2.other (B' := B3) (by omega) (.bool false)).other (B' := B4) (by omega) (.bool false)
          have bG3 := (Boxed.other bG2 (B' := B3) (by omega) (.bool false)).other (B' := B4) (by omega) (.bool false)
          have hA3 := (hA2.trans (Apart.setCell V2 ⟨B3, 0, none⟩ (by simp; omega) (by simp; omega) (.bool false))).trans (Apart.setCell _ ⟨B4, 0, none⟩ (by simp; omega) (by simp; omega) (.bool false))
          exact ⟨hA3, ⟨⟨⟨⟨⟨.inr (by rw [HA1.out, HA2.out]; rfl), bG3⟩, bR3⟩, by rw [HA1.out]; exact bS3⟩, by rw [HA2.out]; exact bA3⟩, hB.trans (hA3.below hB.size)⟩⟩
        | true =>
          gi_wp2
          have bS3 := (bS2.put1 (.bool true)).other (B' := B4) (by omega) (.bool true)
          have bA3 := (bA2.other (B' := B3) (by omega) (.bool true)).put1 (.bool true)
          have bR3 := (bR2.other (B' := B3) (by omega) (.bool true)).other (B' := B4) (by omega) (.bool true)
          have bG3 := (Boxed.other bG2 (B' := B3) (by omega) (.bool true)).other (B' := B4) (by omega) (.bool true)
          have hA3 := (hA2.trans (Apart.setCell V2 ⟨B3, 0, none⟩ (by simp; omega) (by simp; omega) (.bool true))).trans (Apart.setCell _ ⟨B4, 0, none⟩ (by simp; omega) (by simp; omega) (.bool true))
          exact ⟨hA3, ⟨⟨⟨⟨⟨.inr (by rw [HA1.out, HA2.out]; rfl), bG3⟩, bR3⟩, by rw [HA1.out]; exact bS3⟩, by rw [HA2.out]; exact bA3⟩, hB.trans (hA3.below hB.size)⟩⟩
    | true =>
      cases am with
      | false =>
        exfalso
        rcases hp.out with h | h
        · have := (HE.out h).1
          cases this
        · cases h
      | true =>
        cases bx with
        | false =>
          gi_wp2
          have bS3 := (bS2.put1 (.bool true)).other (B' := B4) (by omega) (.bool false)
          have bA3 := (bA2.other (B' := B3) (by omega) (.bool true)).put1 (.bool false)
          have bR3 := (bR2.other (B' := B3) (by omega) (.bool true)).other (B' := B4) (by omega) (.bool false)
          have bG3 := (Boxed.other bG2 (B' := B3) (by omega) (.bool true)).other (B' := B4) (by omega) (.bool false)
          have hA3 := (hA2.trans (Apart.setCell V2 ⟨B3, 0, none⟩ (by simp; omega) (by simp; omega) (.bool true))).trans (Apart.setCell _ ⟨B4, 0, none⟩ (by simp; omega) (by simp; omega) (.bool false))
          have bR4 := bR3.put1 (.int .i64 3)
          have hA4 := hA3.trans (Apart.setCell _ ⟨B2, 0, none⟩ (by simp; omega) (by simp; omega) (.int .i64 3))
          exact ⟨hA4, ⟨⟨rfl, by unfold Hid; rw [HA1.out, HA2.out]; exact ⟨rfl, rfl⟩⟩, bR4⟩, hB.trans (hA4.below hB.size)⟩
        | true =>
          gi_wp2
          have bS3 := (bS2.put1 (.bool true)).other (B' := B4) (by omega) (.bool true)
          have bA3 := (bA2.other (B' := B3) (by omega) (.bool true)).put1 (.bool true)
          have bR3 := (bR2.other (B' := B3) (by omega) (.bool true)).other (B' := B4) (by omega) (.bool true)
          have bG3 := (Boxed.other bG2 (B' := B3) (by omega) (.bool true)).other (B' := B4) (by omega) (.bool true)
          have hA3 := (hA2.trans (Apart.setCell V2 ⟨B3, 0, none⟩ (by simp; omega) (by simp; omega) (.bool true))).trans (Apart.setCell _ ⟨B4, 0, none⟩ (by simp; omega) (by simp; omega) (.bool true))
          exact ⟨hA3, ⟨⟨⟨⟨⟨.inr (by rw [HA1.out, HA2.out]; rfl), bG3⟩, bR3⟩, by rw [HA1.out]; exact bS3⟩, by rw [HA2.out]; exact bA3⟩, hB.trans (hA3.below hB.size)⟩⟩
  case done =>
    rintro D zs V hD rfl ⟨⟨⟨⟨⟨hp, bG⟩, bR⟩, bS⟩, bA⟩, hB⟩ hK
    have hpn : zs.any b = zs.all b := by
      rcases hp.out with h | h
      · exact absurd h HNE.out
      · exact h
    rw [hpn] at HV
    have r0 := bR.cell 0 rfl
    have r1 := bR.frozen 0
    have a0 := bA.cell 0 rfl
    generalize zs.all b = am at *
    cases am with
    | false =>
      have HV2 : Hid (KV = 2) := HV.out
      gi_wp2
      have bR3 := bR.put1 (.int .i64 2)
      have hA3 := Apart.setCell (b := w.heap.size) (c := w5.heap.size) V ⟨B2, 0, none⟩ (by simp; omega) (by simp; omega) (.int .i64 2)
      have hK3 := hA3.obj hK (.inr hD)
      have hB3 := hB.trans (hA3.below hB.size)
      refine ⟨by simp, .inl ⟨_, _, rfl, run_takeDeferred hK3, ?_⟩⟩
      have bR4 : BoxS ((V.setCell ⟨B2, 0, none⟩ (.int .i64 2)).putObj D (.deferred none)) B2 3 #[.int .i64 2] := (World.putObj_heap_other (by omega)).trans bR3
      have r4 := bR4.cell 0 rfl
      exact ⟨.int .i64 2, by simp [results, Try.f73, go_sem, r4], by rw [HV2.out], hB3.trans (belowK_b (w := w) (Nat.le_refl _) _ D _ _ (by omega) hK3 rfl rfl)⟩
    | true =>
      have HV2 : Hid (KV = 1) := HV.out
      gi_wp2
      have bR3 := bR.put1 (.int .i64 1)
      have hA3 := Apart.setCell (b := w.heap.size) (c := w5.heap.size) V ⟨B2, 0, none⟩ (by simp; omega) (by simp; omega) (.int .i64 1)
      have hK3 := hA3.obj hK (.inr hD)
      have hB3 := hB.trans (hA3.below hB.size)
      refine ⟨by simp, .inl ⟨_, _, rfl, run_takeDeferred hK3, ?_⟩⟩
      have bR4 : BoxS ((V.setCell ⟨B2, 0, none⟩ (.int .i64 1)).putObj D (.deferred none)) B2 3 #[.int .i64 1] := (World.putObj_heap_other (by omega)).trans bR3
      have r4 := bR4.cell 0 rfl
      exact ⟨.int .i64 1, by simp [results, Try.f73, go_sem, r4], by rw [HV2.out], hB3.trans (belowK_b (w := w) (Nat.le_refl _) _ D _ _ (by omega) hK3 rfl rfl)⟩
  case stop =>
    rintro D cc pre V hD hpre ⟨⟨⟨rfl, hp⟩, bR⟩, hB⟩ hK
    have HV2 : Hid (KV = 3) := by
      have h1 := Sh.prefix_any hpre hp.out.1
      have h2 := Sh.prefix_all hpre hp.out.2
      unfold Hid
      rw [HV.out, h1, h2]
      rfl
    gi_wp2
    refine ⟨by simp, .inl ⟨_, _, rfl, run_takeDeferred hK, ?_⟩⟩
    have bR4 : BoxS (V.putObj D (.deferred none)) B2 3 #[.int .i64 3] := (World.putObj_heap_other (by omega)).trans bR
    have r4 := bR4.cell 0 rfl
    exact ⟨.int .i64 3, by simp [results, Try.f73, go_sem, r4], by rw [HV2.out], hB.trans (belowK_b (w := w) (Nat.le_refl _) _ D _ _ (by omega) hK rfl rfl)⟩
end Go.Proofs.Ytgpmnkdagpcffaa

namespace Go.Proofs.Ytgpmnkdagpcffaa
open Go.RowKit Go.Shelf
namespace Sh
def areaN (t : Int) : Int := dist t 0 * 1000 * 1000
def areaD (f : FaS) : Int := f.1.1 * f.1.2
theorem dist_abs {t M : Int} (h : -M ≤ t ∧ t ≤ M) : 0 ≤ dist t 0 ∧ dist t 0 ≤ M := by unfold dist; omega
theorem areaN_bd {t : Int} (h : -80000000 ≤ t ∧ t ≤ 80000000) : 0 ≤ areaN t ∧ areaN t ≤ 80000000000000 := by
  have := dist_abs h
  unfold areaN
  omega
theorem areaD_bd (f : FaS) : 1 ≤ areaD f ∧ areaD f ≤ 4000000 := by
  obtain ⟨⟨a, b⟩, ⟨h1, h2⟩, h3, h4⟩ := f
  show 1 ≤ a * b ∧ a * b ≤ 4000000
  dsimp only at h1 h2 h3 h4
  have m1 := Int.mul_le_mul h1 h3 (by omega) (by omega)
  have m2 := Int.mul_le_mul h2 h4 (by omega) (by omega)
  omega
end Sh
set_option maxRecDepth 100000 in
set_option maxHeartbeats 2000000 in
theorem area_any (f : Sh.FaS) (t : Int) (w : World) (ht : -80000000 ≤ t ∧ t ≤ 80000000) :
    Calls Try.prog 69 #[.agg #[.int .i64 f.1.1, .int .i64 f.1.2], .int .i64 t] w fun e w' => e = .returned (.tuple #[.int .i64 (Sh.areaN t), .int .i64 (Sh.areaD f)]) ∧ Below w.heap.size w w' := by
  have hd := Sh.dist_abs ht
  have hD := Sh.areaD_bd f
  have HN : Hid (Sh.areaN t = Sh.dist t 0 * 1000 * 1000) := rfl
  have HDD : Hid (Sh.areaD f = f.1.1 * f.1.2) := rfl
  have hw3 : IntKind.i64.wrap (f.1.1 * f.1.2) = f.1.1 * f.1.2 := IntWalk.i64_in _ (by unfold Sh.areaD at hD; omega)
  have HC : Hid (∀ W, Calls Try.prog 84 #[.int .i64 t, .int .i64 0] W fun e w' => e = .returned (.int .i64 (Sh.dist t 0)) ∧ w' = W) := fun W => distance_any t 0 W (by omega) (by omega)
  generalize Sh.areaN t = N at *
  generalize Sh.areaD f = D at *
  generalize Sh.dist t 0 = d at *
  obtain ⟨⟨f1, f2⟩, hf⟩ := f
  dsimp only at *
  have hw1 : IntKind.i64.wrap (d * 1000) = d * 1000 := IntWalk.i64_in _ (by omega)
  have hw2 : IntKind.i64.wrap (d * 1000 * 1000) = d * 1000 * 1000 := IntWalk.i64_in _ (by omega)
  clear hd hD ht hf
  go_enter Try.func69, Try.ntmps69
  go_wp2_with fail
  have hB0 : Below w.heap.size w (w.alloc (.cells #[.int .i64 f1, .int .i64 f2] 90)) := by (repeat' (first | (with_reducible exact Below.refl _ _) | (with_reducible assumption) | (with_reducible refine Below.alloc ?_ ?_ _) | (with_reducible refine Below.drew ?_) | (with_reducible refine Below.setCell ?_ ?_ _) | go_size | (exact (by simp)) | omega))
  have bF := BoxS.new w 90 #[.int .i64 f1, .int .i64 f2]
  generalize World.alloc w _ = w1 at *
  refine (wpIn_wide (n := 4)).1 ?_
  have hmo : Try.prog.follows .mixedOrders = true := by kernel_rfl
  have q0 : Below w1.heap.size w1 w1.drew := (Below.refl _ _).drew
  have KC : Hid (∀ W', Below w1.heap.size w1 W' → W'.cell? ⟨w.heap.size, 0, none⟩ = some (.int .i64 f1) ∧ W'.cell? ⟨w.heap.size, 1, none⟩ = some (.int .i64 f2)) :=
    fun W' h => ⟨(bF.below h).cell 0 rfl, (bF.below h).cell 1 rfl⟩
  refine wpIn_region_held (fun W' => Below w1.heap.size w1 W') 30 hmo ?_
  refine wpHeldIn_take (i := 0) (v := ?_) (plain_of (by kernel_rfl)) rfl (by kernel_rfl) (fun _ _ _ h => h) (yieldsSoIn_of (by kernel_rfl) ?_ (fun _ => rfl)) q0 ?_; rotate_left; focus (intro wq hw; clear hw; go_simp; try (with_reducible rfl))
  refine wpHeldIn_take (i := 4) (v := ?_) (plain_of (by kernel_rfl)) rfl (by kernel_rfl) (fun _ _ _ h => h) (yieldsSoIn_of (by kernel_rfl) ?_ (fun _ => rfl)) q0 ?_; rotate_left; focus (intro wq hw; clear hw; go_simp; try (with_reducible rfl))
  refine wpHeldIn_take (i := 5) (v := ?_) (plain_of (by kernel_rfl)) rfl (by kernel_rfl) (fun _ _ _ h => h) (yieldsSoIn_of (by kernel_rfl) ?_ (fun _ => rfl)) q0 ?_; rotate_left; focus (intro wq hw; have kq := KC.out wq hw; clear hw; go_simp; try (with_reducible rfl))
  refine wpHeldIn_take (i := 6) (v := ?_) (plain_of (by kernel_rfl)) rfl (by kernel_rfl) (fun _ _ _ h => h) (yieldsSoIn_of (by kernel_rfl) ?_ (fun _ => rfl)) q0 ?_; rotate_left; focus (intro wq hw; clear hw; go_simp; try (with_reducible rfl))
  refine wpHeldIn_take (i := 7) (v := ?_) (plain_of (by kernel_rfl)) rfl (by kernel_rfl) (fun _ _ _ h => h) (yieldsSoIn_of (by kernel_rfl) ?_ (fun _ => rfl)) q0 ?_; rotate_left; focus (intro wq hw; have kq := KC.out wq hw; clear hw; go_simp; try (with_reducible rfl))
  refine wpHeldIn_take (i := 8) (v := ?_) (plain_of (by kernel_rfl)) rfl (by kernel_rfl) (fun _ _ _ h => h) (yieldsSoIn_of (by kernel_rfl) ?_ (fun _ => rfl)) q0 ?_; rotate_left; focus (intro wq hw; clear hw; go_simp; try (with_reducible rfl))
  refine wpHeldIn_one (i := 1) (by kernel_rfl) (by kernel_rfl) rfl (by kernel_rfl) (fun K2 hK2 => ?_)
  go_simp
  refine ⟨trivial, (callsIn_wide.2 (HC.out _)).mono ?_⟩
  rintro e w3 ⟨rfl, rfl⟩
  refine hK2 _ _ q0 ?_
  refine wpHeldIn_take (i := 2) (v := ?_) (plain_of (by kernel_rfl)) rfl (by kernel_rfl) (fun _ _ _ h => h) (yieldsSoIn_of (by kernel_rfl) ?_ (fun _ => rfl)) q0 ?_; rotate_left; focus (intro wq hw; clear hw; go_simp; try (with_reducible rfl))
  refine wpHeldIn_take (i := 3) (v := ?_) (plain_of (by kernel_rfl)) rfl (by kernel_rfl) (fun _ _ _ h => h) (yieldsSoIn_of (by kernel_rfl) ?_ (fun _ => rfl)) q0 ?_; rotate_left; focus (intro wq hw; clear hw; go_simp; try (with_reducible rfl))
  refine wpHeldIn_take (i := 9) (v := ?_) (plain_of (by kernel_rfl)) rfl (by kernel_rfl) (fun _ _ _ h => h) (yieldsSoIn_of (by kernel_rfl) ?_ (fun _ => rfl)) q0 ?_; rotate_left; focus (intro wq hw; clear hw; go_simp; try (with_reducible rfl))
  refine wpHeldIn_take (i := 10) (v := ?_) (plain_of (by kernel_rfl)) rfl (by kernel_rfl) (fun _ _ _ h => h) (yieldsSoIn_of (by kernel_rfl) ?_ (fun _ => rfl)) q0 ?_; rotate_left; focus (intro wq hw; clear hw; go_simp; try (with_reducible rfl))
  refine wpHeldIn_done (by kernel_rfl) ?_ _
  go_simp
  have hBB := hB0.drew
  clear KC q0
  go_wp2_with fail
  go_returns
  exact ⟨by rw [HN.out, HDD.out]; rfl, hBB⟩
end Go.Proofs.Ytgpmnkdagpcffaa
