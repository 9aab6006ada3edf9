/- Sheets: the factors of a direction. -/
import Derived.Test.YtgpmnkdagpcffaaShO
namespace Go.Proofs.Ytgpmnkdagpcffaa
open Go.RowKit Go.Shelf Go.Maps Go.Sort
attribute [local go_sem] Oper.semAt_some
theorem ownsMap_below {H : Type} {P : Program} {k : TypeId} {R : Value → Option (DataW H × List MemPlace)} {b n : Nat} {D : DataW H} {W W' : World} (h : W.ownsMap P k R b n D) (hb : Below W.heap.size W W') : W'.ownsMap P k R b n D := by
  obtain ⟨es, clock, h1, h2⟩ := h
  exact ⟨es, clock, heap_below hb h1, h2⟩
theorem ownsRow_put {w : World} {base base' : Nat} {e : TypeId} {size : Nat} {v : Value} {n : Nat} {xs : List Value} (h : w.ownsRow base e size v n xs) {D : Nat} (o : Obj) (hD : D < base) (hb : base' ≤ base) : (w.putObj D o).ownsRow base' e size v n xs := by
  obtain ⟨h1, h2⟩ := h
  refine ⟨h1, ?_⟩
  rcases h2 with h2 | ⟨g, cap, cur, a1, a2, a3, a4⟩
  · exact .inl h2
  · exact .inr ⟨g, cap, cur, a1, Nat.le_trans hb a2, (World.putObj_heap_other (by omega)).trans a3, a4⟩
/-- What Factors hands back where all is right. -/
def FacPost (L : List Int) (w : World) (e : Ending) (w' : World) : Prop := ∃ v : Value, e = .returned (.tuple #[v, .int .i64 0]) ∧ w'.ownsRow w.heap.size 3 1 v L.length (L.map encZ) ∧ (v = .slice none 0 0 ↔ L = []) ∧ Below w.heap.size w w'

set_option maxRecDepth 100000 in
set_option maxHeartbeats 8000000 in
theorem Factors_yes (s : Sheet) (way : Int) (A : Option Addr) (c : Nat) (w : World) (hl : s.cs.length ≤ 1000000000) (hg : Cts w w.heap.size A s.cs) (h0 : Sh.spE s = 0) (hway : Sh.wayB way = true) :
    Calls Try.prog 22 #[.agg (shV s A c), .int .i64 way] w (FacPost (Sh.facL way (Sh.truthsL s)) w) := by
  have HC : Hid (∀ W, Below w.heap.size w W → Calls Try.prog 41 #[.agg (shV s A c)] W (ErrPost (Sh.chkE s) W)) := fun W hW => shCheck_any s A c W hl ((hg.keep hW).wider hW.size)
  have HP : Hid (∀ W, Below w.heap.size w W → Calls Try.prog 60 #[.agg (shV s A c)] W (SpPost (Sh.spV s A c) (Sh.spE s) W)) := fun W hW => spread_any s A c W hl ((hg.keep hW).wider hW.size)
  obtain ⟨hok, hne⟩ := Sh.sp_ok h0
  have hs := Sh.ok_of hok
  have HSEQ : Hid (∀ w', Below w.heap.size w w' → SeqFar Try.prog 61 #[.agg (shV s A c)] #[] encFa w.heap.size (fun ys => ys = Sh.truthsL s) (fun pre => pre <+: Sh.truthsL s) 50000 w') := fun w' h => truths_far s hs A c w.heap.size w' h.size (hg.keep h)
  have HW : Hid (∀ W, Calls Try.prog 63 #[.int .i64 way] W fun e w' => e = .returned (.bool true) ∧ w' = W) := fun W => by rw [← hway]; exact isWay_any way W
  have hlen := Sh.truthsL_len s hs
  rw [Sh.spV_yes h0, h0] at HP
  rw [Sh.chkE_yes hok] at HC
  have hmm := @run_makeMap Try.prog
  clear hg hok hs hne h0 hl hway
  obtain ⟨al, ah, bl, bh, cs, wrn⟩ := s
  unfold shV at HP HSEQ HC ⊢
  dsimp only at *
  generalize Sh.truthsL ⟨al, ah, bl, bh, cs, wrn⟩ = TL at *
  refine (callsIn_wide (n := 8)).1 ?_
  refine callsIn_of_wp_marks Try.func22 rfl trivial ?_ rfl
  simp only [Try.ntmps22, List.size_toArray, List.length_cons, List.length_nil, Nat.reduceAdd, Nat.reduceSub, Array.replicate_succ, Array.replicate_zero, List.push_toArray, List.append_toArray, List.nil_append, List.cons_append]
  have hord0 : w.heap.size < w.heap.size + 1 := by omega
  gi_wp2
  have bW1 := BoxS.new (w.alloc (.cells #[.int .i64 al, .int .i64 ah, .int .i64 bl, .int .i64 bh, .slice A cs.length c, .int .i64 wrn] 26)) 3 #[.int .i64 way]
  rw [World.size_alloc] at bW1
  have hB1 : Below w.heap.size w ((w.alloc (.cells #[.int .i64 al, .int .i64 ah, .int .i64 bl, .int .i64 bh, .slice A cs.length c, .int .i64 wrn] 26)).alloc (.cells #[.int .i64 way] 3)) := by (repeat' (first | (with_reducible exact Below.refl _ _) | (with_reducible assumption) | (with_reducible refine Below.alloc ?_ ?_ _) | (with_reducible refine Below.drew ?_) | (with_reducible refine Below.setCell ?_ ?_ _) | go_size | (exact (by simp)) | omega))
  have bS1 := (BoxS.new w 26 #[.int .i64 al, .int .i64 ah, .int .i64 bl, .int .i64 bh, .slice A cs.length c, .int .i64 wrn]).alloc (.cells #[.int .i64 way] 3)
  generalize World.alloc (World.alloc w _) _ = w1 at *
  refine ⟨trivial, (callsIn_wide.2 (HC.out _ hB1)).mono ?_⟩
  rintro e w2 ⟨rfl, hb2⟩
  have bW2 := bW1.below hb2
  have bS2 := bS1.below hb2
  have hB2 := hB1.trans (hb2.mono hB1.size)
  clear bW1 bS1 hb2 hB1 HC
  have w0 := bW2.cell 0 rfl
  gi_wp2
  refine ⟨trivial, (callsIn_wide.2 (HW.out _)).mono ?_⟩
  rintro e w3 ⟨rfl, rfl⟩
  obtain ⟨⟨s0, s1, s2⟩, s3, s4, s5⟩ := boxS6 bS2
  gi_wp2
  refine ⟨trivial, (callsIn_wide.2 (HP.out _ hB2)).mono ?_⟩
  rintro e w4 ⟨rfl, hb4⟩
  have bW4 := bW2.below hb4
  have hB4 := hB2.trans (hb4.mono hB2.size)
  clear s0 s1 s2 s3 s4 s5 w0 bS2 bW2 hb4 hB2 HP HW
  have lw := bW4.lt
  gi_wp2
  obtain ⟨BW, hBW⟩ : ∃ B, B = w.heap.size + 1 := ⟨_, rfl⟩
  obtain ⟨BM, hBM⟩ : ∃ B, B = w4.heap.size + 1 := ⟨_, rfl⟩
  obtain ⟨BV, hBV⟩ : ∃ B, B = w4.heap.size + 1 + 1 := ⟨_, rfl⟩
  have bW5 : BoxS (((w4.alloc (.cells #[.int .i64 al, .int .i64 ah, .int .i64 bl, .int .i64 bh, .slice A cs.length c, .int .i64 wrn] 87)).alloc (.map #[] 0)).alloc (.cells #[.map (some (w4.heap.size + 1))] 95)) BW 3 #[.int .i64 way] := by rw [hBW]; exact ((bW4.alloc _).alloc _).alloc _
  have bV5 : BoxS (((w4.alloc (.cells #[.int .i64 al, .int .i64 ah, .int .i64 bl, .int .i64 bh, .slice A cs.length c, .int .i64 wrn] 87)).alloc (.map #[] 0)).alloc (.cells #[.map (some (w4.heap.size + 1))] 95)) BV 95 #[.map (some BM)] := by
    have := BoxS.new ((w4.alloc (.cells #[.int .i64 al, .int .i64 ah, .int .i64 bl, .int .i64 bh, .slice A cs.length c, .int .i64 wrn] 87)).alloc (.map #[] 0)) 95 #[.map (some (w4.heap.size + 1))]
    simp only [World.size_alloc] at this
    rw [hBV, hBM]; exact this
  have hown5 : (((w4.alloc (.cells #[.int .i64 al, .int .i64 ah, .int .i64 bl, .int .i64 bh, .slice A cs.length c, .int .i64 wrn] 87)).alloc (.map #[] 0)).alloc (.cells #[.map (some (w4.heap.size + 1))] 95)).ownsMap Try.prog 3 (plainElem (H := Empty) Try.prog 4) BM 0 (Sh.mapD way []) := by
    have := World.ownsMap_made (H := Empty) (w4.alloc (.cells #[.int .i64 al, .int .i64 ah, .int .i64 bl, .int .i64 bh, .slice A cs.length c, .int .i64 wrn] 87)) Try.prog 3 (plainElem Try.prog 4)
    rw [World.size_alloc] at this
    rw [hBM]; exact this.alloc _
  have hB5 : Below w.heap.size w (((w4.alloc (.cells #[.int .i64 al, .int .i64 ah, .int .i64 bl, .int .i64 bh, .slice A cs.length c, .int .i64 wrn] 87)).alloc (.map #[] 0)).alloc (.cells #[.map (some (w4.heap.size + 1))] 95)) := by (repeat' (first | (with_reducible exact Below.refl _ _) | (with_reducible assumption) | (with_reducible refine Below.alloc ?_ ?_ _) | (with_reducible refine Below.drew ?_) | (with_reducible refine Below.setCell ?_ ?_ _) | go_size | (exact (by simp)) | omega))
  have hz : (((w4.alloc (.cells #[.int .i64 al, .int .i64 ah, .int .i64 bl, .int .i64 bh, .slice A cs.length c, .int .i64 wrn] 87)).alloc (.map #[] 0)).alloc (.cells #[.map (some (w4.heap.size + 1))] 95)).heap.size = w4.heap.size + 3 := by simp
  have hws := hB4.size
  have hord : w.heap.size < BW ∧ BW < BM ∧ BM < BV ∧ BV < (((w4.alloc (.cells #[.int .i64 al, .int .i64 ah, .int .i64 bl, .int .i64 bh, .slice A cs.length c, .int .i64 wrn] 87)).alloc (.map #[] 0)).alloc (.cells #[.map (some (w4.heap.size + 1))] 95)).heap.size := by omega
  generalize (((w4.alloc (.cells #[.int .i64 al, .int .i64 ah, .int .i64 bl, .int .i64 bh, .slice A cs.length c, .int .i64 wrn] 87)).alloc (.map #[] 0)).alloc (.cells #[.map (some (w4.heap.size + 1))] 95)) = w5 at *
  rw [← hBV, ← hBM, ← hBW]
  clear bW4 hB4 hBW hBM hBV lw
  obtain ⟨k1, k2, k3, k4⟩ := hord
  refine wpIn_far (n₀ := w.heap.size) (gf := 61) (pb := #[.agg #[.int .i64 al, .int .i64 ah, .int .i64 bl, .int .i64 bh, .slice A cs.length c, .int .i64 wrn]]) (lb := #[]) rfl (enters_of Try.func61 (by kernel_rfl) rfl)
    (HSEQ.out w5 hB5) (Below.refl _ _) (by omega) (fun _ => rfl)
    (fun (pre : List Sh.FaS) V => ((BoxS V BW 3 #[.int .i64 way] ∧ BoxS V BV 95 #[.map (some BM)]) ∧ V.ownsMap Try.prog 3 (plainElem (H := Empty) Try.prog 4) BM pre.length (Sh.mapD way pre)) ∧ Below w.heap.size w V)
    (fun _ _ _ => False)
    (OwnFrom.and (OwnFrom.and (OwnFrom.and (Own.from (boxS_own _ _ (fun _ => _)) _) (Own.from (boxS_own _ _ (fun _ => _)) _)) (fun s X Y row hs hg hr => hs.kept hg (fun e => by have := (hr _ e.symm).1; omega))) (ownFrom_below (Nat.le_refl _) (by omega)))
    (fun _ _ _ _ _ hs _ _ => hs)
    ⟨⟨⟨bW5, bV5⟩, hown5⟩, hB5⟩
    (fun x a' V => ∃ Bx, BV < Bx ∧ BoxS V Bx 90 #[.int .i64 x.1.1, .int .i64 x.1.2] ∧ a' = { tmps := #[.agg #[.int .i64 al, .int .i64 ah, .int .i64 bl, .int .i64 bh, .slice A cs.length c, .int .i64 wrn], .int .i64 way, .pointer (some ⟨w.heap.size, 0, none⟩), .pointer (some ⟨BW, 0, none⟩), .slice none 0 0, .int .i64 0, .int .i64 0, .pointer (some ⟨w4.heap.size, 0, none⟩), .int .i64 0, .pointer (some ⟨BV, 0, none⟩), .pointer (some ⟨Bx, 0, none⟩), .agg #[.int .i64 al, .int .i64 ah, .int .i64 bl, .int .i64 bh, .slice A cs.length c, .int .i64 wrn], .int .i64 0, .int .i64 0, .bool false, undef, .int .i64 way, .bool true, .bool false, .tuple #[.agg #[.int .i64 al, .int .i64 ah, .int .i64 bl, .int .i64 bh, .slice A cs.length c, .int .i64 wrn], .int .i64 0], .agg #[.int .i64 al, .int .i64 ah, .int .i64 bl, .int .i64 bh, .slice A cs.length c, .int .i64 wrn], .tuple #[.agg #[.int .i64 al, .int .i64 ah, .int .i64 bl, .int .i64 bh, .slice A cs.length c, .int .i64 wrn], .int .i64 0], .agg #[.int .i64 al, .int .i64 ah, .int .i64 bl, .int .i64 bh, .slice A cs.length c, .int .i64 wrn], .int .i64 0, .int .i64 0, .bool false, undef, .map (some BM), .agg #[.int .i64 al, .int .i64 ah, .int .i64 bl, .int .i64 bh, .slice A cs.length c, .int .i64 wrn], .func (.func 61) #[.agg #[.int .i64 al, .int .i64 ah, .int .i64 bl, .int .i64 bh, .slice A cs.length c, .int .i64 wrn]] #[], .agg #[.int .i64 x.1.1, .int .i64 x.1.2], undef, undef, undef, undef, undef, undef, undef], defers := [] })
    (fun x a' _ X Y row hs hg hr => by obtain ⟨Bx, e1, e2, e3⟩ := hs; exact ⟨Bx, e1, boxS_own Bx 90 (fun (_ : Unit) => #[.int .i64 x.1.1, .int .i64 x.1.2]) () X Y row e2 hg (fun r e => (hr r e).2), e3⟩)
    ?assign ?body ?done ?stop
  case assign =>
    rintro l2 pre x V K ⟨⟨⟨bW, bV⟩, hown⟩, hB⟩ hK
    unfold encFa
    gi_wp2
    exact hK _ _ (Apart.alloc _ _) ⟨⟨⟨bW.alloc _, bV.alloc _⟩, hown.alloc _⟩, hB.alloc hB.size _⟩ ⟨V.heap.size, bV.lt, BoxS.new V _ _, rfl⟩
  case body =>
    rintro l2 pre x a' V ⟨⟨⟨bW, bV⟩, hown⟩, hB⟩ ⟨Bx, hBx, bX, rfl⟩ hlt
    have HO : Hid (∀ W, Calls Try.prog 64 #[.agg #[.int .i64 x.1.1, .int .i64 x.1.2], .int .i64 way] W fun e w' => e = .returned (.int .i64 (Sh.ofV x.1 way)) ∧ Below W.heap.size W w') := fun W => of_any x.1.1 x.1.2 way W
    have hmo : Try.prog.follows .mixedOrders = true := by kernel_rfl
    have hmax : (50000 : Nat) < maxLen := by decide
    have q0 : Below V.heap.size V V.drew := (Below.refl _ _).drew
    have KC : Hid (∀ V', Below V.heap.size V V' → V'.cell? ⟨BW, 0, none⟩ = some (.int .i64 way) ∧ V'.cell? ⟨BV, 0, none⟩ = some (.map (some BM)) ∧ V'.cell? ⟨Bx, 0, none⟩ = some (.int .i64 x.1.1) ∧ V'.cell? ⟨Bx, 1, none⟩ = some (.int .i64 x.1.2)) :=
      fun V' h => ⟨(bW.below h).cell 0 rfl, (bV.below h).cell 0 rfl, (bX.below h).cell 0 rfl, (bX.below h).cell 1 rfl⟩
    have hBs := hB.size
    gi_wp2
    refine wpIn_region_held (fun V' => Below V.heap.size V V') 4 hmo ?_
    refine wpHeldIn_take (i := 0) (v := ?_) (plain_of (by kernel_rfl)) rfl (by kernel_rfl) (fun _ _ _ h => h) (yieldsSoIn_of (by kernel_rfl) ?_ (fun _ => rfl)) q0 ?_; rotate_left; focus (intro wq hw; have kq := KC.out wq hw; clear hw; go_simp; try (with_reducible rfl))
    refine wpHeldIn_take (i := 1) (v := ?_) (plain_of (by kernel_rfl)) rfl (by kernel_rfl) (fun _ _ _ h => h) (yieldsSoIn_of (by kernel_rfl) ?_ (fun _ => rfl)) q0 ?_; rotate_left; focus (intro wq hw; have kq := KC.out wq hw; clear hw; go_simp; try (with_reducible rfl))
    refine wpHeldIn_take (i := 2) (v := ?_) (plain_of (by kernel_rfl)) rfl (by kernel_rfl) (fun _ _ _ h => h) (yieldsSoIn_of (by kernel_rfl) ?_ (fun _ => rfl)) q0 ?_; rotate_left; focus (intro wq hw; have kq := KC.out wq hw; clear hw; go_simp; try (with_reducible rfl))
    refine wpHeldIn_one (i := 3) (by kernel_rfl) (by kernel_rfl) rfl (by kernel_rfl) (fun K1 hK1 => ?_)
    go_simp
    refine ⟨trivial, (CallsIn.inRound l2 (callsIn_wide.2 (HO.out _))).mono ?_⟩
    rintro e V2 ⟨rfl, hb2⟩
    have q1 := q0.trans (hb2.mono q0.size)
    refine hK1 _ _ q1 ?_
    refine wpHeldIn_last (by kernel_rfl) rfl (by kernel_rfl) (fun K2 hK2 => ?_)
    refine wpIn_mapUpdate_at _ _ _ _ 95 rfl 3 4 (Maps.int_keyed Try.underlying3) Try.underlying95 _ BM pre.length _ rfl (ownsMap_below hown q1) (by omega) _ _ _ rfl rfl (Maps.keyOf_int_mk Try.underlying3 (wf_small (Sh.ofV_bd x way))) _ [] (plainElem_bool Try.underlying4 true) ?_
    intro V3 hown3 hg3
    refine hK2 _ _ ?_
    refine wpHeldIn_done (by kernel_rfl) ?_ _
    go_simp
    gi_wp2
    have hA3 : Apart w.heap.size w5.heap.size V V3 := (Apart.of_below q1).trans (Apart.grown hg3 (fun k e => by cases e; omega))
    exact ⟨hA3, ⟨⟨(bW.below q1).kept hg3 (by simp; omega), (bV.below q1).kept hg3 (by simp; omega)⟩, by rw [List.length_append, Sh.mapD_snoc]; exact hown3⟩, hB.trans (hA3.below hB.size)⟩
  case done =>
    rintro D0 zs V hD0 rfl ⟨⟨⟨bW, bV⟩, hown⟩, hB⟩ hK
    have v0 := bV.cell 0 rfl
    have hsz := hown.size_le
    have hmax : (50000 : Nat) < maxLen := by decide
    have HS := Lib.hid (sorted_call BM _ _ _ V hown (by omega) (by omega))
    have HKY : Hid (∀ W, Calls Try.prog 66 #[.map (some BM)] W fun e w' => e = .returned (.func (.func 121) #[] #[.pointer (some ⟨W.heap.size, 0, none⟩)]) ∧ w' = W.alloc (.cells #[.map (some BM)] 95)) := fun W => keys_call (some BM) W
    rw [show (intKeys (Sh.mapD (H := Empty) way zs)).mergeSort (fun x y => decide (x ≤ y)) = Sh.facL way zs from rfl] at HS
    generalize Sh.facL way zs = FL at *
    clear hown bW bV HSEQ hmm
    gi_wp2
    refine ⟨trivial, (callsIn_wide.2 (HKY.out _)).mono ?_⟩
    rintro e V2 ⟨rfl, rfl⟩
    gi_wp2
    refine ⟨trivial, (callsIn_wide.2 HS.out).mono ?_⟩
    rintro e V3 ⟨v, rfl, hrow, hnil, hb3⟩
    have q3 : Below V.heap.size V V3 := ((Below.refl _ V).alloc (Nat.le_refl _) _).trans (hb3.mono (by simp))
    have hK3 := heap_below q3 hK
    have hB3 := hB.trans (q3.mono hB.size)
    have hVs := hB.size
    gi_wp2
    refine ⟨by simp, .inl ⟨_, _, rfl, run_takeDeferred hK3, ?_⟩⟩
    refine ⟨.tuple #[v, .int .i64 0], by simp [results, Try.f22, go_sem], v, rfl, ?_, hnil, hB3.trans (belowK_b (w := w) (Nat.le_refl _) V3 D0 _ _ (by omega) hK3 rfl rfl)⟩
    have hDV := (Array.getElem?_eq_some_iff.1 hK).1
    exact ownsRow_put hrow _ (by simp; omega) (by simp; omega)
  case stop =>
    rintro D0 cc pre V hD0 hpre h hK
    exact h.elim
end Go.Proofs.Ytgpmnkdagpcffaa
