/- Trials: opening a file that is valid. -/
import Derived.Test.YtkmacpkjobdffaaGreatTiI
import Derived.Test.YtkmacpkjobdffaaGreatAny
namespace Go.Proofs.YtkmacpkjobdffaaGreat
open Go.RowKit Go.Shelf Go.Maps
attribute [local go_sem] Oper.semAt_some
/-- The same, and no panic. -/
def noPanic (Q : Exit → Act → World → Prop) : Exit → Act → World → Prop
  | .panic _, _, _ => False
  | e, a, w => Q e a w
theorem noPanic_le {Q : Exit → Act → World → Prop} : ∀ e a w, noPanic Q e a w → Q e a w := by
  intro e a w h
  cases e <;> first | exact h | exact h.elim
theorem noPanic_of {Q : Exit → Act → World → Prop} {a : Act} {w : World} (h : Q .normal a w) : noPanic Q .normal a w := h
/-- All blocks but two of those that lay lie as they lay. -/
def KpTwo (R1 R2 : Nat) (W V : World) : Prop := (∀ i, i < W.heap.size → i ≠ R1 → i ≠ R2 → V.heap[i]? = W.heap[i]?) ∧ W.heap.size ≤ V.heap.size
theorem ownFrom_two {β : Type} (R1 R2 : Nat) (W : World) {B : Nat} (hB : W.heap.size ≤ B) : OwnFrom B (fun (_ : β) V => KpTwo R1 R2 W V) := fun s X Y row hs hg hr =>
  ⟨fun i h1 h2 h3 => (hg.block i (by have := hs.2; omega) (fun e => by have := (hr i e.symm).1; omega)).trans (hs.1 i h1 h2 h3), Nat.le_trans hs.2 hg.size⟩
theorem kpTwo_eleven {R1 R2 : Nat} {W V : World} (h : Below W.heap.size W V) (u0 u1 u2 u3 u4 u5 u6 u7 u8 u9 u10 e : Value) : KpTwo R1 R2 W ((((((((((((V.setCell ⟨R1, 0, none⟩ u0).setCell ⟨R1, 1, none⟩ u1).setCell ⟨R1, 2, none⟩ u2).setCell ⟨R1, 3, none⟩ u3).setCell ⟨R1, 4, none⟩ u4).setCell ⟨R1, 5, none⟩ u5).setCell ⟨R1, 6, none⟩ u6).setCell ⟨R1, 7, none⟩ u7).setCell ⟨R1, 8, none⟩ u8).setCell ⟨R1, 9, none⟩ u9).setCell ⟨R1, 10, none⟩ u10).setCell ⟨R2, 0, none⟩ e) := by
  refine ⟨fun i h1 h2 h3 => ?_, by simp [World.setCell]; exact h.size⟩
  have oth : ∀ (X : World) (C j : Nat) (v : Value), i ≠ C → (X.setCell ⟨C, j, none⟩ v).heap[i]? = X.heap[i]? := fun X C j v hne => Below.heap_setCell _ _ _ i hne
  rw [oth _ R2 _ _ h3, oth _ R1 _ _ h2, oth _ R1 _ _ h2, oth _ R1 _ _ h2, oth _ R1 _ _ h2, oth _ R1 _ _ h2, oth _ R1 _ _ h2, oth _ R1 _ _ h2, oth _ R1 _ _ h2, oth _ R1 _ _ h2, oth _ R1 _ _ h2, oth _ R1 _ _ h2]
  exact h.block i h1
set_option maxRecDepth 100000 in
set_option maxHeartbeats 16000000 in
theorem openT_ok (t : Ti.Tri) (A : Option Addr) (c : Nat) (w : World) (hg : Tsts w w.heap.size A t.ts) (hchk : Ti.chkV t = 0) (hl : t.ts.length ≤ 1000000000) :
    Calls Tryz.prog 54 #[.agg (tiV t A c), .bool true] w (OpPost (Ti.opE t true) t A c w) := by
  obtain ⟨hga, hsk, hn6, har⟩ := Ti.chk_ok hchk
  have HC : Hid (∀ W, Below w.heap.size w W → Calls Tryz.prog 11 #[.agg (tiV t A c)] W (ErrPost 0 W)) := fun W hW => by
    have := CheckT_any t A c hl W ((hg.keep hW).wider hW.size)
    rwa [hchk] at this
  have HSEQ : Hid (∀ (AL : Option Addr) (cm : Nat) w', w.heap.size ≤ w'.heap.size → SeqFarG Tryz.prog (fun V => Alw V V.heap.size AL t) 55 #[.agg (fV t A c AL t.ts.length cm)] #[] encGk w.heap.size (fun ys => ys = Ti.truthsL t) (fun pre => pre <+: Ti.truthsL t) 5000 w') := fun AL cm w' h => truthsT_far t hga hsk (by omega) A c AL cm w.heap.size w' h
  have HTS : Hid (∀ W, Below w.heap.size w W → Tsts W w.heap.size A t.ts) := fun W hW => hg.keep hW
  have HALC : Hid (∀ (k m cm : Nat) (AL A' : Option Addr) (c' : Nat) W, k < t.ts.length → (Ti.tstAt t.ts k).2.length ≤ 1000000000 → Wks W W.heap.size A' (Ti.tstAt t.ts k).2 → Calls Tryz.prog 93 #[.agg (fV t A c AL m cm), .agg #[.int .i64 (Ti.tstAt t.ts k).1, .slice A' (Ti.tstAt t.ts k).2.length c']] W (MapPost (Ti.puts t (Ti.tstAt t.ts k)) W)) := fun k m cm AL A' c' W hk h1 h2 => allows_any t hga _ (har k hk) h1 A c AL m cm A' c' W h2
  have HALW : Hid (∀ W B AL cm, OwnM W B (.slice AL t.ts.length cm) (fun k => Ti.puts t (Ti.tstAt t.ts k)) t.ts.length → Alw W W.heap.size AL t) := fun W B AL cm h => h.alw
  have HN : Hid (Ti.truthsL t = [] → Ti.opE t true = 3 ∧ ∀ AL cm, opV (Ti.opE t true) t A c AL cm = #[.int .i64 0, .int .i64 0, .int .i64 0, .int .i64 0, .int .i64 0, .int .i64 0, .int .i64 0, .int .i64 0, .int .i64 0, .slice none 0 0, .slice none 0 0]) := fun h => by
    have h3 : Ti.opE t true = 3 := by unfold Ti.opE; rw [if_pos hchk, if_pos rfl, if_pos h]
    exact ⟨h3, fun AL cm => opV_no (by omega) t A c AL cm⟩
  have HY : Hid (Ti.truthsL t ≠ [] → Ti.opE t true = 0 ∧ ∀ AL cm, opV (Ti.opE t true) t A c AL cm = fV t A c AL t.ts.length cm) := fun h => by
    have h3 : Ti.opE t true = 0 := by unfold Ti.opE; rw [if_pos hchk, if_pos rfl, if_neg h]
    exact ⟨h3, fun AL cm => by rw [h3]; exact opV_yes t A c AL cm⟩
  unfold OpPost
  unfold ErrPost at HC
  unfold MapPost at HALC
  unfold fV at *
  unfold tiV at *
  clear hchk hsk hga hg har
  generalize Ti.truthsL t = TL at *
  generalize hOV : opV (Ti.opE t true) t A c = OV at *
  clear hOV
  generalize Ti.opE t true = SE at *
  obtain ⟨AW, hAW⟩ : ∃ AW : Option Addr → World → Prop, AW = fun AL V => Alw V V.heap.size AL t := ⟨_, rfl⟩
  have HAW : ∀ AL V, Alw V V.heap.size AL t = AW AL V := fun AL V => by rw [hAW]
  have HAO : Hid (∀ AL V V', AW AL V → Below V.heap.size V V' → AW AL V') := fun AL V V' h hb => by rw [← HAW] at h ⊢; exact (h.keep hb).wider hb.size
  simp only [HAW] at HSEQ HALW
  simp only [HAW]
  clear HAW hAW
  generalize hPU : (fun k => Ti.puts t (Ti.tstAt t.ts k)) = PU at *
  have hPU' : ∀ k, Ti.puts t (Ti.tstAt t.ts k) = PU k := fun k => by rw [← hPU]
  simp only [hPU'] at HALC
  clear hPU hPU'
  obtain ⟨d, gain, ts⟩ := t
  obtain ⟨full, read, slip, skew, circ, glo, ghi, wrn, dws⟩ := d
  dsimp only at *
  refine (callsIn_wide (n := 8)).1 ?_
  refine callsIn_of_wp_marks Tryz.func54 rfl trivial ?_ rfl
  simp only [Tryz.ntmps54, List.size_toArray, List.length_cons, List.length_nil, Nat.reduceAdd, Nat.reduceSub, Array.replicate_succ, Array.replicate_zero, List.push_toArray, List.append_toArray, List.nil_append, List.cons_append]
  gi_wp2
  have bT := ((BoxS.new w 28 #[.int .i64 full, .int .i64 read, .int .i64 slip, .int .i64 skew, .int .i64 circ, .int .i64 glo, .int .i64 ghi, .int .i64 wrn, .int .i64 gain, .slice A ts.length c]).alloc (.cells #[.int .i64 0, .int .i64 0, .int .i64 0, .int .i64 0, .int .i64 0, .int .i64 0, .int .i64 0, .int .i64 0, .int .i64 0, .slice none 0 0, .slice none 0 0] 84)).alloc (.cells #[.int .i64 0] 32)
  have bZ := (BoxS.new (w.alloc (.cells #[.int .i64 full, .int .i64 read, .int .i64 slip, .int .i64 skew, .int .i64 circ, .int .i64 glo, .int .i64 ghi, .int .i64 wrn, .int .i64 gain, .slice A ts.length c] 28)) 84 #[.int .i64 0, .int .i64 0, .int .i64 0, .int .i64 0, .int .i64 0, .int .i64 0, .int .i64 0, .int .i64 0, .int .i64 0, .slice none 0 0, .slice none 0 0]).alloc (.cells #[.int .i64 0] 32)
  have bE := BoxS.new ((w.alloc (.cells #[.int .i64 full, .int .i64 read, .int .i64 slip, .int .i64 skew, .int .i64 circ, .int .i64 glo, .int .i64 ghi, .int .i64 wrn, .int .i64 gain, .slice A ts.length c] 28)).alloc (.cells #[.int .i64 0, .int .i64 0, .int .i64 0, .int .i64 0, .int .i64 0, .int .i64 0, .int .i64 0, .int .i64 0, .int .i64 0, .slice none 0 0, .slice none 0 0] 84)) 32 #[.int .i64 0]
  have hB1 : Below w.heap.size w (((w.alloc (.cells #[.int .i64 full, .int .i64 read, .int .i64 slip, .int .i64 skew, .int .i64 circ, .int .i64 glo, .int .i64 ghi, .int .i64 wrn, .int .i64 gain, .slice A ts.length c] 28)).alloc (.cells #[.int .i64 0, .int .i64 0, .int .i64 0, .int .i64 0, .int .i64 0, .int .i64 0, .int .i64 0, .int .i64 0, .int .i64 0, .slice none 0 0, .slice none 0 0] 84)).alloc (.cells #[.int .i64 0] 32)) := by (repeat' (first | (with_reducible exact Below.refl _ _) | (with_reducible assumption) | (with_reducible refine Below.alloc ?_ ?_ _) | (with_reducible refine Below.drew ?_) | (with_reducible refine Below.setCell ?_ ?_ _) | go_size | (exact (by simp)) | omega))
  have hz1 : (((w.alloc (.cells #[.int .i64 full, .int .i64 read, .int .i64 slip, .int .i64 skew, .int .i64 circ, .int .i64 glo, .int .i64 ghi, .int .i64 wrn, .int .i64 gain, .slice A ts.length c] 28)).alloc (.cells #[.int .i64 0, .int .i64 0, .int .i64 0, .int .i64 0, .int .i64 0, .int .i64 0, .int .i64 0, .int .i64 0, .int .i64 0, .slice none 0 0, .slice none 0 0] 84)).alloc (.cells #[.int .i64 0] 32)).heap.size = w.heap.size + 3 := by simp
  rw [World.size_alloc] at bZ bE
  rw [World.size_alloc] at bE
  generalize World.alloc (World.alloc (World.alloc w _) _) _ = w1 at *
  refine ⟨trivial, (callsIn_wide.2 (HC.out _ hB1)).mono ?_⟩
  rintro e w2 ⟨rfl, hb2⟩
  have bT2 := bT.below hb2
  have bZ2 := bZ.below hb2
  have bE2 := bE.below hb2
  have hB2 := hB1.trans (hb2.mono hB1.size)
  have hz2 : w.heap.size + 3 ≤ w2.heap.size := by have := hb2.size; omega
  clear bT bZ bE hb2 hB1 HC hz1
  have k0 := bT2.cell 0 rfl
  have k1 := bT2.cell 1 rfl
  have k2 := bT2.cell 2 rfl
  have k3 := bT2.cell 3 rfl
  have k4 := bT2.cell 4 rfl
  have k5 := bT2.cell 5 rfl
  have k6 := bT2.cell 6 rfl
  have k7 := bT2.cell 7 rfl
  have k8 := bT2.cell 8 rfl
  have k9 := bT2.cell 9 rfl
  have lT := bT2.lt
  gi_wp2
  clear k0 k1 k2 k3 k4 k5 k6 k7 k8 k9 lT
  have bF3 := BoxS.new w2 84 #[.int .i64 full, .int .i64 read, .int .i64 slip, .int .i64 skew, .int .i64 circ, .int .i64 glo, .int .i64 ghi, .int .i64 wrn, .int .i64 gain, .slice A ts.length c, .slice none 0 0]
  have bT3 := bT2.alloc (.cells #[.int .i64 full, .int .i64 read, .int .i64 slip, .int .i64 skew, .int .i64 circ, .int .i64 glo, .int .i64 ghi, .int .i64 wrn, .int .i64 gain, .slice A ts.length c, .slice none 0 0] 84)
  have bZ3 := bZ2.alloc (.cells #[.int .i64 full, .int .i64 read, .int .i64 slip, .int .i64 skew, .int .i64 circ, .int .i64 glo, .int .i64 ghi, .int .i64 wrn, .int .i64 gain, .slice A ts.length c, .slice none 0 0] 84)
  have bE3 := bE2.alloc (.cells #[.int .i64 full, .int .i64 read, .int .i64 slip, .int .i64 skew, .int .i64 circ, .int .i64 glo, .int .i64 ghi, .int .i64 wrn, .int .i64 gain, .slice A ts.length c, .slice none 0 0] 84)
  have hB3 : Below w.heap.size w (w2.alloc (.cells #[.int .i64 full, .int .i64 read, .int .i64 slip, .int .i64 skew, .int .i64 circ, .int .i64 glo, .int .i64 ghi, .int .i64 wrn, .int .i64 gain, .slice A ts.length c, .slice none 0 0] 84)) := hB2.alloc hB2.size _
  clear bT2 bZ2 bE2 hB2
  generalize World.alloc w2 _ = w3 at *
  gi_loopw [9, 24] (fun x9 x24 wr => ∃ (k : Nat) (AL : Option Addr) (cm : Nat), (k : Int) ≤ ts.length ∧ x24 = .int .i64 (k : Int) ∧ Below w.heap.size w wr ∧ BoxS wr w.heap.size 28 #[.int .i64 full, .int .i64 read, .int .i64 slip, .int .i64 skew, .int .i64 circ, .int .i64 glo, .int .i64 ghi, .int .i64 wrn, .int .i64 gain, .slice A ts.length c] ∧ BoxS wr (w.heap.size + 1) 84 #[.int .i64 0, .int .i64 0, .int .i64 0, .int .i64 0, .int .i64 0, .int .i64 0, .int .i64 0, .int .i64 0, .int .i64 0, .slice none 0 0, .slice none 0 0] ∧ BoxS wr (w.heap.size + 1 + 1) 32 #[.int .i64 0] ∧ BoxS wr w2.heap.size 84 #[.int .i64 full, .int .i64 read, .int .i64 slip, .int .i64 skew, .int .i64 circ, .int .i64 glo, .int .i64 ghi, .int .i64 wrn, .int .i64 gain, .slice A ts.length c, .slice AL k cm] ∧ Hid (OwnM wr (w.heap.size + 3) (.slice AL k cm) PU k)) (fun _ x24 _ => (ts.length - intOf x24).toNat)
  case atStart => exact ⟨0, none, 0, by omega, rfl, hB3, bT3, bZ3, bE3, bF3, OwnM.nil _ _ _⟩
  case round =>
    clear bT3 bZ3 bE3 bF3 hB3
    obtain ⟨k, AL, cm, hk, rfl, hB, bT, bZ, bE, bF, hO⟩ := hrel
    have hk0 := Int.natCast_nonneg k
    by_cases hlt : (k : Int) < ts.length
    · have hkn : k < ts.length := by omega
      obtain ⟨b, off, rfl, hb, hc⟩ := (HTS.out wr hB) (by omega)
      obtain ⟨A', c', y0, y1, hwk, hwl⟩ := hc k _ (tst_at hkn)
      have hAL := Lib.hid (fun W => HALC.out k k cm AL A' c' W hkn hwl)
      have hw1 : IntKind.i64.wrap ((k : Int) + 1) = (k : Int) + 1 := IntWalk.i64_in _ (by omega)
      have hbs := hB.size
      have hbr : b < wr.heap.size := by omega
      generalize Ti.tstAt ts k = x at *
      obtain ⟨xa, xw⟩ := x
      dsimp only at *
      clear hc HN HY HSEQ HALW HTS HALC
      gi_wp2
      have bX := BoxS.new wr 78 #[.int .i64 xa, .slice A' xw.length c']
      have bF1 := bF.alloc (.cells #[.int .i64 xa, .slice A' xw.length c'] 78)
      have bT1 := bT.alloc (.cells #[.int .i64 xa, .slice A' xw.length c'] 78)
      have bZ1 := bZ.alloc (.cells #[.int .i64 xa, .slice A' xw.length c'] 78)
      have bE1 := bE.alloc (.cells #[.int .i64 xa, .slice A' xw.length c'] 78)
      have hO1 := Lib.hid (hO.out.below ((Below.refl _ _).alloc (Nat.le_refl _) (.cells #[.int .i64 xa, .slice A' xw.length c'] 78)))
      have hb1 : Below w.heap.size w (wr.alloc (.cells #[.int .i64 xa, .slice A' xw.length c'] 78)) := hB.alloc hB.size _
      have hwk1 := Lib.hid (hwk.keep ((Below.refl w.heap.size wr).alloc hB.size (.cells #[.int .i64 xa, .slice A' xw.length c'] 78)))
      have lrX : w2.heap.size < wr.heap.size := bF.lt
      clear y0 y1 bF bT bZ bE hO hB hwk
      generalize wr.heap.size = BX at *
      generalize World.alloc wr _ = wz at *
      have hmo : Tryz.prog.follows .mixedOrders = true := by kernel_rfl
      have q0 : Below wz.heap.size wz wz.drew := (Below.refl _ _).drew
      have s0 : BoxS wz.drew w2.heap.size 84 #[.int .i64 full, .int .i64 read, .int .i64 slip, .int .i64 skew, .int .i64 circ, .int .i64 glo, .int .i64 ghi, .int .i64 wrn, .int .i64 gain, .slice (some ⟨b, off, none⟩) ts.length c, .slice AL k cm] ∧ BoxS wz.drew BX 78 #[.int .i64 xa, .slice A' xw.length c'] := ⟨bF1.drew, bX.drew⟩
      have KC : Hid (∀ V', (BoxS V' w2.heap.size 84 #[.int .i64 full, .int .i64 read, .int .i64 slip, .int .i64 skew, .int .i64 circ, .int .i64 glo, .int .i64 ghi, .int .i64 wrn, .int .i64 gain, .slice (some ⟨b, off, none⟩) ts.length c, .slice AL k cm] ∧ BoxS V' BX 78 #[.int .i64 xa, .slice A' xw.length c']) → ((((V'.cell? ⟨w2.heap.size, 0, none⟩ = some (.int .i64 full) ∧ V'.cell? ⟨w2.heap.size, 1, none⟩ = some (.int .i64 read) ∧ V'.cell? ⟨w2.heap.size, 2, none⟩ = some (.int .i64 slip)) ∧ V'.cell? ⟨w2.heap.size, 3, none⟩ = some (.int .i64 skew) ∧ V'.cell? ⟨w2.heap.size, 4, none⟩ = some (.int .i64 circ) ∧ V'.cell? ⟨w2.heap.size, 5, none⟩ = some (.int .i64 glo)) ∧ (V'.cell? ⟨w2.heap.size, 6, none⟩ = some (.int .i64 ghi) ∧ V'.cell? ⟨w2.heap.size, 7, none⟩ = some (.int .i64 wrn) ∧ V'.cell? ⟨w2.heap.size, 8, none⟩ = some (.int .i64 gain)) ∧ V'.cell? ⟨w2.heap.size, 9, none⟩ = some (.slice (some ⟨b, off, none⟩) ts.length c) ∧ V'.cell? ⟨w2.heap.size, 10, none⟩ = some (.slice AL k cm)) ∧ (V'.cell? ⟨BX, 0, none⟩ = some (.int .i64 xa) ∧ V'.cell? ⟨BX, 1, none⟩ = some (.slice A' xw.length c')))) := fun V' h => ⟨boxS11 h.1, boxS2 h.2⟩
      refine wpIn_mono (Q := noPanic _) ?_ noPanic_le
      refine wpIn_region_held (fun V' => BoxS V' w2.heap.size 84 #[.int .i64 full, .int .i64 read, .int .i64 slip, .int .i64 skew, .int .i64 circ, .int .i64 glo, .int .i64 ghi, .int .i64 wrn, .int .i64 gain, .slice (some ⟨b, off, none⟩) ts.length c, .slice AL k cm] ∧ BoxS V' BX 78 #[.int .i64 xa, .slice A' xw.length c']) 8 hmo ?_
      refine wpHeldIn_take (i := 0) (v := ?_) (plain_of (by kernel_rfl)) rfl (by kernel_rfl) (fun _ _ _ h => h) (yieldsSoIn_of (by kernel_rfl) ?_ (fun _ => rfl)) s0 ?_; rotate_left; focus (intro wq hw; clear hw; go_simp; try (with_reducible rfl))
      refine wpHeldIn_take (i := 1) (v := ?_) (plain_of (by kernel_rfl)) rfl (by kernel_rfl) (fun _ _ _ h => h) (yieldsSoIn_of (by kernel_rfl) ?_ (fun _ => rfl)) s0 ?_; rotate_left; focus (intro wq hw; have kq := KC.out wq hw; clear hw; go_simp; try (with_reducible rfl))
      refine wpHeldIn_take (i := 2) (v := ?_) (plain_of (by kernel_rfl)) rfl (by kernel_rfl) (fun _ _ _ h => h) (yieldsSoIn_of (by kernel_rfl) ?_ (fun _ => rfl)) s0 ?_; rotate_left; focus (intro wq hw; have kq := KC.out wq hw; clear hw; go_simp; try (with_reducible rfl))
      refine wpHeldIn_take (i := 3) (v := ?_) (plain_of (by kernel_rfl)) rfl (by kernel_rfl) (fun _ _ _ h => h) (yieldsSoIn_of (by kernel_rfl) ?_ (fun _ => rfl)) s0 ?_; rotate_left; focus (intro wq hw; have kq := KC.out wq hw; clear hw; go_simp; try (with_reducible rfl))
      refine wpHeldIn_one (i := 4) (by kernel_rfl) (by kernel_rfl) rfl (by kernel_rfl) (fun K1 hK1 => ?_)
      go_simp
      refine ⟨trivial, (callsIn_wide.2 (hAL.out _ ((hwk1.out.keep (q0.mono hb1.size)).wider (by have := hb1.size; have := q0.size; omega)))).mono ?_⟩
      rintro e w5 ⟨bm, rfl, hbm, hS5, hb5⟩
      have q1 := q0.trans (hb5.mono q0.size)
      have s1 := And.intro (bF1.below q1) (bX.below q1)
      refine hK1 _ _ s1 ?_
      refine wpHeldIn_one (i := 5) (by kernel_rfl) (by kernel_rfl) rfl (by kernel_rfl) (fun K2 hK2 => ?_)
      go_simp
      have q2 : Below wz.heap.size wz (w5.alloc (.cells #[.map (some bm)] 125)) := q1.alloc q1.size _
      have s2 := And.intro (bF1.below q2) (bX.below q2)
      have bm6 := BoxS.new w5 125 #[.map (some bm)]
      have hS6 := hS5.below ((Below.refl _ _).alloc (Nat.le_refl _) (.cells #[.map (some bm)] 125))
      have hbm0 : w.heap.size + 3 ≤ bm := by have := q0.size; have := bF1.lt; omega
      have hO6 := hO1.out.below q2
      have hB6 := hb1.trans (q2.mono hb1.size)
      have bT6 := bT1.below q2
      have bZ6 := bZ1.below q2
      have bE6 := bE1.below q2
      have hs6 := hB6.size
      have lz6 : w.heap.size + 3 ≤ wz.heap.size := by have := bF1.lt; omega
      refine hK2 _ _ s2 ?_
      clear bX bF1 hS5 hAL hwk1 bT1 bZ1 bE1 hO1 hb1 s0 s1
      refine wpHeldIn_one (i := 6) (by kernel_rfl) (by kernel_rfl) rfl (by kernel_rfl) (fun K3 hK3 => ?_)
      refine wpIn_appm (.tmp 29) (.tmp 33) rfl (w.heap.size + 3) (.slice AL k cm) PU k rfl hO6 w5.heap.size bm rfl bm6 hS6 hbm0 (by omega) (by have := q2.size; omega) ?_
      intro v7 w7 hO7 hg7
      obtain ⟨A7, c7, rfl⟩ := hO7.form
      obtain ⟨bs6, p1, p2, p3⟩ := hO6
      have bF7 := s2.1.kept hg7 (row_ne_box p2 s2.1 (by decide))
      have bX7 := s2.2.kept hg7 (row_ne_box p2 s2.2 (by decide))
      have bT7 := bT6.kept hg7 (row_ne_box p2 bT6 (by decide))
      have bZ7 := bZ6.kept hg7 (row_ne_box p2 bZ6 (by decide))
      have bE7 := bE6.kept hg7 (row_ne_box p2 bE6 (by decide))
      have hB7 : Below w.heap.size w w7 := hB6.grown hg7 hs6 (fun j hj => by have := (p2.lt j hj).1; omega)
      have s7 := And.intro bF7 bX7
      refine hK3 _ _ s7 ?_
      refine wpHeldIn_take (i := 7) (v := ?_) (plain_of (by kernel_rfl)) rfl (by kernel_rfl) (fun _ _ _ h => h) (yieldsSoIn_of (by kernel_rfl) ?_ (fun _ => rfl)) s7 ?_; rotate_left; focus (intro wq hw; clear hw; go_simp; try (with_reducible rfl))
      clear s7 s2 bT6 bZ6 bE6 hB6 p1 p2 p3 bm6 hS6 hg7 q0 q1 q2
      have fr := bF7.frozen 10
      have fc := bF7.cell 10 rfl
      refine wpHeldIn_last (by kernel_rfl) rfl (by kernel_rfl) (fun K4 hK4 => ?_)
      go_simp
      have bF8 : BoxS (w7.setCell ⟨w2.heap.size, 10, none⟩ (.slice A7 (k + 1) c7)) w2.heap.size 84 #[.int .i64 full, .int .i64 read, .int .i64 slip, .int .i64 skew, .int .i64 circ, .int .i64 glo, .int .i64 ghi, .int .i64 wrn, .int .i64 gain, .slice (some ⟨b, off, none⟩) ts.length c, .slice A7 (k + 1) c7] := bF7.put9 10 (.slice A7 (k + 1) c7)
      have bT8 := bT7.away (B' := w2.heap.size) (by omega) 10 (.slice A7 (k + 1) c7)
      have bZ8 := bZ7.away (B' := w2.heap.size) (by omega) 10 (.slice A7 (k + 1) c7)
      have bE8 := bE7.away (B' := w2.heap.size) (by omega) 10 (.slice A7 (k + 1) c7)
      have hO8 := Lib.hid (hO7.set bF7 (by decide) 10 (.slice A7 (k + 1) c7))
      have hB8 : Below w.heap.size w (w7.setCell ⟨w2.heap.size, 10, none⟩ (.slice A7 (k + 1) c7)) := hB7.setCell (by simp; omega) _
      clear bF7 bX7 bT7 bZ7 bE7 hO7 hB7 fr fc
      refine hK4 _ _ ?_
      generalize World.setCell w7 _ _ = w8 at *
      refine wpHeldIn_done (by kernel_rfl) ?_ _
      go_simp
      refine noPanic_of ?_
      gi_wp2
      go_roundw
      case rel => exact ⟨k + 1, A7, c7, by omega, by go_num, hB8, bT8, bZ8, bE8, bF8, hO8⟩
      case measure => simp [intOf]; omega
    · have ek : k = ts.length := by omega
      subst ek
      have HAL := Lib.hid (HALW.out _ _ _ _ hO.out)
      have k0 := bF.cell 0 rfl
      have k1 := bF.cell 1 rfl
      have k2 := bF.cell 2 rfl
      have k3 := bF.cell 3 rfl
      have k4 := bF.cell 4 rfl
      have k5 := bF.cell 5 rfl
      have k6 := bF.cell 6 rfl
      have k7 := bF.cell 7 rfl
      have k8 := bF.cell 8 rfl
      have k9 := bF.cell 9 rfl
      have k10 := bF.cell 10 rfl
      gi_wp2
      clear k0 k1 k2 k3 k4 k5 k6 k7 k8 k9 k10
      have hbs := hB.size
      have lF := bF.lt
      refine wpIn_farG (n₀ := w.heap.size) (gf := 55) (pb := #[.agg #[.int .i64 full, .int .i64 read, .int .i64 slip, .int .i64 skew, .int .i64 circ, .int .i64 glo, .int .i64 ghi, .int .i64 wrn, .int .i64 gain, .slice A ts.length c, .slice AL ts.length cm]]) (lb := #[]) rfl (enters_of Tryz.func55 (by kernel_rfl) rfl)
        (HSEQ.out AL cm wr hbs) (Below.refl _ _) (by omega) (fun _ => rfl)
        (fun pre V => (((Hid (pre = []) ∧ BoxS V w2.heap.size 84 #[.int .i64 full, .int .i64 read, .int .i64 slip, .int .i64 skew, .int .i64 circ, .int .i64 glo, .int .i64 ghi, .int .i64 wrn, .int .i64 gain, .slice A ts.length c, .slice AL ts.length cm]) ∧ BoxS V (w.heap.size + 1) 84 #[.int .i64 0, .int .i64 0, .int .i64 0, .int .i64 0, .int .i64 0, .int .i64 0, .int .i64 0, .int .i64 0, .int .i64 0, .slice none 0 0, .slice none 0 0]) ∧ BoxS V (w.heap.size + 1 + 1) 32 #[.int .i64 0]) ∧ Below wr.heap.size wr V)
        (fun cc pre V => ((((cc = .ret ∧ Hid (pre ≠ [])) ∧ BoxS V (w.heap.size + 1) 84 #[.int .i64 full, .int .i64 read, .int .i64 slip, .int .i64 skew, .int .i64 circ, .int .i64 glo, .int .i64 ghi, .int .i64 wrn, .int .i64 gain, .slice A ts.length c, .slice AL ts.length cm]) ∧ BoxS V (w.heap.size + 1 + 1) 32 #[.int .i64 0]) ∧ Below w.heap.size w V) ∧ KpTwo (w.heap.size + 1) (w.heap.size + 1 + 1) wr V)
        (fun pre V h => HAO.out _ _ _ HAL.out h.2)
        (OwnFrom.and (OwnFrom.and (OwnFrom.and (OwnFrom.and (ownFrom_pure _ (fun pre => Hid (pre = []))) (Own.from (boxS_own _ _ (fun _ => _)) _)) (Own.from (boxS_own _ _ (fun _ => _)) _)) (Own.from (boxS_own _ _ (fun _ => _)) _)) (ownFrom_below (Nat.le_refl _) (Nat.le_refl _)))
        (fun cc => OwnFrom.and (OwnFrom.and (OwnFrom.and (OwnFrom.and (ownFrom_pure _ (fun pre => cc = .ret ∧ Hid (pre ≠ []))) (Own.from (boxS_own _ _ (fun _ => _)) _)) (Own.from (boxS_own _ _ (fun _ => _)) _)) (ownFrom_below (Nat.le_refl _) (by omega))) (ownFrom_two _ _ _ (Nat.le_refl _)))
        ⟨⟨⟨⟨rfl, bF⟩, bZ⟩, bE⟩, Below.refl _ _⟩
        (fun x a' V => a' = { tmps := #[.agg #[.int .i64 full, .int .i64 read, .int .i64 slip, .int .i64 skew, .int .i64 circ, .int .i64 glo, .int .i64 ghi, .int .i64 wrn, .int .i64 gain, .slice A ts.length c], .bool true, .pointer (some ⟨w.heap.size, 0, none⟩), undef, .pointer (some ⟨w.heap.size + 1, 0, none⟩), .pointer (some ⟨w.heap.size + 1 + 1, 0, none⟩), .int .i64 0, .pointer (some ⟨w2.heap.size, 0, none⟩), undef, u9, .agg #[.int .i64 full, .int .i64 read, .int .i64 slip, .int .i64 skew, .int .i64 circ, .int .i64 glo, .int .i64 ghi, .int .i64 wrn, .int .i64 gain, .slice A ts.length c], .int .i64 0, .int .i64 0, .bool false, undef, undef, .bool true, .bool false, undef, .agg #[.int .i64 full, .int .i64 read, .int .i64 slip, .int .i64 skew, .int .i64 circ, .int .i64 glo, .int .i64 ghi, .int .i64 wrn, .int .i64 gain, .slice A ts.length c], .agg #[.int .i64 full, .int .i64 read, .int .i64 slip, .int .i64 skew, .int .i64 circ, .int .i64 glo, .int .i64 ghi, .int .i64 wrn, .int .i64 gain, .slice A ts.length c, .slice none 0 0], .pointer (some ⟨w.heap.size, 9, none⟩), .slice A ts.length c, .int .i64 ts.length, .int .i64 ts.length, .bool false, u26, u27, u28, u29, u30, u31, u32, u33, u34, u35, u36, .agg #[.int .i64 full, .int .i64 read, .int .i64 slip, .int .i64 skew, .int .i64 circ, .int .i64 glo, .int .i64 ghi, .int .i64 wrn, .int .i64 gain, .slice A ts.length c, .slice AL ts.length cm], .func (.func 55) #[.agg #[.int .i64 full, .int .i64 read, .int .i64 slip, .int .i64 skew, .int .i64 circ, .int .i64 glo, .int .i64 ghi, .int .i64 wrn, .int .i64 gain, .slice A ts.length c, .slice AL ts.length cm]] #[], .agg #[.int .i64 x.1.1, .int .i64 x.1.2], undef, undef], defers := [] })
        (fun x a' => ownFrom_pure _ (fun _ => _))
        ?assign ?body ?done ?stop
      case assign =>
        rintro l2 pre x V K h hK
        unfold encGk
        gi_wp2
        exact hK _ _ (Apart.refl _ _ _) h (by simp)
      case body =>
        rintro l2 pre x a' V ⟨⟨⟨⟨hp, bW⟩, bZ⟩, bE⟩, hBw⟩ rfl hlt
        have k0 := bW.cell 0 rfl
        have k1 := bW.cell 1 rfl
        have k2 := bW.cell 2 rfl
        have k3 := bW.cell 3 rfl
        have k4 := bW.cell 4 rfl
        have k5 := bW.cell 5 rfl
        have k6 := bW.cell 6 rfl
        have k7 := bW.cell 7 rfl
        have k8 := bW.cell 8 rfl
        have k9 := bW.cell 9 rfl
        have k10 := bW.cell 10 rfl
        have e0 := bE.cell 0 rfl
        have fe := bE.frozen 0
        have z0 := bZ.cell 0 rfl
        have z1 := bZ.cell 1 rfl
        have z2 := bZ.cell 2 rfl
        have z3 := bZ.cell 3 rfl
        have z4 := bZ.cell 4 rfl
        have z5 := bZ.cell 5 rfl
        have z6 := bZ.cell 6 rfl
        have z7 := bZ.cell 7 rfl
        have z8 := bZ.cell 8 rfl
        have z9 := bZ.cell 9 rfl
        have z10 := bZ.cell 10 rfl
        have f0 := bZ.frozen 0
        have f1 := bZ.frozen 1
        have f2 := bZ.frozen 2
        have f3 := bZ.frozen 3
        have f4 := bZ.frozen 4
        have f5 := bZ.frozen 5
        have f6 := bZ.frozen 6
        have f7 := bZ.frozen 7
        have f8 := bZ.frozen 8
        have f9 := bZ.frozen 9
        have f10 := bZ.frozen 10
        gi_wp2
        have bZ4 := (eleven_put bZ (.int .i64 full) (.int .i64 read) (.int .i64 slip) (.int .i64 skew) (.int .i64 circ) (.int .i64 glo) (.int .i64 ghi) (.int .i64 wrn) (.int .i64 gain) (.slice A ts.length c) (.slice AL ts.length cm)).other (B' := w.heap.size + 1 + 1) (by omega) (.int .i64 0)
        have bE4 := (eleven_other bE (B' := w.heap.size + 1) (by omega) (.int .i64 full) (.int .i64 read) (.int .i64 slip) (.int .i64 skew) (.int .i64 circ) (.int .i64 glo) (.int .i64 ghi) (.int .i64 wrn) (.int .i64 gain) (.slice A ts.length c) (.slice AL ts.length cm)).put1 (.int .i64 0)
        have hA4 := (eleven_apart (b := w.heap.size) (c := wr.heap.size) (B := w.heap.size + 1) V (by omega) (by omega) (.int .i64 full) (.int .i64 read) (.int .i64 slip) (.int .i64 skew) (.int .i64 circ) (.int .i64 glo) (.int .i64 ghi) (.int .i64 wrn) (.int .i64 gain) (.slice A ts.length c) (.slice AL ts.length cm)).trans (Apart.setCell _ ⟨w.heap.size + 1 + 1, 0, none⟩ (by simp; omega) (by simp; omega) (.int .i64 0))
        have hB4 := (hB.trans (hBw.mono hbs)).trans (hA4.below (by have := hBw.size; omega))
        have hK4 := kpTwo_eleven (R1 := w.heap.size + 1) (R2 := w.heap.size + 1 + 1) hBw (.int .i64 full) (.int .i64 read) (.int .i64 slip) (.int .i64 skew) (.int .i64 circ) (.int .i64 glo) (.int .i64 ghi) (.int .i64 wrn) (.int .i64 gain) (.slice A ts.length c) (.slice AL ts.length cm) (.int .i64 0)
        exact ⟨hA4, ⟨⟨⟨⟨rfl, by unfold Hid; simp⟩, bZ4⟩, bE4⟩, hB4⟩, hK4⟩
      case done =>
        rintro D zs V hD rfl ⟨⟨⟨⟨hp, bW⟩, bZ⟩, bE⟩, hBw⟩ hK
        obtain ⟨n1, n2⟩ := HN.out hp.out
        have e0 := bE.cell 0 rfl
        have fe := bE.frozen 0
        have z0 := bZ.cell 0 rfl
        have z1 := bZ.cell 1 rfl
        have z2 := bZ.cell 2 rfl
        have z3 := bZ.cell 3 rfl
        have z4 := bZ.cell 4 rfl
        have z5 := bZ.cell 5 rfl
        have z6 := bZ.cell 6 rfl
        have z7 := bZ.cell 7 rfl
        have z8 := bZ.cell 8 rfl
        have z9 := bZ.cell 9 rfl
        have z10 := bZ.cell 10 rfl
        have f0 := bZ.frozen 0
        have f1 := bZ.frozen 1
        have f2 := bZ.frozen 2
        have f3 := bZ.frozen 3
        have f4 := bZ.frozen 4
        have f5 := bZ.frozen 5
        have f6 := bZ.frozen 6
        have f7 := bZ.frozen 7
        have f8 := bZ.frozen 8
        have f9 := bZ.frozen 9
        have f10 := bZ.frozen 10
        gi_wp2
        have bZ4 := (eleven_put bZ (.int .i64 0) (.int .i64 0) (.int .i64 0) (.int .i64 0) (.int .i64 0) (.int .i64 0) (.int .i64 0) (.int .i64 0) (.int .i64 0) (.slice none 0 0) (.slice none 0 0)).other (B' := w.heap.size + 1 + 1) (by omega) (.int .i64 3)
        have bE4 := (eleven_other bE (B' := w.heap.size + 1) (by omega) (.int .i64 0) (.int .i64 0) (.int .i64 0) (.int .i64 0) (.int .i64 0) (.int .i64 0) (.int .i64 0) (.int .i64 0) (.int .i64 0) (.slice none 0 0) (.slice none 0 0)).put1 (.int .i64 3)
        have hA4 := (eleven_apart (b := w.heap.size) (c := wr.heap.size) (B := w.heap.size + 1) V (by omega) (by omega) (.int .i64 0) (.int .i64 0) (.int .i64 0) (.int .i64 0) (.int .i64 0) (.int .i64 0) (.int .i64 0) (.int .i64 0) (.int .i64 0) (.slice none 0 0) (.slice none 0 0)).trans (Apart.setCell _ ⟨w.heap.size + 1 + 1, 0, none⟩ (by simp; omega) (by simp; omega) (.int .i64 3))
        have hK4 := hA4.obj hK (.inr hD)
        have hB4 := (hB.trans (hBw.mono hbs)).trans (hA4.below (by have := hBw.size; omega))
        clear z0 z1 z2 z3 z4 z5 z6 z7 z8 z9 z10 f0 f1 f2 f3 f4 f5 f6 f7 f8 f9 f10 e0 fe hA4 bZ bE bW hBw hK
        generalize World.setCell (World.setCell (World.setCell (World.setCell (World.setCell (World.setCell (World.setCell (World.setCell (World.setCell (World.setCell (World.setCell (World.setCell V _ _) _ _) _ _) _ _) _ _) _ _) _ _) _ _) _ _) _ _) _ _) _ _ = V4 at *
        refine ⟨by simp, .inl ⟨_, _, rfl, run_takeDeferred hK4, ?_⟩⟩
        have bZ5 : BoxS (V4.putObj D (.deferred none)) (w.heap.size + 1) 84 #[.int .i64 0, .int .i64 0, .int .i64 0, .int .i64 0, .int .i64 0, .int .i64 0, .int .i64 0, .int .i64 0, .int .i64 0, .slice none 0 0, .slice none 0 0] := (World.putObj_heap_other (by omega)).trans bZ4
        have bE5 : BoxS (V4.putObj D (.deferred none)) (w.heap.size + 1 + 1) 32 #[.int .i64 3] := (World.putObj_heap_other (by omega)).trans bE4
        have e5 := bE5.cell 0 rfl
        have z0 := bZ5.cell 0 rfl
        have z1 := bZ5.cell 1 rfl
        have z2 := bZ5.cell 2 rfl
        have z3 := bZ5.cell 3 rfl
        have z4 := bZ5.cell 4 rfl
        have z5 := bZ5.cell 5 rfl
        have z6 := bZ5.cell 6 rfl
        have z7 := bZ5.cell 7 rfl
        have z8 := bZ5.cell 8 rfl
        have z9 := bZ5.cell 9 rfl
        have z10 := bZ5.cell 10 rfl
        refine ⟨.tuple #[.agg #[.int .i64 0, .int .i64 0, .int .i64 0, .int .i64 0, .int .i64 0, .int .i64 0, .int .i64 0, .int .i64 0, .int .i64 0, .slice none 0 0, .slice none 0 0], .int .i64 3], by simp [results, Tryz.f54, go_sem, z0, z1, z2, z3, z4, z5, z6, z7, z8, z9, z10, e5], none, 0, by rw [n1, n2], fun h => absurd h (by rw [n1]; decide), hB4.trans (belowK_b (w := w) (Nat.le_refl _) V4 D _ _ (by omega) hK4 rfl rfl)⟩
      case stop =>
        rintro D cc pre V hD hpre ⟨⟨⟨⟨⟨rfl, hp⟩, bZ⟩, bE⟩, hBv⟩, hkp⟩ hK
        obtain ⟨n1, n2⟩ := HY.out (fun h => hp.out (by rw [h] at hpre; exact List.prefix_nil.1 hpre))
        gi_wp2
        refine ⟨by simp, .inl ⟨_, _, rfl, run_takeDeferred hK, ?_⟩⟩
        have bZ5 : BoxS (V.putObj D (.deferred none)) (w.heap.size + 1) 84 #[.int .i64 full, .int .i64 read, .int .i64 slip, .int .i64 skew, .int .i64 circ, .int .i64 glo, .int .i64 ghi, .int .i64 wrn, .int .i64 gain, .slice A ts.length c, .slice AL ts.length cm] := (World.putObj_heap_other (by omega)).trans bZ
        have bE5 : BoxS (V.putObj D (.deferred none)) (w.heap.size + 1 + 1) 32 #[.int .i64 0] := (World.putObj_heap_other (by omega)).trans bE
        have e5 := bE5.cell 0 rfl
        have z0 := bZ5.cell 0 rfl
        have z1 := bZ5.cell 1 rfl
        have z2 := bZ5.cell 2 rfl
        have z3 := bZ5.cell 3 rfl
        have z4 := bZ5.cell 4 rfl
        have z5 := bZ5.cell 5 rfl
        have z6 := bZ5.cell 6 rfl
        have z7 := bZ5.cell 7 rfl
        have z8 := bZ5.cell 8 rfl
        have z9 := bZ5.cell 9 rfl
        have z10 := bZ5.cell 10 rfl
        have hO5 : OwnM (V.putObj D (.deferred none)) (w.heap.size + 3) (.slice AL ts.length cm) PU ts.length := hO.out.keep (fun i h1 h2 => (World.putObj_heap_other (by omega)).trans (hkp.1 i h2 (by omega) (by omega))) (by have := hkp.2; simp; omega)
        refine ⟨.tuple #[.agg #[.int .i64 full, .int .i64 read, .int .i64 slip, .int .i64 skew, .int .i64 circ, .int .i64 glo, .int .i64 ghi, .int .i64 wrn, .int .i64 gain, .slice A ts.length c, .slice AL ts.length cm], .int .i64 0], by simp [results, Tryz.f54, go_sem, z0, z1, z2, z3, z4, z5, z6, z7, z8, z9, z10, e5], AL, cm, by rw [n1, n2], fun _ => HALW.out _ _ _ _ hO5, hBv.trans (belowK_b (w := w) (Nat.le_refl _) V D _ _ (by omega) hK rfl rfl)⟩
end Go.Proofs.YtkmacpkjobdffaaGreat
