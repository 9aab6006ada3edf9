/- Trials: a copy of a trial, by the reference. -/
import Derived.Test.YtkmacpkjobdffaaGreatTqB
namespace Go.Proofs.YtkmacpkjobdffaaGreat
open Go.RowKit Go.Maps
/-- A copy: its tests, and the walks of each, are the call's own. -/
def CopyPost (t : Ti.Tri) (w : World) (e : Ending) (w' : World) : Prop := ∃ (AT : Option Addr) (cT : Nat) (xs : List Value), e = .returned (.agg (tiV t AT cT)) ∧ Hid (w'.ownsRow w.heap.size 78 2 (.slice AT t.ts.length cT) t.ts.length xs) ∧ Hid (CpRow w.heap.size w' t.ts t.ts.length xs) ∧ Below w.heap.size w w'
set_option maxRecDepth 100000 in
set_option maxHeartbeats 8000000 in
theorem Copy9_any (t : Ti.Tri) (A : Option Addr) (c : Nat) (w : World) (hn : t.ts.length ≤ 1000) (hg : Tsts w w.heap.size A t.ts) :
    Calls Tryz.prog 10 #[.agg (tiV t A c)] w (CopyPost t w) := by
  have HG := Lib.hid hg
  unfold CopyPost
  clear hg
  obtain ⟨d, gain, ts⟩ := t
  obtain ⟨full, read, slip, skew, circ, glo, ghi, wrn, dws⟩ := d
  unfold tiV at *
  dsimp only at *
  have hmo : Tryz.prog.follows .mixedOrders = true := by kernel_rfl
  go_enter Tryz.func10, Tryz.ntmps10
  go_wp2_with fail
  have bT := ((BoxS.new w 28 #[.int .i64 full, .int .i64 read, .int .i64 slip, .int .i64 skew, .int .i64 circ, .int .i64 glo, .int .i64 ghi, .int .i64 wrn, .int .i64 gain, .slice A ts.length c]).alloc (.cells #[.int .i64 0, .int .i64 0, .int .i64 0, .int .i64 0, .int .i64 0, .int .i64 0, .int .i64 0, .int .i64 0, .int .i64 0, .slice none 0 0] 28)).alloc (.cells #[.int .i64 full, .int .i64 read, .int .i64 slip, .int .i64 skew, .int .i64 circ, .int .i64 glo, .int .i64 ghi, .int .i64 wrn, .int .i64 gain, .slice none 0 0] 28)
  have bR := (BoxS.new (w.alloc (.cells #[.int .i64 full, .int .i64 read, .int .i64 slip, .int .i64 skew, .int .i64 circ, .int .i64 glo, .int .i64 ghi, .int .i64 wrn, .int .i64 gain, .slice A ts.length c] 28)) 28 #[.int .i64 0, .int .i64 0, .int .i64 0, .int .i64 0, .int .i64 0, .int .i64 0, .int .i64 0, .int .i64 0, .int .i64 0, .slice none 0 0]).alloc (.cells #[.int .i64 full, .int .i64 read, .int .i64 slip, .int .i64 skew, .int .i64 circ, .int .i64 glo, .int .i64 ghi, .int .i64 wrn, .int .i64 gain, .slice none 0 0] 28)
  have bO := BoxS.new ((w.alloc (.cells #[.int .i64 full, .int .i64 read, .int .i64 slip, .int .i64 skew, .int .i64 circ, .int .i64 glo, .int .i64 ghi, .int .i64 wrn, .int .i64 gain, .slice A ts.length c] 28)).alloc (.cells #[.int .i64 0, .int .i64 0, .int .i64 0, .int .i64 0, .int .i64 0, .int .i64 0, .int .i64 0, .int .i64 0, .int .i64 0, .slice none 0 0] 28)) 28 #[.int .i64 full, .int .i64 read, .int .i64 slip, .int .i64 skew, .int .i64 circ, .int .i64 glo, .int .i64 ghi, .int .i64 wrn, .int .i64 gain, .slice none 0 0]
  have hB1 : Below w.heap.size w (((w.alloc (.cells #[.int .i64 full, .int .i64 read, .int .i64 slip, .int .i64 skew, .int .i64 circ, .int .i64 glo, .int .i64 ghi, .int .i64 wrn, .int .i64 gain, .slice A ts.length c] 28)).alloc (.cells #[.int .i64 0, .int .i64 0, .int .i64 0, .int .i64 0, .int .i64 0, .int .i64 0, .int .i64 0, .int .i64 0, .int .i64 0, .slice none 0 0] 28)).alloc (.cells #[.int .i64 full, .int .i64 read, .int .i64 slip, .int .i64 skew, .int .i64 circ, .int .i64 glo, .int .i64 ghi, .int .i64 wrn, .int .i64 gain, .slice none 0 0] 28)) := by (repeat' (first | (with_reducible exact Below.refl _ _) | (with_reducible assumption) | (with_reducible refine Below.alloc ?_ ?_ _) | (with_reducible refine Below.drew ?_) | (with_reducible refine Below.setCell ?_ ?_ _) | go_size | (exact (by simp)) | omega))
  simp only [World.size_alloc] at bR bO
  generalize World.alloc (World.alloc (World.alloc w _) _) _ = w1 at *
  go_loopw [4] (fun x4 wr => ∃ (k : Nat) (AT : Option Addr) (cT : Nat) (xs : List Value), (k : Int) ≤ ts.length ∧ x4 = .int .i64 (k : Int) ∧ Below w.heap.size w wr ∧ BoxS wr w.heap.size 28 #[.int .i64 full, .int .i64 read, .int .i64 slip, .int .i64 skew, .int .i64 circ, .int .i64 glo, .int .i64 ghi, .int .i64 wrn, .int .i64 gain, .slice A ts.length c] ∧ BoxS wr (w.heap.size + 1) 28 #[.int .i64 0, .int .i64 0, .int .i64 0, .int .i64 0, .int .i64 0, .int .i64 0, .int .i64 0, .int .i64 0, .int .i64 0, .slice none 0 0] ∧ BoxS wr (w.heap.size + 1 + 1) 28 #[.int .i64 full, .int .i64 read, .int .i64 slip, .int .i64 skew, .int .i64 circ, .int .i64 glo, .int .i64 ghi, .int .i64 wrn, .int .i64 gain, .slice AT k cT] ∧ Hid (wr.ownsRow (w.heap.size + 1 + 1) 78 2 (.slice AT k cT) k xs) ∧ Hid (CpRow (w.heap.size + 1 + 1 + 1) wr ts k xs)) (fun x4 _ => (ts.length - intOf x4).toNat)
  case atStart => exact ⟨0, none, 0, [], by omega, rfl, hB1, bT, bR, bO, World.ownsRow_nil _ _ _ _, rfl, fun q x h => by omega⟩
  case round =>
    clear bT bR bO hB1
    obtain ⟨k, AT, cT, xs, hk, rfl, hB, bT, bR, bO, hO, hC⟩ := hrel
    have hk0 := Int.natCast_nonneg k
    by_cases hlt : (k : Int) < ts.length
    · have hkl : k < ts.length := by omega
      have hw1 : IntKind.i64.wrap ((k : Int) + 1) = (k : Int) + 1 := IntWalk.i64_in _ (by omega)
      obtain ⟨bt, ot, rfl, hbt, hct⟩ := HG.out (by omega)
      obtain ⟨A', c', x0, x1, hwk, hwl⟩ := hct k _ (tst_at hkl)
      have y0 := (hB.cell (p := ⟨bt, _, none⟩) hbt).trans x0
      have y1 := (hB.cell (p := ⟨bt, _, none⟩) hbt).trans x1
      have hgk := Lib.hid (tst_at hkl)
      clear hct x0 x1
      generalize Ti.tstAt ts k = x at *
      obtain ⟨xa, xw⟩ := x
      dsimp only at *
      have kT9 := bT.cell 9 rfl
      have lT := bT.lt
      have hbz := hB.size
      have lO := bO.lt
      go_wp2_with fail
      have KC : Hid (∀ V', (Below (w.heap.size + 1 + 1) wr.drew V' ∧ BoxS V' (w.heap.size + 1 + 1) 28 #[.int .i64 full, .int .i64 read, .int .i64 slip, .int .i64 skew, .int .i64 circ, .int .i64 glo, .int .i64 ghi, .int .i64 wrn, .int .i64 gain, .slice AT k cT]) → (V'.cell? ⟨w.heap.size, 9, none⟩ = some (.slice (some ⟨bt, ot, none⟩) ts.length c) ∧ V'.cell? ⟨w.heap.size + 1 + 1, 9, none⟩ = some (.slice AT k cT) ∧ V'.cell? ⟨bt, ot + k * 2, none⟩ = some (.int .i64 xa) ∧ V'.cell? ⟨bt, ot + k * 2 + 1, none⟩ = some (.slice A' xw.length c'))) := fun V' h =>
        have hk : ∀ (bb o : Nat) (u : Value), bb < w.heap.size + 1 + 1 → wr.cell? ⟨bb, o, none⟩ = some u → V'.cell? ⟨bb, o, none⟩ = some u := fun bb o u h1 h2 => (h.1.cell (p := ⟨bb, o, none⟩) h1).trans h2
        ⟨hk _ _ _ (by omega) kT9, h.2.cell 9 rfl, hk _ _ _ (by omega) y0, hk _ _ _ (by omega) y1⟩
      have q0 : Below (w.heap.size + 1 + 1) wr.drew wr.drew ∧ BoxS wr.drew (w.heap.size + 1 + 1) 28 #[.int .i64 full, .int .i64 read, .int .i64 slip, .int .i64 skew, .int .i64 circ, .int .i64 glo, .int .i64 ghi, .int .i64 wrn, .int .i64 gain, .slice AT k cT] := ⟨Below.refl _ _, bO.drew⟩
      refine (wpIn_wide (n := 4)).1 ?_
      refine wpIn_mono (Q := noPanic _) ?_ noPanic_le
      refine wpIn_region_held (fun V' => Below (w.heap.size + 1 + 1) wr.drew V' ∧ BoxS V' (w.heap.size + 1 + 1) 28 #[.int .i64 full, .int .i64 read, .int .i64 slip, .int .i64 skew, .int .i64 circ, .int .i64 glo, .int .i64 ghi, .int .i64 wrn, .int .i64 gain, .slice AT k cT]) 20 hmo ?_
      refine wpHeldIn_take (i := 0) (v := ?_) (plain_of (by kernel_rfl)) rfl (by kernel_rfl) (fun _ _ _ h => h) (yieldsSoIn_of (by kernel_rfl) ?_ (fun _ => rfl)) q0 ?_; rotate_left; focus (intro wq hw; clear hw; go_simp; try (with_reducible rfl))
      refine wpHeldIn_take (i := 1) (v := ?_) (plain_of (by kernel_rfl)) rfl (by kernel_rfl) (fun _ _ _ h => h) (yieldsSoIn_of (by kernel_rfl) ?_ (fun _ => rfl)) q0 ?_; rotate_left; focus (intro wq hw; have kq := KC.out wq hw; clear hw; go_simp; try (with_reducible rfl))
      refine wpHeldIn_take (i := 2) (v := ?_) (plain_of (by kernel_rfl)) rfl (by kernel_rfl) (fun _ _ _ h => h) (yieldsSoIn_of (by kernel_rfl) ?_ (fun _ => rfl)) q0 ?_; rotate_left; focus (intro wq hw; clear hw; go_simp; try (with_reducible rfl))
      refine wpHeldIn_take (i := 3) (v := ?_) (plain_of (by kernel_rfl)) rfl (by kernel_rfl) (fun _ _ _ h => h) (yieldsSoIn_of (by kernel_rfl) ?_ (fun _ => rfl)) q0 ?_; rotate_left; focus (intro wq hw; have kq := KC.out wq hw; clear hw; go_simp; try (with_reducible rfl))
      refine wpHeldIn_take (i := 4) (v := ?_) (plain_of (by kernel_rfl)) rfl (by kernel_rfl) (fun _ _ _ h => h) (yieldsSoIn_of (by kernel_rfl) ?_ (fun _ => rfl)) q0 ?_; rotate_left; focus (intro wq hw; clear hw; go_simp; try (with_reducible rfl))
      refine wpHeldIn_take (i := 5) (v := ?_) (plain_of (by kernel_rfl)) rfl (by kernel_rfl) (fun _ _ _ h => h) (yieldsSoIn_of (by kernel_rfl) ?_ (fun _ => rfl)) q0 ?_; rotate_left; focus (intro wq hw; clear hw; go_simp; try (with_reducible rfl))
      refine wpHeldIn_take (i := 6) (v := ?_) (plain_of (by kernel_rfl)) rfl (by kernel_rfl) (fun _ _ _ h => h) (yieldsSoIn_of (by kernel_rfl) ?_ (fun _ => rfl)) q0 ?_; rotate_left; focus (intro wq hw; clear hw; go_simp; try (with_reducible rfl))
      refine wpHeldIn_take (i := 7) (v := ?_) (plain_of (by kernel_rfl)) rfl (by kernel_rfl) (fun _ _ _ h => h) (yieldsSoIn_of (by kernel_rfl) ?_ (fun _ => rfl)) q0 ?_; rotate_left; focus (intro wq hw; have kq := KC.out wq hw; clear hw; go_simp; try (with_reducible rfl))
      refine wpHeldIn_take (i := 9) (v := ?_) (plain_of (by kernel_rfl)) rfl (by kernel_rfl) (fun _ _ _ h => h) (yieldsSoIn_of (by kernel_rfl) ?_ (fun _ => rfl)) q0 ?_; rotate_left; focus (intro wq hw; clear hw; go_simp; try (with_reducible rfl))
      refine wpHeldIn_take (i := 10) (v := ?_) (plain_of (by kernel_rfl)) rfl (by kernel_rfl) (fun _ _ _ h => h) (yieldsSoIn_of (by kernel_rfl) ?_ (fun _ => rfl)) q0 ?_; rotate_left; focus (intro wq hw; have kq := KC.out wq hw; clear hw; go_simp; try (with_reducible rfl))
      refine wpHeldIn_take (i := 11) (v := ?_) (plain_of (by kernel_rfl)) rfl (by kernel_rfl) (fun _ _ _ h => h) (yieldsSoIn_of (by kernel_rfl) ?_ (fun _ => rfl)) q0 ?_; rotate_left; focus (intro wq hw; clear hw; go_simp; try (with_reducible rfl))
      refine wpHeldIn_take (i := 12) (v := ?_) (plain_of (by kernel_rfl)) rfl (by kernel_rfl) (fun _ _ _ h => h) (yieldsSoIn_of (by kernel_rfl) ?_ (fun _ => rfl)) q0 ?_; rotate_left; focus (intro wq hw; clear hw; go_simp; try (with_reducible rfl))
      refine wpHeldIn_take (i := 13) (v := ?_) (plain_of (by kernel_rfl)) rfl (by kernel_rfl) (fun _ _ _ h => h) (yieldsSoIn_of (by kernel_rfl) ?_ (fun _ => rfl)) q0 ?_; rotate_left; focus (intro wq hw; clear hw; go_simp; try (with_reducible rfl))
      refine wpHeldIn_take (i := 14) (v := ?_) (plain_of (by kernel_rfl)) rfl (by kernel_rfl) (fun _ _ _ h => h) (yieldsSoIn_of (by kernel_rfl) ?_ (fun _ => rfl)) q0 ?_; rotate_left; focus (intro wq hw; have kq := KC.out wq hw; clear hw; go_simp; try (with_reducible rfl))
      refine wpHeldIn_one (i := 8) (by kernel_rfl) (by kernel_rfl) rfl (by kernel_rfl) (fun K1 hK1 => ?_)
      go_simp
      have hd : wr.drew.heap.size = wr.heap.size := rfl
      have hb1 : Below wr.heap.size wr ((wr.alloc (.cells #[] 67)).drew) := ((Below.refl _ _).alloc (Nat.le_refl _) _).drew
      have q1 : Below (w.heap.size + 1 + 1) wr.drew ((wr.alloc (.cells #[] 67)).drew) := (show Below (w.heap.size + 1 + 1) wr.drew (wr.drew.alloc (.cells #[] 67)) from (Below.refl _ _).alloc (by rw [hd]; omega) _)
      have r1 : ((wr.alloc (.cells #[] 67)).drew).ownsRow wr.heap.size 67 5 (.slice (some ⟨wr.heap.size, 0, none⟩) 0 0) 0 [] := World.ownsRow_made wr #[] 0 (Nat.le_refl _) (by simp [maxLen]) rfl
      refine hK1 _ _ ⟨q1, bO.below hb1⟩ ?_
      refine wpHeldIn_one (i := 15) (by kernel_rfl) (by kernel_rfl) rfl (by kernel_rfl) (fun K2 hK2 => ?_)
      refine wpIn_copyw (.tmp 22) (.tmp 28) rfl A' c' xw wr.heap.size rfl rfl r1 (((hwk.keep hB).wider hbz |> fun h => (h.keep hb1).wider hb1.size)) hwl hb1.size ?_
      intro Aw cw w2 k1 k2
      have hb2 : Below wr.heap.size wr w2 := hb1.grown k2 hb1.size (fun g hg => by obtain rfl : wr.heap.size = g := (by simpa using hg); omega)
      have q2 : Below (w.heap.size + 1 + 1) wr.drew w2 := q1.grown k2 (by have := hb1.size; omega) (fun g hg => by obtain rfl : wr.heap.size = g := (by simpa using hg); omega)
      have s2 : Below (w.heap.size + 1 + 1) wr.drew w2 ∧ BoxS w2 (w.heap.size + 1 + 1) 28 #[.int .i64 full, .int .i64 read, .int .i64 slip, .int .i64 skew, .int .i64 circ, .int .i64 glo, .int .i64 ghi, .int .i64 wrn, .int .i64 gain, .slice AT k cT] := ⟨q2, bO.below hb2⟩
      refine hK2 _ _ s2 ?_
      clear r1 k2 q1 hb1
      refine wpHeldIn_take (i := 16) (v := ?_) (plain_of (by kernel_rfl)) rfl (by kernel_rfl) (fun _ _ _ h => h) (yieldsSoIn_of (by kernel_rfl) ?_ (fun _ => rfl)) s2 ?_; rotate_left; focus (intro wq hw; clear hw; go_simp; try (with_reducible rfl))
      refine wpHeldIn_one (i := 17) (by kernel_rfl) (by kernel_rfl) rfl (by kernel_rfl) (fun K3 hK3 => ?_)
      go_simp
      have hbz2 := hb2.size
      have bX := BoxS.new w2 78 #[.int .i64 xa, .slice Aw xw.length cw]
      have hb3 : Below wr.heap.size wr (w2.alloc (.cells #[.int .i64 xa, .slice Aw xw.length cw] 78)) := hb2.alloc hbz2 _
      have hb23 : Below w2.heap.size w2 (w2.alloc (.cells #[.int .i64 xa, .slice Aw xw.length cw] 78)) := (Below.refl _ _).alloc (Nat.le_refl _) _
      have q3 : Below (w.heap.size + 1 + 1) wr.drew (w2.alloc (.cells #[.int .i64 xa, .slice Aw xw.length cw] 78)) := q2.alloc (by omega) _
      have k3 := owns_below k1 hb23
      have bO3 := bO.below hb3
      have bT3 := bT.below hb3
      have bR3 := bR.below hb3
      have hO3 := owns_below hO.out hb3
      have hB3 := hB.trans (hb3.mono (by omega))
      have s3 := And.intro q3 bO3
      refine hK3 _ _ s3 ?_
      obtain ⟨BX, hBX⟩ : ∃ B, B = w2.heap.size := ⟨_, rfl⟩
      rw [← hBX] at bX
      have hz3 := hb3.size
      refine wpHeldIn_one (i := 18) (by kernel_rfl) (by kernel_rfl) rfl (by kernel_rfl) (fun K4 hK4 => ?_)
      refine wpIn_appT (.tmp 15) (.tmp 31) rfl (w.heap.size + 1 + 1) (.slice AT k cT) k xs rfl hO3 BX xa Aw xw.length cw (by rw [hBX]; rfl) bX (by omega) (by omega) ?_
      intro A2 c2 w4 k4 k5 _
      generalize hW3 : World.alloc w2 _ = w3 at *
      clear hW3
      have hvl : ∀ g, Value.ownBlock (.slice AT k cT) = some g → w.heap.size + 1 + 1 ≤ g ∧ g < wr.heap.size := fun g hg => World.ownsRow.lt hO.out g hg
      have bO4 := bO3.kept k5 (row_ne_box hO3 bO3 (by decide))
      have bT4 := bT3.kept k5 (row_ne_box hO3 bT3 (by decide))
      have bR4 := bR3.kept k5 (row_ne_box hO3 bR3 (by decide))
      have q4 := q3.grown k5 (by omega) (fun g hg => (hvl g hg).1)
      have hB4 := hB3.grown k5 (by omega) (fun g hg => by have := (hvl g hg).1; omega)
      have kw4 : w4.ownsRow wr.heap.size 67 5 (.slice Aw xw.length cw) xw.length (flatW xw) := World.ownsRow.kept k3 k5 (by
        cases hv : Value.ownBlock (.slice Aw xw.length cw) with
        | none => exact .inl rfl
        | some g' =>
          refine .inr fun e => ?_
          have h1 := (World.ownsRow.lt k3 g' hv).1
          have h2 := (hvl g' e.symm).2
          omega)
      have hC4 := hC.out.kept (W' := w4) hO.out (fun i _ hi hne => (k5.block i (by omega) hne).trans (hb3.block i hi))
      have s4 := And.intro q4 bO4
      refine hK4 _ _ s4 ?_
      refine wpHeldIn_take (i := 19) (v := ?_) (plain_of (by kernel_rfl)) rfl (by kernel_rfl) (fun _ _ _ h => h) (yieldsSoIn_of (by kernel_rfl) ?_ (fun _ => rfl)) s4 ?_; rotate_left; focus (intro wq hw; clear hw; go_simp; try (with_reducible rfl))
      have fr := bO4.frozen 9
      have fc := bO4.cell 9 rfl
      refine wpHeldIn_last (by kernel_rfl) rfl (by kernel_rfl) (fun K5 hK5 => ?_)
      go_simp
      have bO5 := bO4.put9 9 (.slice A2 (k + 1) c2)
      have bT5 := bT4.away (B' := w.heap.size + 1 + 1) (by omega) 9 (.slice A2 (k + 1) c2)
      have bR5 := bR4.away (B' := w.heap.size + 1 + 1) (by omega) 9 (.slice A2 (k + 1) c2)
      have hB5 : Below w.heap.size w (w4.setCell ⟨w.heap.size + 1 + 1, 9, none⟩ (.slice A2 (k + 1) c2)) := hB4.setCell (by simp; omega) _
      have hO5 := Lib.hid (ownsRow_lit (w' := w4.setCell ⟨w.heap.size + 1 + 1, 9, none⟩ (.slice A2 (k + 1) c2)) k4 (fun g hg => Below.heap_setCell _ _ _ g (fun e => row_ne_box k4 bO4 (by decide) (by rw [hg]; exact congrArg some e.symm))))
      have hC5 := hC4.kept (W' := w4.setCell ⟨w.heap.size + 1 + 1, 9, none⟩ (.slice A2 (k + 1) c2)) k4 (fun i hiB _ _ => Below.heap_setCell _ _ _ i (by show i ≠ w.heap.size + 1 + 1; omega))
      have kw5 := row_other (W' := w4.setCell ⟨w.heap.size + 1 + 1, 9, none⟩ (.slice A2 (k + 1) c2)) kw4 k4 (fun i hiB _ _ => Below.heap_setCell _ _ _ i (by show i ≠ w.heap.size + 1 + 1; omega))
      have hC6 : Hid (CpRow (w.heap.size + 1 + 1 + 1) (w4.setCell ⟨w.heap.size + 1 + 1, 9, none⟩ (.slice A2 (k + 1) c2)) ts (k + 1) (xs ++ [.int .i64 xa, .slice Aw xw.length cw])) := by
        have hx1 := hC5.1
        refine ⟨by rw [List.length_append, hx1]; rfl, fun q x hq hx => ?_⟩
        by_cases e : q = k
        · subst e
          rw [hgk.out] at hx
          obtain rfl : (xa, xw) = x := by injection hx
          refine ⟨Aw, cw, ?_, ?_, ownsRow_wider kw5 (by omega), hwl⟩
          · rw [List.getElem?_append_right (by omega), hx1]; simp
          · rw [List.getElem?_append_right (by omega), hx1]; simp
        · obtain ⟨A1, c1, h1, h2, h3, h4⟩ := hC5.2 q x (by omega) hx
          have := (List.getElem?_eq_some_iff.1 h1).1
          have := (List.getElem?_eq_some_iff.1 h2).1
          exact ⟨A1, c1, by rw [List.getElem?_append_left (by omega)]; exact h1, by rw [List.getElem?_append_left (by omega)]; exact h2, h3, h4⟩
      refine hK5 _ _ ?_
      clear bO4 bT4 bR4 hB4 k4 k5 q4 s4 fr fc bO3 bT3 bR3 hO3 hB3 bX q3 s3 hb3 hb23 KC q0 k3 kw4 kw5 hC4 hC5 bO bT bR hO hC hB
      generalize World.setCell w4 _ _ = w5 at *
      refine wpHeldIn_done (by kernel_rfl) ?_ _
      go_simp
      refine noPanic_of ?_
      go_wp2_with fail
      go_roundw
      case rel => exact ⟨k + 1, A2, c2, _, by omega, by go_num, hB5, bT5, bR5, bO5, hO5, hC6⟩
      case measure => simp [intOf]; omega
    · have ek : k = ts.length := by omega
      subst ek
      have kT9 := bT.cell 9 rfl
      have j0 := bO.cell 0 rfl
      have z0 := bR.cell 0 rfl
      have f0 := bR.frozen 0
      have j1 := bO.cell 1 rfl
      have z1 := bR.cell 1 rfl
      have f1 := bR.frozen 1
      have j2 := bO.cell 2 rfl
      have z2 := bR.cell 2 rfl
      have f2 := bR.frozen 2
      have j3 := bO.cell 3 rfl
      have z3 := bR.cell 3 rfl
      have f3 := bR.frozen 3
      have j4 := bO.cell 4 rfl
      have z4 := bR.cell 4 rfl
      have f4 := bR.frozen 4
      have j5 := bO.cell 5 rfl
      have z5 := bR.cell 5 rfl
      have f5 := bR.frozen 5
      have j6 := bO.cell 6 rfl
      have z6 := bR.cell 6 rfl
      have f6 := bR.frozen 6
      have j7 := bO.cell 7 rfl
      have z7 := bR.cell 7 rfl
      have f7 := bR.frozen 7
      have j8 := bO.cell 8 rfl
      have z8 := bR.cell 8 rfl
      have f8 := bR.frozen 8
      have j9 := bO.cell 9 rfl
      have z9 := bR.cell 9 rfl
      have f9 := bR.frozen 9
      have lT := bT.lt
      have lR := bR.lt
      have lO := bO.lt
      go_wp2_with fail
      have bR2 := ten_put bR (.int .i64 full) (.int .i64 read) (.int .i64 slip) (.int .i64 skew) (.int .i64 circ) (.int .i64 glo) (.int .i64 ghi) (.int .i64 wrn) (.int .i64 gain) (.slice AT ts.length cT)
      have hB2 := ten_below (B := w.heap.size + 1) hB (by omega) (.int .i64 full) (.int .i64 read) (.int .i64 slip) (.int .i64 skew) (.int .i64 circ) (.int .i64 glo) (.int .i64 ghi) (.int .i64 wrn) (.int .i64 gain) (.slice AT ts.length cT)
      have hO2 := hO.out
      have hO3 : World.ownsRow _ (w.heap.size + 1 + 1) 78 2 (.slice AT ts.length cT) ts.length xs := ownsRow_lit (w' := ((((((((((wr.setCell ⟨w.heap.size + 1, 0, none⟩ (.int .i64 full)).setCell ⟨w.heap.size + 1, 1, none⟩ (.int .i64 read)).setCell ⟨w.heap.size + 1, 2, none⟩ (.int .i64 slip)).setCell ⟨w.heap.size + 1, 3, none⟩ (.int .i64 skew)).setCell ⟨w.heap.size + 1, 4, none⟩ (.int .i64 circ)).setCell ⟨w.heap.size + 1, 5, none⟩ (.int .i64 glo)).setCell ⟨w.heap.size + 1, 6, none⟩ (.int .i64 ghi)).setCell ⟨w.heap.size + 1, 7, none⟩ (.int .i64 wrn)).setCell ⟨w.heap.size + 1, 8, none⟩ (.int .i64 gain)).setCell ⟨w.heap.size + 1, 9, none⟩ (.slice AT ts.length cT))) hO2 (fun g hg => by
        have hge : g ≠ w.heap.size + 1 := by have := (World.ownsRow.lt hO2 g hg).1; omega
        have oth : ∀ (X : World) (i : Nat) (u : Value), (X.setCell ⟨w.heap.size + 1, i, none⟩ u).heap[g]? = X.heap[g]? := fun X i u => Below.heap_setCell _ _ _ g hge
        rw [oth, oth, oth, oth, oth, oth, oth, oth, oth, oth])
      have hC3 := hC.out.kept (W' := ((((((((((wr.setCell ⟨w.heap.size + 1, 0, none⟩ (.int .i64 full)).setCell ⟨w.heap.size + 1, 1, none⟩ (.int .i64 read)).setCell ⟨w.heap.size + 1, 2, none⟩ (.int .i64 slip)).setCell ⟨w.heap.size + 1, 3, none⟩ (.int .i64 skew)).setCell ⟨w.heap.size + 1, 4, none⟩ (.int .i64 circ)).setCell ⟨w.heap.size + 1, 5, none⟩ (.int .i64 glo)).setCell ⟨w.heap.size + 1, 6, none⟩ (.int .i64 ghi)).setCell ⟨w.heap.size + 1, 7, none⟩ (.int .i64 wrn)).setCell ⟨w.heap.size + 1, 8, none⟩ (.int .i64 gain)).setCell ⟨w.heap.size + 1, 9, none⟩ (.slice AT ts.length cT))) hO2 (fun g hgB _ _ => by
        have hge : g ≠ w.heap.size + 1 := by omega
        have oth : ∀ (X : World) (i : Nat) (u : Value), (X.setCell ⟨w.heap.size + 1, i, none⟩ u).heap[g]? = X.heap[g]? := fun X i u => Below.heap_setCell _ _ _ g hge
        rw [oth, oth, oth, oth, oth, oth, oth, oth, oth, oth])
      clear z0 f0 j0 z1 f1 j1 z2 f2 j2 z3 f3 j3 z4 f4 j4 z5 f5 j5 z6 f6 j6 z7 f7 j7 z8 f8 j8 z9 f9 j9 bR hO2 hO hC
      generalize World.setCell (World.setCell (World.setCell (World.setCell (World.setCell (World.setCell (World.setCell (World.setCell (World.setCell (World.setCell wr _ _) _ _) _ _) _ _) _ _) _ _) _ _) _ _) _ _) _ _ = w9 at *
      have z0 := bR2.cell 0 rfl
      have z1 := bR2.cell 1 rfl
      have z2 := bR2.cell 2 rfl
      have z3 := bR2.cell 3 rfl
      have z4 := bR2.cell 4 rfl
      have z5 := bR2.cell 5 rfl
      have z6 := bR2.cell 6 rfl
      have z7 := bR2.cell 7 rfl
      have z8 := bR2.cell 8 rfl
      have z9 := bR2.cell 9 rfl
      exact bodyPost_ret (v := .agg #[.int .i64 full, .int .i64 read, .int .i64 slip, .int .i64 skew, .int .i64 circ, .int .i64 glo, .int .i64 ghi, .int .i64 wrn, .int .i64 gain, .slice AT ts.length cT]) (by simp [results, Tryz.results10, go_sem, z0, z1, z2, z3, z4, z5, z6, z7, z8, z9]) rfl ⟨AT, cT, rfl, xs, ownsRow_wider hO3 (by omega), hC3.wider (by omega), hB2⟩
end Go.Proofs.YtkmacpkjobdffaaGreat
