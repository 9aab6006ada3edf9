/- Trials: the sets of as few tests as can be. -/
import Derived.Test.YtkmacpkjobdffaaGreatTiY
namespace Go.Proofs.YtkmacpkjobdffaaGreat
open Go.RowKit Go.Maps
namespace Ti
/-- The sets of the least count that has any, of counts below k. -/
def smTo (t : Tri) (sz mo : Int) : Nat → List Nat
  | 0 => []
  | k + 1 => if smTo t sz mo k = [] then decL t sz mo k else smTo t sz mo k
def smL (t : Tri) (sz mo : Int) : List Nat := smTo t sz mo (t.ts.length + 1)
theorem smTo_none {t : Tri} {sz mo : Int} {k : Nat} (h : smTo t sz mo k = []) : smTo t sz mo (k + 1) = decL t sz mo k := by
  show (if smTo t sz mo k = [] then decL t sz mo k else smTo t sz mo k) = _
  rw [if_pos h]
theorem smTo_some {t : Tri} {sz mo : Int} {k : Nat} (h : smTo t sz mo k ≠ []) : ∀ d, smTo t sz mo (k + d) = smTo t sz mo k
  | 0 => rfl
  | d + 1 => by
    have ih := smTo_some h d
    show (if smTo t sz mo (k + d) = [] then decL t sz mo (k + d) else smTo t sz mo (k + d)) = _
    rw [if_neg (by rw [ih]; exact h), ih]
theorem smL_found {t : Tri} {sz mo : Int} {k : Nat} (hk : k ≤ t.ts.length) (h : smTo t sz mo k = []) (hd : decL t sz mo k ≠ []) : smL t sz mo = decL t sz mo k := by
  have h1 := smTo_none h
  have h2 := smTo_some (k := k + 1) (by rw [h1]; exact hd) (t.ts.length - k)
  unfold smL
  rw [show t.ts.length + 1 = k + 1 + (t.ts.length - k) by omega, h2, h1]
/-- The error, and the sets. -/
def smE (t : Tri) (sz mo E : Int) : Int := if E = 0 then (if smL t sz mo = [] then 3 else 0) else E
def smR (t : Tri) (sz mo E : Int) : List Nat := if E = 0 then smL t sz mo else []
end Ti
/-- What smallest returns. -/
def SmPost (L : List Nat) (E : Int) (w : World) (e : Ending) (w' : World) : Prop := ∃ v : Value, e = .returned (.tuple #[v, .int .i64 E]) ∧ Hid (w'.ownsRow w.heap.size 105 1 v L.length (L.map fun s : Nat => Value.int .u64 (s : Int))) ∧ Below w.heap.size w w'
set_option maxRecDepth 100000 in
set_option maxHeartbeats 8000000 in
theorem smallest_any (t : Ti.Tri) (sz mo : Int) (A : Option Addr) (c : Nat) (w : World) (hl : t.ts.length ≤ 1000000000) (hg : Tsts w w.heap.size A t.ts) :
    Calls Tryz.prog 73 #[.agg (tiV t A c), .agg #[.int .i64 sz, .int .i64 mo]] w (SmPost (Ti.smR t sz mo (Ti.opE t (Ti.classB sz mo))) (Ti.smE t sz mo (Ti.opE t (Ti.classB sz mo))) w) := by
  have HVC : Hid (∀ W, Calls Tryz.prog 65 #[.agg #[.int .i64 sz, .int .i64 mo]] W fun e w' => e = .returned (.bool (Ti.classB sz mo)) ∧ Below W.heap.size W w') := fun W => validClass_any sz mo W
  have HOP : Hid (∀ W, Below w.heap.size w W → Calls Tryz.prog 54 #[.agg (tiV t A c), .bool (Ti.classB sz mo)] W (OpPost (Ti.opE t (Ti.classB sz mo)) t A c W)) := fun W hW => openT_any t _ A c W hl ((hg.keep hW).wider hW.size)
  have HDE : Hid (Ti.opE t (Ti.classB sz mo) = 0 → ∀ k : Nat, k ≤ 1000 → ∀ AL cm W, Below w.heap.size w W → Alw W W.heap.size AL t → Calls Tryz.prog 101 #[.agg (fV t A c AL t.ts.length cm), .agg #[.int .i64 sz, .int .i64 mo], .int .i64 k] W fun e w' => ∃ v : Value, e = .returned v ∧ Hid (w'.ownsRow W.heap.size 105 1 v (Ti.decL t sz mo k).length ((Ti.decL t sz mo k).map fun s : Nat => Value.int .u64 (s : Int))) ∧ Below W.heap.size W w') := fun h0 k hk AL cm W hW hal => by
    obtain ⟨h1, h2, _⟩ := Ti.op_ok h0
    obtain ⟨g1, g2, g3, _⟩ := Ti.chk_ok h1
    have h3 : inB sz 0 9000 = true := by unfold Ti.classB at h2; rw [Bool.and_eq_true] at h2; exact h2.1
    exact deciding_any t g1 g2 g3 sz mo (inB_true.1 h3) k hk A c AL cm W ((hg.keep hW).wider hW.size) hal
  have HN6 : Hid (Ti.opE t (Ti.classB sz mo) = 0 → t.ts.length ≤ 6) := fun h0 => (Ti.chk_ok (Ti.op_ok h0).1).2.2.1
  have HS0 : Hid (Ti.smTo t sz mo 0 = []) := rfl
  have HSS : Hid (∀ k, Ti.smTo t sz mo k = [] → Ti.smTo t sz mo (k + 1) = Ti.decL t sz mo k) := fun k h => Ti.smTo_none h
  have HYE : Hid (Ti.opE t (Ti.classB sz mo) = 0 → ∀ k, k ≤ t.ts.length → Ti.smTo t sz mo k = [] → Ti.decL t sz mo k ≠ [] → Ti.smE t sz mo (Ti.opE t (Ti.classB sz mo)) = 0 ∧ Ti.smR t sz mo (Ti.opE t (Ti.classB sz mo)) = Ti.decL t sz mo k) := fun h0 k h1 h2 h3 => by
    have := Ti.smL_found h1 h2 h3
    unfold Ti.smE Ti.smR
    rw [if_pos h0, if_pos h0, this, if_neg h3]
    exact ⟨rfl, rfl⟩
  have HNE : Hid (Ti.opE t (Ti.classB sz mo) = 0 → Ti.smTo t sz mo (t.ts.length + 1) = [] → Ti.smE t sz mo (Ti.opE t (Ti.classB sz mo)) = 3 ∧ Ti.smR t sz mo (Ti.opE t (Ti.classB sz mo)) = []) := fun h0 h1 => by
    unfold Ti.smE Ti.smR Ti.smL
    rw [if_pos h0, if_pos h0, if_pos h1]
    exact ⟨rfl, h1⟩
  have HXE : Hid (Ti.opE t (Ti.classB sz mo) ≠ 0 → Ti.smE t sz mo (Ti.opE t (Ti.classB sz mo)) = Ti.opE t (Ti.classB sz mo) ∧ Ti.smR t sz mo (Ti.opE t (Ti.classB sz mo)) = []) := fun h0 => by
    unfold Ti.smE Ti.smR
    rw [if_neg h0, if_neg h0]
    exact ⟨rfl, rfl⟩
  have HAK : Hid (∀ AL V V', Alw V V.heap.size AL t → Below V.heap.size V V' → Alw V' V'.heap.size AL t) := fun AL V V' h hb => (h.keep hb).wider hb.size
  have HAO : Hid (∀ AL V V' C, Alw V V.heap.size AL t → BoxS V C 84 #[.int .i64 0, .int .i64 0, .int .i64 0, .int .i64 0, .int .i64 0, .int .i64 0, .int .i64 0, .int .i64 0, .int .i64 0, .slice none 0 0, .slice none 0 0] → (∀ i, i ≠ C → V'.heap[i]? = V.heap[i]?) → V.heap.size ≤ V'.heap.size → Alw V' V'.heap.size AL t) := fun AL V V' C h1 h2 h3 h4 => (h1.off h2 zero_nomap h3).wider h4
  have HOV : Hid (∀ AL cm, opV (Ti.opE t (Ti.classB sz mo)) t A c AL cm = if Ti.opE t (Ti.classB sz mo) = 0 then fV t A c AL t.ts.length cm else #[.int .i64 0, .int .i64 0, .int .i64 0, .int .i64 0, .int .i64 0, .int .i64 0, .int .i64 0, .int .i64 0, .int .i64 0, .slice none 0 0, .slice none 0 0]) := fun AL cm => rfl
  unfold OpPost at HOP
  unfold SmPost
  clear hg
  generalize Ti.smE t sz mo (Ti.opE t (Ti.classB sz mo)) = SE at *
  generalize Ti.smR t sz mo (Ti.opE t (Ti.classB sz mo)) = SR at *
  generalize Ti.smTo t sz mo = SM at *
  generalize Ti.decL t sz mo = DL at *
  generalize opV (Ti.opE t (Ti.classB sz mo)) t A c = OV at *
  generalize Ti.opE t (Ti.classB sz mo) = E at *
  generalize Ti.classB sz mo = VC at *
  obtain ⟨AW, hAW⟩ : ∃ AW : Option Addr → World → Prop, AW = fun AL V => Alw V V.heap.size AL t := ⟨_, rfl⟩
  have HAW : ∀ AL V, Alw V V.heap.size AL t = AW AL V := fun AL V => by rw [hAW]
  simp only [HAW] at HAK HDE HOP HAO
  clear HAW hAW
  have hmo : Tryz.prog.follows .mixedOrders = true := by kernel_rfl
  unfold fV at *
  unfold tiV at *
  obtain ⟨d, gain, ts⟩ := t
  obtain ⟨full, read, slip, skew, circ, glo, ghi, wrn, dws⟩ := d
  dsimp only at *
  go_enter Tryz.func73, Tryz.ntmps73
  go_wp2_with fail
  have bT := (BoxS.new w 28 #[.int .i64 full, .int .i64 read, .int .i64 slip, .int .i64 skew, .int .i64 circ, .int .i64 glo, .int .i64 ghi, .int .i64 wrn, .int .i64 gain, .slice A ts.length c]).alloc (.cells #[.int .i64 sz, .int .i64 mo] 45)
  have bC := BoxS.new (w.alloc (.cells #[.int .i64 full, .int .i64 read, .int .i64 slip, .int .i64 skew, .int .i64 circ, .int .i64 glo, .int .i64 ghi, .int .i64 wrn, .int .i64 gain, .slice A ts.length c] 28)) 45 #[.int .i64 sz, .int .i64 mo]
  have hB1 : Below w.heap.size w ((w.alloc (.cells #[.int .i64 full, .int .i64 read, .int .i64 slip, .int .i64 skew, .int .i64 circ, .int .i64 glo, .int .i64 ghi, .int .i64 wrn, .int .i64 gain, .slice A ts.length c] 28)).alloc (.cells #[.int .i64 sz, .int .i64 mo] 45)) := by (repeat' (first | (with_reducible exact Below.refl _ _) | (with_reducible assumption) | (with_reducible refine Below.alloc ?_ ?_ _) | (with_reducible refine Below.drew ?_) | (with_reducible refine Below.setCell ?_ ?_ _) | go_size | (exact (by simp)) | omega))
  simp only [World.size_alloc] at bC
  generalize World.alloc (World.alloc w _) _ = w1 at *
  have hNw : w.heap.size ≤ w1.heap.size := hB1.size
  have lCw : w.heap.size + 1 < w1.heap.size := bC.lt
  have q0 : Below w1.heap.size w1 w1.drew := (Below.refl _ _).drew
  have KC : Hid (∀ V', Below w1.heap.size w1 V' → (V'.cell? ⟨w.heap.size, 0, none⟩ = some (.int .i64 full) ∧ V'.cell? ⟨w.heap.size, 1, none⟩ = some (.int .i64 read) ∧ V'.cell? ⟨w.heap.size, 2, none⟩ = some (.int .i64 slip) ∧ V'.cell? ⟨w.heap.size, 3, none⟩ = some (.int .i64 skew) ∧ V'.cell? ⟨w.heap.size, 4, none⟩ = some (.int .i64 circ) ∧ V'.cell? ⟨w.heap.size, 5, none⟩ = some (.int .i64 glo) ∧ V'.cell? ⟨w.heap.size, 6, none⟩ = some (.int .i64 ghi) ∧ V'.cell? ⟨w.heap.size, 7, none⟩ = some (.int .i64 wrn) ∧ V'.cell? ⟨w.heap.size, 8, none⟩ = some (.int .i64 gain) ∧ V'.cell? ⟨w.heap.size, 9, none⟩ = some (.slice A ts.length c) ∧ V'.cell? ⟨w.heap.size + 1, 0, none⟩ = some (.int .i64 sz) ∧ V'.cell? ⟨w.heap.size + 1, 1, none⟩ = some (.int .i64 mo))) := fun V' h => ⟨(bT.below h).cell 0 rfl, (bT.below h).cell 1 rfl, (bT.below h).cell 2 rfl, (bT.below h).cell 3 rfl, (bT.below h).cell 4 rfl, (bT.below h).cell 5 rfl, (bT.below h).cell 6 rfl, (bT.below h).cell 7 rfl, (bT.below h).cell 8 rfl, (bT.below h).cell 9 rfl, (bC.below h).cell 0 rfl, (bC.below h).cell 1 rfl⟩
  refine (wpIn_wide (n := 4)).1 ?_
  refine wpIn_mono (Q := noPanic _) ?_ noPanic_le
  refine wpIn_region_held (fun V' => Below w1.heap.size w1 V') 30 hmo ?_
  refine wpHeldIn_take (i := 0) (v := ?_) (plain_of (by kernel_rfl)) rfl (by kernel_rfl) (fun _ _ _ h => h) (yieldsSoIn_of (by kernel_rfl) ?_ (fun _ => rfl)) q0 ?_; rotate_left; focus (intro wq hw; have kq := KC.out wq hw; clear hw; go_simp; try (with_reducible rfl))
  refine wpHeldIn_take (i := 1) (v := ?_) (plain_of (by kernel_rfl)) rfl (by kernel_rfl) (fun _ _ _ h => h) (yieldsSoIn_of (by kernel_rfl) ?_ (fun _ => rfl)) q0 ?_; rotate_left; focus (intro wq hw; have kq := KC.out wq hw; clear hw; go_simp; try (with_reducible rfl))
  refine wpHeldIn_two (i := 2) (j := 7) (by kernel_rfl) (by kernel_rfl) (by kernel_rfl) rfl rfl (by kernel_rfl) (by kernel_rfl) (fun K2 hK2 => ?_) (fun K7 hK7 => ?_)
  · go_simp
    refine ⟨trivial, (callsIn_wide.2 (HVC.out _)).mono ?_⟩
    rintro e w2 ⟨rfl, hb2⟩
    have q2 := q0.trans (hb2.mono q0.size)
    refine hK2 _ _ q2 ?_
    refine wpHeldIn_two (i := 3) (j := 7) (by kernel_rfl) (by kernel_rfl) (by kernel_rfl) rfl rfl (by kernel_rfl) (by kernel_rfl) (fun K3 hK3 => ?_) (fun K7 hK7 => ?_)
    · go_simp
      refine ⟨trivial, (callsIn_wide.2 (HOP.out _ (hB1.trans (q2.mono hNw)))).mono ?_⟩
      rintro e w3 ⟨AL, cm, rfl, hal, hb3⟩
      have q3 := q2.trans (hb3.mono q2.size)
      refine hK3 _ _ q3 ?_
      refine wpHeldIn_take (i := 4) (v := ?_) (plain_of (by kernel_rfl)) rfl (by kernel_rfl) (fun _ _ _ h => h) (yieldsSoIn_of (by kernel_rfl) ?_ (fun _ => rfl)) q3 ?_; rotate_left; focus (intro wq hw; clear hw; go_simp; try (with_reducible rfl))
      refine wpHeldIn_take (i := 5) (v := ?_) (plain_of (by kernel_rfl)) rfl (by kernel_rfl) (fun _ _ _ h => h) (yieldsSoIn_of (by kernel_rfl) ?_ (fun _ => rfl)) q3 ?_; rotate_left; focus (intro wq hw; clear hw; go_simp; try (with_reducible rfl))
      refine wpHeldIn_take (i := 6) (v := ?_) (plain_of (by kernel_rfl)) rfl (by kernel_rfl) (fun _ _ _ h => h) (yieldsSoIn_of (by kernel_rfl) ?_ (fun _ => rfl)) q3 ?_; rotate_left; focus (intro wq hw; clear hw; go_simp; try (with_reducible rfl))
      refine wpHeldIn_one (i := 7) (by kernel_rfl) (by kernel_rfl) rfl (by kernel_rfl) (fun K7 hK7 => ?_)
      go_simp
      have q7 : Below w1.heap.size w1 (w3.alloc (.cells #[.int .i64 0, .int .i64 0, .int .i64 0, .int .i64 0, .int .i64 0, .int .i64 0, .int .i64 0, .int .i64 0, .int .i64 0, .slice none 0 0, .slice none 0 0] 84)) := q3.alloc q3.size _
      have bX := BoxS.new w3 84 #[.int .i64 0, .int .i64 0, .int .i64 0, .int .i64 0, .int .i64 0, .int .i64 0, .int .i64 0, .int .i64 0, .int .i64 0, .slice none 0 0, .slice none 0 0]
      have hXB : w1.heap.size ≤ w3.heap.size := q3.size
      refine hK7 _ _ q7 ?_
      have hal7 : Hid (E = 0 → AW AL (w3.alloc (.cells #[.int .i64 0, .int .i64 0, .int .i64 0, .int .i64 0, .int .i64 0, .int .i64 0, .int .i64 0, .int .i64 0, .int .i64 0, .slice none 0 0, .slice none 0 0] 84))) := fun h0 => HAK.out _ _ _ (by first | exact hal.out h0 | exact hal.out trivial) ((Below.refl _ _).alloc (Nat.le_refl _) _)
      obtain ⟨BX, hBX⟩ : ∃ B, B = w3.heap.size := ⟨_, rfl⟩
      rw [← hBX] at bX hXB ⊢
      clear hBX
      generalize World.alloc w3 _ = w7 at *
      by_cases h0 : E = 0
      · rw [show OV AL cm = #[.int .i64 full, .int .i64 read, .int .i64 slip, .int .i64 skew, .int .i64 circ, .int .i64 glo, .int .i64 ghi, .int .i64 wrn, .int .i64 gain, .slice A ts.length c, .slice AL ts.length cm] from by rw [HOV.out, if_pos h0]]
        have z0 := bX.cell 0 rfl
        have z1 := bX.cell 1 rfl
        have z2 := bX.cell 2 rfl
        have z3 := bX.cell 3 rfl
        have z4 := bX.cell 4 rfl
        have z5 := bX.cell 5 rfl
        have z6 := bX.cell 6 rfl
        have z7 := bX.cell 7 rfl
        have z8 := bX.cell 8 rfl
        have z9 := bX.cell 9 rfl
        have z10 := bX.cell 10 rfl
        have f0 := bX.frozen 0
        have f1 := bX.frozen 1
        have f2 := bX.frozen 2
        have f3 := bX.frozen 3
        have f4 := bX.frozen 4
        have f5 := bX.frozen 5
        have f6 := bX.frozen 6
        have f7 := bX.frozen 7
        have f8 := bX.frozen 8
        have f9 := bX.frozen 9
        have f10 := bX.frozen 10
        refine wpHeldIn_one (i := 8) (by kernel_rfl) (by kernel_rfl) rfl (by kernel_rfl) (fun K9 hK9 => ?_)
        go_simp
        have bX2 := eleven_put bX (.int .i64 full) (.int .i64 read) (.int .i64 slip) (.int .i64 skew) (.int .i64 circ) (.int .i64 glo) (.int .i64 ghi) (.int .i64 wrn) (.int .i64 gain) (.slice A ts.length c) (.slice AL ts.length cm)
        have hA2 := eleven_apart (b := w1.heap.size) (c := w7.heap.size) (B := BX) w7 hXB bX.lt (.int .i64 full) (.int .i64 read) (.int .i64 slip) (.int .i64 skew) (.int .i64 circ) (.int .i64 glo) (.int .i64 ghi) (.int .i64 wrn) (.int .i64 gain) (.slice A ts.length c) (.slice AL ts.length cm)
        have bC2 := eleven_other (bC.below q7) (B' := BX) (by omega) (.int .i64 full) (.int .i64 read) (.int .i64 slip) (.int .i64 skew) (.int .i64 circ) (.int .i64 glo) (.int .i64 ghi) (.int .i64 wrn) (.int .i64 gain) (.slice A ts.length c) (.slice AL ts.length cm)
        have q9 := q7.trans (hA2.below q7.size)
        have hB9 := hB1.trans (q9.mono hNw)
        have hA9 := HAO.out AL w7 _ BX (hal7.out h0) bX (eleven_heap w7 BX (.int .i64 full) (.int .i64 read) (.int .i64 slip) (.int .i64 skew) (.int .i64 circ) (.int .i64 glo) (.int .i64 ghi) (.int .i64 wrn) (.int .i64 gain) (.slice A ts.length c) (.slice AL ts.length cm)) hA2.size
        refine hK9 _ _ q9 ?_
        clear z0 z1 z2 z3 z4 z5 z6 z7 z8 z9 z10 f0 f1 f2 f3 f4 f5 f6 f7 f8 f9 f10 hA2
        generalize World.setCell (World.setCell (World.setCell (World.setCell (World.setCell (World.setCell (World.setCell (World.setCell (World.setCell (World.setCell (World.setCell w7 _ _) _ _) _ _) _ _) _ _) _ _) _ _) _ _) _ _) _ _) _ _ = w9 at *
        refine wpHeldIn_take (i := 9) (v := ?_) (plain_of (by kernel_rfl)) rfl (by kernel_rfl) (fun _ _ _ h => h) (yieldsSoIn_of (by kernel_rfl) ?_ (fun _ => rfl)) q9 ?_; rotate_left; focus (intro wq hw; clear hw; go_simp; try (with_reducible rfl))
        refine wpHeldIn_done (by kernel_rfl) ?_ _
        go_simp
        refine noPanic_of ?_
        have z0 := bX2.cell 0 rfl
        have z1 := bX2.cell 1 rfl
        have z2 := bX2.cell 2 rfl
        have z3 := bX2.cell 3 rfl
        have z4 := bX2.cell 4 rfl
        have z5 := bX2.cell 5 rfl
        have z6 := bX2.cell 6 rfl
        have z7 := bX2.cell 7 rfl
        have z8 := bX2.cell 8 rfl
        have z9 := bX2.cell 9 rfl
        have z10 := bX2.cell 10 rfl
        have c0 := bC2.cell 0 rfl
        have c1 := bC2.cell 1 rfl
        have hn6 := HN6.out h0
        have hwl : IntKind.i64.wrap ((ts.length : Int) + 1) = (ts.length : Int) + 1 := IntWalk.i64_in _ (by omega)
        go_wp2_with fail
        clear z0 z1 z2 z3 z4 z5 z6 z7 z8 z9 z10 c0 c1
        go_loopw [8, 9, 25] (fun x8 x9 x25 wr => ∃ k : Nat, (k : Int) ≤ ts.length + 1 ∧ x25 = .int .i64 (k : Int) ∧ Below w.heap.size w wr ∧ BoxS wr BX 84 #[.int .i64 full, .int .i64 read, .int .i64 slip, .int .i64 skew, .int .i64 circ, .int .i64 glo, .int .i64 ghi, .int .i64 wrn, .int .i64 gain, .slice A ts.length c, .slice AL ts.length cm] ∧ BoxS wr (w.heap.size + 1) 45 #[.int .i64 sz, .int .i64 mo] ∧ Hid (AW AL wr) ∧ Hid (SM k = [])) (fun _ _ x25 _ => ((ts.length + 1 : Int) - intOf x25).toNat)
        case atStart => exact ⟨0, by omega, rfl, hB9, bX2, bC2, hA9, HS0.out⟩
        case round =>
          clear bX2 bC2 hA9 hB9
          obtain ⟨k, hk, rfl, hB, bF, bK, hA, hS⟩ := hrel
          have hk0 := Int.natCast_nonneg k
          by_cases hlt : (k : Int) < (ts.length : Int) + 1
          · have hw1 : IntKind.i64.wrap ((k : Int) + 1) = (k : Int) + 1 := IntWalk.i64_in _ (by omega)
            have z0 := bF.cell 0 rfl
            have z1 := bF.cell 1 rfl
            have z2 := bF.cell 2 rfl
            have z3 := bF.cell 3 rfl
            have z4 := bF.cell 4 rfl
            have z5 := bF.cell 5 rfl
            have z6 := bF.cell 6 rfl
            have z7 := bF.cell 7 rfl
            have z8 := bF.cell 8 rfl
            have z9 := bF.cell 9 rfl
            have z10 := bF.cell 10 rfl
            have c0 := bK.cell 0 rfl
            have c1 := bK.cell 1 rfl
            go_wp2_with fail
            refine (HDE.out h0 k (by omega) AL cm wr hB hA.out).mono ?_
            rintro e w11 ⟨v, rfl, hv, hb11⟩
            obtain ⟨A11, c11, rfl⟩ := owni_form hv.out
            have hB11 := hB.trans (hb11.mono hB.size)
            have bF11 := bF.below hb11
            have bK11 := bK.below hb11
            have hA11 := HAK.out _ _ _ hA.out hb11
            clear z0 z1 z2 z3 z4 z5 z6 z7 z8 z9 z10 c0 c1
            by_cases hd : DL k = []
            · have hl0 : (DL k).length = 0 := by rw [hd]; rfl
              have hl : decide ((0 : Int) < ((DL k).length : Int)) = false := decide_eq_false (by omega)
              go_wp2_with fail
              go_roundw
              case rel => exact ⟨k + 1, by omega, by go_num, hB11, bF11, bK11, hA11, (HSS.out k hS.out).trans hd⟩
              case measure => simp [intOf]; omega
            · have hl0 : (DL k).length ≠ 0 := fun h => hd (List.length_eq_zero_iff.1 h)
              have hl : decide ((0 : Int) < ((DL k).length : Int)) = true := decide_eq_true (by omega)
              go_wp2_with fail
              go_returns
              obtain ⟨x1, x2⟩ := HYE.out h0 k (by omega) hS.out hd
              exact ⟨_, by rw [x1]; rfl, by rw [x2]; exact ownsRow_wider hv.out hB.size, hB11⟩
          · have ek : k = ts.length + 1 := by omega
            subst ek
            go_wp2_with fail
            go_returns
            obtain ⟨x1, x2⟩ := HNE.out h0 hS.out
            exact ⟨_, by rw [x1]; rfl, by rw [x2]; exact World.ownsRow_nil _ _ _ _, hB⟩
      · rw [show OV AL cm = #[.int .i64 0, .int .i64 0, .int .i64 0, .int .i64 0, .int .i64 0, .int .i64 0, .int .i64 0, .int .i64 0, .int .i64 0, .slice none 0 0, .slice none 0 0] from by rw [HOV.out, if_neg h0]]
        have z0 := bX.cell 0 rfl
        have z1 := bX.cell 1 rfl
        have z2 := bX.cell 2 rfl
        have z3 := bX.cell 3 rfl
        have z4 := bX.cell 4 rfl
        have z5 := bX.cell 5 rfl
        have z6 := bX.cell 6 rfl
        have z7 := bX.cell 7 rfl
        have z8 := bX.cell 8 rfl
        have z9 := bX.cell 9 rfl
        have z10 := bX.cell 10 rfl
        have f0 := bX.frozen 0
        have f1 := bX.frozen 1
        have f2 := bX.frozen 2
        have f3 := bX.frozen 3
        have f4 := bX.frozen 4
        have f5 := bX.frozen 5
        have f6 := bX.frozen 6
        have f7 := bX.frozen 7
        have f8 := bX.frozen 8
        have f9 := bX.frozen 9
        have f10 := bX.frozen 10
        refine wpHeldIn_one (i := 8) (by kernel_rfl) (by kernel_rfl) rfl (by kernel_rfl) (fun K9 hK9 => ?_)
        go_simp
        have bX2 := eleven_put bX (.int .i64 0) (.int .i64 0) (.int .i64 0) (.int .i64 0) (.int .i64 0) (.int .i64 0) (.int .i64 0) (.int .i64 0) (.int .i64 0) (.slice none 0 0) (.slice none 0 0)
        have hA2 := eleven_apart (b := w1.heap.size) (c := w7.heap.size) (B := BX) w7 hXB bX.lt (.int .i64 0) (.int .i64 0) (.int .i64 0) (.int .i64 0) (.int .i64 0) (.int .i64 0) (.int .i64 0) (.int .i64 0) (.int .i64 0) (.slice none 0 0) (.slice none 0 0)
        have bC2 := eleven_other (bC.below q7) (B' := BX) (by omega) (.int .i64 0) (.int .i64 0) (.int .i64 0) (.int .i64 0) (.int .i64 0) (.int .i64 0) (.int .i64 0) (.int .i64 0) (.int .i64 0) (.slice none 0 0) (.slice none 0 0)
        have q9 := q7.trans (hA2.below q7.size)
        have hB9 := hB1.trans (q9.mono hNw)
        refine hK9 _ _ q9 ?_
        clear z0 z1 z2 z3 z4 z5 z6 z7 z8 z9 z10 f0 f1 f2 f3 f4 f5 f6 f7 f8 f9 f10 hA2
        generalize World.setCell (World.setCell (World.setCell (World.setCell (World.setCell (World.setCell (World.setCell (World.setCell (World.setCell (World.setCell (World.setCell w7 _ _) _ _) _ _) _ _) _ _) _ _) _ _) _ _) _ _) _ _) _ _ = w9 at *
        refine wpHeldIn_take (i := 9) (v := ?_) (plain_of (by kernel_rfl)) rfl (by kernel_rfl) (fun _ _ _ h => h) (yieldsSoIn_of (by kernel_rfl) ?_ (fun _ => rfl)) q9 ?_; rotate_left; focus (intro wq hw; clear hw; go_simp; try (with_reducible rfl))
        refine wpHeldIn_done (by kernel_rfl) ?_ _
        go_simp
        refine noPanic_of ?_
        have hne : (E != 0) = true := by simpa using h0
        go_wp2_with fail
        go_returns
        obtain ⟨x1, x2⟩ := HXE.out h0
        exact ⟨_, by rw [x1]; rfl, by rw [x2]; exact World.ownsRow_nil _ _ _ _, hB9⟩
    · go_simp
      have q7 : Below w1.heap.size w1 (w2.alloc (.cells #[.int .i64 0, .int .i64 0, .int .i64 0, .int .i64 0, .int .i64 0, .int .i64 0, .int .i64 0, .int .i64 0, .int .i64 0, .slice none 0 0, .slice none 0 0] 84)) := q2.alloc q2.size _
      have bX := BoxS.new w2 84 #[.int .i64 0, .int .i64 0, .int .i64 0, .int .i64 0, .int .i64 0, .int .i64 0, .int .i64 0, .int .i64 0, .int .i64 0, .slice none 0 0, .slice none 0 0]
      have hXB : w1.heap.size ≤ w2.heap.size := q2.size
      refine hK7 _ _ q7 ?_
      obtain ⟨BX, hBX⟩ : ∃ B, B = w2.heap.size := ⟨_, rfl⟩
      rw [← hBX] at bX hXB ⊢
      clear hBX
      generalize World.alloc w2 _ = w7 at *
      refine wpHeldIn_one (i := 3) (by kernel_rfl) (by kernel_rfl) rfl (by kernel_rfl) (fun K3 hK3 => ?_)
      go_simp
      refine ⟨trivial, (callsIn_wide.2 (HOP.out _ (hB1.trans (q7.mono hNw)))).mono ?_⟩
      rintro e w3 ⟨AL, cm, rfl, hal, hb3⟩
      have q3 := q7.trans (hb3.mono q7.size)
      refine hK3 _ _ q3 ?_
      replace bX := bX.below hb3
      by_cases h0 : E = 0
      · rw [show OV AL cm = #[.int .i64 full, .int .i64 read, .int .i64 slip, .int .i64 skew, .int .i64 circ, .int .i64 glo, .int .i64 ghi, .int .i64 wrn, .int .i64 gain, .slice A ts.length c, .slice AL ts.length cm] from by rw [HOV.out, if_pos h0]]
        refine wpHeldIn_take (i := 4) (v := ?_) (plain_of (by kernel_rfl)) rfl (by kernel_rfl) (fun _ _ _ h => h) (yieldsSoIn_of (by kernel_rfl) ?_ (fun _ => rfl)) q3 ?_; rotate_left; focus (intro wq hw; clear hw; go_simp; try (with_reducible rfl))
        refine wpHeldIn_take (i := 5) (v := ?_) (plain_of (by kernel_rfl)) rfl (by kernel_rfl) (fun _ _ _ h => h) (yieldsSoIn_of (by kernel_rfl) ?_ (fun _ => rfl)) q3 ?_; rotate_left; focus (intro wq hw; clear hw; go_simp; try (with_reducible rfl))
        refine wpHeldIn_take (i := 6) (v := ?_) (plain_of (by kernel_rfl)) rfl (by kernel_rfl) (fun _ _ _ h => h) (yieldsSoIn_of (by kernel_rfl) ?_ (fun _ => rfl)) q3 ?_; rotate_left; focus (intro wq hw; clear hw; go_simp; try (with_reducible rfl))
        have z0 := bX.cell 0 rfl
        have z1 := bX.cell 1 rfl
        have z2 := bX.cell 2 rfl
        have z3 := bX.cell 3 rfl
        have z4 := bX.cell 4 rfl
        have z5 := bX.cell 5 rfl
        have z6 := bX.cell 6 rfl
        have z7 := bX.cell 7 rfl
        have z8 := bX.cell 8 rfl
        have z9 := bX.cell 9 rfl
        have z10 := bX.cell 10 rfl
        have f0 := bX.frozen 0
        have f1 := bX.frozen 1
        have f2 := bX.frozen 2
        have f3 := bX.frozen 3
        have f4 := bX.frozen 4
        have f5 := bX.frozen 5
        have f6 := bX.frozen 6
        have f7 := bX.frozen 7
        have f8 := bX.frozen 8
        have f9 := bX.frozen 9
        have f10 := bX.frozen 10
        refine wpHeldIn_one (i := 8) (by kernel_rfl) (by kernel_rfl) rfl (by kernel_rfl) (fun K9 hK9 => ?_)
        go_simp
        have bX2 := eleven_put bX (.int .i64 full) (.int .i64 read) (.int .i64 slip) (.int .i64 skew) (.int .i64 circ) (.int .i64 glo) (.int .i64 ghi) (.int .i64 wrn) (.int .i64 gain) (.slice A ts.length c) (.slice AL ts.length cm)
        have hA2 := eleven_apart (b := w1.heap.size) (c := w3.heap.size) (B := BX) w3 hXB bX.lt (.int .i64 full) (.int .i64 read) (.int .i64 slip) (.int .i64 skew) (.int .i64 circ) (.int .i64 glo) (.int .i64 ghi) (.int .i64 wrn) (.int .i64 gain) (.slice A ts.length c) (.slice AL ts.length cm)
        have bC2 := eleven_other (bC.below q3) (B' := BX) (by omega) (.int .i64 full) (.int .i64 read) (.int .i64 slip) (.int .i64 skew) (.int .i64 circ) (.int .i64 glo) (.int .i64 ghi) (.int .i64 wrn) (.int .i64 gain) (.slice A ts.length c) (.slice AL ts.length cm)
        have q9 := q3.trans (hA2.below q3.size)
        have hB9 := hB1.trans (q9.mono hNw)
        have hA9 := HAO.out AL w3 _ BX (by first | exact hal.out h0 | exact hal.out trivial) bX (eleven_heap w3 BX (.int .i64 full) (.int .i64 read) (.int .i64 slip) (.int .i64 skew) (.int .i64 circ) (.int .i64 glo) (.int .i64 ghi) (.int .i64 wrn) (.int .i64 gain) (.slice A ts.length c) (.slice AL ts.length cm)) hA2.size
        refine hK9 _ _ q9 ?_
        clear z0 z1 z2 z3 z4 z5 z6 z7 z8 z9 z10 f0 f1 f2 f3 f4 f5 f6 f7 f8 f9 f10 hA2
        generalize World.setCell (World.setCell (World.setCell (World.setCell (World.setCell (World.setCell (World.setCell (World.setCell (World.setCell (World.setCell (World.setCell w3 _ _) _ _) _ _) _ _) _ _) _ _) _ _) _ _) _ _) _ _) _ _ = w9 at *
        refine wpHeldIn_take (i := 9) (v := ?_) (plain_of (by kernel_rfl)) rfl (by kernel_rfl) (fun _ _ _ h => h) (yieldsSoIn_of (by kernel_rfl) ?_ (fun _ => rfl)) q9 ?_; rotate_left; focus (intro wq hw; clear hw; go_simp; try (with_reducible rfl))
        refine wpHeldIn_done (by kernel_rfl) ?_ _
        go_simp
        refine noPanic_of ?_
        have z0 := bX2.cell 0 rfl
        have z1 := bX2.cell 1 rfl
        have z2 := bX2.cell 2 rfl
        have z3 := bX2.cell 3 rfl
        have z4 := bX2.cell 4 rfl
        have z5 := bX2.cell 5 rfl
        have z6 := bX2.cell 6 rfl
        have z7 := bX2.cell 7 rfl
        have z8 := bX2.cell 8 rfl
        have z9 := bX2.cell 9 rfl
        have z10 := bX2.cell 10 rfl
        have c0 := bC2.cell 0 rfl
        have c1 := bC2.cell 1 rfl
        have hn6 := HN6.out h0
        have hwl : IntKind.i64.wrap ((ts.length : Int) + 1) = (ts.length : Int) + 1 := IntWalk.i64_in _ (by omega)
        go_wp2_with fail
        clear z0 z1 z2 z3 z4 z5 z6 z7 z8 z9 z10 c0 c1
        go_loopw [8, 9, 25] (fun x8 x9 x25 wr => ∃ k : Nat, (k : Int) ≤ ts.length + 1 ∧ x25 = .int .i64 (k : Int) ∧ Below w.heap.size w wr ∧ BoxS wr BX 84 #[.int .i64 full, .int .i64 read, .int .i64 slip, .int .i64 skew, .int .i64 circ, .int .i64 glo, .int .i64 ghi, .int .i64 wrn, .int .i64 gain, .slice A ts.length c, .slice AL ts.length cm] ∧ BoxS wr (w.heap.size + 1) 45 #[.int .i64 sz, .int .i64 mo] ∧ Hid (AW AL wr) ∧ Hid (SM k = [])) (fun _ _ x25 _ => ((ts.length + 1 : Int) - intOf x25).toNat)
        case atStart => exact ⟨0, by omega, rfl, hB9, bX2, bC2, hA9, HS0.out⟩
        case round =>
          clear bX2 bC2 hA9 hB9
          obtain ⟨k, hk, rfl, hB, bF, bK, hA, hS⟩ := hrel
          have hk0 := Int.natCast_nonneg k
          by_cases hlt : (k : Int) < (ts.length : Int) + 1
          · have hw1 : IntKind.i64.wrap ((k : Int) + 1) = (k : Int) + 1 := IntWalk.i64_in _ (by omega)
            have z0 := bF.cell 0 rfl
            have z1 := bF.cell 1 rfl
            have z2 := bF.cell 2 rfl
            have z3 := bF.cell 3 rfl
            have z4 := bF.cell 4 rfl
            have z5 := bF.cell 5 rfl
            have z6 := bF.cell 6 rfl
            have z7 := bF.cell 7 rfl
            have z8 := bF.cell 8 rfl
            have z9 := bF.cell 9 rfl
            have z10 := bF.cell 10 rfl
            have c0 := bK.cell 0 rfl
            have c1 := bK.cell 1 rfl
            go_wp2_with fail
            refine (HDE.out h0 k (by omega) AL cm wr hB hA.out).mono ?_
            rintro e w11 ⟨v, rfl, hv, hb11⟩
            obtain ⟨A11, c11, rfl⟩ := owni_form hv.out
            have hB11 := hB.trans (hb11.mono hB.size)
            have bF11 := bF.below hb11
            have bK11 := bK.below hb11
            have hA11 := HAK.out _ _ _ hA.out hb11
            clear z0 z1 z2 z3 z4 z5 z6 z7 z8 z9 z10 c0 c1
            by_cases hd : DL k = []
            · have hl0 : (DL k).length = 0 := by rw [hd]; rfl
              have hl : decide ((0 : Int) < ((DL k).length : Int)) = false := decide_eq_false (by omega)
              go_wp2_with fail
              go_roundw
              case rel => exact ⟨k + 1, by omega, by go_num, hB11, bF11, bK11, hA11, (HSS.out k hS.out).trans hd⟩
              case measure => simp [intOf]; omega
            · have hl0 : (DL k).length ≠ 0 := fun h => hd (List.length_eq_zero_iff.1 h)
              have hl : decide ((0 : Int) < ((DL k).length : Int)) = true := decide_eq_true (by omega)
              go_wp2_with fail
              go_returns
              obtain ⟨x1, x2⟩ := HYE.out h0 k (by omega) hS.out hd
              exact ⟨_, by rw [x1]; rfl, by rw [x2]; exact ownsRow_wider hv.out hB.size, hB11⟩
          · have ek : k = ts.length + 1 := by omega
            subst ek
            go_wp2_with fail
            go_returns
            obtain ⟨x1, x2⟩ := HNE.out h0 hS.out
            exact ⟨_, by rw [x1]; rfl, by rw [x2]; exact World.ownsRow_nil _ _ _ _, hB⟩
      · rw [show OV AL cm = #[.int .i64 0, .int .i64 0, .int .i64 0, .int .i64 0, .int .i64 0, .int .i64 0, .int .i64 0, .int .i64 0, .int .i64 0, .slice none 0 0, .slice none 0 0] from by rw [HOV.out, if_neg h0]]
        refine wpHeldIn_take (i := 4) (v := ?_) (plain_of (by kernel_rfl)) rfl (by kernel_rfl) (fun _ _ _ h => h) (yieldsSoIn_of (by kernel_rfl) ?_ (fun _ => rfl)) q3 ?_; rotate_left; focus (intro wq hw; clear hw; go_simp; try (with_reducible rfl))
        refine wpHeldIn_take (i := 5) (v := ?_) (plain_of (by kernel_rfl)) rfl (by kernel_rfl) (fun _ _ _ h => h) (yieldsSoIn_of (by kernel_rfl) ?_ (fun _ => rfl)) q3 ?_; rotate_left; focus (intro wq hw; clear hw; go_simp; try (with_reducible rfl))
        refine wpHeldIn_take (i := 6) (v := ?_) (plain_of (by kernel_rfl)) rfl (by kernel_rfl) (fun _ _ _ h => h) (yieldsSoIn_of (by kernel_rfl) ?_ (fun _ => rfl)) q3 ?_; rotate_left; focus (intro wq hw; clear hw; go_simp; try (with_reducible rfl))
        have z0 := bX.cell 0 rfl
        have z1 := bX.cell 1 rfl
        have z2 := bX.cell 2 rfl
        have z3 := bX.cell 3 rfl
        have z4 := bX.cell 4 rfl
        have z5 := bX.cell 5 rfl
        have z6 := bX.cell 6 rfl
        have z7 := bX.cell 7 rfl
        have z8 := bX.cell 8 rfl
        have z9 := bX.cell 9 rfl
        have z10 := bX.cell 10 rfl
        have f0 := bX.frozen 0
        have f1 := bX.frozen 1
        have f2 := bX.frozen 2
        have f3 := bX.frozen 3
        have f4 := bX.frozen 4
        have f5 := bX.frozen 5
        have f6 := bX.frozen 6
        have f7 := bX.frozen 7
        have f8 := bX.frozen 8
        have f9 := bX.frozen 9
        have f10 := bX.frozen 10
        refine wpHeldIn_one (i := 8) (by kernel_rfl) (by kernel_rfl) rfl (by kernel_rfl) (fun K9 hK9 => ?_)
        go_simp
        have bX2 := eleven_put bX (.int .i64 0) (.int .i64 0) (.int .i64 0) (.int .i64 0) (.int .i64 0) (.int .i64 0) (.int .i64 0) (.int .i64 0) (.int .i64 0) (.slice none 0 0) (.slice none 0 0)
        have hA2 := eleven_apart (b := w1.heap.size) (c := w3.heap.size) (B := BX) w3 hXB bX.lt (.int .i64 0) (.int .i64 0) (.int .i64 0) (.int .i64 0) (.int .i64 0) (.int .i64 0) (.int .i64 0) (.int .i64 0) (.int .i64 0) (.slice none 0 0) (.slice none 0 0)
        have bC2 := eleven_other (bC.below q3) (B' := BX) (by omega) (.int .i64 0) (.int .i64 0) (.int .i64 0) (.int .i64 0) (.int .i64 0) (.int .i64 0) (.int .i64 0) (.int .i64 0) (.int .i64 0) (.slice none 0 0) (.slice none 0 0)
        have q9 := q3.trans (hA2.below q3.size)
        have hB9 := hB1.trans (q9.mono hNw)
        refine hK9 _ _ q9 ?_
        clear z0 z1 z2 z3 z4 z5 z6 z7 z8 z9 z10 f0 f1 f2 f3 f4 f5 f6 f7 f8 f9 f10 hA2
        generalize World.setCell (World.setCell (World.setCell (World.setCell (World.setCell (World.setCell (World.setCell (World.setCell (World.setCell (World.setCell (World.setCell w3 _ _) _ _) _ _) _ _) _ _) _ _) _ _) _ _) _ _) _ _) _ _ = w9 at *
        refine wpHeldIn_take (i := 9) (v := ?_) (plain_of (by kernel_rfl)) rfl (by kernel_rfl) (fun _ _ _ h => h) (yieldsSoIn_of (by kernel_rfl) ?_ (fun _ => rfl)) q9 ?_; rotate_left; focus (intro wq hw; clear hw; go_simp; try (with_reducible rfl))
        refine wpHeldIn_done (by kernel_rfl) ?_ _
        go_simp
        refine noPanic_of ?_
        have hne : (E != 0) = true := by simpa using h0
        go_wp2_with fail
        go_returns
        obtain ⟨x1, x2⟩ := HXE.out h0
        exact ⟨_, by rw [x1]; rfl, by rw [x2]; exact World.ownsRow_nil _ _ _ _, hB9⟩
  · go_simp
    have q7 : Below w1.heap.size w1 (w1.alloc (.cells #[.int .i64 0, .int .i64 0, .int .i64 0, .int .i64 0, .int .i64 0, .int .i64 0, .int .i64 0, .int .i64 0, .int .i64 0, .slice none 0 0, .slice none 0 0] 84)).drew := ((Below.refl _ _).alloc (Nat.le_refl _) _).drew
    have bX : BoxS (w1.alloc (.cells #[.int .i64 0, .int .i64 0, .int .i64 0, .int .i64 0, .int .i64 0, .int .i64 0, .int .i64 0, .int .i64 0, .int .i64 0, .slice none 0 0, .slice none 0 0] 84)).drew w1.heap.size 84 #[.int .i64 0, .int .i64 0, .int .i64 0, .int .i64 0, .int .i64 0, .int .i64 0, .int .i64 0, .int .i64 0, .int .i64 0, .slice none 0 0, .slice none 0 0] := (BoxS.new w1 84 #[.int .i64 0, .int .i64 0, .int .i64 0, .int .i64 0, .int .i64 0, .int .i64 0, .int .i64 0, .int .i64 0, .int .i64 0, .slice none 0 0, .slice none 0 0]).drew
    have hXB : w1.heap.size ≤ w1.heap.size := Nat.le_refl _
    refine hK7 _ _ q7 ?_
    generalize World.drew (World.alloc w1 _) = w7 at *
    refine wpHeldIn_one (i := 2) (by kernel_rfl) (by kernel_rfl) rfl (by kernel_rfl) (fun K2 hK2 => ?_)
    go_simp
    refine ⟨trivial, (callsIn_wide.2 (HVC.out _)).mono ?_⟩
    rintro e w2 ⟨rfl, hb2⟩
    have q2 := q7.trans (hb2.mono q7.size)
    refine hK2 _ _ q2 ?_
    replace bX := bX.below hb2
    refine wpHeldIn_one (i := 3) (by kernel_rfl) (by kernel_rfl) rfl (by kernel_rfl) (fun K3 hK3 => ?_)
    go_simp
    refine ⟨trivial, (callsIn_wide.2 (HOP.out _ (hB1.trans (q2.mono hNw)))).mono ?_⟩
    rintro e w3 ⟨AL, cm, rfl, hal, hb3⟩
    have q3 := q2.trans (hb3.mono q2.size)
    refine hK3 _ _ q3 ?_
    replace bX := bX.below hb3
    by_cases h0 : E = 0
    · rw [show OV AL cm = #[.int .i64 full, .int .i64 read, .int .i64 slip, .int .i64 skew, .int .i64 circ, .int .i64 glo, .int .i64 ghi, .int .i64 wrn, .int .i64 gain, .slice A ts.length c, .slice AL ts.length cm] from by rw [HOV.out, if_pos h0]]
      refine wpHeldIn_take (i := 4) (v := ?_) (plain_of (by kernel_rfl)) rfl (by kernel_rfl) (fun _ _ _ h => h) (yieldsSoIn_of (by kernel_rfl) ?_ (fun _ => rfl)) q3 ?_; rotate_left; focus (intro wq hw; clear hw; go_simp; try (with_reducible rfl))
      refine wpHeldIn_take (i := 5) (v := ?_) (plain_of (by kernel_rfl)) rfl (by kernel_rfl) (fun _ _ _ h => h) (yieldsSoIn_of (by kernel_rfl) ?_ (fun _ => rfl)) q3 ?_; rotate_left; focus (intro wq hw; clear hw; go_simp; try (with_reducible rfl))
      refine wpHeldIn_take (i := 6) (v := ?_) (plain_of (by kernel_rfl)) rfl (by kernel_rfl) (fun _ _ _ h => h) (yieldsSoIn_of (by kernel_rfl) ?_ (fun _ => rfl)) q3 ?_; rotate_left; focus (intro wq hw; clear hw; go_simp; try (with_reducible rfl))
      have z0 := bX.cell 0 rfl
      have z1 := bX.cell 1 rfl
      have z2 := bX.cell 2 rfl
      have z3 := bX.cell 3 rfl
      have z4 := bX.cell 4 rfl
      have z5 := bX.cell 5 rfl
      have z6 := bX.cell 6 rfl
      have z7 := bX.cell 7 rfl
      have z8 := bX.cell 8 rfl
      have z9 := bX.cell 9 rfl
      have z10 := bX.cell 10 rfl
      have f0 := bX.frozen 0
      have f1 := bX.frozen 1
      have f2 := bX.frozen 2
      have f3 := bX.frozen 3
      have f4 := bX.frozen 4
      have f5 := bX.frozen 5
      have f6 := bX.frozen 6
      have f7 := bX.frozen 7
      have f8 := bX.frozen 8
      have f9 := bX.frozen 9
      have f10 := bX.frozen 10
      refine wpHeldIn_one (i := 8) (by kernel_rfl) (by kernel_rfl) rfl (by kernel_rfl) (fun K9 hK9 => ?_)
      go_simp
      have bX2 := eleven_put bX (.int .i64 full) (.int .i64 read) (.int .i64 slip) (.int .i64 skew) (.int .i64 circ) (.int .i64 glo) (.int .i64 ghi) (.int .i64 wrn) (.int .i64 gain) (.slice A ts.length c) (.slice AL ts.length cm)
      have hA2 := eleven_apart (b := w1.heap.size) (c := w3.heap.size) (B := w1.heap.size) w3 hXB bX.lt (.int .i64 full) (.int .i64 read) (.int .i64 slip) (.int .i64 skew) (.int .i64 circ) (.int .i64 glo) (.int .i64 ghi) (.int .i64 wrn) (.int .i64 gain) (.slice A ts.length c) (.slice AL ts.length cm)
      have bC2 := eleven_other (bC.below q3) (B' := w1.heap.size) (by omega) (.int .i64 full) (.int .i64 read) (.int .i64 slip) (.int .i64 skew) (.int .i64 circ) (.int .i64 glo) (.int .i64 ghi) (.int .i64 wrn) (.int .i64 gain) (.slice A ts.length c) (.slice AL ts.length cm)
      have q9 := q3.trans (hA2.below q3.size)
      have hB9 := hB1.trans (q9.mono hNw)
      have hA9 := HAO.out AL w3 _ w1.heap.size (by first | exact hal.out h0 | exact hal.out trivial) bX (eleven_heap w3 w1.heap.size (.int .i64 full) (.int .i64 read) (.int .i64 slip) (.int .i64 skew) (.int .i64 circ) (.int .i64 glo) (.int .i64 ghi) (.int .i64 wrn) (.int .i64 gain) (.slice A ts.length c) (.slice AL ts.length cm)) hA2.size
      refine hK9 _ _ q9 ?_
      clear z0 z1 z2 z3 z4 z5 z6 z7 z8 z9 z10 f0 f1 f2 f3 f4 f5 f6 f7 f8 f9 f10 hA2
      generalize World.setCell (World.setCell (World.setCell (World.setCell (World.setCell (World.setCell (World.setCell (World.setCell (World.setCell (World.setCell (World.setCell w3 _ _) _ _) _ _) _ _) _ _) _ _) _ _) _ _) _ _) _ _) _ _ = w9 at *
      refine wpHeldIn_take (i := 9) (v := ?_) (plain_of (by kernel_rfl)) rfl (by kernel_rfl) (fun _ _ _ h => h) (yieldsSoIn_of (by kernel_rfl) ?_ (fun _ => rfl)) q9 ?_; rotate_left; focus (intro wq hw; clear hw; go_simp; try (with_reducible rfl))
      refine wpHeldIn_done (by kernel_rfl) ?_ _
      go_simp
      refine noPanic_of ?_
      have z0 := bX2.cell 0 rfl
      have z1 := bX2.cell 1 rfl
      have z2 := bX2.cell 2 rfl
      have z3 := bX2.cell 3 rfl
      have z4 := bX2.cell 4 rfl
      have z5 := bX2.cell 5 rfl
      have z6 := bX2.cell 6 rfl
      have z7 := bX2.cell 7 rfl
      have z8 := bX2.cell 8 rfl
      have z9 := bX2.cell 9 rfl
      have z10 := bX2.cell 10 rfl
      have c0 := bC2.cell 0 rfl
      have c1 := bC2.cell 1 rfl
      have hn6 := HN6.out h0
      have hwl : IntKind.i64.wrap ((ts.length : Int) + 1) = (ts.length : Int) + 1 := IntWalk.i64_in _ (by omega)
      go_wp2_with fail
      clear z0 z1 z2 z3 z4 z5 z6 z7 z8 z9 z10 c0 c1
      go_loopw [8, 9, 25] (fun x8 x9 x25 wr => ∃ k : Nat, (k : Int) ≤ ts.length + 1 ∧ x25 = .int .i64 (k : Int) ∧ Below w.heap.size w wr ∧ BoxS wr w1.heap.size 84 #[.int .i64 full, .int .i64 read, .int .i64 slip, .int .i64 skew, .int .i64 circ, .int .i64 glo, .int .i64 ghi, .int .i64 wrn, .int .i64 gain, .slice A ts.length c, .slice AL ts.length cm] ∧ BoxS wr (w.heap.size + 1) 45 #[.int .i64 sz, .int .i64 mo] ∧ Hid (AW AL wr) ∧ Hid (SM k = [])) (fun _ _ x25 _ => ((ts.length + 1 : Int) - intOf x25).toNat)
      case atStart => exact ⟨0, by omega, rfl, hB9, bX2, bC2, hA9, HS0.out⟩
      case round =>
        clear bX2 bC2 hA9 hB9
        obtain ⟨k, hk, rfl, hB, bF, bK, hA, hS⟩ := hrel
        have hk0 := Int.natCast_nonneg k
        by_cases hlt : (k : Int) < (ts.length : Int) + 1
        · have hw1 : IntKind.i64.wrap ((k : Int) + 1) = (k : Int) + 1 := IntWalk.i64_in _ (by omega)
          have z0 := bF.cell 0 rfl
          have z1 := bF.cell 1 rfl
          have z2 := bF.cell 2 rfl
          have z3 := bF.cell 3 rfl
          have z4 := bF.cell 4 rfl
          have z5 := bF.cell 5 rfl
          have z6 := bF.cell 6 rfl
          have z7 := bF.cell 7 rfl
          have z8 := bF.cell 8 rfl
          have z9 := bF.cell 9 rfl
          have z10 := bF.cell 10 rfl
          have c0 := bK.cell 0 rfl
          have c1 := bK.cell 1 rfl
          go_wp2_with fail
          refine (HDE.out h0 k (by omega) AL cm wr hB hA.out).mono ?_
          rintro e w11 ⟨v, rfl, hv, hb11⟩
          obtain ⟨A11, c11, rfl⟩ := owni_form hv.out
          have hB11 := hB.trans (hb11.mono hB.size)
          have bF11 := bF.below hb11
          have bK11 := bK.below hb11
          have hA11 := HAK.out _ _ _ hA.out hb11
          clear z0 z1 z2 z3 z4 z5 z6 z7 z8 z9 z10 c0 c1
          by_cases hd : DL k = []
          · have hl0 : (DL k).length = 0 := by rw [hd]; rfl
            have hl : decide ((0 : Int) < ((DL k).length : Int)) = false := decide_eq_false (by omega)
            go_wp2_with fail
            go_roundw
            case rel => exact ⟨k + 1, by omega, by go_num, hB11, bF11, bK11, hA11, (HSS.out k hS.out).trans hd⟩
            case measure => simp [intOf]; omega
          · have hl0 : (DL k).length ≠ 0 := fun h => hd (List.length_eq_zero_iff.1 h)
            have hl : decide ((0 : Int) < ((DL k).length : Int)) = true := decide_eq_true (by omega)
            go_wp2_with fail
            go_returns
            obtain ⟨x1, x2⟩ := HYE.out h0 k (by omega) hS.out hd
            exact ⟨_, by rw [x1]; rfl, by rw [x2]; exact ownsRow_wider hv.out hB.size, hB11⟩
        · have ek : k = ts.length + 1 := by omega
          subst ek
          go_wp2_with fail
          go_returns
          obtain ⟨x1, x2⟩ := HNE.out h0 hS.out
          exact ⟨_, by rw [x1]; rfl, by rw [x2]; exact World.ownsRow_nil _ _ _ _, hB⟩
    · rw [show OV AL cm = #[.int .i64 0, .int .i64 0, .int .i64 0, .int .i64 0, .int .i64 0, .int .i64 0, .int .i64 0, .int .i64 0, .int .i64 0, .slice none 0 0, .slice none 0 0] from by rw [HOV.out, if_neg h0]]
      refine wpHeldIn_take (i := 4) (v := ?_) (plain_of (by kernel_rfl)) rfl (by kernel_rfl) (fun _ _ _ h => h) (yieldsSoIn_of (by kernel_rfl) ?_ (fun _ => rfl)) q3 ?_; rotate_left; focus (intro wq hw; clear hw; go_simp; try (with_reducible rfl))
      refine wpHeldIn_take (i := 5) (v := ?_) (plain_of (by kernel_rfl)) rfl (by kernel_rfl) (fun _ _ _ h => h) (yieldsSoIn_of (by kernel_rfl) ?_ (fun _ => rfl)) q3 ?_; rotate_left; focus (intro wq hw; clear hw; go_simp; try (with_reducible rfl))
      refine wpHeldIn_take (i := 6) (v := ?_) (plain_of (by kernel_rfl)) rfl (by kernel_rfl) (fun _ _ _ h => h) (yieldsSoIn_of (by kernel_rfl) ?_ (fun _ => rfl)) q3 ?_; rotate_left; focus (intro wq hw; clear hw; go_simp; try (with_reducible rfl))
      have z0 := bX.cell 0 rfl
      have z1 := bX.cell 1 rfl
      have z2 := bX.cell 2 rfl
      have z3 := bX.cell 3 rfl
      have z4 := bX.cell 4 rfl
      have z5 := bX.cell 5 rfl
      have z6 := bX.cell 6 rfl
      have z7 := bX.cell 7 rfl
      have z8 := bX.cell 8 rfl
      have z9 := bX.cell 9 rfl
      have z10 := bX.cell 10 rfl
      have f0 := bX.frozen 0
      have f1 := bX.frozen 1
      have f2 := bX.frozen 2
      have f3 := bX.frozen 3
      have f4 := bX.frozen 4
      have f5 := bX.frozen 5
      have f6 := bX.frozen 6
      have f7 := bX.frozen 7
      have f8 := bX.frozen 8
      have f9 := bX.frozen 9
      have f10 := bX.frozen 10
      refine wpHeldIn_one (i := 8) (by kernel_rfl) (by kernel_rfl) rfl (by kernel_rfl) (fun K9 hK9 => ?_)
      go_simp
      have bX2 := eleven_put bX (.int .i64 0) (.int .i64 0) (.int .i64 0) (.int .i64 0) (.int .i64 0) (.int .i64 0) (.int .i64 0) (.int .i64 0) (.int .i64 0) (.slice none 0 0) (.slice none 0 0)
      have hA2 := eleven_apart (b := w1.heap.size) (c := w3.heap.size) (B := w1.heap.size) w3 hXB bX.lt (.int .i64 0) (.int .i64 0) (.int .i64 0) (.int .i64 0) (.int .i64 0) (.int .i64 0) (.int .i64 0) (.int .i64 0) (.int .i64 0) (.slice none 0 0) (.slice none 0 0)
      have bC2 := eleven_other (bC.below q3) (B' := w1.heap.size) (by omega) (.int .i64 0) (.int .i64 0) (.int .i64 0) (.int .i64 0) (.int .i64 0) (.int .i64 0) (.int .i64 0) (.int .i64 0) (.int .i64 0) (.slice none 0 0) (.slice none 0 0)
      have q9 := q3.trans (hA2.below q3.size)
      have hB9 := hB1.trans (q9.mono hNw)
      refine hK9 _ _ q9 ?_
      clear z0 z1 z2 z3 z4 z5 z6 z7 z8 z9 z10 f0 f1 f2 f3 f4 f5 f6 f7 f8 f9 f10 hA2
      generalize World.setCell (World.setCell (World.setCell (World.setCell (World.setCell (World.setCell (World.setCell (World.setCell (World.setCell (World.setCell (World.setCell w3 _ _) _ _) _ _) _ _) _ _) _ _) _ _) _ _) _ _) _ _) _ _ = w9 at *
      refine wpHeldIn_take (i := 9) (v := ?_) (plain_of (by kernel_rfl)) rfl (by kernel_rfl) (fun _ _ _ h => h) (yieldsSoIn_of (by kernel_rfl) ?_ (fun _ => rfl)) q9 ?_; rotate_left; focus (intro wq hw; clear hw; go_simp; try (with_reducible rfl))
      refine wpHeldIn_done (by kernel_rfl) ?_ _
      go_simp
      refine noPanic_of ?_
      have hne : (E != 0) = true := by simpa using h0
      go_wp2_with fail
      go_returns
      obtain ⟨x1, x2⟩ := HXE.out h0
      exact ⟨_, by rw [x1]; rfl, by rw [x2]; exact World.ownsRow_nil _ _ _ _, hB9⟩
end Go.Proofs.YtkmacpkjobdffaaGreat
