/- Trials: opening a file. -/
import Derived.Test.YtkmacpkjobdffaaGreatTiH
namespace Go.Proofs.YtkmacpkjobdffaaGreat
open Go.RowKit Go.Shelf Go.Maps
attribute [local go_sem] Oper.semAt_some
namespace Ti
def opE (t : Tri) (valid : Bool) : Int := if chkV t = 0 then (if valid then (if truthsL t = [] then 3 else 0) else 1) else chkV t
end Ti
def zeroF : Array Value := #[.int .i64 0, .int .i64 0, .int .i64 0, .int .i64 0, .int .i64 0, .int .i64 0, .int .i64 0, .int .i64 0, .int .i64 0, .slice none 0 0, .slice none 0 0]
def opV (E : Int) (t : Ti.Tri) (A : Option Addr) (c : Nat) (AL : Option Addr) (cm : Nat) : Array Value := if E = 0 then fV t A c AL t.ts.length cm else zeroF
/-- What opening leaves. -/
def OpPost (E : Int) (t : Ti.Tri) (A : Option Addr) (c : Nat) (w : World) (e : Ending) (w' : World) : Prop :=
  ∃ AL cm, e = .returned (.tuple #[.agg (opV E t A c AL cm), .int .i64 E]) ∧ Hid (E = 0 → Alw w' w'.heap.size AL t) ∧ Below w.heap.size w w'
theorem opV_no {E : Int} (h : E ≠ 0) (t : Ti.Tri) (A : Option Addr) (c : Nat) (AL : Option Addr) (cm : Nat) : opV E t A c AL cm = #[.int .i64 0, .int .i64 0, .int .i64 0, .int .i64 0, .int .i64 0, .int .i64 0, .int .i64 0, .int .i64 0, .int .i64 0, .slice none 0 0, .slice none 0 0] := by unfold opV; rw [if_neg h]; rfl
theorem opV_yes (t : Ti.Tri) (A : Option Addr) (c : Nat) (AL : Option Addr) (cm : Nat) : opV 0 t A c AL cm = fV t A c AL t.ts.length cm := by unfold opV; rw [if_pos rfl]

set_option maxRecDepth 100000 in
set_option maxHeartbeats 8000000 in
theorem openT_no (t : Ti.Tri) (valid : Bool) (A : Option Addr) (c : Nat) (w : World) (hl : t.ts.length ≤ 1000000000) (hg : Tsts w w.heap.size A t.ts) (hno : Ti.chkV t ≠ 0 ∨ valid = false) :
    Calls Tryz.prog 54 #[.agg (tiV t A c), .bool valid] w (OpPost (Ti.opE t valid) t A c w) := by
  have HC : Hid (∀ W, Below w.heap.size w W → Calls Tryz.prog 11 #[.agg (tiV t A c)] W (ErrPost (Ti.chkV t) W)) := fun W hW => CheckT_any t A c hl W ((hg.keep hW).wider hW.size)
  obtain ⟨R, hR⟩ : ∃ R, R = Ti.opE t valid := ⟨_, rfl⟩
  have HR : Hid (R = if Ti.chkV t = 0 then 1 else Ti.chkV t) := by
    unfold Hid
    rw [hR]
    unfold Ti.opE
    by_cases h0 : Ti.chkV t = 0
    · rw [if_pos h0, if_pos h0]
      rcases hno with h | h
      · exact absurd h0 h
      · rw [h]; rfl
    · rw [if_neg h0, if_neg h0]
  have HRN : Hid (R ≠ 0) := by
    unfold Hid
    rw [HR.out]
    split <;> omega
  rw [← hR]
  have HVN : Hid (∀ AL cm, opV R t A c AL cm = #[.int .i64 0, .int .i64 0, .int .i64 0, .int .i64 0, .int .i64 0, .int .i64 0, .int .i64 0, .int .i64 0, .int .i64 0, .slice none 0 0, .slice none 0 0]) := fun AL cm => opV_no HRN.out t A c AL cm
  have HV : Hid (Ti.chkV t = 0 → valid = false) := fun h => by rcases hno with h1 | h1; exact absurd h h1; exact h1
  unfold ErrPost at HC
  unfold OpPost
  clear hg hno hR
  generalize Ti.chkV t = E at *
  generalize hOV : opV R t A c = OV at *
  clear hOV
  obtain ⟨d, gain, ts⟩ := t
  obtain ⟨full, read, slip, skew, circ, glo, ghi, wrn, dws⟩ := d
  unfold tiV at *
  dsimp only at *
  by_cases h0 : E = 0
  · have HR1 : Hid (R = 1) := by unfold Hid; rw [HR.out, if_pos h0]
    have hv := HV.out h0
    subst hv
    subst h0
    clear HR HV
    go_enter Tryz.func54, Tryz.ntmps54
    go_wp2_with fail
    have bT := ((BoxS.new w 28 #[.int .i64 full, .int .i64 read, .int .i64 slip, .int .i64 skew, .int .i64 circ, .int .i64 glo, .int .i64 ghi, .int .i64 wrn, .int .i64 gain, .slice A ts.length c]).alloc (.cells #[.int .i64 0, .int .i64 0, .int .i64 0, .int .i64 0, .int .i64 0, .int .i64 0, .int .i64 0, .int .i64 0, .int .i64 0, .slice none 0 0, .slice none 0 0] 84)).alloc (.cells #[.int .i64 0] 32)
    have bZ := (BoxS.new (w.alloc (.cells #[.int .i64 full, .int .i64 read, .int .i64 slip, .int .i64 skew, .int .i64 circ, .int .i64 glo, .int .i64 ghi, .int .i64 wrn, .int .i64 gain, .slice A ts.length c] 28)) 84 #[.int .i64 0, .int .i64 0, .int .i64 0, .int .i64 0, .int .i64 0, .int .i64 0, .int .i64 0, .int .i64 0, .int .i64 0, .slice none 0 0, .slice none 0 0]).alloc (.cells #[.int .i64 0] 32)
    have bE := BoxS.new ((w.alloc (.cells #[.int .i64 full, .int .i64 read, .int .i64 slip, .int .i64 skew, .int .i64 circ, .int .i64 glo, .int .i64 ghi, .int .i64 wrn, .int .i64 gain, .slice A ts.length c] 28)).alloc (.cells #[.int .i64 0, .int .i64 0, .int .i64 0, .int .i64 0, .int .i64 0, .int .i64 0, .int .i64 0, .int .i64 0, .int .i64 0, .slice none 0 0, .slice none 0 0] 84)) 32 #[.int .i64 0]
    have hB1 : Below w.heap.size w (((w.alloc (.cells #[.int .i64 full, .int .i64 read, .int .i64 slip, .int .i64 skew, .int .i64 circ, .int .i64 glo, .int .i64 ghi, .int .i64 wrn, .int .i64 gain, .slice A ts.length c] 28)).alloc (.cells #[.int .i64 0, .int .i64 0, .int .i64 0, .int .i64 0, .int .i64 0, .int .i64 0, .int .i64 0, .int .i64 0, .int .i64 0, .slice none 0 0, .slice none 0 0] 84)).alloc (.cells #[.int .i64 0] 32)) := by (repeat' (first | (with_reducible exact Below.refl _ _) | (with_reducible assumption) | (with_reducible refine Below.alloc ?_ ?_ _) | (with_reducible refine Below.drew ?_) | (with_reducible refine Below.setCell ?_ ?_ _) | go_size | (exact (by simp)) | omega))
    rw [World.size_alloc] at bZ bE
    rw [World.size_alloc] at bE
    try generalize World.alloc (World.alloc (World.alloc w _) _) _ = w1 at *
    try go_wp2_with fail
    refine (HC.out _ hB1).mono ?_
    rintro e w2 ⟨rfl, hb2⟩
    have bZ2 := bZ.below hb2
    have bE2 := bE.below hb2
    have hB2 := hB1.trans (hb2.mono hB1.size)
    clear bZ bE hb2 hB1 HC
    have e0 := bE2.cell 0 rfl
    have fe := bE2.frozen 0
    have z0 := bZ2.cell 0 rfl
    have z1 := bZ2.cell 1 rfl
    have z2 := bZ2.cell 2 rfl
    have z3 := bZ2.cell 3 rfl
    have z4 := bZ2.cell 4 rfl
    have z5 := bZ2.cell 5 rfl
    have z6 := bZ2.cell 6 rfl
    have z7 := bZ2.cell 7 rfl
    have z8 := bZ2.cell 8 rfl
    have z9 := bZ2.cell 9 rfl
    have z10 := bZ2.cell 10 rfl
    have f0 := bZ2.frozen 0
    have f1 := bZ2.frozen 1
    have f2 := bZ2.frozen 2
    have f3 := bZ2.frozen 3
    have f4 := bZ2.frozen 4
    have f5 := bZ2.frozen 5
    have f6 := bZ2.frozen 6
    have f7 := bZ2.frozen 7
    have f8 := bZ2.frozen 8
    have f9 := bZ2.frozen 9
    have f10 := bZ2.frozen 10
    go_wp2_with fail
    have bZ3 := eleven_put bZ2 (.int .i64 0) (.int .i64 0) (.int .i64 0) (.int .i64 0) (.int .i64 0) (.int .i64 0) (.int .i64 0) (.int .i64 0) (.int .i64 0) (.slice none 0 0) (.slice none 0 0)
    have bE3 := eleven_other bE2 (B' := w.heap.size + 1) (by omega) (.int .i64 0) (.int .i64 0) (.int .i64 0) (.int .i64 0) (.int .i64 0) (.int .i64 0) (.int .i64 0) (.int .i64 0) (.int .i64 0) (.slice none 0 0) (.slice none 0 0)
    have hB3 : Below w.heap.size w (((((((((((w2.setCell ⟨w.heap.size + 1, 0, none⟩ (.int .i64 0)).setCell ⟨w.heap.size + 1, 1, none⟩ (.int .i64 0)).setCell ⟨w.heap.size + 1, 2, none⟩ (.int .i64 0)).setCell ⟨w.heap.size + 1, 3, none⟩ (.int .i64 0)).setCell ⟨w.heap.size + 1, 4, none⟩ (.int .i64 0)).setCell ⟨w.heap.size + 1, 5, none⟩ (.int .i64 0)).setCell ⟨w.heap.size + 1, 6, none⟩ (.int .i64 0)).setCell ⟨w.heap.size + 1, 7, none⟩ (.int .i64 0)).setCell ⟨w.heap.size + 1, 8, none⟩ (.int .i64 0)).setCell ⟨w.heap.size + 1, 9, none⟩ (.slice none 0 0)).setCell ⟨w.heap.size + 1, 10, none⟩ (.slice none 0 0)) := by (repeat' (first | (with_reducible exact Below.refl _ _) | (with_reducible assumption) | (with_reducible refine Below.alloc ?_ ?_ _) | (with_reducible refine Below.drew ?_) | (with_reducible refine Below.setCell ?_ ?_ _) | go_size | (exact (by simp)) | omega))
    generalize World.setCell (World.setCell (World.setCell (World.setCell (World.setCell (World.setCell (World.setCell (World.setCell (World.setCell (World.setCell (World.setCell w2 _ _) _ _) _ _) _ _) _ _) _ _) _ _) _ _) _ _) _ _) _ _ = w3 at *
    have bZ4 := bZ3.other (B' := w.heap.size + 1 + 1) (by omega) (.int .i64 1)
    have e4 : (w3.setCell ⟨w.heap.size + 1 + 1, 0, none⟩ (.int .i64 1)).cell? ⟨w.heap.size + 1 + 1, 0, none⟩ = some (.int .i64 1) := (bE3.put1 (.int .i64 1)).cell 0 rfl
    have hB4 : Below w.heap.size w (w3.setCell ⟨w.heap.size + 1 + 1, 0, none⟩ (.int .i64 1)) := by (repeat' (first | (with_reducible exact Below.refl _ _) | (with_reducible assumption) | (with_reducible refine Below.alloc ?_ ?_ _) | (with_reducible refine Below.drew ?_) | (with_reducible refine Below.setCell ?_ ?_ _) | go_size | (exact (by simp)) | omega))
    clear z0 z1 z2 z3 z4 z5 z6 z7 z8 z9 z10 e0 f0 f1 f2 f3 f4 f5 f6 f7 f8 f9 f10 fe
    have z0 := bZ4.cell 0 rfl
    have z1 := bZ4.cell 1 rfl
    have z2 := bZ4.cell 2 rfl
    have z3 := bZ4.cell 3 rfl
    have z4 := bZ4.cell 4 rfl
    have z5 := bZ4.cell 5 rfl
    have z6 := bZ4.cell 6 rfl
    have z7 := bZ4.cell 7 rfl
    have z8 := bZ4.cell 8 rfl
    have z9 := bZ4.cell 9 rfl
    have z10 := bZ4.cell 10 rfl
    exact bodyPost_ret (v := .tuple #[.agg #[.int .i64 0, .int .i64 0, .int .i64 0, .int .i64 0, .int .i64 0, .int .i64 0, .int .i64 0, .int .i64 0, .int .i64 0, .slice none 0 0, .slice none 0 0], .int .i64 1]) (by simp [results, Tryz.results54, go_sem, z0, z1, z2, z3, z4, z5, z6, z7, z8, z9, z10, e4]) rfl ⟨none, 0, by rw [HVN.out, HR1.out], fun h => absurd h HRN.out, hB4⟩
  · have HR1 : Hid (R = E) := by unfold Hid; rw [HR.out, if_neg h0]
    have hne : (E != 0) = true := by simpa using h0
    clear h0
    clear HR HV
    go_enter Tryz.func54, Tryz.ntmps54
    go_wp2_with fail
    have bT := ((BoxS.new w 28 #[.int .i64 full, .int .i64 read, .int .i64 slip, .int .i64 skew, .int .i64 circ, .int .i64 glo, .int .i64 ghi, .int .i64 wrn, .int .i64 gain, .slice A ts.length c]).alloc (.cells #[.int .i64 0, .int .i64 0, .int .i64 0, .int .i64 0, .int .i64 0, .int .i64 0, .int .i64 0, .int .i64 0, .int .i64 0, .slice none 0 0, .slice none 0 0] 84)).alloc (.cells #[.int .i64 0] 32)
    have bZ := (BoxS.new (w.alloc (.cells #[.int .i64 full, .int .i64 read, .int .i64 slip, .int .i64 skew, .int .i64 circ, .int .i64 glo, .int .i64 ghi, .int .i64 wrn, .int .i64 gain, .slice A ts.length c] 28)) 84 #[.int .i64 0, .int .i64 0, .int .i64 0, .int .i64 0, .int .i64 0, .int .i64 0, .int .i64 0, .int .i64 0, .int .i64 0, .slice none 0 0, .slice none 0 0]).alloc (.cells #[.int .i64 0] 32)
    have bE := BoxS.new ((w.alloc (.cells #[.int .i64 full, .int .i64 read, .int .i64 slip, .int .i64 skew, .int .i64 circ, .int .i64 glo, .int .i64 ghi, .int .i64 wrn, .int .i64 gain, .slice A ts.length c] 28)).alloc (.cells #[.int .i64 0, .int .i64 0, .int .i64 0, .int .i64 0, .int .i64 0, .int .i64 0, .int .i64 0, .int .i64 0, .int .i64 0, .slice none 0 0, .slice none 0 0] 84)) 32 #[.int .i64 0]
    have hB1 : Below w.heap.size w (((w.alloc (.cells #[.int .i64 full, .int .i64 read, .int .i64 slip, .int .i64 skew, .int .i64 circ, .int .i64 glo, .int .i64 ghi, .int .i64 wrn, .int .i64 gain, .slice A ts.length c] 28)).alloc (.cells #[.int .i64 0, .int .i64 0, .int .i64 0, .int .i64 0, .int .i64 0, .int .i64 0, .int .i64 0, .int .i64 0, .int .i64 0, .slice none 0 0, .slice none 0 0] 84)).alloc (.cells #[.int .i64 0] 32)) := by (repeat' (first | (with_reducible exact Below.refl _ _) | (with_reducible assumption) | (with_reducible refine Below.alloc ?_ ?_ _) | (with_reducible refine Below.drew ?_) | (with_reducible refine Below.setCell ?_ ?_ _) | go_size | (exact (by simp)) | omega))
    rw [World.size_alloc] at bZ bE
    rw [World.size_alloc] at bE
    try generalize World.alloc (World.alloc (World.alloc w _) _) _ = w1 at *
    try go_wp2_with fail
    refine (HC.out _ hB1).mono ?_
    rintro e w2 ⟨rfl, hb2⟩
    have bZ2 := bZ.below hb2
    have bE2 := bE.below hb2
    have hB2 := hB1.trans (hb2.mono hB1.size)
    clear bZ bE hb2 hB1 HC
    have e0 := bE2.cell 0 rfl
    have fe := bE2.frozen 0
    have z0 := bZ2.cell 0 rfl
    have z1 := bZ2.cell 1 rfl
    have z2 := bZ2.cell 2 rfl
    have z3 := bZ2.cell 3 rfl
    have z4 := bZ2.cell 4 rfl
    have z5 := bZ2.cell 5 rfl
    have z6 := bZ2.cell 6 rfl
    have z7 := bZ2.cell 7 rfl
    have z8 := bZ2.cell 8 rfl
    have z9 := bZ2.cell 9 rfl
    have z10 := bZ2.cell 10 rfl
    have f0 := bZ2.frozen 0
    have f1 := bZ2.frozen 1
    have f2 := bZ2.frozen 2
    have f3 := bZ2.frozen 3
    have f4 := bZ2.frozen 4
    have f5 := bZ2.frozen 5
    have f6 := bZ2.frozen 6
    have f7 := bZ2.frozen 7
    have f8 := bZ2.frozen 8
    have f9 := bZ2.frozen 9
    have f10 := bZ2.frozen 10
    go_wp2_with fail
    have bZ3 := eleven_put bZ2 (.int .i64 0) (.int .i64 0) (.int .i64 0) (.int .i64 0) (.int .i64 0) (.int .i64 0) (.int .i64 0) (.int .i64 0) (.int .i64 0) (.slice none 0 0) (.slice none 0 0)
    have bE3 := eleven_other bE2 (B' := w.heap.size + 1) (by omega) (.int .i64 0) (.int .i64 0) (.int .i64 0) (.int .i64 0) (.int .i64 0) (.int .i64 0) (.int .i64 0) (.int .i64 0) (.int .i64 0) (.slice none 0 0) (.slice none 0 0)
    have hB3 : Below w.heap.size w (((((((((((w2.setCell ⟨w.heap.size + 1, 0, none⟩ (.int .i64 0)).setCell ⟨w.heap.size + 1, 1, none⟩ (.int .i64 0)).setCell ⟨w.heap.size + 1, 2, none⟩ (.int .i64 0)).setCell ⟨w.heap.size + 1, 3, none⟩ (.int .i64 0)).setCell ⟨w.heap.size + 1, 4, none⟩ (.int .i64 0)).setCell ⟨w.heap.size + 1, 5, none⟩ (.int .i64 0)).setCell ⟨w.heap.size + 1, 6, none⟩ (.int .i64 0)).setCell ⟨w.heap.size + 1, 7, none⟩ (.int .i64 0)).setCell ⟨w.heap.size + 1, 8, none⟩ (.int .i64 0)).setCell ⟨w.heap.size + 1, 9, none⟩ (.slice none 0 0)).setCell ⟨w.heap.size + 1, 10, none⟩ (.slice none 0 0)) := by (repeat' (first | (with_reducible exact Below.refl _ _) | (with_reducible assumption) | (with_reducible refine Below.alloc ?_ ?_ _) | (with_reducible refine Below.drew ?_) | (with_reducible refine Below.setCell ?_ ?_ _) | go_size | (exact (by simp)) | omega))
    generalize World.setCell (World.setCell (World.setCell (World.setCell (World.setCell (World.setCell (World.setCell (World.setCell (World.setCell (World.setCell (World.setCell w2 _ _) _ _) _ _) _ _) _ _) _ _) _ _) _ _) _ _) _ _) _ _ = w3 at *
    have bZ4 := bZ3.other (B' := w.heap.size + 1 + 1) (by omega) (.int .i64 E)
    have e4 : (w3.setCell ⟨w.heap.size + 1 + 1, 0, none⟩ (.int .i64 E)).cell? ⟨w.heap.size + 1 + 1, 0, none⟩ = some (.int .i64 E) := (bE3.put1 (.int .i64 E)).cell 0 rfl
    have hB4 : Below w.heap.size w (w3.setCell ⟨w.heap.size + 1 + 1, 0, none⟩ (.int .i64 E)) := by (repeat' (first | (with_reducible exact Below.refl _ _) | (with_reducible assumption) | (with_reducible refine Below.alloc ?_ ?_ _) | (with_reducible refine Below.drew ?_) | (with_reducible refine Below.setCell ?_ ?_ _) | go_size | (exact (by simp)) | omega))
    clear z0 z1 z2 z3 z4 z5 z6 z7 z8 z9 z10 e0 f0 f1 f2 f3 f4 f5 f6 f7 f8 f9 f10 fe
    have z0 := bZ4.cell 0 rfl
    have z1 := bZ4.cell 1 rfl
    have z2 := bZ4.cell 2 rfl
    have z3 := bZ4.cell 3 rfl
    have z4 := bZ4.cell 4 rfl
    have z5 := bZ4.cell 5 rfl
    have z6 := bZ4.cell 6 rfl
    have z7 := bZ4.cell 7 rfl
    have z8 := bZ4.cell 8 rfl
    have z9 := bZ4.cell 9 rfl
    have z10 := bZ4.cell 10 rfl
    exact bodyPost_ret (v := .tuple #[.agg #[.int .i64 0, .int .i64 0, .int .i64 0, .int .i64 0, .int .i64 0, .int .i64 0, .int .i64 0, .int .i64 0, .int .i64 0, .slice none 0 0, .slice none 0 0], .int .i64 E]) (by simp [results, Tryz.results54, go_sem, z0, z1, z2, z3, z4, z5, z6, z7, z8, z9, z10, e4]) rfl ⟨none, 0, by rw [HVN.out, HR1.out], fun h => absurd h HRN.out, hB4⟩
end Go.Proofs.YtkmacpkjobdffaaGreat
