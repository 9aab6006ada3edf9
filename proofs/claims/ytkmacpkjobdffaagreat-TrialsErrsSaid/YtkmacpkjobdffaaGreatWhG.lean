/- Wheels: a desk, or its error. -/
import Derived.Test.YtkmacpkjobdffaaGreatWhF
namespace Go.Proofs.YtkmacpkjobdffaaGreat
open Go.RowKit Go.Shelf
attribute [local go_sem] Oper.semAt_some
namespace Wh
def spE (d : Desk) : Int := if okB d then (if truthsL d = [] then 3 else 0) else chkE d
def zeroV : Array Value := #[.int .i64 0, .int .i64 0, .int .i64 0, .int .i64 0, .int .i64 0, .int .i64 0, .int .i64 0, .int .i64 0, .slice none 0 0]
def spV (d : Desk) (A : Option Addr) (c : Nat) : Array Value := if spE d = 0 then dkV d A c else zeroV
theorem sp_no {d : Desk} (h : okB d = false) : spE d = chkE d := by unfold spE; rw [h]; rfl
theorem sp_none {d : Desk} (h : okB d = true) (h2 : truthsL d = []) : spE d = 3 := by unfold spE; rw [h, if_pos rfl, if_pos h2]
theorem sp_yes {d : Desk} (h : okB d = true) (h2 : truthsL d ≠ []) : spE d = 0 := by unfold spE; rw [h, if_pos rfl, if_neg h2]
theorem chkE_no {d : Desk} (h : okB d = false) : chkE d ≠ 0 := fun e => by rw [chkE_zero.1 e] at h; cases h
theorem sp_ok {d : Desk} (h : spE d = 0) : okB d = true ∧ truthsL d ≠ [] := by
  unfold spE at h
  split at h
  · rename_i h1
    split at h
    · omega
    · rename_i h2; exact ⟨h1, h2⟩
  · rename_i h1
    exact absurd h (chkE_no (by simpa using h1))
theorem spV_yes {d : Desk} (h : spE d = 0) (A : Option Addr) (c : Nat) : spV d A c = dkV d A c := by unfold spV; rw [if_pos h]
theorem spV_no {d : Desk} (h : spE d ≠ 0) (A : Option Addr) (c : Nat) : spV d A c = #[.int .i64 0, .int .i64 0, .int .i64 0, .int .i64 0, .int .i64 0, .int .i64 0, .int .i64 0, .int .i64 0, .slice none 0 0] := by unfold spV; rw [if_neg h]; rfl
end Wh
def SpPost (v : Array Value) (x : Int) (w : World) (e : Ending) (w' : World) : Prop := e = .returned (.tuple #[.agg v, .int .i64 x]) ∧ Below w.heap.size w w'
theorem nine_put {W : World} {B : Nat} {t : TypeId} {a b c d e f g i j : Value} (h : BoxS W B t #[a, b, c, d, e, f, g, i, j]) (u0 u1 u2 u3 u4 u5 u6 u7 u8 : Value) :
    BoxS (((((((((W.setCell ⟨B, 0, none⟩ (u0)).setCell ⟨B, 1, none⟩ (u1)).setCell ⟨B, 2, none⟩ (u2)).setCell ⟨B, 3, none⟩ (u3)).setCell ⟨B, 4, none⟩ (u4)).setCell ⟨B, 5, none⟩ (u5)).setCell ⟨B, 6, none⟩ (u6)).setCell ⟨B, 7, none⟩ (u7)).setCell ⟨B, 8, none⟩ (u8)) B t #[u0, u1, u2, u3, u4, u5, u6, u7, u8] := by
  have h0 : BoxS (W.setCell ⟨B, 0, none⟩ (u0)) B t #[u0, b, c, d, e, f, g, i, j] := h.put9 0 u0
  have h1 : BoxS ((W.setCell ⟨B, 0, none⟩ (u0)).setCell ⟨B, 1, none⟩ (u1)) B t #[u0, u1, c, d, e, f, g, i, j] := h0.put9 1 u1
  have h2 : BoxS (((W.setCell ⟨B, 0, none⟩ (u0)).setCell ⟨B, 1, none⟩ (u1)).setCell ⟨B, 2, none⟩ (u2)) B t #[u0, u1, u2, d, e, f, g, i, j] := h1.put9 2 u2
  have h3 : BoxS ((((W.setCell ⟨B, 0, none⟩ (u0)).setCell ⟨B, 1, none⟩ (u1)).setCell ⟨B, 2, none⟩ (u2)).setCell ⟨B, 3, none⟩ (u3)) B t #[u0, u1, u2, u3, e, f, g, i, j] := h2.put9 3 u3
  have h4 : BoxS (((((W.setCell ⟨B, 0, none⟩ (u0)).setCell ⟨B, 1, none⟩ (u1)).setCell ⟨B, 2, none⟩ (u2)).setCell ⟨B, 3, none⟩ (u3)).setCell ⟨B, 4, none⟩ (u4)) B t #[u0, u1, u2, u3, u4, f, g, i, j] := h3.put9 4 u4
  have h5 : BoxS ((((((W.setCell ⟨B, 0, none⟩ (u0)).setCell ⟨B, 1, none⟩ (u1)).setCell ⟨B, 2, none⟩ (u2)).setCell ⟨B, 3, none⟩ (u3)).setCell ⟨B, 4, none⟩ (u4)).setCell ⟨B, 5, none⟩ (u5)) B t #[u0, u1, u2, u3, u4, u5, g, i, j] := h4.put9 5 u5
  have h6 : BoxS (((((((W.setCell ⟨B, 0, none⟩ (u0)).setCell ⟨B, 1, none⟩ (u1)).setCell ⟨B, 2, none⟩ (u2)).setCell ⟨B, 3, none⟩ (u3)).setCell ⟨B, 4, none⟩ (u4)).setCell ⟨B, 5, none⟩ (u5)).setCell ⟨B, 6, none⟩ (u6)) B t #[u0, u1, u2, u3, u4, u5, u6, i, j] := h5.put9 6 u6
  have h7 : BoxS ((((((((W.setCell ⟨B, 0, none⟩ (u0)).setCell ⟨B, 1, none⟩ (u1)).setCell ⟨B, 2, none⟩ (u2)).setCell ⟨B, 3, none⟩ (u3)).setCell ⟨B, 4, none⟩ (u4)).setCell ⟨B, 5, none⟩ (u5)).setCell ⟨B, 6, none⟩ (u6)).setCell ⟨B, 7, none⟩ (u7)) B t #[u0, u1, u2, u3, u4, u5, u6, u7, j] := h6.put9 7 u7
  have h8 : BoxS (((((((((W.setCell ⟨B, 0, none⟩ (u0)).setCell ⟨B, 1, none⟩ (u1)).setCell ⟨B, 2, none⟩ (u2)).setCell ⟨B, 3, none⟩ (u3)).setCell ⟨B, 4, none⟩ (u4)).setCell ⟨B, 5, none⟩ (u5)).setCell ⟨B, 6, none⟩ (u6)).setCell ⟨B, 7, none⟩ (u7)).setCell ⟨B, 8, none⟩ (u8)) B t #[u0, u1, u2, u3, u4, u5, u6, u7, u8] := h7.put9 8 u8
  exact h8
theorem nine_other {W : World} {B B' : Nat} {t : TypeId} {vs : Array Value} (h : BoxS W B t vs) (hne : B ≠ B') (u0 u1 u2 u3 u4 u5 u6 u7 u8 : Value) :
    BoxS (((((((((W.setCell ⟨B', 0, none⟩ (u0)).setCell ⟨B', 1, none⟩ (u1)).setCell ⟨B', 2, none⟩ (u2)).setCell ⟨B', 3, none⟩ (u3)).setCell ⟨B', 4, none⟩ (u4)).setCell ⟨B', 5, none⟩ (u5)).setCell ⟨B', 6, none⟩ (u6)).setCell ⟨B', 7, none⟩ (u7)).setCell ⟨B', 8, none⟩ (u8)) B t vs := by
  have oth : ∀ {W : World} (_ : BoxS W B t vs) (i : Nat) (v : Value), BoxS (W.setCell ⟨B', i, none⟩ v) B t vs := fun h i v => (Below.heap_setCell _ _ _ B hne).trans h
  exact (oth (oth (oth (oth (oth (oth (oth (oth (oth h 0 u0) 1 u1) 2 u2) 3 u3) 4 u4) 5 u5) 6 u6) 7 u7) 8 u8)
theorem nine_apart {b c B : Nat} (W : World) (h1 : b ≤ B) (h2 : B < c) (u0 u1 u2 u3 u4 u5 u6 u7 u8 : Value) : Apart b c W (((((((((W.setCell ⟨B, 0, none⟩ (u0)).setCell ⟨B, 1, none⟩ (u1)).setCell ⟨B, 2, none⟩ (u2)).setCell ⟨B, 3, none⟩ (u3)).setCell ⟨B, 4, none⟩ (u4)).setCell ⟨B, 5, none⟩ (u5)).setCell ⟨B, 6, none⟩ (u6)).setCell ⟨B, 7, none⟩ (u7)).setCell ⟨B, 8, none⟩ (u8)) := by
  have a : ∀ (W : World) (i : Nat) (v : Value), Apart b c W (W.setCell ⟨B, i, none⟩ v) := fun W i v => Apart.setCell _ _ h1 h2 _
  exact (((((((a _ 0 u0).trans (a _ 1 u1)).trans (a _ 2 u2)).trans (a _ 3 u3)).trans (a _ 4 u4)).trans (a _ 5 u5)).trans (a _ 6 u6)).trans (a _ 7 u7) |>.trans (a _ 8 u8)

set_option maxRecDepth 100000 in
set_option maxHeartbeats 4000000 in
theorem lay_no (d : Wh.Desk) (A : Option Addr) (c : Nat) (w : World) (hl : d.ws.length ≤ 1000000000) (hg : Wks w w.heap.size A d.ws) (hok : Wh.okB d = false) :
    Calls Tryz.prog 84 #[.agg (whV d), .slice A d.ws.length c] w (SpPost Wh.zeroV (Wh.chkE d) w) := by
  have HC : Hid (∀ W, Below w.heap.size w W → Calls Tryz.prog 51 #[.agg (whV d), .slice A d.ws.length c] W (ErrPost (Wh.chkE d) W)) := fun W hW => wCheck_any d A c W hl ((hg.keep hW).wider hW.size)
  have hne : (Wh.chkE d == 0) = false := by simpa using Wh.chkE_no hok
  generalize Wh.chkE d = E at *
  obtain ⟨full, read, slip, skew, circ, glo, ghi, wrn, ws⟩ := d
  unfold whV at *
  dsimp only at *
  unfold Wh.zeroV
  clear hg hok
  go_enter Tryz.func84, Tryz.ntmps84
  go_wp2_with fail
  have bZ := ((BoxS.new (w.alloc (.cells #[.int .i64 full, .int .i64 read, .int .i64 slip, .int .i64 skew, .int .i64 circ, .int .i64 glo, .int .i64 ghi, .int .i64 wrn] 25)) 115 #[.int .i64 0, .int .i64 0, .int .i64 0, .int .i64 0, .int .i64 0, .int .i64 0, .int .i64 0, .int .i64 0, .slice none 0 0]).alloc (.cells #[.int .i64 0] 32))
  have bE := BoxS.new ((w.alloc (.cells #[.int .i64 full, .int .i64 read, .int .i64 slip, .int .i64 skew, .int .i64 circ, .int .i64 glo, .int .i64 ghi, .int .i64 wrn] 25)).alloc (.cells #[.int .i64 0, .int .i64 0, .int .i64 0, .int .i64 0, .int .i64 0, .int .i64 0, .int .i64 0, .int .i64 0, .slice none 0 0] 115)) 32 #[.int .i64 0]
  have hB1 : Below w.heap.size w (((w.alloc (.cells #[.int .i64 full, .int .i64 read, .int .i64 slip, .int .i64 skew, .int .i64 circ, .int .i64 glo, .int .i64 ghi, .int .i64 wrn] 25)).alloc (.cells #[.int .i64 0, .int .i64 0, .int .i64 0, .int .i64 0, .int .i64 0, .int .i64 0, .int .i64 0, .int .i64 0, .slice none 0 0] 115)).alloc (.cells #[.int .i64 0] 32)) := by (repeat' (first | (with_reducible exact Below.refl _ _) | (with_reducible assumption) | (with_reducible refine Below.alloc ?_ ?_ _) | (with_reducible refine Below.drew ?_) | (with_reducible refine Below.setCell ?_ ?_ _) | go_size | (exact (by simp)) | omega))
  rw [World.size_alloc] at bZ bE
  rw [World.size_alloc] at bE
  generalize World.alloc (World.alloc (World.alloc w _) _) _ = w1 at *
  refine (HC.out _ hB1).mono ?_
  rintro e w2 ⟨rfl, hb2⟩
  have bZ2 := bZ.below hb2
  have bE2 := bE.below hb2
  have hB2 := hB1.trans (hb2.mono hB1.size)
  clear bZ bE hb2 hB1
  obtain ⟨⟨⟨z0, z1, z2⟩, z3, z4, z5⟩, z6, z7, z8⟩ := boxS9 bZ2
  have e0 := bE2.cell 0 rfl
  have f0 := bZ2.frozen 0
  have f1 := bZ2.frozen 1
  have f2 := bZ2.frozen 2
  have f3 := bZ2.frozen 3
  have f4 := bZ2.frozen 4
  have f5 := bZ2.frozen 5
  have f6 := bZ2.frozen 6
  have f7 := bZ2.frozen 7
  have f8 := bZ2.frozen 8
  have fe := bE2.frozen 0
  go_wp2_with fail
  have bZ3 := nine_put bZ2 (.int .i64 0) (.int .i64 0) (.int .i64 0) (.int .i64 0) (.int .i64 0) (.int .i64 0) (.int .i64 0) (.int .i64 0) (.slice none 0 0)
  have bE3 := nine_other bE2 (B' := w.heap.size + 1) (by omega) (.int .i64 0) (.int .i64 0) (.int .i64 0) (.int .i64 0) (.int .i64 0) (.int .i64 0) (.int .i64 0) (.int .i64 0) (.slice none 0 0)
  have hB3 : Below w.heap.size w (((((((((w2.setCell ⟨w.heap.size + 1, 0, none⟩ (.int .i64 0)).setCell ⟨w.heap.size + 1, 1, none⟩ (.int .i64 0)).setCell ⟨w.heap.size + 1, 2, none⟩ (.int .i64 0)).setCell ⟨w.heap.size + 1, 3, none⟩ (.int .i64 0)).setCell ⟨w.heap.size + 1, 4, none⟩ (.int .i64 0)).setCell ⟨w.heap.size + 1, 5, none⟩ (.int .i64 0)).setCell ⟨w.heap.size + 1, 6, none⟩ (.int .i64 0)).setCell ⟨w.heap.size + 1, 7, none⟩ (.int .i64 0)).setCell ⟨w.heap.size + 1, 8, none⟩ (.slice none 0 0)) := by (repeat' (first | (with_reducible exact Below.refl _ _) | (with_reducible assumption) | (with_reducible refine Below.alloc ?_ ?_ _) | (with_reducible refine Below.drew ?_) | (with_reducible refine Below.setCell ?_ ?_ _) | go_size | (exact (by simp)) | omega))
  generalize World.setCell (World.setCell (World.setCell (World.setCell (World.setCell (World.setCell (World.setCell (World.setCell (World.setCell w2 _ _) _ _) _ _) _ _) _ _) _ _) _ _) _ _) _ _ = w3 at *
  have bZ4 := bZ3.other (B' := w.heap.size + 1 + 1) (by omega) (.int .i64 E)
  have e4 : (w3.setCell ⟨w.heap.size + 1 + 1, 0, none⟩ (.int .i64 E)).cell? ⟨w.heap.size + 1 + 1, 0, none⟩ = some (.int .i64 E) := (bE3.put1 (.int .i64 E)).cell 0 rfl
  have hB4 : Below w.heap.size w (w3.setCell ⟨w.heap.size + 1 + 1, 0, none⟩ (.int .i64 E)) := by (repeat' (first | (with_reducible exact Below.refl _ _) | (with_reducible assumption) | (with_reducible refine Below.alloc ?_ ?_ _) | (with_reducible refine Below.drew ?_) | (with_reducible refine Below.setCell ?_ ?_ _) | go_size | (exact (by simp)) | omega))
  clear z0 z1 z2 z3 z4 z5 z6 z7 z8 e0 f0 f1 f2 f3 f4 f5 f6 f7 f8 fe
  obtain ⟨⟨⟨z0, z1, z2⟩, z3, z4, z5⟩, z6, z7, z8⟩ := boxS9 bZ4
  exact bodyPost_ret (v := .tuple #[.agg #[.int .i64 0, .int .i64 0, .int .i64 0, .int .i64 0, .int .i64 0, .int .i64 0, .int .i64 0, .int .i64 0, .slice none 0 0], .int .i64 E]) (by simp [results, Tryz.results84, go_sem, z0, z1, z2, z3, z4, z5, z6, z7, z8, e4]) rfl ⟨rfl, hB4⟩

set_option maxRecDepth 100000 in
set_option maxHeartbeats 8000000 in
theorem lay_ok (d : Wh.Desk) (A : Option Addr) (c : Nat) (w : World) (hg : Wks w w.heap.size A d.ws) (hok : Wh.okB d = true) :
    Calls Tryz.prog 84 #[.agg (whV d), .slice A d.ws.length c] w (SpPost (Wh.spV d A c) (Wh.spE d) w) := by
  have hs := Wh.ok_of hok
  have hlen := Wh.ok_len hok
  have HC : Hid (∀ W, Below w.heap.size w W → Calls Tryz.prog 51 #[.agg (whV d), .slice A d.ws.length c] W (ErrPost 0 W)) := fun W hW => by
    have := wCheck_any d A c W (by omega) ((hg.keep hW).wider hW.size)
    rw [Wh.chkE_yes hok] at this
    exact this
  have HSEQ : Hid (∀ w', Below w.heap.size w w' → SeqFar Tryz.prog 109 #[.agg (dkV d A c)] #[] encTr w.heap.size (fun ys => ys = Wh.truthsL d) (fun pre => pre <+: Wh.truthsL d) 500000 w') := fun w' h => truths_far d hs (by omega) (Wh.ok_sm hok) A c w.heap.size w' h.size (hg.keep h)
  have HN : Hid (Wh.truthsL d = [] → Wh.spE d = 3 ∧ Wh.spV d A c = #[.int .i64 0, .int .i64 0, .int .i64 0, .int .i64 0, .int .i64 0, .int .i64 0, .int .i64 0, .int .i64 0, .slice none 0 0]) := fun h => by
    have := Wh.sp_none hok h
    exact ⟨this, by unfold Wh.spV; rw [this]; rfl⟩
  have HY : Hid (Wh.truthsL d ≠ [] → Wh.spE d = 0 ∧ Wh.spV d A c = dkV d A c) := fun h => by
    have := Wh.sp_yes hok h
    exact ⟨this, by unfold Wh.spV; rw [this]; rfl⟩
  clear hg hok hs hlen
  generalize Wh.truthsL d = TL at *
  generalize Wh.spE d = SE at *
  generalize Wh.spV d A c = SV at *
  obtain ⟨full, read, slip, skew, circ, glo, ghi, wrn, ws⟩ := d
  unfold dkV at *
  unfold whV at *
  dsimp only at *
  refine (callsIn_wide (n := 8)).1 ?_
  refine callsIn_of_wp_marks Tryz.func84 rfl trivial ?_ rfl
  simp only [Tryz.ntmps84, List.size_toArray, List.length_cons, List.length_nil, Nat.reduceAdd, Nat.reduceSub, Array.replicate_succ, Array.replicate_zero, List.push_toArray, List.append_toArray, List.nil_append, List.cons_append]
  gi_wp2
  have bS := ((BoxS.new w 25 #[.int .i64 full, .int .i64 read, .int .i64 slip, .int .i64 skew, .int .i64 circ, .int .i64 glo, .int .i64 ghi, .int .i64 wrn]).alloc (.cells #[.int .i64 0, .int .i64 0, .int .i64 0, .int .i64 0, .int .i64 0, .int .i64 0, .int .i64 0, .int .i64 0, .slice none 0 0] 115)).alloc (.cells #[.int .i64 0] 32)
  have bZ := ((BoxS.new (w.alloc (.cells #[.int .i64 full, .int .i64 read, .int .i64 slip, .int .i64 skew, .int .i64 circ, .int .i64 glo, .int .i64 ghi, .int .i64 wrn] 25)) 115 #[.int .i64 0, .int .i64 0, .int .i64 0, .int .i64 0, .int .i64 0, .int .i64 0, .int .i64 0, .int .i64 0, .slice none 0 0]).alloc (.cells #[.int .i64 0] 32))
  have bE := BoxS.new ((w.alloc (.cells #[.int .i64 full, .int .i64 read, .int .i64 slip, .int .i64 skew, .int .i64 circ, .int .i64 glo, .int .i64 ghi, .int .i64 wrn] 25)).alloc (.cells #[.int .i64 0, .int .i64 0, .int .i64 0, .int .i64 0, .int .i64 0, .int .i64 0, .int .i64 0, .int .i64 0, .slice none 0 0] 115)) 32 #[.int .i64 0]
  have hB1 : Below w.heap.size w (((w.alloc (.cells #[.int .i64 full, .int .i64 read, .int .i64 slip, .int .i64 skew, .int .i64 circ, .int .i64 glo, .int .i64 ghi, .int .i64 wrn] 25)).alloc (.cells #[.int .i64 0, .int .i64 0, .int .i64 0, .int .i64 0, .int .i64 0, .int .i64 0, .int .i64 0, .int .i64 0, .slice none 0 0] 115)).alloc (.cells #[.int .i64 0] 32)) := by (repeat' (first | (with_reducible exact Below.refl _ _) | (with_reducible assumption) | (with_reducible refine Below.alloc ?_ ?_ _) | (with_reducible refine Below.drew ?_) | (with_reducible refine Below.setCell ?_ ?_ _) | go_size | (exact (by simp)) | omega))
  rw [World.size_alloc] at bZ bE
  rw [World.size_alloc] at bE
  generalize World.alloc (World.alloc (World.alloc w _) _) _ = w1 at *
  refine ⟨trivial, (callsIn_wide.2 (HC.out _ hB1)).mono ?_⟩
  rintro e w2 ⟨rfl, hb2⟩
  have bS2 := bS.below hb2
  have bZ2 := bZ.below hb2
  have bE2 := bE.below hb2
  have hB2 := hB1.trans (hb2.mono hB1.size)
  clear bS bZ bE hb2 hB1 HC
  obtain ⟨⟨⟨s0, s1, s2⟩, s3, s4, s5⟩, s6, s7⟩ := boxS8 bS2
  gi_wp2
  have bW3 := BoxS.new w2 115 #[.int .i64 full, .int .i64 read, .int .i64 slip, .int .i64 skew, .int .i64 circ, .int .i64 glo, .int .i64 ghi, .int .i64 wrn, .slice A ws.length c]
  have bZ3 := bZ2.alloc (.cells #[.int .i64 full, .int .i64 read, .int .i64 slip, .int .i64 skew, .int .i64 circ, .int .i64 glo, .int .i64 ghi, .int .i64 wrn, .slice A ws.length c] 115)
  have bE3 := bE2.alloc (.cells #[.int .i64 full, .int .i64 read, .int .i64 slip, .int .i64 skew, .int .i64 circ, .int .i64 glo, .int .i64 ghi, .int .i64 wrn, .slice A ws.length c] 115)
  have hB3 : Below w.heap.size w (w2.alloc (.cells #[.int .i64 full, .int .i64 read, .int .i64 slip, .int .i64 skew, .int .i64 circ, .int .i64 glo, .int .i64 ghi, .int .i64 wrn, .slice A ws.length c] 115)) := hB2.alloc hB2.size _
  have hz3 : (w2.alloc (.cells #[.int .i64 full, .int .i64 read, .int .i64 slip, .int .i64 skew, .int .i64 circ, .int .i64 glo, .int .i64 ghi, .int .i64 wrn, .slice A ws.length c] 115)).heap.size = w2.heap.size + 1 := by simp
  have lz := bZ2.lt
  have le := bE2.lt
  have hws := hB2.size
  clear bZ2 bE2 bS2 s0 s1 s2 s3 s4 s5 s6 s7 hB2
  generalize World.alloc w2 _ = w3 at *
  refine wpIn_far (n₀ := w.heap.size) (gf := 109) (pb := #[.agg #[.int .i64 full, .int .i64 read, .int .i64 slip, .int .i64 skew, .int .i64 circ, .int .i64 glo, .int .i64 ghi, .int .i64 wrn, .slice A ws.length c]]) (lb := #[]) rfl (enters_of Tryz.func109 (by kernel_rfl) rfl)
    (HSEQ.out w3 hB3) (Below.refl _ _) (by omega) (fun _ => rfl)
    (fun pre V => (((Hid (pre = []) ∧ BoxS V w2.heap.size 115 #[.int .i64 full, .int .i64 read, .int .i64 slip, .int .i64 skew, .int .i64 circ, .int .i64 glo, .int .i64 ghi, .int .i64 wrn, .slice A ws.length c]) ∧ BoxS V (w.heap.size + 1) 115 #[.int .i64 0, .int .i64 0, .int .i64 0, .int .i64 0, .int .i64 0, .int .i64 0, .int .i64 0, .int .i64 0, .slice none 0 0]) ∧ BoxS V (w.heap.size + 1 + 1) 32 #[.int .i64 0]) ∧ Below w.heap.size w V)
    (fun cc pre V => (((cc = .ret ∧ Hid (pre ≠ [])) ∧ BoxS V (w.heap.size + 1) 115 #[.int .i64 full, .int .i64 read, .int .i64 slip, .int .i64 skew, .int .i64 circ, .int .i64 glo, .int .i64 ghi, .int .i64 wrn, .slice A ws.length c]) ∧ BoxS V (w.heap.size + 1 + 1) 32 #[.int .i64 0]) ∧ Below w.heap.size w V)
    (OwnFrom.and (OwnFrom.and (OwnFrom.and (OwnFrom.and (ownFrom_pure _ (fun pre => Hid (pre = []))) (Own.from (boxS_own _ _ (fun _ => _)) _)) (Own.from (boxS_own _ _ (fun _ => _)) _)) (Own.from (boxS_own _ _ (fun _ => _)) _)) (ownFrom_below (Nat.le_refl _) (by omega)))
    (fun cc => OwnFrom.and (OwnFrom.and (OwnFrom.and (ownFrom_pure _ (fun pre => cc = .ret ∧ Hid (pre ≠ []))) (Own.from (boxS_own _ _ (fun _ => _)) _)) (Own.from (boxS_own _ _ (fun _ => _)) _)) (ownFrom_below (Nat.le_refl _) (by omega)))
    ⟨⟨⟨⟨rfl, bW3⟩, bZ3⟩, bE3⟩, hB3⟩
    (fun x a' V => a' = { tmps := #[.agg #[.int .i64 full, .int .i64 read, .int .i64 slip, .int .i64 skew, .int .i64 circ, .int .i64 glo, .int .i64 ghi, .int .i64 wrn], .slice A ws.length c, .pointer (some ⟨w.heap.size, 0, none⟩), undef, .pointer (some ⟨w.heap.size + 1, 0, none⟩), .pointer (some ⟨w.heap.size + 1 + 1, 0, none⟩), .int .i64 0, .pointer (some ⟨w2.heap.size, 0, none⟩), .agg #[.int .i64 full, .int .i64 read, .int .i64 slip, .int .i64 skew, .int .i64 circ, .int .i64 glo, .int .i64 ghi, .int .i64 wrn], .slice A ws.length c, .int .i64 0, .int .i64 0, .bool false, undef, undef, .agg #[.int .i64 full, .int .i64 read, .int .i64 slip, .int .i64 skew, .int .i64 circ, .int .i64 glo, .int .i64 ghi, .int .i64 wrn], .slice A ws.length c, .agg #[.int .i64 full, .int .i64 read, .int .i64 slip, .int .i64 skew, .int .i64 circ, .int .i64 glo, .int .i64 ghi, .int .i64 wrn, .slice A ws.length c], .agg #[.int .i64 full, .int .i64 read, .int .i64 slip, .int .i64 skew, .int .i64 circ, .int .i64 glo, .int .i64 ghi, .int .i64 wrn, .slice A ws.length c], .func (.func 109) #[.agg #[.int .i64 full, .int .i64 read, .int .i64 slip, .int .i64 skew, .int .i64 circ, .int .i64 glo, .int .i64 ghi, .int .i64 wrn, .slice A ws.length c]] #[], .agg #[.int .i64 x.1.1, .int .i64 x.1.2], undef, undef], defers := [] })
    (fun x a' => ownFrom_pure _ (fun _ => _))
    ?assign ?body ?done ?stop
  case assign =>
    rintro l2 pre x V K h hK
    unfold encTr
    gi_wp2
    exact hK _ _ (Apart.refl _ _ _) h (by simp)
  case body =>
    rintro l2 pre x a' V ⟨⟨⟨⟨hp, bW⟩, bZ⟩, bE⟩, hB⟩ rfl hlt
    obtain ⟨⟨⟨s0, s1, s2⟩, s3, s4, s5⟩, s6, s7, s8⟩ := boxS9 bW
    obtain ⟨⟨⟨z0, z1, z2⟩, z3, z4, z5⟩, z6, z7, z8⟩ := boxS9 bZ
    have e0 := bE.cell 0 rfl
    have f0 := bZ.frozen 0
    have f1 := bZ.frozen 1
    have f2 := bZ.frozen 2
    have f3 := bZ.frozen 3
    have f4 := bZ.frozen 4
    have f5 := bZ.frozen 5
    have f6 := bZ.frozen 6
    have f7 := bZ.frozen 7
    have f8 := bZ.frozen 8
    have fe := bE.frozen 0
    gi_wp2
    have bZ4 := (nine_put bZ (.int .i64 full) (.int .i64 read) (.int .i64 slip) (.int .i64 skew) (.int .i64 circ) (.int .i64 glo) (.int .i64 ghi) (.int .i64 wrn) (.slice A ws.length c)).other (B' := w.heap.size + 1 + 1) (by omega) (.int .i64 0)
    have bE4 := (nine_other bE (B' := w.heap.size + 1) (by omega) (.int .i64 full) (.int .i64 read) (.int .i64 slip) (.int .i64 skew) (.int .i64 circ) (.int .i64 glo) (.int .i64 ghi) (.int .i64 wrn) (.slice A ws.length c)).put1 (.int .i64 0)
    have hA4 := (nine_apart (b := w.heap.size) (c := w3.heap.size) (B := w.heap.size + 1) V (by omega) (by omega) (.int .i64 full) (.int .i64 read) (.int .i64 slip) (.int .i64 skew) (.int .i64 circ) (.int .i64 glo) (.int .i64 ghi) (.int .i64 wrn) (.slice A ws.length c)).trans (Apart.setCell _ ⟨w.heap.size + 1 + 1, 0, none⟩ (by simp; omega) (by simp; omega) (.int .i64 0))
    exact ⟨hA4, ⟨⟨⟨rfl, by unfold Hid; simp⟩, bZ4⟩, bE4⟩, hB.trans (hA4.below hB.size)⟩
  case done =>
    rintro D zs V hD rfl ⟨⟨⟨⟨hp, bW⟩, bZ⟩, bE⟩, hB⟩ hK
    obtain ⟨n1, n2⟩ := HN.out hp.out
    have e0 := bE.cell 0 rfl
    obtain ⟨⟨⟨z0, z1, z2⟩, z3, z4, z5⟩, z6, z7, z8⟩ := boxS9 bZ
    have f0 := bZ.frozen 0
    have f1 := bZ.frozen 1
    have f2 := bZ.frozen 2
    have f3 := bZ.frozen 3
    have f4 := bZ.frozen 4
    have f5 := bZ.frozen 5
    have f6 := bZ.frozen 6
    have f7 := bZ.frozen 7
    have f8 := bZ.frozen 8
    have fe := bE.frozen 0
    gi_wp2
    have bZ4 := (nine_put bZ (.int .i64 0) (.int .i64 0) (.int .i64 0) (.int .i64 0) (.int .i64 0) (.int .i64 0) (.int .i64 0) (.int .i64 0) (.slice none 0 0)).other (B' := w.heap.size + 1 + 1) (by omega) (.int .i64 3)
    have bE4 := (nine_other bE (B' := w.heap.size + 1) (by omega) (.int .i64 0) (.int .i64 0) (.int .i64 0) (.int .i64 0) (.int .i64 0) (.int .i64 0) (.int .i64 0) (.int .i64 0) (.slice none 0 0)).put1 (.int .i64 3)
    have hA4 := (nine_apart (b := w.heap.size) (c := w3.heap.size) (B := w.heap.size + 1) V (by omega) (by omega) (.int .i64 0) (.int .i64 0) (.int .i64 0) (.int .i64 0) (.int .i64 0) (.int .i64 0) (.int .i64 0) (.int .i64 0) (.slice none 0 0)).trans (Apart.setCell _ ⟨w.heap.size + 1 + 1, 0, none⟩ (by simp; omega) (by simp; omega) (.int .i64 3))
    have hK4 := hA4.obj hK (.inr hD)
    have hB4 := hB.trans (hA4.below hB.size)
    clear z0 z1 z2 z3 z4 z5 z6 z7 z8 e0 f0 f1 f2 f3 f4 f5 f6 f7 f8 fe hA4 bZ bE bW hB hK
    generalize World.setCell (World.setCell (World.setCell (World.setCell (World.setCell (World.setCell (World.setCell (World.setCell (World.setCell (World.setCell V _ _) _ _) _ _) _ _) _ _) _ _) _ _) _ _) _ _) _ _ = V4 at *
    refine ⟨by simp, .inl ⟨_, _, rfl, run_takeDeferred hK4, ?_⟩⟩
    have bZ5 : BoxS (V4.putObj D (.deferred none)) (w.heap.size + 1) 115 #[.int .i64 0, .int .i64 0, .int .i64 0, .int .i64 0, .int .i64 0, .int .i64 0, .int .i64 0, .int .i64 0, .slice none 0 0] := (World.putObj_heap_other (by omega)).trans bZ4
    have bE5 : BoxS (V4.putObj D (.deferred none)) (w.heap.size + 1 + 1) 32 #[.int .i64 3] := (World.putObj_heap_other (by omega)).trans bE4
    have e5 := bE5.cell 0 rfl
    obtain ⟨⟨⟨z0, z1, z2⟩, z3, z4, z5⟩, z6, z7, z8⟩ := boxS9 bZ5
    refine ⟨.tuple #[.agg #[.int .i64 0, .int .i64 0, .int .i64 0, .int .i64 0, .int .i64 0, .int .i64 0, .int .i64 0, .int .i64 0, .slice none 0 0], .int .i64 3], by simp [results, Tryz.f84, go_sem, z0, z1, z2, z3, z4, z5, z6, z7, z8, e5], by rw [n1, n2], hB4.trans (belowK_b (w := w) (Nat.le_refl _) V4 D _ _ (by omega) hK4 rfl rfl)⟩
  case stop =>
    rintro D cc pre V hD hpre ⟨⟨⟨⟨rfl, hp⟩, bZ⟩, bE⟩, hB⟩ hK
    obtain ⟨n1, n2⟩ := HY.out (fun h => hp.out (by rw [h] at hpre; exact List.prefix_nil.1 hpre))
    gi_wp2
    refine ⟨by simp, .inl ⟨_, _, rfl, run_takeDeferred hK, ?_⟩⟩
    have bZ5 : BoxS (V.putObj D (.deferred none)) (w.heap.size + 1) 115 #[.int .i64 full, .int .i64 read, .int .i64 slip, .int .i64 skew, .int .i64 circ, .int .i64 glo, .int .i64 ghi, .int .i64 wrn, .slice A ws.length c] := (World.putObj_heap_other (by omega)).trans bZ
    have bE5 : BoxS (V.putObj D (.deferred none)) (w.heap.size + 1 + 1) 32 #[.int .i64 0] := (World.putObj_heap_other (by omega)).trans bE
    have e5 := bE5.cell 0 rfl
    obtain ⟨⟨⟨z0, z1, z2⟩, z3, z4, z5⟩, z6, z7, z8⟩ := boxS9 bZ5
    refine ⟨.tuple #[.agg #[.int .i64 full, .int .i64 read, .int .i64 slip, .int .i64 skew, .int .i64 circ, .int .i64 glo, .int .i64 ghi, .int .i64 wrn, .slice A ws.length c], .int .i64 0], by simp [results, Tryz.f84, go_sem, z0, z1, z2, z3, z4, z5, z6, z7, z8, e5], by rw [n1, n2], hB.trans (belowK_b (w := w) (Nat.le_refl _) V D _ _ (by omega) hK rfl rfl)⟩

theorem lay_any (d : Wh.Desk) (A : Option Addr) (c : Nat) (w : World) (hl : d.ws.length ≤ 1000000000) (hg : Wks w w.heap.size A d.ws) :
    Calls Tryz.prog 84 #[.agg (whV d), .slice A d.ws.length c] w (SpPost (Wh.spV d A c) (Wh.spE d) w) := by
  cases hok : Wh.okB d with
  | false =>
    have h1 := Wh.sp_no hok
    have h2 : Wh.spV d A c = Wh.zeroV := by unfold Wh.spV; rw [h1, if_neg (Wh.chkE_no hok)]
    rw [h1, h2]
    exact lay_no d A c w hl hg hok
  | true => exact lay_ok d A c w hg hok
end Go.Proofs.YtkmacpkjobdffaaGreat
