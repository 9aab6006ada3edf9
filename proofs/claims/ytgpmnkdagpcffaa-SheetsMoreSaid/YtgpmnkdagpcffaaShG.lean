/- Sheets: a sheet at work, or its error. -/
import Derived.Test.YtgpmnkdagpcffaaShF
namespace Go.Proofs.Ytgpmnkdagpcffaa
open Go.RowKit Go.Shelf
attribute [local go_sem] Oper.semAt_some
namespace Sh
def spE (s : Sheet) : Int := if okB s then (if truthsL s = [] then 3 else 0) else 40
def zeroV : Array Value := #[.int .i64 0, .int .i64 0, .int .i64 0, .int .i64 0, .slice none 0 0, .int .i64 0]
def spV (s : Sheet) (A : Option Addr) (c : Nat) : Array Value := if spE s = 0 then shV s A c else zeroV
theorem sp_no {s : Sheet} (h : okB s = false) : spE s = 40 := by unfold spE; rw [h]; rfl
theorem sp_none {s : Sheet} (h : okB s = true) (h2 : truthsL s = []) : spE s = 3 := by unfold spE; rw [h, if_pos rfl, if_pos h2]
theorem sp_yes {s : Sheet} (h : okB s = true) (h2 : truthsL s ≠ []) : spE s = 0 := by unfold spE; rw [h, if_pos rfl, if_neg h2]
end Sh
def SpPost (v : Array Value) (x : Int) (w : World) (e : Ending) (w' : World) : Prop := e = .returned (.tuple #[.agg v, .int .i64 x]) ∧ Below w.heap.size w w'
theorem six_put {W : World} {B : Nat} {t : TypeId} {a b c d e f : Value} (h : BoxS W B t #[a, b, c, d, e, f]) (u v x y z q : Value) :
    BoxS ((((((W.setCell ⟨B, 0, none⟩ u).setCell ⟨B, 1, none⟩ v).setCell ⟨B, 2, none⟩ x).setCell ⟨B, 3, none⟩ y).setCell ⟨B, 4, none⟩ z).setCell ⟨B, 5, none⟩ q) B t #[u, v, x, y, z, q] := by
  have put : ∀ {W : World} {vs : Array Value} (_ : BoxS W B t vs) (i : Nat) (v : Value), BoxS (W.setCell ⟨B, i, none⟩ v) B t (vs.setIfInBounds i v) := by
    intro W vs h i v
    obtain ⟨hlt, hk⟩ := Array.getElem?_eq_some_iff.1 h
    show (W.heap.modify B _)[B]? = _
    rw [Array.getElem?_eq_getElem (by rw [Array.size_modify]; exact hlt), Array.getElem_modify_self, hk]
    rfl
  exact put (put (put (put (put (put h 0 u) 1 v) 2 x) 3 y) 4 z) 5 q
theorem six_other {W : World} {B B' : Nat} {t : TypeId} {vs : Array Value} (h : BoxS W B t vs) (hne : B ≠ B') (u v x y z q : Value) :
    BoxS ((((((W.setCell ⟨B', 0, none⟩ u).setCell ⟨B', 1, none⟩ v).setCell ⟨B', 2, none⟩ x).setCell ⟨B', 3, none⟩ y).setCell ⟨B', 4, none⟩ z).setCell ⟨B', 5, none⟩ q) B t vs := by
  have oth : ∀ {W : World} (_ : BoxS W B t vs) (i : Nat) (v : Value), BoxS (W.setCell ⟨B', i, none⟩ v) B t vs := fun h i v => (Below.heap_setCell _ _ _ B hne).trans h
  exact oth (oth (oth (oth (oth (oth h 0 u) 1 v) 2 x) 3 y) 4 z) 5 q
theorem BoxS.put1 {W : World} {B : Nat} {t : TypeId} {a : Value} (h : BoxS W B t #[a]) (v : Value) : BoxS (W.setCell ⟨B, 0, none⟩ v) B t #[v] := by
  obtain ⟨hlt, hk⟩ := Array.getElem?_eq_some_iff.1 h
  show (W.heap.modify B _)[B]? = _
  rw [Array.getElem?_eq_getElem (by rw [Array.size_modify]; exact hlt), Array.getElem_modify_self, hk]
  rfl
theorem six_apart {b c B : Nat} (W : World) (h1 : b ≤ B) (h2 : B < c) (u v x y z q : Value) :
    Apart b c W ((((((W.setCell ⟨B, 0, none⟩ u).setCell ⟨B, 1, none⟩ v).setCell ⟨B, 2, none⟩ x).setCell ⟨B, 3, none⟩ y).setCell ⟨B, 4, none⟩ z).setCell ⟨B, 5, none⟩ q) :=
  (((((Apart.setCell _ _ h1 h2 _).trans (Apart.setCell _ _ h1 h2 _)).trans (Apart.setCell _ _ h1 h2 _)).trans (Apart.setCell _ _ h1 h2 _)).trans (Apart.setCell _ _ h1 h2 _)).trans (Apart.setCell _ _ h1 h2 _)

set_option maxRecDepth 100000 in
set_option maxHeartbeats 4000000 in
theorem spread_no (s : Sheet) (A : Option Addr) (c : Nat) (w : World) (hl : s.cs.length ≤ 1000000000) (hg : Cts w w.heap.size A s.cs) (hok : Sh.okB s = false) :
    Calls Try.prog 60 #[.agg (shV s A c)] w (SpPost Sh.zeroV 40 w) := by
  have HC : Hid (∀ W, Below w.heap.size w W → Calls Try.prog 41 #[.agg (shV s A c)] W (ErrPost 40 W)) := fun W hW => by
    have := shCheck_any s A c W hl ((hg.keep hW).wider hW.size)
    rw [Sh.chkE_no hok] at this
    exact this
  obtain ⟨al, ah, bl, bh, cs, wrn⟩ := s
  unfold shV at HC ⊢
  dsimp only at *
  unfold Sh.zeroV
  clear hg hok
  go_enter Try.func60, Try.ntmps60
  go_wp2_with fail
  have bZ := ((BoxS.new (w.alloc (.cells #[.int .i64 al, .int .i64 ah, .int .i64 bl, .int .i64 bh, .slice A cs.length c, .int .i64 wrn] 26)) 87 #[.int .i64 0, .int .i64 0, .int .i64 0, .int .i64 0, .slice none 0 0, .int .i64 0]).alloc (.cells #[.int .i64 0] 35))
  have bE := BoxS.new ((w.alloc (.cells #[.int .i64 al, .int .i64 ah, .int .i64 bl, .int .i64 bh, .slice A cs.length c, .int .i64 wrn] 26)).alloc (.cells #[.int .i64 0, .int .i64 0, .int .i64 0, .int .i64 0, .slice none 0 0, .int .i64 0] 87)) 35 #[.int .i64 0]
  have hB1 : Below w.heap.size w (((w.alloc (.cells #[.int .i64 al, .int .i64 ah, .int .i64 bl, .int .i64 bh, .slice A cs.length c, .int .i64 wrn] 26)).alloc (.cells #[.int .i64 0, .int .i64 0, .int .i64 0, .int .i64 0, .slice none 0 0, .int .i64 0] 87)).alloc (.cells #[.int .i64 0] 35)) := by (repeat' (first | (with_reducible exact Below.refl _ _) | (with_reducible assumption) | (with_reducible refine Below.alloc ?_ ?_ _) | (with_reducible refine Below.drew ?_) | (with_reducible refine Below.setCell ?_ ?_ _) | go_size | (exact (by simp)) | omega))
  rw [World.size_alloc] at bZ bE
  rw [World.size_alloc] at bE
  generalize World.alloc (World.alloc (World.alloc w _) _) _ = w1 at *
  refine (HC.out _ hB1).mono ?_
  rintro e w2 ⟨rfl, hb2⟩
  have bZ2 := bZ.below hb2
  have bE2 := bE.below hb2
  have hB2 := hB1.trans (hb2.mono hB1.size)
  clear bZ bE hb2 hB1
  obtain ⟨⟨z0, z1, z2⟩, z3, z4, z5⟩ := boxS6 bZ2
  have e0 := bE2.cell 0 rfl
  have f0 := bZ2.frozen 0
  have f1 := bZ2.frozen 1
  have f2 := bZ2.frozen 2
  have f3 := bZ2.frozen 3
  have f4 := bZ2.frozen 4
  have f5 := bZ2.frozen 5
  have f6 := bE2.frozen 0
  go_wp2_with fail
  have bZ3 := six_put bZ2 (.int .i64 0) (.int .i64 0) (.int .i64 0) (.int .i64 0) (.slice none 0 0) (.int .i64 0)
  have bE3 := six_other bE2 (B' := w.heap.size + 1) (by omega) (.int .i64 0) (.int .i64 0) (.int .i64 0) (.int .i64 0) (.slice none 0 0) (.int .i64 0)
  have hB3 : Below w.heap.size w ((((((w2.setCell ⟨w.heap.size + 1, 0, none⟩ (.int .i64 0)).setCell ⟨w.heap.size + 1, 1, none⟩ (.int .i64 0)).setCell ⟨w.heap.size + 1, 2, none⟩ (.int .i64 0)).setCell ⟨w.heap.size + 1, 3, none⟩ (.int .i64 0)).setCell ⟨w.heap.size + 1, 4, none⟩ (.slice none 0 0)).setCell ⟨w.heap.size + 1, 5, none⟩ (.int .i64 0)) := by (repeat' (first | (with_reducible exact Below.refl _ _) | (with_reducible assumption) | (with_reducible refine Below.alloc ?_ ?_ _) | (with_reducible refine Below.drew ?_) | (with_reducible refine Below.setCell ?_ ?_ _) | go_size | (exact (by simp)) | omega))
  generalize World.setCell (World.setCell (World.setCell (World.setCell (World.setCell (World.setCell w2 _ _) _ _) _ _) _ _) _ _) _ _ = w3 at *
  have bZ4 := bZ3.other (B' := w.heap.size + 1 + 1) (by omega) (.int .i64 40)
  have e4 : (w3.setCell ⟨w.heap.size + 1 + 1, 0, none⟩ (.int .i64 40)).cell? ⟨w.heap.size + 1 + 1, 0, none⟩ = some (.int .i64 40) := cs_same (bE3.cell 0 rfl)
  have hB4 : Below w.heap.size w (w3.setCell ⟨w.heap.size + 1 + 1, 0, none⟩ (.int .i64 40)) := by (repeat' (first | (with_reducible exact Below.refl _ _) | (with_reducible assumption) | (with_reducible refine Below.alloc ?_ ?_ _) | (with_reducible refine Below.drew ?_) | (with_reducible refine Below.setCell ?_ ?_ _) | go_size | (exact (by simp)) | omega))
  clear z0 z1 z2 z3 z4 z5 e0 f0 f1 f2 f3 f4 f5 f6
  obtain ⟨⟨z0, z1, z2⟩, z3, z4, z5⟩ := boxS6 bZ4
  exact bodyPost_ret (v := .tuple #[.agg #[.int .i64 0, .int .i64 0, .int .i64 0, .int .i64 0, .slice none 0 0, .int .i64 0], .int .i64 40]) (by simp [results, Try.results60, go_sem, z0, z1, z2, z3, z4, z5, e4]) rfl ⟨rfl, hB4⟩

set_option maxRecDepth 100000 in
set_option maxHeartbeats 8000000 in
theorem spread_ok (s : Sheet) (A : Option Addr) (c : Nat) (w : World) (hg : Cts w w.heap.size A s.cs) (hok : Sh.okB s = true) :
    Calls Try.prog 60 #[.agg (shV s A c)] w (SpPost (Sh.spV s A c) (Sh.spE s) w) := by
  have hs := Sh.ok_of hok
  have HC : Hid (∀ W, Below w.heap.size w W → Calls Try.prog 41 #[.agg (shV s A c)] W (ErrPost 0 W)) := fun W hW => by
    have := shCheck_any s A c W (by have := hs.n; omega) ((hg.keep hW).wider hW.size)
    rw [Sh.chkE_yes hok] at this
    exact this
  have HSEQ : Hid (∀ w', Below w.heap.size w w' → SeqFar Try.prog 61 #[.agg (shV s A c)] #[] encFa w.heap.size (fun ys => ys = Sh.truthsL s) (fun pre => pre <+: Sh.truthsL s) 50000 w') := fun w' h => truths_far s hs A c w.heap.size w' h.size (hg.keep h)
  have HN : Hid (Sh.truthsL s = [] → Sh.spE s = 3 ∧ Sh.spV s A c = #[.int .i64 0, .int .i64 0, .int .i64 0, .int .i64 0, .slice none 0 0, .int .i64 0]) := fun h => by
    have := Sh.sp_none hok h
    exact ⟨this, by unfold Sh.spV; rw [this]; rfl⟩
  have HY : Hid (Sh.truthsL s ≠ [] → Sh.spE s = 0 ∧ Sh.spV s A c = shV s A c) := fun h => by
    have := Sh.sp_yes hok h
    exact ⟨this, by unfold Sh.spV; rw [this]; rfl⟩
  clear hg hok hs
  obtain ⟨al, ah, bl, bh, cs, wrn⟩ := s
  unfold shV at HC HSEQ HY ⊢
  dsimp only at *
  generalize Sh.truthsL ⟨al, ah, bl, bh, cs, wrn⟩ = TL at *
  generalize Sh.spE ⟨al, ah, bl, bh, cs, wrn⟩ = SE at *
  generalize Sh.spV ⟨al, ah, bl, bh, cs, wrn⟩ A c = SV at *
  refine (callsIn_wide (n := 8)).1 ?_
  refine callsIn_of_wp_marks Try.func60 rfl trivial ?_ rfl
  simp only [Try.ntmps60, List.size_toArray, List.length_cons, List.length_nil, Nat.reduceAdd, Nat.reduceSub, Array.replicate_succ, Array.replicate_zero, List.push_toArray, List.append_toArray, List.nil_append, List.cons_append]
  gi_wp2
  have bS := ((BoxS.new w 26 #[.int .i64 al, .int .i64 ah, .int .i64 bl, .int .i64 bh, .slice A cs.length c, .int .i64 wrn]).alloc (.cells #[.int .i64 0, .int .i64 0, .int .i64 0, .int .i64 0, .slice none 0 0, .int .i64 0] 87)).alloc (.cells #[.int .i64 0] 35)
  have bZ := ((BoxS.new (w.alloc (.cells #[.int .i64 al, .int .i64 ah, .int .i64 bl, .int .i64 bh, .slice A cs.length c, .int .i64 wrn] 26)) 87 #[.int .i64 0, .int .i64 0, .int .i64 0, .int .i64 0, .slice none 0 0, .int .i64 0]).alloc (.cells #[.int .i64 0] 35))
  have bE := BoxS.new ((w.alloc (.cells #[.int .i64 al, .int .i64 ah, .int .i64 bl, .int .i64 bh, .slice A cs.length c, .int .i64 wrn] 26)).alloc (.cells #[.int .i64 0, .int .i64 0, .int .i64 0, .int .i64 0, .slice none 0 0, .int .i64 0] 87)) 35 #[.int .i64 0]
  have hB1 : Below w.heap.size w (((w.alloc (.cells #[.int .i64 al, .int .i64 ah, .int .i64 bl, .int .i64 bh, .slice A cs.length c, .int .i64 wrn] 26)).alloc (.cells #[.int .i64 0, .int .i64 0, .int .i64 0, .int .i64 0, .slice none 0 0, .int .i64 0] 87)).alloc (.cells #[.int .i64 0] 35)) := by (repeat' (first | (with_reducible exact Below.refl _ _) | (with_reducible assumption) | (with_reducible refine Below.alloc ?_ ?_ _) | (with_reducible refine Below.drew ?_) | (with_reducible refine Below.setCell ?_ ?_ _) | go_size | (exact (by simp)) | omega))
  rw [World.size_alloc] at bZ bE
  rw [World.size_alloc] at bE
  generalize World.alloc (World.alloc (World.alloc w _) _) _ = w1 at *
  refine ⟨trivial, (callsIn_wide.2 (HC.out _ hB1)).mono ?_⟩
  rintro e w2 ⟨rfl, hb2⟩
  have bS2 := bS.below hb2
  have bZ2 := bZ.below hb2
  have bE2 := bE.below hb2
  have hB2 := hB1.trans (hb2.mono hB1.size)
  clear bS bZ bE hb2 hB1 HC
  obtain ⟨⟨s0, s1, s2⟩, s3, s4, s5⟩ := boxS6 bS2
  gi_wp2
  have bW3 := BoxS.new w2 87 #[.int .i64 al, .int .i64 ah, .int .i64 bl, .int .i64 bh, .slice A cs.length c, .int .i64 wrn]
  have bZ3 := bZ2.alloc (.cells #[.int .i64 al, .int .i64 ah, .int .i64 bl, .int .i64 bh, .slice A cs.length c, .int .i64 wrn] 87)
  have bE3 := bE2.alloc (.cells #[.int .i64 al, .int .i64 ah, .int .i64 bl, .int .i64 bh, .slice A cs.length c, .int .i64 wrn] 87)
  have hB3 : Below w.heap.size w (w2.alloc (.cells #[.int .i64 al, .int .i64 ah, .int .i64 bl, .int .i64 bh, .slice A cs.length c, .int .i64 wrn] 87)) := hB2.alloc hB2.size _
  have hz3 : (w2.alloc (.cells #[.int .i64 al, .int .i64 ah, .int .i64 bl, .int .i64 bh, .slice A cs.length c, .int .i64 wrn] 87)).heap.size = w2.heap.size + 1 := by simp
  have lz := bZ2.lt
  have le := bE2.lt
  have hws := hB2.size
  clear bZ2 bE2 bS2 s0 s1 s2 s3 s4 s5 hB2
  generalize World.alloc w2 _ = w3 at *
  refine wpIn_far (n₀ := w.heap.size) (gf := 61) (pb := #[.agg #[.int .i64 al, .int .i64 ah, .int .i64 bl, .int .i64 bh, .slice A cs.length c, .int .i64 wrn]]) (lb := #[]) rfl (enters_of Try.func61 (by kernel_rfl) rfl)
    (HSEQ.out w3 hB3) (Below.refl _ _) (by omega) (fun _ => rfl)
    (fun pre V => (((Hid (pre = []) ∧ BoxS V w2.heap.size 87 #[.int .i64 al, .int .i64 ah, .int .i64 bl, .int .i64 bh, .slice A cs.length c, .int .i64 wrn]) ∧ BoxS V (w.heap.size + 1) 87 #[.int .i64 0, .int .i64 0, .int .i64 0, .int .i64 0, .slice none 0 0, .int .i64 0]) ∧ BoxS V (w.heap.size + 1 + 1) 35 #[.int .i64 0]) ∧ Below w.heap.size w V)
    (fun cc pre V => (((cc = .ret ∧ Hid (pre ≠ [])) ∧ BoxS V (w.heap.size + 1) 87 #[.int .i64 al, .int .i64 ah, .int .i64 bl, .int .i64 bh, .slice A cs.length c, .int .i64 wrn]) ∧ BoxS V (w.heap.size + 1 + 1) 35 #[.int .i64 0]) ∧ Below w.heap.size w V)
    (OwnFrom.and (OwnFrom.and (OwnFrom.and (OwnFrom.and (ownFrom_pure _ (fun pre => Hid (pre = []))) (Own.from (boxS_own _ _ (fun _ => _)) _)) (Own.from (boxS_own _ _ (fun _ => _)) _)) (Own.from (boxS_own _ _ (fun _ => _)) _)) (ownFrom_below (Nat.le_refl _) (by omega)))
    (fun cc => OwnFrom.and (OwnFrom.and (OwnFrom.and (ownFrom_pure _ (fun pre => cc = .ret ∧ Hid (pre ≠ []))) (Own.from (boxS_own _ _ (fun _ => _)) _)) (Own.from (boxS_own _ _ (fun _ => _)) _)) (ownFrom_below (Nat.le_refl _) (by omega)))
    ⟨⟨⟨⟨rfl, bW3⟩, bZ3⟩, bE3⟩, hB3⟩
    (fun x a' V => a' = { tmps := #[.agg #[.int .i64 al, .int .i64 ah, .int .i64 bl, .int .i64 bh, .slice A cs.length c, .int .i64 wrn], .pointer (some ⟨w.heap.size, 0, none⟩), .pointer (some ⟨w.heap.size + 1, 0, none⟩), .pointer (some ⟨w.heap.size + 1 + 1, 0, none⟩), .int .i64 0, .pointer (some ⟨w2.heap.size, 0, none⟩), .agg #[.int .i64 al, .int .i64 ah, .int .i64 bl, .int .i64 bh, .slice A cs.length c, .int .i64 wrn], .int .i64 0, .int .i64 0, .bool false, undef, undef, .agg #[.int .i64 al, .int .i64 ah, .int .i64 bl, .int .i64 bh, .slice A cs.length c, .int .i64 wrn], .agg #[.int .i64 al, .int .i64 ah, .int .i64 bl, .int .i64 bh, .slice A cs.length c, .int .i64 wrn], .agg #[.int .i64 al, .int .i64 ah, .int .i64 bl, .int .i64 bh, .slice A cs.length c, .int .i64 wrn], .func (.func 61) #[.agg #[.int .i64 al, .int .i64 ah, .int .i64 bl, .int .i64 bh, .slice A cs.length c, .int .i64 wrn]] #[], .agg #[.int .i64 x.1.1, .int .i64 x.1.2], undef, undef], defers := [] })
    (fun x a' => ownFrom_pure _ (fun _ => _))
    ?assign ?body ?done ?stop
  case assign =>
    rintro l2 pre x V K h hK
    unfold encFa
    gi_wp2
    exact hK _ _ (Apart.refl _ _ _) h (by simp)
  case body =>
    rintro l2 pre x a' V ⟨⟨⟨⟨hp, bW⟩, bZ⟩, bE⟩, hB⟩ rfl hlt
    obtain ⟨⟨s0, s1, s2⟩, s3, s4, s5⟩ := boxS6 bW
    obtain ⟨⟨z0, z1, z2⟩, z3, z4, z5⟩ := boxS6 bZ
    have e0 := bE.cell 0 rfl
    have f0 := bZ.frozen 0
    have f1 := bZ.frozen 1
    have f2 := bZ.frozen 2
    have f3 := bZ.frozen 3
    have f4 := bZ.frozen 4
    have f5 := bZ.frozen 5
    have f6 := bE.frozen 0
    gi_wp2
    have bZ4 := (six_put bZ (.int .i64 al) (.int .i64 ah) (.int .i64 bl) (.int .i64 bh) (.slice A cs.length c) (.int .i64 wrn)).other (B' := w.heap.size + 1 + 1) (by omega) (.int .i64 0)
    have bE4 := (six_other bE (B' := w.heap.size + 1) (by omega) (.int .i64 al) (.int .i64 ah) (.int .i64 bl) (.int .i64 bh) (.slice A cs.length c) (.int .i64 wrn)).put1 (.int .i64 0)
    have hA4 := (six_apart (b := w.heap.size) (c := w3.heap.size) (B := w.heap.size + 1) V (by omega) (by omega) (.int .i64 al) (.int .i64 ah) (.int .i64 bl) (.int .i64 bh) (.slice A cs.length c) (.int .i64 wrn)).trans (Apart.setCell _ ⟨w.heap.size + 1 + 1, 0, none⟩ (by simp; omega) (by simp; omega) (.int .i64 0))
    exact ⟨hA4, ⟨⟨⟨rfl, by unfold Hid; simp⟩, bZ4⟩, bE4⟩, hB.trans (hA4.below hB.size)⟩
  case done =>
    rintro D zs V hD rfl ⟨⟨⟨⟨hp, bW⟩, bZ⟩, bE⟩, hB⟩ hK
    obtain ⟨n1, n2⟩ := HN.out hp.out
    have e0 := bE.cell 0 rfl
    have f0 := bZ.frozen 0
    obtain ⟨⟨z0, z1, z2⟩, z3, z4, z5⟩ := boxS6 bZ
    have f1 := bZ.frozen 1
    have f2 := bZ.frozen 2
    have f3 := bZ.frozen 3
    have f4 := bZ.frozen 4
    have f5 := bZ.frozen 5
    have f6 := bE.frozen 0
    gi_wp2
    have bZ4 := (six_put bZ (.int .i64 0) (.int .i64 0) (.int .i64 0) (.int .i64 0) (.slice none 0 0) (.int .i64 0)).other (B' := w.heap.size + 1 + 1) (by omega) (.int .i64 3)
    have bE4 := (six_other bE (B' := w.heap.size + 1) (by omega) (.int .i64 0) (.int .i64 0) (.int .i64 0) (.int .i64 0) (.slice none 0 0) (.int .i64 0)).put1 (.int .i64 3)
    have hA4 := (six_apart (b := w.heap.size) (c := w3.heap.size) (B := w.heap.size + 1) V (by omega) (by omega) (.int .i64 0) (.int .i64 0) (.int .i64 0) (.int .i64 0) (.slice none 0 0) (.int .i64 0)).trans (Apart.setCell _ ⟨w.heap.size + 1 + 1, 0, none⟩ (by simp; omega) (by simp; omega) (.int .i64 3))
    have hK4 := hA4.obj hK (.inr hD)
    have hB4 := hB.trans (hA4.below hB.size)
    clear z0 z1 z2 z3 z4 z5 e0 f0 f1 f2 f3 f4 f5 f6 hA4 bZ bE bW hB hK
    generalize World.setCell (World.setCell (World.setCell (World.setCell (World.setCell (World.setCell (World.setCell V _ _) _ _) _ _) _ _) _ _) _ _) _ _ = V4 at *
    refine ⟨by simp, .inl ⟨_, _, rfl, run_takeDeferred hK4, ?_⟩⟩
    have bZ5 : BoxS (V4.putObj D (.deferred none)) (w.heap.size + 1) 87 #[.int .i64 0, .int .i64 0, .int .i64 0, .int .i64 0, .slice none 0 0, .int .i64 0] := (World.putObj_heap_other (by omega)).trans bZ4
    have bE5 : BoxS (V4.putObj D (.deferred none)) (w.heap.size + 1 + 1) 35 #[.int .i64 3] := (World.putObj_heap_other (by omega)).trans bE4
    have e5 := bE5.cell 0 rfl
    obtain ⟨⟨z0, z1, z2⟩, z3, z4, z5⟩ := boxS6 bZ5
    refine ⟨.tuple #[.agg #[.int .i64 0, .int .i64 0, .int .i64 0, .int .i64 0, .slice none 0 0, .int .i64 0], .int .i64 3], by simp [results, Try.f60, go_sem, z0, z1, z2, z3, z4, z5, e5], by rw [n1, n2], hB4.trans (belowK_b (w := w) (Nat.le_refl _) V4 D _ _ (by omega) hK4 rfl rfl)⟩
  case stop =>
    rintro D cc pre V hD hpre ⟨⟨⟨⟨rfl, hp⟩, bZ⟩, bE⟩, hB⟩ hK
    obtain ⟨n1, n2⟩ := HY.out (fun h => hp.out (by rw [h] at hpre; exact List.prefix_nil.1 hpre))
    gi_wp2
    refine ⟨by simp, .inl ⟨_, _, rfl, run_takeDeferred hK, ?_⟩⟩
    have bZ5 : BoxS (V.putObj D (.deferred none)) (w.heap.size + 1) 87 #[.int .i64 al, .int .i64 ah, .int .i64 bl, .int .i64 bh, .slice A cs.length c, .int .i64 wrn] := (World.putObj_heap_other (by omega)).trans bZ
    have bE5 : BoxS (V.putObj D (.deferred none)) (w.heap.size + 1 + 1) 35 #[.int .i64 0] := (World.putObj_heap_other (by omega)).trans bE
    have e5 := bE5.cell 0 rfl
    obtain ⟨⟨z0, z1, z2⟩, z3, z4, z5⟩ := boxS6 bZ5
    refine ⟨.tuple #[.agg #[.int .i64 al, .int .i64 ah, .int .i64 bl, .int .i64 bh, .slice A cs.length c, .int .i64 wrn], .int .i64 0], by simp [results, Try.f60, go_sem, z0, z1, z2, z3, z4, z5, e5], by rw [n1, n2], hB.trans (belowK_b (w := w) (Nat.le_refl _) V D _ _ (by omega) hK rfl rfl)⟩

theorem spread_any (s : Sheet) (A : Option Addr) (c : Nat) (w : World) (hl : s.cs.length ≤ 1000000000) (hg : Cts w w.heap.size A s.cs) :
    Calls Try.prog 60 #[.agg (shV s A c)] w (SpPost (Sh.spV s A c) (Sh.spE s) w) := by
  cases hok : Sh.okB s with
  | false =>
    have h1 := Sh.sp_no hok
    have h2 : Sh.spV s A c = Sh.zeroV := by unfold Sh.spV; rw [h1]; rfl
    rw [h1, h2]
    exact spread_no s A c w hl hg hok
  | true => exact spread_ok s A c w hg hok
end Go.Proofs.Ytgpmnkdagpcffaa
