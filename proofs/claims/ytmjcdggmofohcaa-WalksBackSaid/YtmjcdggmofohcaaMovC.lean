/- Walks: copies of tracks and walks, and a point of a row changed. -/
import Derived.Test.YtmjcdggmofohcaaMovP
import Derived.Test.YtmjcdggmofohcaaFewI
import Derived.Test.YtmjcdggmofohcaaEx5
namespace Go.Proofs.Ytmjcdggmofohcaa
open Go.RowKit
theorem info_parts4 {o : Option TypeInfo} {z : Option Value} {n b : Nat} (h : o.map (fun i => (i.zero, i.size, i.bytes)) = some (z, n, b)) : ∃ i, o = some i ∧ i.zero = z ∧ i.size = n ∧ i.bytes = b := by
  cases o with
  | none => cases h
  | some i => simp at h; exact ⟨i, rfl, h.1, h.2.1, h.2.2⟩
theorem Prs.wider {W : World} {B B' : Nat} {A : Option Addr} {L : List (Int × Int)} (h : Prs W B A L) (hB : B ≤ B') : Prs W B' A L := fun hn => by
  obtain ⟨b, off, e, hb, hc⟩ := h hn
  exact ⟨b, off, e, by omega, hc⟩
theorem point_info : (Try.prog.info? 28).map (fun i => (i.zero, i.size, i.bytes)) = some (some (.agg #[.int .i64 0, .int .i64 0]), 2, 16) := by kernel_rfl
theorem own_formP {w : World} {B : Nat} {e : TypeId} {v : Value} {n : Nat} {xs : List Value} (h : w.ownsRow B e 2 v n xs) : ∃ A c, v = .slice A n c := by
  rcases h.2 with ⟨rfl, rfl⟩ | ⟨g, cap, cur, rfl, _⟩
  · exact ⟨none, 0, rfl⟩
  · exact ⟨some ⟨g, 0, none⟩, cap, rfl⟩
theorem prsP_of_own {w : World} {B : Nat} {e : TypeId} {A : Option Addr} {c : Nat} {gs : List (Int × Int)} (h : w.ownsRow B e 2 (.slice A gs.length c) gs.length (flat gs)) : Prs w w.heap.size A gs :=
  Prs.of_reads (Reads.of_own h)
/-- 'append([]Point{}, l...)': a copy in new memory. -/
theorem wpList_copy {ops : Array Oper} {rest : List Oper} {o : Oper} {a : Act} {Q : Exit → Act → World → Prop} {wr : World} (hgd : o.guard = none) (s y : Operand)
    (ho : o.op = .call { callee := .builtin .append, args := #[s, y], argTypes := #[22, 22] }) (A : Option Addr) (c : Nat) (gs : List (Int × Int)) (g : Nat) (hsz : g = wr.heap.size)
    (hs : a.eval s = .slice (some ⟨g, 0, none⟩) 0 0) (hx : a.eval y = .slice A gs.length c) (hg : Prs wr wr.heap.size A gs) (hn : gs.length ≤ 1000000000)
    (h : ∀ A' c' w', w'.ownsRow wr.heap.size 28 2 (.slice A' gs.length c') gs.length (flat gs) → Below wr.heap.size wr w' → wpList Try.prog ops Q rest (a.put o.dst (.slice A' gs.length c')) w') :
    wpList Try.prog ops Q (o :: rest) a (wr.alloc (.cells #[] 28)) := by
  subst hsz
  obtain ⟨i0, hi0, hz0, hz1, hz2⟩ := info_parts4 point_info
  have hb0 : Below wr.heap.size wr (wr.alloc (.cells #[] 28)) := (Below.refl _ _).alloc (Nat.le_refl _) _
  refine wpList_append_any _ hgd s y 22 ho wr.heap.size 28 i0 (.agg #[.int .i64 0, .int .i64 0]) 2 16 Try.underlying22 hi0 hz0 hz1 hz2 rfl (by decide) (.slice (some ⟨wr.heap.size, 0, none⟩) 0 0) 0 [] hs
    (World.ownsRow_made wr #[] 0 (Nat.le_refl _) (by simp [maxLen]) rfl) wr.heap.size A gs.length c (flat gs) hx (hg.keep hb0).reads (flat_one gs) (by simp only [maxLen]; omega) (by omega) (by simp) ?_
  intro v' w' hown hgr hat
  rw [Nat.zero_add, List.nil_append] at hown
  obtain ⟨A', c', rfl⟩ := own_formP hown
  exact h A' c' w' hown (hb0.grown hgr (by simp) (fun j hj => by
    have : j = wr.heap.size := by simpa [Value.ownBlock] using hj.symm
    omega))
theorem ownsRow_set {w : World} {base : Nat} {e : TypeId} {size : Nat} {v : Value} {n : Nat} {xs : List Value} (h : w.ownsRow base e size v n xs) {b : Nat} (i : Nat) (u : Value) (hb : b < base) : (w.setCell ⟨b, i, none⟩ u).ownsRow base e size v n xs := by
  obtain ⟨h1, h2⟩ := h
  refine ⟨h1, ?_⟩
  rcases h2 with h2 | ⟨g, cap, cur, a1, a2, a3, a4⟩
  · exact .inl h2
  · exact .inr ⟨g, cap, cur, a1, a2, (BoxS.away (t := e) (vs := cur) a3 (B' := b) (by omega) i u), a4⟩
theorem ownsRow_base {w : World} {b b' : Nat} {e : TypeId} {size : Nat} {v : Value} {n : Nat} {xs : List Value} (h : w.ownsRow b e size v n xs) (hb : b' ≤ b) : w.ownsRow b' e size v n xs := by
  obtain ⟨h1, h2⟩ := h
  refine ⟨h1, ?_⟩
  rcases h2 with h2 | ⟨g, cap, cur, a1, a2, a3⟩
  · exact .inl h2
  · exact .inr ⟨g, cap, cur, a1, Nat.le_trans hb a2, a3⟩

/-- A block of cells holds points, one behind the other. -/
def RowP (cur : Array Value) (L : List (Int × Int)) : Prop := ∀ (j : Nat) (p : Int × Int), L[j]? = some p → cur[j * 2]? = some (.int .i64 p.1) ∧ cur[j * 2 + 1]? = some (.int .i64 p.2)
theorem rowP_of_take {cur : Array Value} {L : List (Int × Int)} {n : Nat} (h : cur.toList.take n = flat L) : RowP cur L := fun j p hp => by
  obtain ⟨h1, h2⟩ := flat_get L j
  rw [hp] at h1 h2
  rw [← h] at h1 h2
  rw [List.getElem?_take] at h1 h2
  constructor
  · split at h1
    · rw [Array.getElem?_toList] at h1; exact h1
    · cases h1
  · split at h2
    · rw [Array.getElem?_toList] at h2; exact h2
    · cases h2
theorem rowP_set {cur : Array Value} {L : List (Int × Int)} (h : RowP cur L) {k : Nat} (hk : k < L.length) (x y : Int) : RowP ((cur.setIfInBounds (k * 2) (.int .i64 x)).setIfInBounds (k * 2 + 1) (.int .i64 y)) (L.set k (x, y)) := fun j p hp => by
  obtain ⟨a1, a2⟩ := h k L[k] (List.getElem?_eq_getElem hk)
  have b1 : k * 2 < cur.size := by
    rcases Nat.lt_or_ge (k * 2) cur.size with h | h
    · exact h
    · rw [Array.getElem?_eq_none h] at a1; cases a1
  have b2 : k * 2 + 1 < cur.size := by
    rcases Nat.lt_or_ge (k * 2 + 1) cur.size with h | h
    · exact h
    · rw [Array.getElem?_eq_none h] at a2; cases a2
  by_cases e : k = j
  · subst e
    rw [List.getElem?_set_self hk] at hp
    injection hp with hp
    subst hp
    constructor
    · rw [Array.getElem?_setIfInBounds_ne (by omega), Array.getElem?_setIfInBounds_self_of_lt b1]
    · rw [Array.getElem?_setIfInBounds_self_of_lt (by simp; exact b2)]
  · rw [List.getElem?_set_ne e] at hp
    obtain ⟨c1, c2⟩ := h j p hp
    constructor
    · rw [Array.getElem?_setIfInBounds_ne (by omega), Array.getElem?_setIfInBounds_ne (by omega)]
      exact c1
    · rw [Array.getElem?_setIfInBounds_ne (by omega), Array.getElem?_setIfInBounds_ne (by omega)]
      exact c2
theorem prs_of_rowP {W : World} {g : Nat} {ty : TypeId} {cur : Array Value} {L : List (Int × Int)} (hb : BoxS W g ty cur) (h : RowP cur L) : Prs W W.heap.size (some ⟨g, 0, none⟩) L := fun _ => ⟨g, 0, rfl, hb.lt, fun k p hk => by
  rw [Nat.zero_add]
  exact ⟨hb.cell _ (h k p hk).1, hb.cell _ (h k p hk).2⟩⟩
/-- An owned row of points is a block of its own. -/
theorem own_boxP {W : World} {B : Nat} {ty : TypeId} {A : Option Addr} {c : Nat} {L : List (Int × Int)} (h0 : 0 < L.length) (h : W.ownsRow B ty 2 (.slice A L.length c) L.length (flat L)) : ∃ g cur, A = some ⟨g, 0, none⟩ ∧ B ≤ g ∧ BoxS W g ty cur ∧ RowP cur L := by
  rcases h.2 with ⟨_, e⟩ | ⟨g, cap, cur, e, hb, hg, _, _, _, ht⟩
  · omega
  · injection e with e1 e2 e3
    exact ⟨g, cur, e1, hb, hg, rowP_of_take ht⟩
theorem four_put {W : World} {B : Nat} {t : TypeId} {a b c d : Value} (h : BoxS W B t #[a, b, c, d]) (u v x y : Value) :
    BoxS ((((W.setCell ⟨B, 0, none⟩ u).setCell ⟨B, 1, none⟩ v).setCell ⟨B, 2, none⟩ x).setCell ⟨B, 3, none⟩ y) B t #[u, v, x, y] := by
  have := (((h.put9 0 u).put9 1 v).put9 2 x).put9 3 y
  exact this
def Copy5Post (t : Wl.Trk) (w : World) (e : Ending) (w' : World) : Prop := ∃ A c, e = .returned (.agg (trV t A c)) ∧ Hid (w'.ownsRow w.heap.size 28 2 (.slice A t.ps.length c) t.ps.length (flat t.ps)) ∧ Below w.heap.size w w'
set_option maxRecDepth 100000 in
set_option maxHeartbeats 2000000 in
theorem Copy5_own (t : Wl.Trk) (A : Option Addr) (c : Nat) (hl : t.ps.length ≤ 1000000000) (w : World) (hg : Prs w w.heap.size A t.ps) :
    Calls Try.prog 13 #[.agg (trV t A c)] w (Copy5Post t w) := by
  unfold Copy5Post
  obtain ⟨ps, cl, lo, hi⟩ := t
  unfold trV
  dsimp only at *
  have HG := Lib.hid hg
  clear hg
  go_enter Try.func13, Try.ntmps13
  go_wp2_with (at_builtin; go_must (refine wpList_copy rfl (.tmp 5) (.tmp 7) rfl A c ps (w.heap.size + 1 + 1 + 1) (by simp) rfl rfl (Prs.wider (HG.out.keep (by (repeat' (first | (with_reducible exact Below.refl _ _) | (with_reducible assumption) | (with_reducible refine Below.alloc ?_ ?_ _) | (with_reducible refine Below.drew ?_) | (with_reducible refine Below.setCell ?_ ?_ _) | go_size | (exact (by simp)) | omega)))) (by simp; omega)) hl ?_; intro A' c' w1 hown1 hb1; have HC1 : Hid (w1.ownsRow (w.heap.size + 3) 28 2 (.slice A' ps.length c') ps.length (flat ps)) := (by have := hown1; simp only [World.size_alloc] at this; exact this); have hB1 : Below w.heap.size w w1 := (show Below w.heap.size w (((w.alloc (.cells #[.slice A ps.length c, .int .i64 cl, .int .i64 lo, .int .i64 hi] 26)).alloc (.cells #[.slice none 0 0, .int .i64 0, .int .i64 0, .int .i64 0] 26)).alloc (.cells #[.slice A ps.length c, .int .i64 cl, .int .i64 lo, .int .i64 hi] 26)) from by (repeat' (first | (with_reducible exact Below.refl _ _) | (with_reducible assumption) | (with_reducible refine Below.alloc ?_ ?_ _) | (with_reducible refine Below.drew ?_) | (with_reducible refine Below.setCell ?_ ?_ _) | go_size | (exact (by simp)) | omega))).trans (hb1.mono (by simp; omega)); have bT : BoxS w1 (w.heap.size + 1 + 1) 26 #[.slice A ps.length c, .int .i64 cl, .int .i64 lo, .int .i64 hi] := (by have := BoxS.new ((w.alloc (.cells #[.slice A ps.length c, .int .i64 cl, .int .i64 lo, .int .i64 hi] 26)).alloc (.cells #[.slice none 0 0, .int .i64 0, .int .i64 0, .int .i64 0] 26)) 26 #[.slice A ps.length c, .int .i64 cl, .int .i64 lo, .int .i64 hi]; simp only [World.size_alloc] at this; exact this.below hb1); have bO : BoxS w1 (w.heap.size + 1) 26 #[.slice none 0 0, .int .i64 0, .int .i64 0, .int .i64 0] := (by have := (BoxS.new (w.alloc (.cells #[.slice A ps.length c, .int .i64 cl, .int .i64 lo, .int .i64 hi] 26)) 26 #[.slice none 0 0, .int .i64 0, .int .i64 0, .int .i64 0]).alloc (.cells #[.slice A ps.length c, .int .i64 cl, .int .i64 lo, .int .i64 hi] 26); simp only [World.size_alloc] at this; exact this.below hb1); clear hown1 hb1 HG; have t0 := bT.cell 0 rfl; have t1 := bT.cell 1 rfl; have t2 := bT.cell 2 rfl; have t3 := bT.cell 3 rfl; have o0 := bO.cell 0 rfl; have o1 := bO.cell 1 rfl; have o2 := bO.cell 2 rfl; have o3 := bO.cell 3 rfl; have ft := bT.frozen 0; have f0 := bO.frozen 0; have f1 := bO.frozen 1; have f2 := bO.frozen 2; have f3 := bO.frozen 3))
  clear t0 t1 t2 t3 o0 o1 o2 o3 ft f0 f1 f2 f3
  have hO := ownsRow_set HC1.out (b := w.heap.size + 1 + 1) 0 (.slice A' ps.length c') (by omega)
  have hO1 := ownsRow_set hO (b := w.heap.size + 1) 0 (.slice A' ps.length c') (by omega)
  have hO2 := ownsRow_set hO1 (b := w.heap.size + 1) 1 (.int .i64 cl) (by omega)
  have hO3 := ownsRow_set hO2 (b := w.heap.size + 1) 2 (.int .i64 lo) (by omega)
  have hO4 := ownsRow_set hO3 (b := w.heap.size + 1) 3 (.int .i64 hi) (by omega)
  have bR := four_put (bO.away (B' := w.heap.size + 1 + 1) (by omega) 0 (.slice A' ps.length c')) (.slice A' ps.length c') (.int .i64 cl) (.int .i64 lo) (.int .i64 hi)
  have hB2 : Below w.heap.size w (((((w1.setCell ⟨w.heap.size + 1 + 1, 0, none⟩ (.slice A' ps.length c')).setCell ⟨w.heap.size + 1, 0, none⟩ (.slice A' ps.length c')).setCell ⟨w.heap.size + 1, 1, none⟩ (.int .i64 cl)).setCell ⟨w.heap.size + 1, 2, none⟩ (.int .i64 lo)).setCell ⟨w.heap.size + 1, 3, none⟩ (.int .i64 hi)) := by (repeat' (first | (with_reducible exact Below.refl _ _) | (with_reducible assumption) | (with_reducible refine Below.alloc ?_ ?_ _) | (with_reducible refine Below.drew ?_) | (with_reducible refine Below.setCell ?_ ?_ _) | go_size | (exact (by simp)) | omega))
  clear hO hO1 hO2 hO3 bT bO HC1 hB1
  generalize World.setCell (World.setCell (World.setCell (World.setCell (World.setCell w1 _ _) _ _) _ _) _ _) _ _ = w2 at *
  have q0 := bR.cell 0 rfl
  have q1 := bR.cell 1 rfl
  have q2 := bR.cell 2 rfl
  have q3 := bR.cell 3 rfl
  exact bodyPost_ret (v := .agg #[.slice A' ps.length c', .int .i64 cl, .int .i64 lo, .int .i64 hi]) (by simp [results, Try.results13, go_sem, q0, q1, q2, q3]) rfl ⟨A', c', rfl, ownsRow_base hO4 (by omega), hB2⟩
end Go.Proofs.Ytmjcdggmofohcaa
