/- Trials: the theorem of the order (P9.15): the walk. -/
import Derived.Test.YtkmacpkjobdffaaTqC
import Derived.Test.YtkmacpkjobdffaaTqN
import Derived.Test.YtkmacpkjobdffaaLawCls
namespace Go.Proofs.Ytkmacpkjobdffaa
open Go.RowKit Go.Maps
theorem ten_heap {W : World} {B g : Nat} (hne : g ≠ B) (u0 u1 u2 u3 u4 u5 u6 u7 u8 u9 : Value) : ((((((((((W.setCell ⟨B, 0, none⟩ u0).setCell ⟨B, 1, none⟩ u1).setCell ⟨B, 2, none⟩ u2).setCell ⟨B, 3, none⟩ u3).setCell ⟨B, 4, none⟩ u4).setCell ⟨B, 5, none⟩ u5).setCell ⟨B, 6, none⟩ u6).setCell ⟨B, 7, none⟩ u7).setCell ⟨B, 8, none⟩ u8).setCell ⟨B, 9, none⟩ u9).heap[g]? = W.heap[g]? := by
  have oth : ∀ (X : World) (i : Nat) (u : Value), (X.setCell ⟨B, i, none⟩ u).heap[g]? = X.heap[g]? := fun X i u => Below.heap_setCell _ _ _ g hne
  rw [oth, oth, oth, oth, oth, oth, oth, oth, oth, oth]
theorem ten_owns {W : World} {B Bt e size n : Nat} {t : TypeId} {v : Value} {xs : List Value} {vs : Array Value} (h : W.ownsRow Bt e size v n xs) (hb : BoxS W B t vs) (hne : t ≠ e) (u0 u1 u2 u3 u4 u5 u6 u7 u8 u9 : Value) : ((((((((((W.setCell ⟨B, 0, none⟩ u0).setCell ⟨B, 1, none⟩ u1).setCell ⟨B, 2, none⟩ u2).setCell ⟨B, 3, none⟩ u3).setCell ⟨B, 4, none⟩ u4).setCell ⟨B, 5, none⟩ u5).setCell ⟨B, 6, none⟩ u6).setCell ⟨B, 7, none⟩ u7).setCell ⟨B, 8, none⟩ u8).setCell ⟨B, 9, none⟩ u9).ownsRow Bt e size v n xs :=
  ownsRow_lit h (fun g hg => ten_heap (fun e => row_ne_box h hb hne (by rw [hg]; exact congrArg some e.symm)) u0 u1 u2 u3 u4 u5 u6 u7 u8 u9)
theorem CpRow.ten {W : World} {B Bc : Nat} {t : TypeId} {ts : List Ti.Tst} {k : Nat} {xs : List Value} {vs : Array Value} (h : CpRow Bc W ts k xs) (hb : BoxS W B t vs) (hne : t ≠ 103) (u0 u1 u2 u3 u4 u5 u6 u7 u8 u9 : Value) : CpRow Bc ((((((((((W.setCell ⟨B, 0, none⟩ u0).setCell ⟨B, 1, none⟩ u1).setCell ⟨B, 2, none⟩ u2).setCell ⟨B, 3, none⟩ u3).setCell ⟨B, 4, none⟩ u4).setCell ⟨B, 5, none⟩ u5).setCell ⟨B, 6, none⟩ u6).setCell ⟨B, 7, none⟩ u7).setCell ⟨B, 8, none⟩ u8).setCell ⟨B, 9, none⟩ u9) ts k xs :=
  ⟨h.1, fun q x hq hx => by
    obtain ⟨A', c', h1, h2, h3, h4⟩ := h.2 q x hq hx
    exact ⟨A', c', h1, h2, ten_owns h3 hb hne u0 u1 u2 u3 u4 u5 u6 u7 u8 u9, h4⟩⟩
theorem boxS_ne {W : World} {B B' : Nat} {t t' : TypeId} {vs vs' : Array Value} (h : BoxS W B t vs) (h' : BoxS W B' t' vs') (hne : t ≠ t') : B ≠ B' := fun e => by
  subst e
  have h1 : some (Obj.cells vs t (0, 0)) = some (Obj.cells vs' t' (0, 0)) := (show W.heap[B]? = _ from h).symm.trans h'
  injection h1 with h1
  injection h1 with _ h1 _
  exact hne h1
/-- What holds once some of two copies and two boxes are made. -/
def cpI (w0 : World) (ts : List Ti.Tst) (enc : Option Addr → Nat → Value) (Z : Array Value) (a : Act) (s : Nat → Bool) (a' : Act) (w' : World) : Prop :=
  ∃ (A1 A2 : Option Addr) (c1 c2 B4 B5 N2 : Nat) (xs ys : List Value), a' = putIf (s 3) 37 (enc A2 c2) (putIf (s 1) 35 (enc A1 c1) (putIf (s 5) 6 (.pointer (some ⟨B5, 0, none⟩)) (putIf (s 4) 5 (.pointer (some ⟨B4, 0, none⟩)) a))) ∧ Below w0.heap.size w0 w' ∧
    (s 1 = true → w'.ownsRow w0.heap.size 31 2 (.slice A1 ts.length c1) ts.length xs ∧ CpRow w0.heap.size w' ts ts.length xs) ∧
    (s 3 = true → s 1 = true ∧ w'.ownsRow N2 31 2 (.slice A2 ts.length c2) ts.length ys ∧ CpRow N2 w' ts ts.length ys ∧ (∀ g, Value.ownBlock (.slice A1 ts.length c1) = some g → g < N2) ∧ w0.heap.size ≤ N2) ∧
    (s 4 = true → w0.heap.size ≤ B4 ∧ BoxS w' B4 28 Z) ∧ (s 5 = true → w0.heap.size ≤ B5 ∧ BoxS w' B5 28 Z) ∧ (s 4 = true → s 5 = true → B4 ≠ B5)
section
variable {w0 : World} {ts : List Ti.Tst} {enc : Option Addr → Nat → Value} {Z : Array Value} {a : Act} {s : Nat → Bool} {a' : Act} {w' : World}
theorem cpI.first (h : cpI w0 ts enc Z a s a' w') (hs : s 1 = false) : s 3 = false := by
  obtain ⟨A1, A2, c1, c2, B4, B5, N2, xs, ys, _, _, _, h3, _⟩ := h
  cases e : s 3
  · rfl
  · rw [(h3 e).1] at hs; cases hs
theorem cpI.world (h : cpI w0 ts enc Z a s a' w') : Below w0.heap.size w0 w' := by
  obtain ⟨A1, A2, c1, c2, B4, B5, N2, xs, ys, _, hB, _⟩ := h
  exact hB
theorem cpI.at (h : cpI w0 ts enc Z a s a' w') {t : Nat} (h1 : t ≠ 37 ∧ t ≠ 35 ∧ t ≠ 6 ∧ t ≠ 5) : a'.eval (.tmp t) = a.eval (.tmp t) := by
  obtain ⟨A1, A2, c1, c2, B4, B5, N2, xs, ys, rfl, _⟩ := h
  rw [putIf_ne h1.1, putIf_ne h1.2.1, putIf_ne h1.2.2.1, putIf_ne h1.2.2.2]
theorem cpI.one (h : cpI w0 ts enc Z a s a' w') (hs : s 1 = false) {A : Option Addr} {c : Nat} {xs : List Value} {w2 : World} (hO : w2.ownsRow w'.heap.size 31 2 (.slice A ts.length c) ts.length xs) (hC : CpRow w'.heap.size w2 ts ts.length xs) (hb : Below w'.heap.size w' w2) : cpI w0 ts enc Z a (upd s 1) (a'.put (some 35) (enc A c)) w2 := by
  have hs3 := h.first hs
  obtain ⟨A1, A2, c1, c2, B4, B5, N2, xs', ys, rfl, hB, _, _, h4, h5, h6⟩ := h
  refine ⟨A, A2, c, c2, B4, B5, N2, xs, ys, ?_, hB.trans (hb.mono hB.size), fun _ => ⟨ownsRow_wider hO hB.size, hC.wider hB.size⟩, fun e => ?_, fun e => ?_, fun e => ?_, fun e => ?_⟩
  · rw [hs, hs3]
    show (putIf (s 5) 6 _ (putIf (s 4) 5 _ a)).put (some 35) _ = putIf (upd s 1 3) 37 _ (putIf (upd s 1 1) 35 _ (putIf (upd s 1 5) 6 _ (putIf (upd s 1 4) 5 _ a)))
    have e3 : upd s 1 3 = false := by simp [upd, hs3]
    have e1 : upd s 1 1 = true := by simp [upd]
    have e5 : upd s 1 5 = s 5 := by simp [upd]
    have e4 : upd s 1 4 = s 4 := by simp [upd]
    rw [e3, e1, e5, e4]
    rfl
  · have e3 : upd s 1 3 = false := by simp [upd, hs3]
    rw [e3] at e; cases e
  · have e4 : upd s 1 4 = s 4 := by simp [upd]
    rw [e4] at e
    exact ⟨(h4 e).1, (h4 e).2.below hb⟩
  · have e5 : upd s 1 5 = s 5 := by simp [upd]
    rw [e5] at e
    exact ⟨(h5 e).1, (h5 e).2.below hb⟩
  · have e5 : upd s 1 5 = s 5 := by simp [upd]
    have e4 : upd s 1 4 = s 4 := by simp [upd]
    rw [e4] at e
    rw [e5]
    exact h6 e
theorem cpI.two (h : cpI w0 ts enc Z a s a' w') (hs1 : s 1 = true) (hs : s 3 = false) {A : Option Addr} {c : Nat} {xs : List Value} {w2 : World} (hO : w2.ownsRow w'.heap.size 31 2 (.slice A ts.length c) ts.length xs) (hC : CpRow w'.heap.size w2 ts ts.length xs) (hb : Below w'.heap.size w' w2) : cpI w0 ts enc Z a (upd s 3) (a'.put (some 37) (enc A c)) w2 := by
  obtain ⟨A1, A2, c1, c2, B4, B5, N2, xs', ys, rfl, hB, h1, _, h4, h5, h6⟩ := h
  have e3 : upd s 3 3 = true := by simp [upd]
  have e1 : upd s 3 1 = s 1 := by simp [upd]
  have e5 : upd s 3 5 = s 5 := by simp [upd]
  have e4 : upd s 3 4 = s 4 := by simp [upd]
  obtain ⟨p1, p2⟩ := h1 hs1
  refine ⟨A1, A, c1, c, B4, B5, w'.heap.size, xs', xs, ?_, hB.trans (hb.mono hB.size), fun _ => ⟨owns_below p1 hb, p2.below hb⟩, fun _ => ⟨by rw [e1, hs1], hO, hC, fun g hg => (World.ownsRow.lt p1 g hg).2, hB.size⟩, fun e => ?_, fun e => ?_, fun e => ?_⟩
  · rw [hs, e3, e1, e5, e4]
    rfl
  · rw [e4] at e
    exact ⟨(h4 e).1, (h4 e).2.below hb⟩
  · rw [e5] at e
    exact ⟨(h5 e).1, (h5 e).2.below hb⟩
  · rw [e4] at e
    rw [e5]
    exact h6 e
theorem cpI.box4 (h : cpI w0 ts enc Z a s a' w') (hs : s 4 = false) : cpI w0 ts enc Z a (upd s 4) (a'.put (some 5) (.pointer (some ⟨w'.heap.size, 0, none⟩))) (w'.alloc (.cells Z 28)) := by
  obtain ⟨A1, A2, c1, c2, B4, B5, N2, xs', ys, rfl, hB, h1, h3, h4, h5, h6⟩ := h
  have hb : Below w'.heap.size w' (w'.alloc (.cells Z 28)) := (Below.refl _ _).alloc (Nat.le_refl _) _
  have e3 : upd s 4 3 = s 3 := by simp [upd]
  have e1 : upd s 4 1 = s 1 := by simp [upd]
  have e5 : upd s 4 5 = s 5 := by simp [upd]
  have e4 : upd s 4 4 = true := by simp [upd]
  refine ⟨A1, A2, c1, c2, w'.heap.size, B5, N2, xs', ys, ?_, hB.trans (hb.mono hB.size), fun e => ?_, fun e => ?_, fun e => ⟨hB.size, BoxS.new _ _ _⟩, fun e => ?_, fun _ e => ?_⟩
  · rw [hs, e3, e1, e5, e4, putIf_put (by decide), putIf_put (by decide), putIf_put (by decide)]
    rfl
  · rw [e1] at e
    exact ⟨owns_below (h1 e).1 hb, (h1 e).2.below hb⟩
  · rw [e3] at e
    rw [e1]
    obtain ⟨p1, p2, p3, p4⟩ := h3 e
    exact ⟨p1, owns_below p2 hb, p3.below hb, p4⟩
  · rw [e5] at e
    exact ⟨(h5 e).1, (h5 e).2.below hb⟩
  · rw [e5] at e
    have := (h5 e).2.lt
    omega
theorem cpI.box5 (h : cpI w0 ts enc Z a s a' w') (hs : s 5 = false) : cpI w0 ts enc Z a (upd s 5) (a'.put (some 6) (.pointer (some ⟨w'.heap.size, 0, none⟩))) (w'.alloc (.cells Z 28)) := by
  obtain ⟨A1, A2, c1, c2, B4, B5, N2, xs', ys, rfl, hB, h1, h3, h4, h5, h6⟩ := h
  have hb : Below w'.heap.size w' (w'.alloc (.cells Z 28)) := (Below.refl _ _).alloc (Nat.le_refl _) _
  have e3 : upd s 5 3 = s 3 := by simp [upd]
  have e1 : upd s 5 1 = s 1 := by simp [upd]
  have e5 : upd s 5 5 = true := by simp [upd]
  have e4 : upd s 5 4 = s 4 := by simp [upd]
  refine ⟨A1, A2, c1, c2, B4, w'.heap.size, N2, xs', ys, ?_, hB.trans (hb.mono hB.size), fun e => ?_, fun e => ?_, fun e => ?_, fun e => ⟨hB.size, BoxS.new _ _ _⟩, fun e _ => ?_⟩
  · rw [hs, e3, e1, e5, e4, putIf_put (by decide), putIf_put (by decide)]
    rfl
  · rw [e1] at e
    exact ⟨owns_below (h1 e).1 hb, (h1 e).2.below hb⟩
  · rw [e3] at e
    rw [e1]
    obtain ⟨p1, p2, p3, p4⟩ := h3 e
    exact ⟨p1, owns_below p2 hb, p3.below hb, p4⟩
  · rw [e4] at e
    exact ⟨(h4 e).1, (h4 e).2.below hb⟩
  · rw [e4] at e
    have := (h4 e).2.lt
    omega
end
/-- A row of tests of the call's own, the first ones of which are already those of another list. -/
def TuRow (w W : World) (B0 N2 : Nat) (A : Option Addr) (us : List Ti.Tst) (k : Nat) : Prop :=
  0 < us.length → ∃ (g : Nat) (cur : Array Value), A = some ⟨g, 0, none⟩ ∧ B0 ≤ g ∧ g < N2 ∧ BoxS W g 31 cur ∧ 2 * us.length ≤ cur.size ∧
    ∀ q x, q < k → us[q]? = some x → ∃ A' c', cur[q * 2]? = some (.int .i64 x.1) ∧ cur[q * 2 + 1]? = some (.slice A' x.2.length c') ∧ Wks w w.heap.size A' x.2 ∧ x.2.length ≤ 1000000000
theorem TuRow.start {w W : World} {B0 N2 n c : Nat} {A : Option Addr} {us : List Ti.Tst} {xs : List Value} (h : W.ownsRow B0 31 2 (.slice A n c) n xs) (hn : us.length = n) (hN : ∀ g, Value.ownBlock (.slice A n c) = some g → g < N2) : TuRow w W B0 N2 A us 0 := fun hp => by
  rcases h.2 with ⟨e, e2⟩ | ⟨g, cap, cur, e, a2, a3, a4, _, a5, _⟩
  · injection e with e1 e3; omega
  · injection e with e1 e2 e3
    subst e1
    exact ⟨g, cur, rfl, a2, hN g rfl, a3, by omega, fun q x hq => by omega⟩
theorem TuRow.put {w W : World} {B0 N2 : Nat} {us : List Ti.Tst} {k g : Nat} {cur : Array Value} {x : Ti.Tst} {A' : Option Addr} {c' : Nat} (h2 : B0 ≤ g) (h3 : g < N2) (h4 : BoxS W g 31 cur) (h5 : 2 * us.length ≤ cur.size)
    (h6 : ∀ q x, q < k → us[q]? = some x → ∃ A' c', cur[q * 2]? = some (.int .i64 x.1) ∧ cur[q * 2 + 1]? = some (.slice A' x.2.length c') ∧ Wks w w.heap.size A' x.2 ∧ x.2.length ≤ 1000000000)
    (hk : us[k]? = some x) (hw : Wks w w.heap.size A' x.2) (hl : x.2.length ≤ 1000000000) :
    TuRow w ((W.setCell ⟨g, k * 2, none⟩ (.int .i64 x.1)).setCell ⟨g, k * 2 + 1, none⟩ (.slice A' x.2.length c')) B0 N2 (some ⟨g, 0, none⟩) us (k + 1) := fun _ => by
  have hkl := (List.getElem?_eq_some_iff.1 hk).1
  refine ⟨g, _, rfl, h2, h3, (h4.put9 (k * 2) (.int .i64 x.1)).put9 (k * 2 + 1) (.slice A' x.2.length c'), by simpa using h5, fun q y hq hy => ?_⟩
  by_cases e : q = k
  · subst e
    rw [hk] at hy
    obtain rfl : x = y := by simpa using hy
    refine ⟨A', c', ?_, ?_, hw, hl⟩
    · rw [Array.getElem?_setIfInBounds_ne (by omega), Array.getElem?_setIfInBounds_self_of_lt (by omega)]
    · rw [Array.getElem?_setIfInBounds_self_of_lt (by simp; omega)]
  · obtain ⟨A1, c1, p1, p2, p3, p4⟩ := h6 q y (by omega) hy
    refine ⟨A1, c1, ?_, ?_, p3, p4⟩
    · rw [Array.getElem?_setIfInBounds_ne (by omega), Array.getElem?_setIfInBounds_ne (by omega)]; exact p1
    · rw [Array.getElem?_setIfInBounds_ne (by omega), Array.getElem?_setIfInBounds_ne (by omega)]; exact p2
theorem TuRow.tsts {w W : World} {B0 N2 : Nat} {A : Option Addr} {us : List Ti.Tst} (h : TuRow w W B0 N2 A us us.length) (hB : Below w.heap.size w W) : Tsts W W.heap.size A us := fun hn => by
  obtain ⟨g, cur, e, _, _, hb, _, hc⟩ := h hn
  subst e
  refine ⟨g, 0, rfl, hb.lt, fun k x hk => ?_⟩
  obtain ⟨A', c', p1, p2, p3, p4⟩ := hc k x (List.getElem?_eq_some_iff.1 hk).1 hk
  refine ⟨A', c', ?_, ?_, (p3.keep hB).wider hB.size, p4⟩
  · rw [Nat.zero_add]; exact hb.cell _ p1
  · rw [Nat.zero_add]; exact hb.cell _ p2
theorem TuRow.kept {w W W' : World} {B0 N2 : Nat} {A : Option Addr} {us : List Ti.Tst} {k : Nat} (h : TuRow w W B0 N2 A us k) (hW : ∀ i cur, i < N2 → i < W.heap.size → BoxS W i 31 cur → W'.heap[i]? = W.heap[i]?) : TuRow w W' B0 N2 A us k := fun hn => by
  obtain ⟨g, cur, e, h1, h2, hb, h3⟩ := h hn
  exact ⟨g, cur, e, h1, h2, (hW g cur h2 hb.lt hb).trans hb, h3⟩
/-- Tests that come from another place on are the same tests. -/
theorem rot_mem {ts us : List Ti.Tst} {fn : Nat} (hn : us.length = ts.length) (h : ∀ k, k < ts.length → us[k]? = some (Ti.tstAt ts ((k + fn) % ts.length))) : ∀ y, y ∈ us ↔ y ∈ ts := fun y => by
  have hat : ∀ j, j < ts.length → Ti.tstAt ts j ∈ ts := fun j hj => by
    unfold Ti.tstAt
    rw [List.getElem?_eq_getElem hj]
    exact List.getElem_mem hj
  constructor
  · intro hy
    obtain ⟨k, hk, e⟩ := List.getElem_of_mem hy
    have h1 := h k (by omega)
    rw [List.getElem?_eq_getElem hk, e] at h1
    obtain rfl : y = _ := by injection h1
    exact hat _ (Nat.mod_lt _ (by omega))
  · intro hy
    obtain ⟨j, hj, e⟩ := List.getElem_of_mem hy
    have h0 : 0 < ts.length := by omega
    have hm : ((j + (ts.length - fn % ts.length)) % ts.length + fn) % ts.length = j := by
      have h2 := Nat.mod_lt fn h0
      have h3 := Nat.div_add_mod fn ts.length
      rw [Nat.mod_add_mod]
      have e1 : j + (ts.length - fn % ts.length) + fn = j + ts.length * (fn / ts.length + 1) := by rw [Nat.mul_add]; omega
      rw [e1, Nat.add_mul_mod_self_left, Nat.mod_eq_of_lt hj]
    have h1 := h _ (Nat.mod_lt (j + (ts.length - fn % ts.length)) h0)
    rw [hm] at h1
    have e2 : Ti.tstAt ts j = y := by unfold Ti.tstAt; rw [List.getElem?_eq_getElem hj, e]; rfl
    rw [e2] at h1
    exact List.mem_of_getElem? h1
theorem twice_mem {ts : List Ti.Tst} {j : Nat} (hj : j < ts.length) : ∀ y, y ∈ ts ++ [Ti.tstAt ts j] ↔ y ∈ ts := fun y => by
  have hat : Ti.tstAt ts j ∈ ts := by
    unfold Ti.tstAt
    rw [List.getElem?_eq_getElem hj]
    exact List.getElem_mem hj
  rw [List.mem_append]
  constructor
  · rintro (h | h)
    · exact h
    · obtain rfl : y = _ := by simpa using h
      exact hat
  · exact .inl
end Go.Proofs.Ytkmacpkjobdffaa
namespace Go.Proofs.Ytkmacpkjobdffaa
open Go.RowKit
set_option maxRecDepth 100000 in
set_option maxHeartbeats 16000000 in
theorem lawOrder9_walk (t : Ti.Tri) (A : Option Addr) (c : Nat) (fr tw sz mo : Int) (w : World) (hl : t.ts.length ≤ 1000000000) (hg : Tsts w w.heap.size A t.ts) :
    Calls Try.prog 6 #[.agg (tiV t A c), .agg #[.int .i64 fr, .int .i64 tw, .int .i64 sz, .int .i64 mo]] w fun e w' => e = .returned (.bool true) ∧ Below w.heap.size w w' := by
  have HWK : Hid (∀ W, Calls Try.prog 10 #[] W fun e w' => e = .returned (.bool true) ∧ Below W.heap.size W w') := works9_any
  have HRD : Hid (∀ W, Below w.heap.size w W → Calls Try.prog 8 #[.agg (tiV t A c)] W fun e w' => e = .returned (.bool (Ti.readyB t)) ∧ Below W.heap.size W w') := fun W hW => ready9_any t A c W hl ((hg.keep hW).wider hW.size)
  have HIC : Hid (∀ W, Calls Try.prog 9 #[.agg #[.int .i64 sz, .int .i64 mo]] W fun e w' => e = .returned (.bool (Ti.classB sz mo)) ∧ Below W.heap.size W w') := fun W => IsClass9_any sz mo W
  cases hr : Ti.readyB t
  · rw [hr] at HRD
    clear hg hr HIC
    obtain ⟨d, gain, ts⟩ := t
    obtain ⟨full, read, slip, skew, circ, glo, ghi, wrn, dws⟩ := d
    unfold tiV at *
    dsimp only at *
    go_enter Try.func6, Try.ntmps6
    go_wp2_with fail
    have bT1 := ((BoxS.new w 28 #[.int .i64 full, .int .i64 read, .int .i64 slip, .int .i64 skew, .int .i64 circ, .int .i64 glo, .int .i64 ghi, .int .i64 wrn, .int .i64 gain, .slice A ts.length c]).alloc (.cells #[.int .i64 fr, .int .i64 tw, .int .i64 sz, .int .i64 mo] 58))
    have bY1 := (BoxS.new (World.alloc w (.cells #[.int .i64 full, .int .i64 read, .int .i64 slip, .int .i64 skew, .int .i64 circ, .int .i64 glo, .int .i64 ghi, .int .i64 wrn, .int .i64 gain, .slice A ts.length c] 28)) 58 #[.int .i64 fr, .int .i64 tw, .int .i64 sz, .int .i64 mo])
    have hB1 : Below w.heap.size w (World.alloc (World.alloc w (.cells #[.int .i64 full, .int .i64 read, .int .i64 slip, .int .i64 skew, .int .i64 circ, .int .i64 glo, .int .i64 ghi, .int .i64 wrn, .int .i64 gain, .slice A ts.length c] 28)) (.cells #[.int .i64 fr, .int .i64 tw, .int .i64 sz, .int .i64 mo] 58)) := by (repeat' (first | (with_reducible exact Below.refl _ _) | (with_reducible assumption) | (with_reducible refine Below.alloc ?_ ?_ _) | (with_reducible refine Below.drew ?_) | (with_reducible refine Below.setCell ?_ ?_ _) | go_size | (exact (by simp)) | omega))
    simp only [World.size_alloc] at bY1
    generalize World.alloc (World.alloc w _) _ = w1 at *
    refine (HRD.out _ hB1).mono ?_
    rintro e w2 ⟨rfl, hb2⟩
    have bT2 := bT1.below hb2
    have bY2 := bY1.below hb2
    have hB2 := hB1.trans (hb2.mono hB1.size)
    clear bT1 bY1 hB1
    have kT0 := bT2.cell 0 rfl
    have kT1 := bT2.cell 1 rfl
    have kT2 := bT2.cell 2 rfl
    have kT3 := bT2.cell 3 rfl
    have kT4 := bT2.cell 4 rfl
    have kT5 := bT2.cell 5 rfl
    have kT6 := bT2.cell 6 rfl
    have kT7 := bT2.cell 7 rfl
    have kT8 := bT2.cell 8 rfl
    have kT9 := bT2.cell 9 rfl
    have lT := bT2.lt
    have kY0 := bY2.cell 0 rfl
    have kY1 := bY2.cell 1 rfl
    have kY2 := bY2.cell 2 rfl
    have kY3 := bY2.cell 3 rfl
    have lY := bY2.lt
    go_wp2_with fail
    clear kT0 kT1 kT2 kT3 kT4 kT5 kT6 kT7 kT8 kT9 lT kY0 kY1 kY2 kY3 lY
    refine (HWK.out _).mono ?_
    rintro e w3 ⟨rfl, hb3⟩
    have bT3 := bT2.below hb3
    have bY3 := bY2.below hb3
    have hB3 := hB2.trans (hb3.mono hB2.size)
    clear bT2 bY2 hB2
    go_wp2_with fail
    go_returns
    exact ⟨rfl, hB3⟩
  rw [hr] at HRD
  have hck : Ti.chkV t = 0 := by unfold Ti.readyB at hr; rw [Bool.and_eq_true, decide_eq_true_eq] at hr; exact hr.2
  obtain ⟨hga, _, _⟩ := Ti.chk_ok hck
  by_cases h3 : 3 < t.ts.length
  · have h3b : decide ((3 : Int) < (t.ts.length : Int)) = true := decide_eq_true (by omega)
    clear hg hr HIC hck hga
    obtain ⟨d, gain, ts⟩ := t
    obtain ⟨full, read, slip, skew, circ, glo, ghi, wrn, dws⟩ := d
    unfold tiV at *
    dsimp only at *
    go_enter Try.func6, Try.ntmps6
    go_wp2_with fail
    have bT1 := ((BoxS.new w 28 #[.int .i64 full, .int .i64 read, .int .i64 slip, .int .i64 skew, .int .i64 circ, .int .i64 glo, .int .i64 ghi, .int .i64 wrn, .int .i64 gain, .slice A ts.length c]).alloc (.cells #[.int .i64 fr, .int .i64 tw, .int .i64 sz, .int .i64 mo] 58))
    have bY1 := (BoxS.new (World.alloc w (.cells #[.int .i64 full, .int .i64 read, .int .i64 slip, .int .i64 skew, .int .i64 circ, .int .i64 glo, .int .i64 ghi, .int .i64 wrn, .int .i64 gain, .slice A ts.length c] 28)) 58 #[.int .i64 fr, .int .i64 tw, .int .i64 sz, .int .i64 mo])
    have hB1 : Below w.heap.size w (World.alloc (World.alloc w (.cells #[.int .i64 full, .int .i64 read, .int .i64 slip, .int .i64 skew, .int .i64 circ, .int .i64 glo, .int .i64 ghi, .int .i64 wrn, .int .i64 gain, .slice A ts.length c] 28)) (.cells #[.int .i64 fr, .int .i64 tw, .int .i64 sz, .int .i64 mo] 58)) := by (repeat' (first | (with_reducible exact Below.refl _ _) | (with_reducible assumption) | (with_reducible refine Below.alloc ?_ ?_ _) | (with_reducible refine Below.drew ?_) | (with_reducible refine Below.setCell ?_ ?_ _) | go_size | (exact (by simp)) | omega))
    simp only [World.size_alloc] at bY1
    generalize World.alloc (World.alloc w _) _ = w1 at *
    refine (HRD.out _ hB1).mono ?_
    rintro e w2 ⟨rfl, hb2⟩
    have bT2 := bT1.below hb2
    have bY2 := bY1.below hb2
    have hB2 := hB1.trans (hb2.mono hB1.size)
    clear bT1 bY1 hB1
    have kT0 := bT2.cell 0 rfl
    have kT1 := bT2.cell 1 rfl
    have kT2 := bT2.cell 2 rfl
    have kT3 := bT2.cell 3 rfl
    have kT4 := bT2.cell 4 rfl
    have kT5 := bT2.cell 5 rfl
    have kT6 := bT2.cell 6 rfl
    have kT7 := bT2.cell 7 rfl
    have kT8 := bT2.cell 8 rfl
    have kT9 := bT2.cell 9 rfl
    have lT := bT2.lt
    have kY0 := bY2.cell 0 rfl
    have kY1 := bY2.cell 1 rfl
    have kY2 := bY2.cell 2 rfl
    have kY3 := bY2.cell 3 rfl
    have lY := bY2.lt
    go_wp2_with fail
    clear kT0 kT1 kT2 kT3 kT4 kT5 kT6 kT7 kT8 kT9 lT kY0 kY1 kY2 kY3 lY
    refine (HWK.out _).mono ?_
    rintro e w3 ⟨rfl, hb3⟩
    have bT3 := bT2.below hb3
    have bY3 := bY2.below hb3
    have hB3 := hB2.trans (hb3.mono hB2.size)
    clear bT2 bY2 hB2
    go_wp2_with fail
    go_returns
    exact ⟨rfl, hB3⟩
  have h3b : decide ((3 : Int) < (t.ts.length : Int)) = false := decide_eq_false (by omega)
  by_cases hg0 : fr < 0
  · have hg0b : decide (fr < 0) = true := decide_eq_true hg0
    clear hg hr HIC hck hga
    obtain ⟨d, gain, ts⟩ := t
    obtain ⟨full, read, slip, skew, circ, glo, ghi, wrn, dws⟩ := d
    unfold tiV at *
    dsimp only at *
    go_enter Try.func6, Try.ntmps6
    go_wp2_with fail
    have bT1 := ((BoxS.new w 28 #[.int .i64 full, .int .i64 read, .int .i64 slip, .int .i64 skew, .int .i64 circ, .int .i64 glo, .int .i64 ghi, .int .i64 wrn, .int .i64 gain, .slice A ts.length c]).alloc (.cells #[.int .i64 fr, .int .i64 tw, .int .i64 sz, .int .i64 mo] 58))
    have bY1 := (BoxS.new (World.alloc w (.cells #[.int .i64 full, .int .i64 read, .int .i64 slip, .int .i64 skew, .int .i64 circ, .int .i64 glo, .int .i64 ghi, .int .i64 wrn, .int .i64 gain, .slice A ts.length c] 28)) 58 #[.int .i64 fr, .int .i64 tw, .int .i64 sz, .int .i64 mo])
    have hB1 : Below w.heap.size w (World.alloc (World.alloc w (.cells #[.int .i64 full, .int .i64 read, .int .i64 slip, .int .i64 skew, .int .i64 circ, .int .i64 glo, .int .i64 ghi, .int .i64 wrn, .int .i64 gain, .slice A ts.length c] 28)) (.cells #[.int .i64 fr, .int .i64 tw, .int .i64 sz, .int .i64 mo] 58)) := by (repeat' (first | (with_reducible exact Below.refl _ _) | (with_reducible assumption) | (with_reducible refine Below.alloc ?_ ?_ _) | (with_reducible refine Below.drew ?_) | (with_reducible refine Below.setCell ?_ ?_ _) | go_size | (exact (by simp)) | omega))
    simp only [World.size_alloc] at bY1
    generalize World.alloc (World.alloc w _) _ = w1 at *
    refine (HRD.out _ hB1).mono ?_
    rintro e w2 ⟨rfl, hb2⟩
    have bT2 := bT1.below hb2
    have bY2 := bY1.below hb2
    have hB2 := hB1.trans (hb2.mono hB1.size)
    clear bT1 bY1 hB1
    have kT0 := bT2.cell 0 rfl
    have kT1 := bT2.cell 1 rfl
    have kT2 := bT2.cell 2 rfl
    have kT3 := bT2.cell 3 rfl
    have kT4 := bT2.cell 4 rfl
    have kT5 := bT2.cell 5 rfl
    have kT6 := bT2.cell 6 rfl
    have kT7 := bT2.cell 7 rfl
    have kT8 := bT2.cell 8 rfl
    have kT9 := bT2.cell 9 rfl
    have lT := bT2.lt
    have kY0 := bY2.cell 0 rfl
    have kY1 := bY2.cell 1 rfl
    have kY2 := bY2.cell 2 rfl
    have kY3 := bY2.cell 3 rfl
    have lY := bY2.lt
    go_wp2_with fail
    clear kT0 kT1 kT2 kT3 kT4 kT5 kT6 kT7 kT8 kT9 lT kY0 kY1 kY2 kY3 lY
    refine (HWK.out _).mono ?_
    rintro e w3 ⟨rfl, hb3⟩
    have bT3 := bT2.below hb3
    have bY3 := bY2.below hb3
    have hB3 := hB2.trans (hb3.mono hB2.size)
    clear bT2 bY2 hB2
    go_wp2_with fail
    go_returns
    exact ⟨rfl, hB3⟩
  by_cases hg5 : 100 < fr
  · have hg0b : decide (fr < 0) = false := decide_eq_false hg0
    have hg5b : decide (100 < fr) = true := decide_eq_true hg5
    clear hg hr HIC hck hga
    obtain ⟨d, gain, ts⟩ := t
    obtain ⟨full, read, slip, skew, circ, glo, ghi, wrn, dws⟩ := d
    unfold tiV at *
    dsimp only at *
    go_enter Try.func6, Try.ntmps6
    go_wp2_with fail
    have bT1 := ((BoxS.new w 28 #[.int .i64 full, .int .i64 read, .int .i64 slip, .int .i64 skew, .int .i64 circ, .int .i64 glo, .int .i64 ghi, .int .i64 wrn, .int .i64 gain, .slice A ts.length c]).alloc (.cells #[.int .i64 fr, .int .i64 tw, .int .i64 sz, .int .i64 mo] 58))
    have bY1 := (BoxS.new (World.alloc w (.cells #[.int .i64 full, .int .i64 read, .int .i64 slip, .int .i64 skew, .int .i64 circ, .int .i64 glo, .int .i64 ghi, .int .i64 wrn, .int .i64 gain, .slice A ts.length c] 28)) 58 #[.int .i64 fr, .int .i64 tw, .int .i64 sz, .int .i64 mo])
    have hB1 : Below w.heap.size w (World.alloc (World.alloc w (.cells #[.int .i64 full, .int .i64 read, .int .i64 slip, .int .i64 skew, .int .i64 circ, .int .i64 glo, .int .i64 ghi, .int .i64 wrn, .int .i64 gain, .slice A ts.length c] 28)) (.cells #[.int .i64 fr, .int .i64 tw, .int .i64 sz, .int .i64 mo] 58)) := by (repeat' (first | (with_reducible exact Below.refl _ _) | (with_reducible assumption) | (with_reducible refine Below.alloc ?_ ?_ _) | (with_reducible refine Below.drew ?_) | (with_reducible refine Below.setCell ?_ ?_ _) | go_size | (exact (by simp)) | omega))
    simp only [World.size_alloc] at bY1
    generalize World.alloc (World.alloc w _) _ = w1 at *
    refine (HRD.out _ hB1).mono ?_
    rintro e w2 ⟨rfl, hb2⟩
    have bT2 := bT1.below hb2
    have bY2 := bY1.below hb2
    have hB2 := hB1.trans (hb2.mono hB1.size)
    clear bT1 bY1 hB1
    have kT0 := bT2.cell 0 rfl
    have kT1 := bT2.cell 1 rfl
    have kT2 := bT2.cell 2 rfl
    have kT3 := bT2.cell 3 rfl
    have kT4 := bT2.cell 4 rfl
    have kT5 := bT2.cell 5 rfl
    have kT6 := bT2.cell 6 rfl
    have kT7 := bT2.cell 7 rfl
    have kT8 := bT2.cell 8 rfl
    have kT9 := bT2.cell 9 rfl
    have lT := bT2.lt
    have kY0 := bY2.cell 0 rfl
    have kY1 := bY2.cell 1 rfl
    have kY2 := bY2.cell 2 rfl
    have kY3 := bY2.cell 3 rfl
    have lY := bY2.lt
    go_wp2_with fail
    clear kT0 kT1 kT2 kT3 kT4 kT5 kT6 kT7 kT8 kT9 lT kY0 kY1 kY2 kY3 lY
    refine (HWK.out _).mono ?_
    rintro e w3 ⟨rfl, hb3⟩
    have bT3 := bT2.below hb3
    have bY3 := bY2.below hb3
    have hB3 := hB2.trans (hb3.mono hB2.size)
    clear bT2 bY2 hB2
    go_wp2_with fail
    go_returns
    exact ⟨rfl, hB3⟩
  have hg0b : decide (fr < 0) = false := decide_eq_false hg0
  have hg5b : decide (100 < fr) = false := decide_eq_false hg5
  have hg0 : 0 ≤ fr := by omega
  cases hcb : Ti.classB sz mo
  · rw [hcb] at HIC
    clear hg hr hck hga hcb
    obtain ⟨d, gain, ts⟩ := t
    obtain ⟨full, read, slip, skew, circ, glo, ghi, wrn, dws⟩ := d
    unfold tiV at *
    dsimp only at *
    go_enter Try.func6, Try.ntmps6
    go_wp2_with fail
    have bT1 := ((BoxS.new w 28 #[.int .i64 full, .int .i64 read, .int .i64 slip, .int .i64 skew, .int .i64 circ, .int .i64 glo, .int .i64 ghi, .int .i64 wrn, .int .i64 gain, .slice A ts.length c]).alloc (.cells #[.int .i64 fr, .int .i64 tw, .int .i64 sz, .int .i64 mo] 58))
    have bY1 := (BoxS.new (World.alloc w (.cells #[.int .i64 full, .int .i64 read, .int .i64 slip, .int .i64 skew, .int .i64 circ, .int .i64 glo, .int .i64 ghi, .int .i64 wrn, .int .i64 gain, .slice A ts.length c] 28)) 58 #[.int .i64 fr, .int .i64 tw, .int .i64 sz, .int .i64 mo])
    have hB1 : Below w.heap.size w (World.alloc (World.alloc w (.cells #[.int .i64 full, .int .i64 read, .int .i64 slip, .int .i64 skew, .int .i64 circ, .int .i64 glo, .int .i64 ghi, .int .i64 wrn, .int .i64 gain, .slice A ts.length c] 28)) (.cells #[.int .i64 fr, .int .i64 tw, .int .i64 sz, .int .i64 mo] 58)) := by (repeat' (first | (with_reducible exact Below.refl _ _) | (with_reducible assumption) | (with_reducible refine Below.alloc ?_ ?_ _) | (with_reducible refine Below.drew ?_) | (with_reducible refine Below.setCell ?_ ?_ _) | go_size | (exact (by simp)) | omega))
    simp only [World.size_alloc] at bY1
    generalize World.alloc (World.alloc w _) _ = w1 at *
    refine (HRD.out _ hB1).mono ?_
    rintro e w2 ⟨rfl, hb2⟩
    have bT2 := bT1.below hb2
    have bY2 := bY1.below hb2
    have hB2 := hB1.trans (hb2.mono hB1.size)
    clear bT1 bY1 hB1
    have kT0 := bT2.cell 0 rfl
    have kT1 := bT2.cell 1 rfl
    have kT2 := bT2.cell 2 rfl
    have kT3 := bT2.cell 3 rfl
    have kT4 := bT2.cell 4 rfl
    have kT5 := bT2.cell 5 rfl
    have kT6 := bT2.cell 6 rfl
    have kT7 := bT2.cell 7 rfl
    have kT8 := bT2.cell 8 rfl
    have kT9 := bT2.cell 9 rfl
    have lT := bT2.lt
    have kY0 := bY2.cell 0 rfl
    have kY1 := bY2.cell 1 rfl
    have kY2 := bY2.cell 2 rfl
    have kY3 := bY2.cell 3 rfl
    have lY := bY2.lt
    go_wp2_with fail
    clear kT0 kT1 kT2 kT3 kT4 kT5 kT6 kT7 kT8 kT9 lT kY0 kY1 kY2 kY3 lY
    refine (HIC.out _).mono ?_
    rintro e w3 ⟨rfl, hb3⟩
    have bT3 := bT2.below hb3
    have bY3 := bY2.below hb3
    have hB3 := hB2.trans (hb3.mono hB2.size)
    clear bT2 bY2 hB2
    have kT0 := bT3.cell 0 rfl
    have kT1 := bT3.cell 1 rfl
    have kT2 := bT3.cell 2 rfl
    have kT3 := bT3.cell 3 rfl
    have kT4 := bT3.cell 4 rfl
    have kT5 := bT3.cell 5 rfl
    have kT6 := bT3.cell 6 rfl
    have kT7 := bT3.cell 7 rfl
    have kT8 := bT3.cell 8 rfl
    have kT9 := bT3.cell 9 rfl
    have lT := bT3.lt
    have kY0 := bY3.cell 0 rfl
    have kY1 := bY3.cell 1 rfl
    have kY2 := bY3.cell 2 rfl
    have kY3 := bY3.cell 3 rfl
    have lY := bY3.lt
    go_wp2_with fail
    clear kT0 kT1 kT2 kT3 kT4 kT5 kT6 kT7 kT8 kT9 lT kY0 kY1 kY2 kY3 lY
    refine (HWK.out _).mono ?_
    rintro e w4 ⟨rfl, hb4⟩
    have bT4 := bT3.below hb4
    have bY4 := bY3.below hb4
    have hB4 := hB3.trans (hb4.mono hB3.size)
    clear bT3 bY3 hB3
    go_wp2_with fail
    go_returns
    exact ⟨rfl, hB4⟩
  rw [hcb] at HIC
  obtain ⟨fn, rfl⟩ : ∃ fn : Nat, fr = (fn : Int) := ⟨fr.toNat, by omega⟩
  have hfn : (fn : Int) ≤ 100 := by omega
  have HCP : Hid (∀ W, Below w.heap.size w W → Calls Try.prog 15 #[.agg (tiV t A c)] W fun e w' => ∃ (AT : Option Addr) (cT : Nat) (xs : List Value), e = .returned (.agg (tiV t AT cT)) ∧ Hid (w'.ownsRow W.heap.size 31 2 (.slice AT t.ts.length cT) t.ts.length xs) ∧ Hid (CpRow W.heap.size w' t.ts t.ts.length xs) ∧ Below W.heap.size W w') := fun W hW => Copy9_any t A c W (by omega) ((hg.keep hW).wider hW.size)
  have hmo : Try.prog.follows .mixedOrders = true := by kernel_rfl
  obtain ⟨US, hUS, hUR⟩ : ∃ US : List Ti.Tst, US.length = t.ts.length ∧ Hid (∀ k, k < t.ts.length → US[k]? = some (Ti.tstAt t.ts ((k + fn) % t.ts.length))) := ⟨(List.range t.ts.length).map fun k => Ti.tstAt t.ts ((k + fn) % t.ts.length), by simp, fun k hk => by rw [List.getElem?_map, List.getElem?_range hk]; rfl⟩
  have HAL1 : Hid (∀ A' c' W, Below w.heap.size w W → Tsts W W.heap.size A' US → Calls Try.prog 24 #[.agg (tiV t A c), .agg #[.int .i64 t.d.full, .int .i64 t.d.read, .int .i64 t.d.slip, .int .i64 t.d.skew, .int .i64 t.d.circ, .int .i64 t.d.glo, .int .i64 t.d.ghi, .int .i64 t.d.wr, .int .i64 t.gain, .slice A' t.ts.length c'], .agg #[.int .i64 sz, .int .i64 mo]] W fun e w' => e = .returned (.bool true) ∧ Below W.heap.size W w') := fun A' c' W hW h => by
    obtain ⟨f1, f2, f3, f4⟩ := Ti.order_facts (t := t) (o := { t with ts := US }) hcb hck rfl rfl (by first | (rw [hUS]; omega) | (show US.length ≤ 6; omega) | omega) (rot_mem hUS hUR.out)
    have := Alike9_any t US A A' c c' sz mo W hl (by first | (rw [hUS]; omega) | (show US.length ≤ 6; omega) | omega) ((hg.keep hW).wider hW.size) h hcb f1 f2 f3 f4
    unfold tiV at this
    dsimp only at this
    rw [hUS] at this
    exact this
  have HAL0 : Hid (∀ A' c' W, Below w.heap.size w W → Tsts W W.heap.size A' t.ts → Calls Try.prog 24 #[.agg (tiV t A c), .agg #[.int .i64 t.d.full, .int .i64 t.d.read, .int .i64 t.d.slip, .int .i64 t.d.skew, .int .i64 t.d.circ, .int .i64 t.d.glo, .int .i64 t.d.ghi, .int .i64 t.d.wr, .int .i64 t.gain, .slice A' t.ts.length c'], .agg #[.int .i64 sz, .int .i64 mo]] W fun e w' => e = .returned (.bool true) ∧ Below W.heap.size W w') := fun A' c' W hW h => by
    obtain ⟨f1, f2, f3, f4⟩ := Ti.order_facts (t := t) (o := { t with ts := t.ts }) hcb hck rfl rfl (by first | omega | (show t.ts.length ≤ 6; omega)) (fun y => Iff.rfl)
    have := Alike9_any t t.ts A A' c c' sz mo W hl (by first | omega | (show t.ts.length ≤ 6; omega)) ((hg.keep hW).wider hW.size) h hcb f1 f2 f3 f4
    unfold tiV at this
    dsimp only at this
    exact this
  have HAL2 : Hid (∀ A' c' W, ∀ tn, tn < t.ts.length → Below w.heap.size w W → Tsts W W.heap.size A' (t.ts ++ [Ti.tstAt t.ts tn]) → Calls Try.prog 24 #[.agg (tiV t A c), .agg #[.int .i64 t.d.full, .int .i64 t.d.read, .int .i64 t.d.slip, .int .i64 t.d.skew, .int .i64 t.d.circ, .int .i64 t.d.glo, .int .i64 t.d.ghi, .int .i64 t.d.wr, .int .i64 t.gain, .slice A' (t.ts.length + 1) c'], .agg #[.int .i64 sz, .int .i64 mo]] W fun e w' => e = .returned (.bool true) ∧ Below W.heap.size W w') := fun A' c' W tn htn hW h => by
    obtain ⟨f1, f2, f3, f4⟩ := Ti.order_facts (t := t) (o := { t with ts := (t.ts ++ [Ti.tstAt t.ts tn]) }) hcb hck rfl rfl (by first | (rw [List.length_append, List.length_singleton]; omega) | (show (t.ts ++ [Ti.tstAt t.ts tn]).length ≤ 6; rw [List.length_append, List.length_singleton]; omega)) (twice_mem htn)
    have := Alike9_any t (t.ts ++ [Ti.tstAt t.ts tn]) A A' c c' sz mo W hl (by first | (rw [List.length_append, List.length_singleton]; omega) | (show (t.ts ++ [Ti.tstAt t.ts tn]).length ≤ 6; rw [List.length_append, List.length_singleton]; omega)) ((hg.keep hW).wider hW.size) h hcb f1 f2 f3 f4
    unfold tiV at this
    dsimp only at this
    rw [List.length_append, List.length_singleton] at this
    exact this
  have HG := Lib.hid hg
  clear hg
  obtain ⟨d, gain, ts⟩ := t
  obtain ⟨full, read, slip, skew, circ, glo, ghi, wrn, dws⟩ := d
  unfold tiV at *
  dsimp only at *
  go_enter Try.func6, Try.ntmps6
  go_wp2_with fail
  have bT1 := ((BoxS.new w 28 #[.int .i64 full, .int .i64 read, .int .i64 slip, .int .i64 skew, .int .i64 circ, .int .i64 glo, .int .i64 ghi, .int .i64 wrn, .int .i64 gain, .slice A ts.length c]).alloc (.cells #[.int .i64 (fn : Int), .int .i64 tw, .int .i64 sz, .int .i64 mo] 58))
  have bY1 := (BoxS.new (World.alloc w (.cells #[.int .i64 full, .int .i64 read, .int .i64 slip, .int .i64 skew, .int .i64 circ, .int .i64 glo, .int .i64 ghi, .int .i64 wrn, .int .i64 gain, .slice A ts.length c] 28)) 58 #[.int .i64 (fn : Int), .int .i64 tw, .int .i64 sz, .int .i64 mo])
  have hB1 : Below w.heap.size w (World.alloc (World.alloc w (.cells #[.int .i64 full, .int .i64 read, .int .i64 slip, .int .i64 skew, .int .i64 circ, .int .i64 glo, .int .i64 ghi, .int .i64 wrn, .int .i64 gain, .slice A ts.length c] 28)) (.cells #[.int .i64 (fn : Int), .int .i64 tw, .int .i64 sz, .int .i64 mo] 58)) := by (repeat' (first | (with_reducible exact Below.refl _ _) | (with_reducible assumption) | (with_reducible refine Below.alloc ?_ ?_ _) | (with_reducible refine Below.drew ?_) | (with_reducible refine Below.setCell ?_ ?_ _) | go_size | (exact (by simp)) | omega))
  simp only [World.size_alloc] at bY1
  generalize World.alloc (World.alloc w _) _ = w1 at *
  refine (HRD.out _ hB1).mono ?_
  rintro e w2 ⟨rfl, hb2⟩
  have bT2 := bT1.below hb2
  have bY2 := bY1.below hb2
  have hB2 := hB1.trans (hb2.mono hB1.size)
  clear bT1 bY1 hB1
  have kT0 := bT2.cell 0 rfl
  have kT1 := bT2.cell 1 rfl
  have kT2 := bT2.cell 2 rfl
  have kT3 := bT2.cell 3 rfl
  have kT4 := bT2.cell 4 rfl
  have kT5 := bT2.cell 5 rfl
  have kT6 := bT2.cell 6 rfl
  have kT7 := bT2.cell 7 rfl
  have kT8 := bT2.cell 8 rfl
  have kT9 := bT2.cell 9 rfl
  have lT := bT2.lt
  have kY0 := bY2.cell 0 rfl
  have kY1 := bY2.cell 1 rfl
  have kY2 := bY2.cell 2 rfl
  have kY3 := bY2.cell 3 rfl
  have lY := bY2.lt
  go_wp2_with fail
  clear kT0 kT1 kT2 kT3 kT4 kT5 kT6 kT7 kT8 kT9 lT kY0 kY1 kY2 kY3 lY
  refine (HIC.out _).mono ?_
  rintro e w3 ⟨rfl, hb3⟩
  have bT3 := bT2.below hb3
  have bY3 := bY2.below hb3
  have hB3 := hB2.trans (hb3.mono hB2.size)
  clear bT2 bY2 hB2
  have kT0 := bT3.cell 0 rfl
  have kT1 := bT3.cell 1 rfl
  have kT2 := bT3.cell 2 rfl
  have kT3 := bT3.cell 3 rfl
  have kT4 := bT3.cell 4 rfl
  have kT5 := bT3.cell 5 rfl
  have kT6 := bT3.cell 6 rfl
  have kT7 := bT3.cell 7 rfl
  have kT8 := bT3.cell 8 rfl
  have kT9 := bT3.cell 9 rfl
  have lT := bT3.lt
  have kY0 := bY3.cell 0 rfl
  have kY1 := bY3.cell 1 rfl
  have kY2 := bY3.cell 2 rfl
  have kY3 := bY3.cell 3 rfl
  have lY := bY3.lt
  go_wp2_with fail
  clear kT0 kT1 kT2 kT3 kT4 kT5 kT6 kT7 kT8 kT9 lT kY0 kY1 kY2 kY3 lY
  have q0 : Below w3.heap.size w3.drew w3.drew := Below.refl _ _
  have KC : Hid (∀ V', Below w3.heap.size w3.drew V' → (V'.cell? ⟨w.heap.size, 0, none⟩ = some (.int .i64 full) ∧ V'.cell? ⟨w.heap.size, 1, none⟩ = some (.int .i64 read) ∧ V'.cell? ⟨w.heap.size, 2, none⟩ = some (.int .i64 slip) ∧ V'.cell? ⟨w.heap.size, 3, none⟩ = some (.int .i64 skew) ∧ V'.cell? ⟨w.heap.size, 4, none⟩ = some (.int .i64 circ) ∧ V'.cell? ⟨w.heap.size, 5, none⟩ = some (.int .i64 glo) ∧ V'.cell? ⟨w.heap.size, 6, none⟩ = some (.int .i64 ghi) ∧ V'.cell? ⟨w.heap.size, 7, none⟩ = some (.int .i64 wrn) ∧ V'.cell? ⟨w.heap.size, 8, none⟩ = some (.int .i64 gain) ∧ V'.cell? ⟨w.heap.size, 9, none⟩ = some (.slice A ts.length c))) := fun V' h =>
    have hk : ∀ (bb o : Nat) (u : Value), bb < w3.heap.size → w3.cell? ⟨bb, o, none⟩ = some u → V'.cell? ⟨bb, o, none⟩ = some u := fun bb o u h1 h2 => (h.cell (p := ⟨bb, o, none⟩) h1).trans h2
    ⟨hk _ _ _ bT3.lt (bT3.cell 0 rfl), hk _ _ _ bT3.lt (bT3.cell 1 rfl), hk _ _ _ bT3.lt (bT3.cell 2 rfl), hk _ _ _ bT3.lt (bT3.cell 3 rfl), hk _ _ _ bT3.lt (bT3.cell 4 rfl), hk _ _ _ bT3.lt (bT3.cell 5 rfl), hk _ _ _ bT3.lt (bT3.cell 6 rfl), hk _ _ _ bT3.lt (bT3.cell 7 rfl), hk _ _ _ bT3.lt (bT3.cell 8 rfl), hk _ _ _ bT3.lt (bT3.cell 9 rfl)⟩
  refine (wpIn_wide (n := 4)).1 ?_
  refine wpIn_mono (Q := noPanic _) ?_ noPanic_le
  refine wpIn_region_held (fun V' => Below w3.heap.size w3.drew V') 7 hmo ?_
  refine wpHeldIn_take (i := 0) (v := ?_) (plain_of (by kernel_rfl)) rfl (by kernel_rfl) (fun _ _ _ h => h) (yieldsSoIn_of (by kernel_rfl) ?_ (fun _ => rfl)) q0 ?_; rotate_left; focus (intro wq hw; have kq := KC.out wq hw; clear hw; go_simp; try (with_reducible rfl))
  refine wpHeldIn_take (i := 2) (v := ?_) (plain_of (by kernel_rfl)) rfl (by kernel_rfl) (fun _ _ _ h => h) (yieldsSoIn_of (by kernel_rfl) ?_ (fun _ => rfl)) q0 ?_; rotate_left; focus (intro wq hw; have kq := KC.out wq hw; clear hw; go_simp; try (with_reducible rfl))
  refine wpHeldIn_anyD [1, 3, 4, 5] [(1, 3)] (cpI w3.drew ts (fun A' c' => .agg #[.int .i64 full, .int .i64 read, .int .i64 slip, .int .i64 skew, .int .i64 circ, .int .i64 glo, .int .i64 ghi, .int .i64 wrn, .int .i64 gain, .slice A' ts.length c']) #[.int .i64 0, .int .i64 0, .int .i64 0, .int .i64 0, .int .i64 0, .int .i64 0, .int .i64 0, .int .i64 0, .int .i64 0, .slice none 0 0]) (f0 := 2) rfl (by decide) (by kernel_rfl) rfl (by kernel_rfl) ?_ ?_ ?_
  · exact ⟨none, none, 0, 0, 0, 0, 0, [], [], rfl, Below.refl _ _, fun e => (by cases e), fun e => (by cases e), fun e => (by cases e), fun e => (by cases e), fun e => (by cases e)⟩
  · intro j o hj ho s a wc hI hsj hdep K hK
    have h34 : a.tmps[34]?.getD undef = .agg #[.int .i64 full, .int .i64 read, .int .i64 slip, .int .i64 skew, .int .i64 circ, .int .i64 glo, .int .i64 ghi, .int .i64 wrn, .int .i64 gain, .slice A ts.length c] := by rw [← Array.getD_eq_getD_getElem?]; exact hI.at (t := 34) (by decide)
    have h36 : a.tmps[36]?.getD undef = .agg #[.int .i64 full, .int .i64 read, .int .i64 slip, .int .i64 skew, .int .i64 circ, .int .i64 glo, .int .i64 ghi, .int .i64 wrn, .int .i64 gain, .slice A ts.length c] := by rw [← Array.getD_eq_getD_getElem?]; exact hI.at (t := 36) (by decide)
    have hIw := hI.world
    have hcz : w3.drew.heap.size ≤ wc.heap.size := hIw.size
    have hWc : Below w.heap.size w wc := hB3.drew.trans (hIw.mono hB3.size)
    simp only [List.mem_cons, List.not_mem_nil, or_false] at hj
    rcases hj with rfl | rfl | rfl | rfl
    · cases ho
      go_simp
      try rw [h34]
      refine ⟨trivial, (callsIn_wide.2 (HCP.out _ hWc)).mono ?_⟩
      rintro e wq ⟨A', c', zs, rfl, hO', hC', hb'⟩
      exact hK _ _ (hIw.trans (hb'.mono hcz)) (hI.one hsj hO'.out hC'.out hb')
    · cases ho
      go_simp
      try rw [h36]
      refine ⟨trivial, (callsIn_wide.2 (HCP.out _ hWc)).mono ?_⟩
      rintro e wq ⟨A', c', zs, rfl, hO', hC', hb'⟩
      exact hK _ _ (hIw.trans (hb'.mono hcz)) (hI.two (hdep 1 (by simp)) hsj hO'.out hC'.out hb')
    · cases ho
      go_simp
      exact hK _ _ (hIw.alloc hcz _) (hI.box4 hsj)
    · cases ho
      go_simp
      exact hK _ _ (hIw.alloc hcz _) (hI.box5 hsj)
  · intro s a wz hall hI
    obtain ⟨A1, A2, c1, c2, B4, B5, N2, xs, ys, rfl, hBw, h1, h3, h4, h5, h6⟩ := hI
    have s1 := hall 1 (by simp)
    have s3 := hall 3 (by simp)
    have s4 := hall 4 (by simp)
    have s5 := hall 5 (by simp)
    rw [s1, s3, s4, s5]
    simp only [putIf, ↓reduceIte]
    go_simp
    obtain ⟨hO1, hC1⟩ := h1 s1
    obtain ⟨-, hO2, hC2, hN2, hN0⟩ := h3 s3
    obtain ⟨hL4, b4⟩ := h4 s4
    obtain ⟨hL5, b5⟩ := h5 s5
    have h45 := h6 s4 s5
    clear h1 h3 h4 h5 h6 s1 s3 s4 s5 hall s KC q0
    have hdz : w3.drew.heap.size = w3.heap.size := rfl
    rw [hdz] at hN0 hL4 hL5 hO1 hC1
    have dT := bT3.drew.below hBw
    have dY := bY3.drew.below hBw
    have hBz := hB3.drew.trans (hBw.mono hB3.size)
    have lT := bT3.lt
    have lY := bY3.lt
    have lB := hB3.size
    have z0 := b4.cell 0 rfl
    have f0 := b4.frozen 0
    have z1 := b4.cell 1 rfl
    have f1 := b4.frozen 1
    have z2 := b4.cell 2 rfl
    have f2 := b4.frozen 2
    have z3 := b4.cell 3 rfl
    have f3 := b4.frozen 3
    have z4 := b4.cell 4 rfl
    have f4 := b4.frozen 4
    have z5 := b4.cell 5 rfl
    have f5 := b4.frozen 5
    have z6 := b4.cell 6 rfl
    have f6 := b4.frozen 6
    have z7 := b4.cell 7 rfl
    have f7 := b4.frozen 7
    have z8 := b4.cell 8 rfl
    have f8 := b4.frozen 8
    have z9 := b4.cell 9 rfl
    have f9 := b4.frozen 9
    refine wpHeldIn_one (i := 6) (by kernel_rfl) (by kernel_rfl) rfl (by kernel_rfl) (fun K4 hK4 => ?_)
    go_simp
    have e4 := ten_put b4 (.int .i64 full) (.int .i64 read) (.int .i64 slip) (.int .i64 skew) (.int .i64 circ) (.int .i64 glo) (.int .i64 ghi) (.int .i64 wrn) (.int .i64 gain) (.slice A1 ts.length c1)
    have e5 := ten_other b5 (Ne.symm h45) (.int .i64 full) (.int .i64 read) (.int .i64 slip) (.int .i64 skew) (.int .i64 circ) (.int .i64 glo) (.int .i64 ghi) (.int .i64 wrn) (.int .i64 gain) (.slice A1 ts.length c1)
    have gT := ten_other (B' := B4) dT (by omega) (.int .i64 full) (.int .i64 read) (.int .i64 slip) (.int .i64 skew) (.int .i64 circ) (.int .i64 glo) (.int .i64 ghi) (.int .i64 wrn) (.int .i64 gain) (.slice A1 ts.length c1)
    have gY := ten_other (B' := B4) dY (by omega) (.int .i64 full) (.int .i64 read) (.int .i64 slip) (.int .i64 skew) (.int .i64 circ) (.int .i64 glo) (.int .i64 ghi) (.int .i64 wrn) (.int .i64 gain) (.slice A1 ts.length c1)
    have gB := ten_below (B := B4) hBz (by omega) (.int .i64 full) (.int .i64 read) (.int .i64 slip) (.int .i64 skew) (.int .i64 circ) (.int .i64 glo) (.int .i64 ghi) (.int .i64 wrn) (.int .i64 gain) (.slice A1 ts.length c1)
    have gS := ten_below (B := B4) hBw (by rw [hdz]; omega) (.int .i64 full) (.int .i64 read) (.int .i64 slip) (.int .i64 skew) (.int .i64 circ) (.int .i64 glo) (.int .i64 ghi) (.int .i64 wrn) (.int .i64 gain) (.slice A1 ts.length c1)
    have gO1 := ten_owns hO1 b4 (by decide) (.int .i64 full) (.int .i64 read) (.int .i64 slip) (.int .i64 skew) (.int .i64 circ) (.int .i64 glo) (.int .i64 ghi) (.int .i64 wrn) (.int .i64 gain) (.slice A1 ts.length c1)
    have gC1 := hC1.ten b4 (by decide) (.int .i64 full) (.int .i64 read) (.int .i64 slip) (.int .i64 skew) (.int .i64 circ) (.int .i64 glo) (.int .i64 ghi) (.int .i64 wrn) (.int .i64 gain) (.slice A1 ts.length c1)
    have gO2 := ten_owns hO2 b4 (by decide) (.int .i64 full) (.int .i64 read) (.int .i64 slip) (.int .i64 skew) (.int .i64 circ) (.int .i64 glo) (.int .i64 ghi) (.int .i64 wrn) (.int .i64 gain) (.slice A1 ts.length c1)
    have gC2 := hC2.ten b4 (by decide) (.int .i64 full) (.int .i64 read) (.int .i64 slip) (.int .i64 skew) (.int .i64 circ) (.int .i64 glo) (.int .i64 ghi) (.int .i64 wrn) (.int .i64 gain) (.slice A1 ts.length c1)
    refine hK4 _ _ gS ?_
    clear z0 f0 z1 f1 z2 f2 z3 f3 z4 f4 z5 f5 z6 f6 z7 f7 z8 f8 z9 f9
    clear b4 b5 dT dY hBz hO1 hO2 hC1 hC2 hBw
    generalize World.setCell (World.setCell (World.setCell (World.setCell (World.setCell (World.setCell (World.setCell (World.setCell (World.setCell (World.setCell wz _ _) _ _) _ _) _ _) _ _) _ _) _ _) _ _) _ _) _ _ = wy at *
    have b4 := e4
    have b5 := e5
    have dT := gT
    have dY := gY
    have hBz := gB
    have hBw := gS
    have hO1 := gO1
    have hO2 := gO2
    have hC1 := gC1
    have hC2 := gC2
    clear e4 e5 gT gY gB gS gO1 gO2 gC1 gC2
    have z0 := b5.cell 0 rfl
    have f0 := b5.frozen 0
    have z1 := b5.cell 1 rfl
    have f1 := b5.frozen 1
    have z2 := b5.cell 2 rfl
    have f2 := b5.frozen 2
    have z3 := b5.cell 3 rfl
    have f3 := b5.frozen 3
    have z4 := b5.cell 4 rfl
    have f4 := b5.frozen 4
    have z5 := b5.cell 5 rfl
    have f5 := b5.frozen 5
    have z6 := b5.cell 6 rfl
    have f6 := b5.frozen 6
    have z7 := b5.cell 7 rfl
    have f7 := b5.frozen 7
    have z8 := b5.cell 8 rfl
    have f8 := b5.frozen 8
    have z9 := b5.cell 9 rfl
    have f9 := b5.frozen 9
    refine wpHeldIn_last (by kernel_rfl) rfl (by kernel_rfl) (fun K5 hK5 => ?_)
    go_simp
    have e5 := ten_put b5 (.int .i64 full) (.int .i64 read) (.int .i64 slip) (.int .i64 skew) (.int .i64 circ) (.int .i64 glo) (.int .i64 ghi) (.int .i64 wrn) (.int .i64 gain) (.slice A2 ts.length c2)
    have e4x := ten_other b4 h45 (.int .i64 full) (.int .i64 read) (.int .i64 slip) (.int .i64 skew) (.int .i64 circ) (.int .i64 glo) (.int .i64 ghi) (.int .i64 wrn) (.int .i64 gain) (.slice A2 ts.length c2)
    have gT := ten_other (B' := B5) dT (by omega) (.int .i64 full) (.int .i64 read) (.int .i64 slip) (.int .i64 skew) (.int .i64 circ) (.int .i64 glo) (.int .i64 ghi) (.int .i64 wrn) (.int .i64 gain) (.slice A2 ts.length c2)
    have gY := ten_other (B' := B5) dY (by omega) (.int .i64 full) (.int .i64 read) (.int .i64 slip) (.int .i64 skew) (.int .i64 circ) (.int .i64 glo) (.int .i64 ghi) (.int .i64 wrn) (.int .i64 gain) (.slice A2 ts.length c2)
    have gB := ten_below (B := B5) hBz (by omega) (.int .i64 full) (.int .i64 read) (.int .i64 slip) (.int .i64 skew) (.int .i64 circ) (.int .i64 glo) (.int .i64 ghi) (.int .i64 wrn) (.int .i64 gain) (.slice A2 ts.length c2)
    have gO1 := ten_owns hO1 b5 (by decide) (.int .i64 full) (.int .i64 read) (.int .i64 slip) (.int .i64 skew) (.int .i64 circ) (.int .i64 glo) (.int .i64 ghi) (.int .i64 wrn) (.int .i64 gain) (.slice A2 ts.length c2)
    have gC1 := hC1.ten b5 (by decide) (.int .i64 full) (.int .i64 read) (.int .i64 slip) (.int .i64 skew) (.int .i64 circ) (.int .i64 glo) (.int .i64 ghi) (.int .i64 wrn) (.int .i64 gain) (.slice A2 ts.length c2)
    have gO2 := ten_owns hO2 b5 (by decide) (.int .i64 full) (.int .i64 read) (.int .i64 slip) (.int .i64 skew) (.int .i64 circ) (.int .i64 glo) (.int .i64 ghi) (.int .i64 wrn) (.int .i64 gain) (.slice A2 ts.length c2)
    have gC2 := hC2.ten b5 (by decide) (.int .i64 full) (.int .i64 read) (.int .i64 slip) (.int .i64 skew) (.int .i64 circ) (.int .i64 glo) (.int .i64 ghi) (.int .i64 wrn) (.int .i64 gain) (.slice A2 ts.length c2)
    refine hK5 _ _ ?_
    clear z0 f0 z1 f1 z2 f2 z3 f3 z4 f4 z5 f5 z6 f6 z7 f7 z8 f8 z9 f9
    clear b4 b5 dT dY hBz hO1 hO2 hC1 hC2
    generalize World.setCell (World.setCell (World.setCell (World.setCell (World.setCell (World.setCell (World.setCell (World.setCell (World.setCell (World.setCell wy _ _) _ _) _ _) _ _) _ _) _ _) _ _) _ _) _ _) _ _ = w4 at *
    refine wpHeldIn_done (by kernel_rfl) ?_ _
    go_simp
    refine noPanic_of ?_
    have hlN : w.heap.size + 1 < w3.heap.size := by omega
    have bT4 := gT
    have bY4 := gY
    have bD4 := e4x
    have bE4 := e5
    have hB4 := gB
    have hTU : TuRow w w4 w3.heap.size N2 A1 US 0 := TuRow.start gO1 hUS hN2
    clear gT gY e4x e5 gB gO1 gC1 hN2
    have GO2 := Lib.hid gO2
    have GC2 := Lib.hid gC2
    have HTU := Lib.hid hTU
    clear gO2 gC2 hTU hK4 hK5 hdz lT lY lB bT3 bY3 hB3 xs
    generalize w3.heap.size = N1 at *
    have hwN : w.heap.size + 1 < N1 := by have := hlN; omega
    clear hlN
    have kT0 := bT4.cell 0 rfl
    have kT1 := bT4.cell 1 rfl
    have kT2 := bT4.cell 2 rfl
    have kT3 := bT4.cell 3 rfl
    have kT4 := bT4.cell 4 rfl
    have kT5 := bT4.cell 5 rfl
    have kT6 := bT4.cell 6 rfl
    have kT7 := bT4.cell 7 rfl
    have kT8 := bT4.cell 8 rfl
    have kT9 := bT4.cell 9 rfl
    have lT := bT4.lt
    have kY0 := bY4.cell 0 rfl
    have kY1 := bY4.cell 1 rfl
    have kY2 := bY4.cell 2 rfl
    have kY3 := bY4.cell 3 rfl
    have lY := bY4.lt
    have kD0 := bD4.cell 0 rfl
    have kD1 := bD4.cell 1 rfl
    have kD2 := bD4.cell 2 rfl
    have kD3 := bD4.cell 3 rfl
    have kD4 := bD4.cell 4 rfl
    have kD5 := bD4.cell 5 rfl
    have kD6 := bD4.cell 6 rfl
    have kD7 := bD4.cell 7 rfl
    have kD8 := bD4.cell 8 rfl
    have kD9 := bD4.cell 9 rfl
    have lD := bD4.lt
    have kE0 := bE4.cell 0 rfl
    have kE1 := bE4.cell 1 rfl
    have kE2 := bE4.cell 2 rfl
    have kE3 := bE4.cell 3 rfl
    have kE4 := bE4.cell 4 rfl
    have kE5 := bE4.cell 5 rfl
    have kE6 := bE4.cell 6 rfl
    have kE7 := bE4.cell 7 rfl
    have kE8 := bE4.cell 8 rfl
    have kE9 := bE4.cell 9 rfl
    have lE := bE4.lt
    go_wp2_with fail
    clear kT0 kT1 kT2 kT3 kT4 kT5 kT6 kT7 kT8 kT9 lT kY0 kY1 kY2 kY3 lY kD0 kD1 kD2 kD3 kD4 kD5 kD6 kD7 kD8 kD9 lD kE0 kE1 kE2 kE3 kE4 kE5 kE6 kE7 kE8 kE9 lE
    go_loopw [7] (fun x7 wr => ∃ k : Nat, (k : Int) ≤ ts.length ∧ x7 = .int .i64 (k : Int) ∧ Below w.heap.size w wr ∧ BoxS wr w.heap.size 28 #[.int .i64 full, .int .i64 read, .int .i64 slip, .int .i64 skew, .int .i64 circ, .int .i64 glo, .int .i64 ghi, .int .i64 wrn, .int .i64 gain, .slice A ts.length c] ∧ BoxS wr (w.heap.size + 1) 58 #[.int .i64 (fn : Int), .int .i64 tw, .int .i64 sz, .int .i64 mo] ∧ BoxS wr B4 28 #[.int .i64 full, .int .i64 read, .int .i64 slip, .int .i64 skew, .int .i64 circ, .int .i64 glo, .int .i64 ghi, .int .i64 wrn, .int .i64 gain, .slice A1 ts.length c1] ∧ BoxS wr B5 28 #[.int .i64 full, .int .i64 read, .int .i64 slip, .int .i64 skew, .int .i64 circ, .int .i64 glo, .int .i64 ghi, .int .i64 wrn, .int .i64 gain, .slice A2 ts.length c2] ∧ Hid (wr.ownsRow N2 31 2 (.slice A2 ts.length c2) ts.length ys) ∧ Hid (CpRow N2 wr ts ts.length ys) ∧ Hid (TuRow w wr N1 N2 A1 US k)) (fun x7 _ => (ts.length - intOf x7).toNat)
    case atStart => exact ⟨0, by omega, rfl, hB4, bT4, bY4, bD4, bE4, GO2, GC2, HTU⟩
    case round =>
      clear hB4 bT4 bY4 bD4 bE4 GO2 GC2 HTU
      obtain ⟨k, hk, rfl, hB, bT, bY, bD, bE, hO2, hC2, hTU⟩ := hrel
      have hk0 := Int.natCast_nonneg k
      by_cases hlt : (k : Int) < ts.length
      ·
        have hkl : k < ts.length := by omega
        have hw1 : IntKind.i64.wrap ((k : Int) + 1) = (k : Int) + 1 := IntWalk.i64_in _ (by omega)
        have hw2 : IntKind.i64.wrap ((k : Int) + (fn : Int)) = (k : Int) + (fn : Int) := IntWalk.i64_in _ (by omega)
        obtain ⟨j, hj⟩ : ∃ j, j = (k + fn) % ts.length := ⟨_, rfl⟩
        have hjn : j < ts.length := by rw [hj]; exact Nat.mod_lt _ (by omega)
        have hjn' : (j : Int) < (ts.length : Int) := by omega
        have hj0 := Int.natCast_nonneg j
        have hmod : ((k : Int) + (fn : Int)).tmod (ts.length : Int) = (j : Int) := by rw [Int.tmod_eq_emod_of_nonneg (by omega), hj, Int.natCast_emod, Int.natCast_add]
        have hne : ts ≠ [] := by intro h; rw [h] at hkl; simp at hkl
        have hwj : IntKind.i64.wrap (j : Int) = (j : Int) := IntWalk.i64_in _ (by omega)
        have hUk := hUR.out k hkl
        rw [← hj] at hUk
        clear hj
        obtain ⟨g, cur, rfl, hg1, hg2, bG, hcs, hcur⟩ := hTU.out (by rw [hUS]; omega)
        obtain ⟨bt, ot, rfl, hbt, hct⟩ := HG.out (by omega)
        obtain ⟨A', c', x0, x1, hwk, hwl⟩ := hct j _ (tst_at hjn)
        have y0 := (hB.cell (p := ⟨bt, _, none⟩) hbt).trans x0
        have y1 := (hB.cell (p := ⟨bt, _, none⟩) hbt).trans x1
        clear hct x0 x1 hTU
        generalize Ti.tstAt ts j = x at *
        obtain ⟨xa, xw⟩ := x
        dsimp only at *
        have hUk := Lib.hid hUk
        have hcur := Lib.hid hcur
        have hwk := Lib.hid hwk
        have hbz := hB.size
        have lD := bD.lt
        have lT := bT.lt
        have lY := bY.lt
        have lG := bG.lt
        have kT9 := bT.cell 9 rfl
        have kY0 := bY.cell 0 rfl
        have hnG4 : g ≠ B4 := boxS_ne bG bD (by decide)
        have hnG5 : g ≠ B5 := boxS_ne bG bE (by decide)
        go_wp2_with fail
        have KC : Hid (∀ V', Below wr.heap.size wr.drew V' → (V'.cell? ⟨w.heap.size, 9, none⟩ = some (.slice (some ⟨bt, ot, none⟩) ts.length c) ∧ V'.cell? ⟨w.heap.size + 1, 0, none⟩ = some (.int .i64 (fn : Int)) ∧ V'.cell? ⟨B4, 9, none⟩ = some (.slice (some ⟨g, 0, none⟩) ts.length c1) ∧ V'.cell? ⟨bt, ot + j * 2, none⟩ = some (.int .i64 xa) ∧ V'.cell? ⟨bt, ot + j * 2 + 1, none⟩ = some (.slice A' xw.length c'))) := fun V' h =>
          have hk : ∀ (bb o : Nat) (u : Value), bb < wr.heap.size → wr.cell? ⟨bb, o, none⟩ = some u → V'.cell? ⟨bb, o, none⟩ = some u := fun bb o u h1 h2 => (h.cell (p := ⟨bb, o, none⟩) h1).trans h2
          ⟨hk _ _ _ lT kT9, hk _ _ _ lY kY0, hk _ _ _ lD (bD.cell 9 rfl), hk _ _ _ (by omega) y0, hk _ _ _ (by omega) y1⟩
        have q0 : Below wr.heap.size wr.drew wr.drew := Below.refl _ _
        refine (wpIn_wide (n := 4)).1 ?_
        refine wpIn_mono (Q := noPanic _) ?_ noPanic_le
        refine wpIn_region_held (fun V' => Below wr.heap.size wr.drew V') 16 hmo ?_
        refine wpHeldIn_take (i := 0) (v := ?_) (plain_of (by kernel_rfl)) rfl (by kernel_rfl) (fun _ _ _ h => h) (yieldsSoIn_of (by kernel_rfl) ?_ (fun _ => rfl)) q0 ?_; rotate_left; focus (intro wq hw; clear hw; go_simp; try (with_reducible rfl))
        refine wpHeldIn_take (i := 1) (v := ?_) (plain_of (by kernel_rfl)) rfl (by kernel_rfl) (fun _ _ _ h => h) (yieldsSoIn_of (by kernel_rfl) ?_ (fun _ => rfl)) q0 ?_; rotate_left; focus (intro wq hw; have kq := KC.out wq hw; clear hw; go_simp; try (with_reducible rfl))
        refine wpHeldIn_take (i := 2) (v := ?_) (plain_of (by kernel_rfl)) rfl (by kernel_rfl) (fun _ _ _ h => h) (yieldsSoIn_of (by kernel_rfl) ?_ (fun _ => rfl)) q0 ?_; rotate_left; focus (intro wq hw; clear hw; go_simp; try (with_reducible rfl))
        refine wpHeldIn_take (i := 3) (v := ?_) (plain_of (by kernel_rfl)) rfl (by kernel_rfl) (fun _ _ _ h => h) (yieldsSoIn_of (by kernel_rfl) ?_ (fun _ => rfl)) q0 ?_; rotate_left; focus (intro wq hw; clear hw; go_simp; try (with_reducible rfl))
        refine wpHeldIn_take (i := 4) (v := ?_) (plain_of (by kernel_rfl)) rfl (by kernel_rfl) (fun _ _ _ h => h) (yieldsSoIn_of (by kernel_rfl) ?_ (fun _ => rfl)) q0 ?_; rotate_left; focus (intro wq hw; have kq := KC.out wq hw; clear hw; go_simp; try (with_reducible rfl))
        refine wpHeldIn_take (i := 5) (v := ?_) (plain_of (by kernel_rfl)) rfl (by kernel_rfl) (fun _ _ _ h => h) (yieldsSoIn_of (by kernel_rfl) ?_ (fun _ => rfl)) q0 ?_; rotate_left; focus (intro wq hw; clear hw; go_simp; try (with_reducible rfl))
        refine wpHeldIn_take (i := 6) (v := ?_) (plain_of (by kernel_rfl)) rfl (by kernel_rfl) (fun _ _ _ h => h) (yieldsSoIn_of (by kernel_rfl) ?_ (fun _ => rfl)) q0 ?_; rotate_left; focus (intro wq hw; clear hw; go_simp; try (with_reducible rfl))
        refine wpHeldIn_take (i := 7) (v := ?_) (plain_of (by kernel_rfl)) rfl (by kernel_rfl) (fun _ _ _ h => h) (yieldsSoIn_of (by kernel_rfl) ?_ (fun _ => rfl)) q0 ?_; rotate_left; focus (intro wq hw; have kq := KC.out wq hw; clear hw; go_simp; try (with_reducible rfl))
        refine wpHeldIn_take (i := 8) (v := ?_) (plain_of (by kernel_rfl)) rfl (by kernel_rfl) (fun _ _ _ h => h) (yieldsSoIn_of (by kernel_rfl) ?_ (fun _ => rfl)) q0 ?_; rotate_left; focus (intro wq hw; clear hw; go_simp; try (with_reducible rfl))
        refine wpHeldIn_take (i := 9) (v := ?_) (plain_of (by kernel_rfl)) rfl (by kernel_rfl) (fun _ _ _ h => h) (yieldsSoIn_of (by kernel_rfl) ?_ (fun _ => rfl)) q0 ?_; rotate_left; focus (intro wq hw; clear hw; go_simp; try (with_reducible rfl))
        refine wpHeldIn_take (i := 10) (v := ?_) (plain_of (by kernel_rfl)) rfl (by kernel_rfl) (fun _ _ _ h => h) (yieldsSoIn_of (by kernel_rfl) ?_ (fun _ => rfl)) q0 ?_; rotate_left; focus (intro wq hw; have kq := KC.out wq hw; clear hw; go_simp; try (with_reducible rfl))
        refine wpHeldIn_take (i := 11) (v := ?_) (plain_of (by kernel_rfl)) rfl (by kernel_rfl) (fun _ _ _ h => h) (yieldsSoIn_of (by kernel_rfl) ?_ (fun _ => rfl)) q0 ?_; rotate_left; focus (intro wq hw; clear hw; go_simp; try (with_reducible rfl))
        refine wpHeldIn_take (i := 12) (v := ?_) (plain_of (by kernel_rfl)) rfl (by kernel_rfl) (fun _ _ _ h => h) (yieldsSoIn_of (by kernel_rfl) ?_ (fun _ => rfl)) q0 ?_; rotate_left; focus (intro wq hw; clear hw; go_simp; try (with_reducible rfl))
        refine wpHeldIn_take (i := 13) (v := ?_) (plain_of (by kernel_rfl)) rfl (by kernel_rfl) (fun _ _ _ h => h) (yieldsSoIn_of (by kernel_rfl) ?_ (fun _ => rfl)) q0 ?_; rotate_left; focus (intro wq hw; clear hw; go_simp; try (with_reducible rfl))
        refine wpHeldIn_take (i := 14) (v := ?_) (plain_of (by kernel_rfl)) rfl (by kernel_rfl) (fun _ _ _ h => h) (yieldsSoIn_of (by kernel_rfl) ?_ (fun _ => rfl)) q0 ?_; rotate_left; focus (intro wq hw; have kq := KC.out wq hw; clear hw; go_simp; try (with_reducible rfl))
        refine wpHeldIn_take (i := 15) (v := ?_) (plain_of (by kernel_rfl)) rfl (by kernel_rfl) (fun _ _ _ h => h) (yieldsSoIn_of (by kernel_rfl) ?_ (fun _ => rfl)) q0 ?_; rotate_left; focus (intro wq hw; clear hw; go_simp; try (with_reducible rfl))
        have bGd : BoxS wr.drew g 31 cur := bG
        have h0c : cur[k * 2]? = some cur[k * 2] := Array.getElem?_eq_getElem (by omega)
        have h1c : cur[k * 2 + 1]? = some cur[k * 2 + 1] := Array.getElem?_eq_getElem (by omega)
        have f0 := bGd.frozen (k * 2)
        have f1 := bGd.frozen (k * 2 + 1)
        have z0 := bGd.cell (k * 2) h0c
        have z1 := bGd.cell (k * 2 + 1) h1c
        have f0w := bG.frozen (k * 2)
        have f1w := bG.frozen (k * 2 + 1)
        have z0w := bG.cell (k * 2) h0c
        have z1w := bG.cell (k * 2 + 1) h1c
        generalize cur[k * 2] = u0 at *
        generalize cur[k * 2 + 1] = u1 at *
        refine wpHeldIn_last (by kernel_rfl) rfl (by kernel_rfl) (fun K4 hK4 => ?_)
        go_simp
        have tu : TuRow w ((wr.setCell ⟨g, k * 2, none⟩ (.int .i64 xa)).setCell ⟨g, k * 2 + 1, none⟩ (.slice A' xw.length c')) N1 N2 (some ⟨g, 0, none⟩) US (k + 1) := TuRow.put (x := (xa, xw)) hg1 hg2 bG hcs hcur.out hUk.out hwk.out hwl
        have hne5 : ∀ i, i ≠ g → ((wr.setCell ⟨g, k * 2, none⟩ (.int .i64 xa)).setCell ⟨g, k * 2 + 1, none⟩ (.slice A' xw.length c')).heap[i]? = wr.heap[i]? := fun i hi => (Below.heap_setCell _ _ _ i hi).trans (Below.heap_setCell _ _ _ i hi)
        have eT := bT.away (B' := g) (by omega) (k * 2) (.int .i64 xa) |>.away (B' := g) (by omega) (k * 2 + 1) (.slice A' xw.length c')
        have eY := bY.away (B' := g) (by omega) (k * 2) (.int .i64 xa) |>.away (B' := g) (by omega) (k * 2 + 1) (.slice A' xw.length c')
        have eD := bD.away (B' := g) (Ne.symm hnG4) (k * 2) (.int .i64 xa) |>.away (B' := g) (Ne.symm hnG4) (k * 2 + 1) (.slice A' xw.length c')
        have eE := bE.away (B' := g) (Ne.symm hnG5) (k * 2) (.int .i64 xa) |>.away (B' := g) (Ne.symm hnG5) (k * 2 + 1) (.slice A' xw.length c')
        have eB : Below w.heap.size w ((wr.setCell ⟨g, k * 2, none⟩ (.int .i64 xa)).setCell ⟨g, k * 2 + 1, none⟩ (.slice A' xw.length c')) := (hB.setCell (by simp; omega) _).setCell (by simp; omega) _
        have eO2 : ((wr.setCell ⟨g, k * 2, none⟩ (.int .i64 xa)).setCell ⟨g, k * 2 + 1, none⟩ (.slice A' xw.length c')).ownsRow N2 31 2 (.slice A2 ts.length c2) ts.length ys := ownsRow_lit hO2.out (fun g' hg' => hne5 g' (by have := (World.ownsRow.lt hO2.out g' hg').1; omega))
        have eC2 := hC2.out.kept (W' := ((wr.setCell ⟨g, k * 2, none⟩ (.int .i64 xa)).setCell ⟨g, k * 2 + 1, none⟩ (.slice A' xw.length c'))) hO2.out (fun i hi _ _ => hne5 i (by omega))
        refine hK4 _ _ ?_
        have HTU := Lib.hid tu
        have HO2 := Lib.hid eO2
        have HC2 := Lib.hid eC2
        clear KC q0 z0 z1 f0 f1 z0w z1w f0w f1w bG bGd h0c h1c tu hne5 eO2 eC2 hB bT bY bD bE hO2 hC2 y0 y1 kT9 kY0 hcur
        generalize World.setCell (World.setCell wr _ _) _ _ = w5 at *
        refine wpHeldIn_done (by kernel_rfl) ?_ _
        go_simp
        refine noPanic_of ?_
        go_wp2_with fail
        go_roundw
        case rel => exact ⟨k + 1, by omega, by go_num, eB.drew, eT, eY, eD, eE, HO2, HC2, HTU⟩
        case measure => simp [intOf]; omega
      ·
        have ek : k = ts.length := by omega
        subst ek
        obtain ⟨w11, rfl⟩ : ∃ W, W = wr := ⟨_, rfl⟩
        have bT11 := bT
        have bY11 := bY
        have bD11 := bD
        have bE11 := bE
        have hB11 := hB
        clear bT bY bD bE hB hlt hk0 hk
        rw [← hUS] at hTU
        by_cases ht0 : tw < 0
        ·
          have t0 : decide (0 ≤ tw) = false := decide_eq_false (by omega)
          have HTU11 : Hid (Tsts w11 w11.heap.size A1 US) := hTU.out.tsts hB11
          have HTV11 : Hid (Tsts w11 w11.heap.size A2 ts) := hC2.out.tsts hO2.out
          clear hTU hC2 hO2
          have kT0 := bT11.cell 0 rfl
          have kT1 := bT11.cell 1 rfl
          have kT2 := bT11.cell 2 rfl
          have kT3 := bT11.cell 3 rfl
          have kT4 := bT11.cell 4 rfl
          have kT5 := bT11.cell 5 rfl
          have kT6 := bT11.cell 6 rfl
          have kT7 := bT11.cell 7 rfl
          have kT8 := bT11.cell 8 rfl
          have kT9 := bT11.cell 9 rfl
          have lT := bT11.lt
          have kY0 := bY11.cell 0 rfl
          have kY1 := bY11.cell 1 rfl
          have kY2 := bY11.cell 2 rfl
          have kY3 := bY11.cell 3 rfl
          have lY := bY11.lt
          have kD0 := bD11.cell 0 rfl
          have kD1 := bD11.cell 1 rfl
          have kD2 := bD11.cell 2 rfl
          have kD3 := bD11.cell 3 rfl
          have kD4 := bD11.cell 4 rfl
          have kD5 := bD11.cell 5 rfl
          have kD6 := bD11.cell 6 rfl
          have kD7 := bD11.cell 7 rfl
          have kD8 := bD11.cell 8 rfl
          have kD9 := bD11.cell 9 rfl
          have lD := bD11.lt
          have kE0 := bE11.cell 0 rfl
          have kE1 := bE11.cell 1 rfl
          have kE2 := bE11.cell 2 rfl
          have kE3 := bE11.cell 3 rfl
          have kE4 := bE11.cell 4 rfl
          have kE5 := bE11.cell 5 rfl
          have kE6 := bE11.cell 6 rfl
          have kE7 := bE11.cell 7 rfl
          have kE8 := bE11.cell 8 rfl
          have kE9 := bE11.cell 9 rfl
          have lE := bE11.lt
          go_wp2_with fail
          clear kT0 kT1 kT2 kT3 kT4 kT5 kT6 kT7 kT8 kT9 lT kY0 kY1 kY2 kY3 lY kD0 kD1 kD2 kD3 kD4 kD5 kD6 kD7 kD8 kD9 lD kE0 kE1 kE2 kE3 kE4 kE5 kE6 kE7 kE8 kE9 lE
          refine (HAL1.out A1 c1 _ hB11 HTU11.out).mono ?_
          rintro e w12 ⟨rfl, hb12⟩
          have bT12 := bT11.below hb12
          have bY12 := bY11.below hb12
          have bD12 := bD11.below hb12
          have bE12 := bE11.below hb12
          have hB12 := hB11.trans (hb12.mono hB11.size)
          clear bT11 bY11 bD11 bE11 hB11
          have HTV12 := Lib.hid ((HTV11.out.keep hb12).wider hb12.size)
          clear HTV11
          clear HTU11
          have kT0 := bT12.cell 0 rfl
          have kT1 := bT12.cell 1 rfl
          have kT2 := bT12.cell 2 rfl
          have kT3 := bT12.cell 3 rfl
          have kT4 := bT12.cell 4 rfl
          have kT5 := bT12.cell 5 rfl
          have kT6 := bT12.cell 6 rfl
          have kT7 := bT12.cell 7 rfl
          have kT8 := bT12.cell 8 rfl
          have kT9 := bT12.cell 9 rfl
          have lT := bT12.lt
          have kY0 := bY12.cell 0 rfl
          have kY1 := bY12.cell 1 rfl
          have kY2 := bY12.cell 2 rfl
          have kY3 := bY12.cell 3 rfl
          have lY := bY12.lt
          have kD0 := bD12.cell 0 rfl
          have kD1 := bD12.cell 1 rfl
          have kD2 := bD12.cell 2 rfl
          have kD3 := bD12.cell 3 rfl
          have kD4 := bD12.cell 4 rfl
          have kD5 := bD12.cell 5 rfl
          have kD6 := bD12.cell 6 rfl
          have kD7 := bD12.cell 7 rfl
          have kD8 := bD12.cell 8 rfl
          have kD9 := bD12.cell 9 rfl
          have lD := bD12.lt
          have kE0 := bE12.cell 0 rfl
          have kE1 := bE12.cell 1 rfl
          have kE2 := bE12.cell 2 rfl
          have kE3 := bE12.cell 3 rfl
          have kE4 := bE12.cell 4 rfl
          have kE5 := bE12.cell 5 rfl
          have kE6 := bE12.cell 6 rfl
          have kE7 := bE12.cell 7 rfl
          have kE8 := bE12.cell 8 rfl
          have kE9 := bE12.cell 9 rfl
          have lE := bE12.lt
          go_wp2_with fail
          clear kT0 kT1 kT2 kT3 kT4 kT5 kT6 kT7 kT8 kT9 lT kY0 kY1 kY2 kY3 lY kD0 kD1 kD2 kD3 kD4 kD5 kD6 kD7 kD8 kD9 lD kE0 kE1 kE2 kE3 kE4 kE5 kE6 kE7 kE8 kE9 lE
          refine (HAL0.out A2 c2 _ hB12 HTV12.out).mono ?_
          rintro e w13 ⟨rfl, hb13⟩
          have bT13 := bT12.below hb13
          have bY13 := bY12.below hb13
          have bD13 := bD12.below hb13
          have bE13 := bE12.below hb13
          have hB13 := hB12.trans (hb13.mono hB12.size)
          clear bT12 bY12 bD12 bE12 hB12
          clear HTV12
          have kT0 := bT13.cell 0 rfl
          have kT1 := bT13.cell 1 rfl
          have kT2 := bT13.cell 2 rfl
          have kT3 := bT13.cell 3 rfl
          have kT4 := bT13.cell 4 rfl
          have kT5 := bT13.cell 5 rfl
          have kT6 := bT13.cell 6 rfl
          have kT7 := bT13.cell 7 rfl
          have kT8 := bT13.cell 8 rfl
          have kT9 := bT13.cell 9 rfl
          have lT := bT13.lt
          have kY0 := bY13.cell 0 rfl
          have kY1 := bY13.cell 1 rfl
          have kY2 := bY13.cell 2 rfl
          have kY3 := bY13.cell 3 rfl
          have lY := bY13.lt
          have kD0 := bD13.cell 0 rfl
          have kD1 := bD13.cell 1 rfl
          have kD2 := bD13.cell 2 rfl
          have kD3 := bD13.cell 3 rfl
          have kD4 := bD13.cell 4 rfl
          have kD5 := bD13.cell 5 rfl
          have kD6 := bD13.cell 6 rfl
          have kD7 := bD13.cell 7 rfl
          have kD8 := bD13.cell 8 rfl
          have kD9 := bD13.cell 9 rfl
          have lD := bD13.lt
          have kE0 := bE13.cell 0 rfl
          have kE1 := bE13.cell 1 rfl
          have kE2 := bE13.cell 2 rfl
          have kE3 := bE13.cell 3 rfl
          have kE4 := bE13.cell 4 rfl
          have kE5 := bE13.cell 5 rfl
          have kE6 := bE13.cell 6 rfl
          have kE7 := bE13.cell 7 rfl
          have kE8 := bE13.cell 8 rfl
          have kE9 := bE13.cell 9 rfl
          have lE := bE13.lt
          go_wp2_with fail
          clear kT0 kT1 kT2 kT3 kT4 kT5 kT6 kT7 kT8 kT9 lT kY0 kY1 kY2 kY3 lY kD0 kD1 kD2 kD3 kD4 kD5 kD6 kD7 kD8 kD9 lD kE0 kE1 kE2 kE3 kE4 kE5 kE6 kE7 kE8 kE9 lE
          refine (HWK.out _).mono ?_
          rintro e w14 ⟨rfl, hb14⟩
          have bT14 := bT13.below hb14
          have bY14 := bY13.below hb14
          have bD14 := bD13.below hb14
          have bE14 := bE13.below hb14
          have hB14 := hB13.trans (hb14.mono hB13.size)
          clear bT13 bY13 bD13 bE13 hB13
          go_wp2_with fail
          go_returns
          exact ⟨rfl, hB14⟩
        have t0 : decide (0 ≤ tw) = true := decide_eq_true (by omega)
        by_cases ht1 : tw < (ts.length : Int)
        ·
          obtain ⟨tn, rfl⟩ : ∃ tn : Nat, tw = (tn : Int) := ⟨tw.toNat, by omega⟩
          have htn : tn < ts.length := by omega
          have t1 : decide ((tn : Int) < (ts.length : Int)) = true := decide_eq_true ht1
          have t1n : (tn : Int) < (ts.length : Int) := ht1
          have t00 := Int.natCast_nonneg tn
          obtain ⟨bt, ot, rfl, hbt, hct⟩ := HG.out (by omega)
          obtain ⟨A', c', x0, x1, hwk, hwl⟩ := hct tn _ (tst_at htn)
          have y0 := (hB11.cell (p := ⟨bt, _, none⟩) hbt).trans x0
          have y1 := (hB11.cell (p := ⟨bt, _, none⟩) hbt).trans x1
          clear hct x0 x1
          have HAL3 := Lib.hid (fun A' c' W => HAL2.out A' c' W tn htn)
          generalize Ti.tstAt ts tn = x at *
          obtain ⟨xa, xw⟩ := x
          dsimp only at *
          have hwk := Lib.hid hwk
          have hbz := hB11.size
          have lT := bT11.lt
          have lY := bY11.lt
          have lE := bE11.lt
          have kT9 := bT11.cell 9 rfl
          have kY0 := bY11.cell 0 rfl
          have kY1 := bY11.cell 1 rfl
          have hN2w : N2 ≤ w11.heap.size := by
            rcases hO2.out.2 with ⟨_, e⟩ | ⟨g, cap, cur, e, a2, a3, _⟩
            · omega
            · have := (Array.getElem?_eq_some_iff.1 a3).1; omega
          go_wp2_with fail
          have KC : Hid (∀ V', (Below N1 w11.drew V' ∧ BoxS V' B5 28 #[.int .i64 full, .int .i64 read, .int .i64 slip, .int .i64 skew, .int .i64 circ, .int .i64 glo, .int .i64 ghi, .int .i64 wrn, .int .i64 gain, .slice A2 ts.length c2]) → (V'.cell? ⟨w.heap.size, 9, none⟩ = some (.slice (some ⟨bt, ot, none⟩) ts.length c) ∧ V'.cell? ⟨w.heap.size + 1, 1, none⟩ = some (.int .i64 (tn : Int)) ∧ V'.cell? ⟨B5, 9, none⟩ = some (.slice A2 ts.length c2) ∧ V'.cell? ⟨bt, ot + tn * 2, none⟩ = some (.int .i64 xa) ∧ V'.cell? ⟨bt, ot + tn * 2 + 1, none⟩ = some (.slice A' xw.length c'))) := fun V' h =>
            have hk : ∀ (bb o : Nat) (u : Value), bb < N1 → w11.cell? ⟨bb, o, none⟩ = some u → V'.cell? ⟨bb, o, none⟩ = some u := fun bb o u h1 h2 => (h.1.cell (p := ⟨bb, o, none⟩) h1).trans h2
            ⟨hk _ _ _ (by omega) kT9, hk _ _ _ (by omega) kY1, h.2.cell 9 rfl, hk _ _ _ (by omega) y0, hk _ _ _ (by omega) y1⟩
          have q0 : Below N1 w11.drew w11.drew ∧ BoxS w11.drew B5 28 #[.int .i64 full, .int .i64 read, .int .i64 slip, .int .i64 skew, .int .i64 circ, .int .i64 glo, .int .i64 ghi, .int .i64 wrn, .int .i64 gain, .slice A2 ts.length c2] := ⟨Below.refl _ _, bE11.drew⟩
          refine (wpIn_wide (n := 4)).1 ?_
          refine wpIn_mono (Q := noPanic _) ?_ noPanic_le
          refine wpIn_region_held (fun V' => Below N1 w11.drew V' ∧ BoxS V' B5 28 #[.int .i64 full, .int .i64 read, .int .i64 slip, .int .i64 skew, .int .i64 circ, .int .i64 glo, .int .i64 ghi, .int .i64 wrn, .int .i64 gain, .slice A2 ts.length c2]) 11 hmo ?_
          refine wpHeldIn_take (i := 0) (v := ?_) (plain_of (by kernel_rfl)) rfl (by kernel_rfl) (fun _ _ _ h => h) (yieldsSoIn_of (by kernel_rfl) ?_ (fun _ => rfl)) q0 ?_; rotate_left; focus (intro wq hw; clear hw; go_simp; try (with_reducible rfl))
          refine wpHeldIn_take (i := 1) (v := ?_) (plain_of (by kernel_rfl)) rfl (by kernel_rfl) (fun _ _ _ h => h) (yieldsSoIn_of (by kernel_rfl) ?_ (fun _ => rfl)) q0 ?_; rotate_left; focus (intro wq hw; have kq := KC.out wq hw; clear hw; go_simp; try (with_reducible rfl))
          refine wpHeldIn_take (i := 2) (v := ?_) (plain_of (by kernel_rfl)) rfl (by kernel_rfl) (fun _ _ _ h => h) (yieldsSoIn_of (by kernel_rfl) ?_ (fun _ => rfl)) q0 ?_; rotate_left; focus (intro wq hw; clear hw; go_simp; try (with_reducible rfl))
          refine wpHeldIn_take (i := 3) (v := ?_) (plain_of (by kernel_rfl)) rfl (by kernel_rfl) (fun _ _ _ h => h) (yieldsSoIn_of (by kernel_rfl) ?_ (fun _ => rfl)) q0 ?_; rotate_left; focus (intro wq hw; have kq := KC.out wq hw; clear hw; go_simp; try (with_reducible rfl))
          refine wpHeldIn_take (i := 4) (v := ?_) (plain_of (by kernel_rfl)) rfl (by kernel_rfl) (fun _ _ _ h => h) (yieldsSoIn_of (by kernel_rfl) ?_ (fun _ => rfl)) q0 ?_; rotate_left; focus (intro wq hw; clear hw; go_simp; try (with_reducible rfl))
          refine wpHeldIn_take (i := 5) (v := ?_) (plain_of (by kernel_rfl)) rfl (by kernel_rfl) (fun _ _ _ h => h) (yieldsSoIn_of (by kernel_rfl) ?_ (fun _ => rfl)) q0 ?_; rotate_left; focus (intro wq hw; have kq := KC.out wq hw; clear hw; go_simp; try (with_reducible rfl))
          refine wpHeldIn_take (i := 6) (v := ?_) (plain_of (by kernel_rfl)) rfl (by kernel_rfl) (fun _ _ _ h => h) (yieldsSoIn_of (by kernel_rfl) ?_ (fun _ => rfl)) q0 ?_; rotate_left; focus (intro wq hw; clear hw; go_simp; try (with_reducible rfl))
          refine wpHeldIn_take (i := 7) (v := ?_) (plain_of (by kernel_rfl)) rfl (by kernel_rfl) (fun _ _ _ h => h) (yieldsSoIn_of (by kernel_rfl) ?_ (fun _ => rfl)) q0 ?_; rotate_left; focus (intro wq hw; have kq := KC.out wq hw; clear hw; go_simp; try (with_reducible rfl))
          refine wpHeldIn_one (i := 8) (by kernel_rfl) (by kernel_rfl) rfl (by kernel_rfl) (fun K1 hK1 => ?_)
          go_simp
          have hd : w11.drew.heap.size = w11.heap.size := rfl
          have bX : BoxS ((w11.alloc (.cells #[.int .i64 xa, .slice A' xw.length c'] 31)).drew) w11.heap.size 31 #[.int .i64 xa, .slice A' xw.length c'] := (BoxS.new w11 31 #[.int .i64 xa, .slice A' xw.length c']).drew
          have hN1w : N1 ≤ w11.heap.size := by omega
          have q1 : Below N1 w11.drew ((w11.alloc (.cells #[.int .i64 xa, .slice A' xw.length c'] 31)).drew) := (show Below N1 w11.drew (w11.drew.alloc (.cells #[.int .i64 xa, .slice A' xw.length c'] 31)) from (Below.refl _ _).alloc (by rw [hd]; exact hN1w) _)
          have hb1 : Below w11.heap.size w11 ((w11.alloc (.cells #[.int .i64 xa, .slice A' xw.length c'] 31)).drew) := ((Below.refl _ _).alloc (Nat.le_refl _) _).drew
          have cT1 := bT11.below hb1
          have cY1 := bY11.below hb1
          have cD1 := bD11.below hb1
          have cE1 := bE11.below hb1
          have hO1 := owns_below hO2.out hb1
          have hC1 := hC2.out.below hb1
          have hB1 := hB11.trans (hb1.mono hbz)
          refine hK1 _ _ ⟨q1, cE1⟩ ?_
          obtain ⟨BX, hBX⟩ : ∃ B, B = w11.heap.size := ⟨_, rfl⟩
          rw [← hBX] at bX
          have hsz1 := hb1.size
          have hNL : N2 ≤ ((w11.alloc (.cells #[.int .i64 xa, .slice A' xw.length c'] 31)).drew).heap.size := by have := hN2w; omega
          refine wpHeldIn_one (i := 9) (by kernel_rfl) (by kernel_rfl) rfl (by kernel_rfl) (fun K2 hK2 => ?_)
          refine wpIn_appT (.tmp 73) (.tmp 80) rfl N2 (.slice A2 ts.length c2) ts.length ys rfl hO1 BX xa A' xw.length c' (by rw [hBX]; rfl) bX (by omega) hNL ?_
          intro A3 c3 w2 k1 k2 _
          have hvl : ∀ g, Value.ownBlock (.slice A2 ts.length c2) = some g → N2 ≤ g := fun g hg => (World.ownsRow.lt hO1 g hg).1
          have dT2 := cT1.kept k2 (row_ne_box hO1 cT1 (by decide))
          have dY2 := cY1.kept k2 (row_ne_box hO1 cY1 (by decide))
          have dD2 := cD1.kept k2 (row_ne_box hO1 cD1 (by decide))
          have dE2 := cE1.kept k2 (row_ne_box hO1 cE1 (by decide))
          have q2 := q1.grown k2 (by omega) (fun g hg => by have := hvl g hg; omega)
          have hB2 := hB1.grown k2 (by omega) (fun g hg => by have := hvl g hg; omega)
          have s2 := And.intro q2 dE2
          refine hK2 _ _ s2 ?_
          refine wpHeldIn_take (i := 10) (v := ?_) (plain_of (by kernel_rfl)) rfl (by kernel_rfl) (fun _ _ _ h => h) (yieldsSoIn_of (by kernel_rfl) ?_ (fun _ => rfl)) s2 ?_; rotate_left; focus (intro wq hw; clear hw; go_simp; try (with_reducible rfl))
          have fr := dE2.frozen 9
          have fc := dE2.cell 9 rfl
          refine wpHeldIn_last (by kernel_rfl) rfl (by kernel_rfl) (fun K4 hK4 => ?_)
          go_simp
          have bE12 := dE2.put9 9 (.slice A3 (ts.length + 1) c3)
          have bT12 := dT2.away (B' := B5) (by omega) 9 (.slice A3 (ts.length + 1) c3)
          have bY12 := dY2.away (B' := B5) (by omega) 9 (.slice A3 (ts.length + 1) c3)
          have bD12 := dD2.away (B' := B5) h45 9 (.slice A3 (ts.length + 1) c3)
          have hB12 : Below w.heap.size w (w2.setCell ⟨B5, 9, none⟩ (.slice A3 (ts.length + 1) c3)) := hB2.setCell (by simp; omega) _
          have HTV12 : Hid (Tsts (w2.setCell ⟨B5, 9, none⟩ (.slice A3 (ts.length + 1) c3)) (w2.setCell ⟨B5, 9, none⟩ (.slice A3 (ts.length + 1) c3)).heap.size A3 (ts ++ [(xa, xw)])) := more_tsts (owns_set k1 dE2 (by decide) 9 _) ((hC1.row hO1 k2).set dE2 (by decide) 9 _) hwk.out hB12 hwl
          have HTU12 : Hid (Tsts (w2.setCell ⟨B5, 9, none⟩ (.slice A3 (ts.length + 1) c3)) (w2.setCell ⟨B5, 9, none⟩ (.slice A3 (ts.length + 1) c3)).heap.size A1 US) := (hTU.out.kept (W' := (w2.setCell ⟨B5, 9, none⟩ (.slice A3 (ts.length + 1) c3))) (fun i cur h1 h2 hb => (Below.heap_setCell _ _ _ i (boxS_ne hb bE11 (by decide))).trans ((k2.block i (by omega) (fun e => by have := hvl i e.symm; omega)).trans (hb1.block i h2)))).tsts hB12
          refine hK4 _ _ ?_
          clear dT2 dY2 dD2 dE2 k1 k2 q2 hB2 s2 fr fc cT1 cY1 cD1 cE1 hO1 hC1 hB1 bX q1 hb1 KC q0 hTU hC2 hO2 y0 y1 kT9 kY0 kY1 hsz1 hNL hvl
          clear bT11 bY11 bD11 bE11 hB11
          generalize World.setCell w2 _ _ = w12 at *
          refine wpHeldIn_done (by kernel_rfl) ?_ _
          go_simp
          refine noPanic_of ?_
          have kT0 := bT12.cell 0 rfl
          have kT1 := bT12.cell 1 rfl
          have kT2 := bT12.cell 2 rfl
          have kT3 := bT12.cell 3 rfl
          have kT4 := bT12.cell 4 rfl
          have kT5 := bT12.cell 5 rfl
          have kT6 := bT12.cell 6 rfl
          have kT7 := bT12.cell 7 rfl
          have kT8 := bT12.cell 8 rfl
          have kT9 := bT12.cell 9 rfl
          have lT := bT12.lt
          have kY0 := bY12.cell 0 rfl
          have kY1 := bY12.cell 1 rfl
          have kY2 := bY12.cell 2 rfl
          have kY3 := bY12.cell 3 rfl
          have lY := bY12.lt
          have kD0 := bD12.cell 0 rfl
          have kD1 := bD12.cell 1 rfl
          have kD2 := bD12.cell 2 rfl
          have kD3 := bD12.cell 3 rfl
          have kD4 := bD12.cell 4 rfl
          have kD5 := bD12.cell 5 rfl
          have kD6 := bD12.cell 6 rfl
          have kD7 := bD12.cell 7 rfl
          have kD8 := bD12.cell 8 rfl
          have kD9 := bD12.cell 9 rfl
          have lD := bD12.lt
          have kE0 := bE12.cell 0 rfl
          have kE1 := bE12.cell 1 rfl
          have kE2 := bE12.cell 2 rfl
          have kE3 := bE12.cell 3 rfl
          have kE4 := bE12.cell 4 rfl
          have kE5 := bE12.cell 5 rfl
          have kE6 := bE12.cell 6 rfl
          have kE7 := bE12.cell 7 rfl
          have kE8 := bE12.cell 8 rfl
          have kE9 := bE12.cell 9 rfl
          have lE := bE12.lt
          go_wp2_with fail
          clear kT0 kT1 kT2 kT3 kT4 kT5 kT6 kT7 kT8 kT9 lT kY0 kY1 kY2 kY3 lY kD0 kD1 kD2 kD3 kD4 kD5 kD6 kD7 kD8 kD9 lD kE0 kE1 kE2 kE3 kE4 kE5 kE6 kE7 kE8 kE9 lE
          refine (HAL1.out A1 c1 _ hB12 HTU12.out).mono ?_
          rintro e w13 ⟨rfl, hb13⟩
          have bT13 := bT12.below hb13
          have bY13 := bY12.below hb13
          have bD13 := bD12.below hb13
          have bE13 := bE12.below hb13
          have hB13 := hB12.trans (hb13.mono hB12.size)
          clear bT12 bY12 bD12 bE12 hB12
          have HTV13 := Lib.hid ((HTV12.out.keep hb13).wider hb13.size)
          clear HTV12
          clear HTU12
          have kT0 := bT13.cell 0 rfl
          have kT1 := bT13.cell 1 rfl
          have kT2 := bT13.cell 2 rfl
          have kT3 := bT13.cell 3 rfl
          have kT4 := bT13.cell 4 rfl
          have kT5 := bT13.cell 5 rfl
          have kT6 := bT13.cell 6 rfl
          have kT7 := bT13.cell 7 rfl
          have kT8 := bT13.cell 8 rfl
          have kT9 := bT13.cell 9 rfl
          have lT := bT13.lt
          have kY0 := bY13.cell 0 rfl
          have kY1 := bY13.cell 1 rfl
          have kY2 := bY13.cell 2 rfl
          have kY3 := bY13.cell 3 rfl
          have lY := bY13.lt
          have kD0 := bD13.cell 0 rfl
          have kD1 := bD13.cell 1 rfl
          have kD2 := bD13.cell 2 rfl
          have kD3 := bD13.cell 3 rfl
          have kD4 := bD13.cell 4 rfl
          have kD5 := bD13.cell 5 rfl
          have kD6 := bD13.cell 6 rfl
          have kD7 := bD13.cell 7 rfl
          have kD8 := bD13.cell 8 rfl
          have kD9 := bD13.cell 9 rfl
          have lD := bD13.lt
          have kE0 := bE13.cell 0 rfl
          have kE1 := bE13.cell 1 rfl
          have kE2 := bE13.cell 2 rfl
          have kE3 := bE13.cell 3 rfl
          have kE4 := bE13.cell 4 rfl
          have kE5 := bE13.cell 5 rfl
          have kE6 := bE13.cell 6 rfl
          have kE7 := bE13.cell 7 rfl
          have kE8 := bE13.cell 8 rfl
          have kE9 := bE13.cell 9 rfl
          have lE := bE13.lt
          go_wp2_with fail
          clear kT0 kT1 kT2 kT3 kT4 kT5 kT6 kT7 kT8 kT9 lT kY0 kY1 kY2 kY3 lY kD0 kD1 kD2 kD3 kD4 kD5 kD6 kD7 kD8 kD9 lD kE0 kE1 kE2 kE3 kE4 kE5 kE6 kE7 kE8 kE9 lE
          refine (HAL3.out A3 c3 _ hB13 HTV13.out).mono ?_
          rintro e w14 ⟨rfl, hb14⟩
          have bT14 := bT13.below hb14
          have bY14 := bY13.below hb14
          have bD14 := bD13.below hb14
          have bE14 := bE13.below hb14
          have hB14 := hB13.trans (hb14.mono hB13.size)
          clear bT13 bY13 bD13 bE13 hB13
          clear HTV13
          have kT0 := bT14.cell 0 rfl
          have kT1 := bT14.cell 1 rfl
          have kT2 := bT14.cell 2 rfl
          have kT3 := bT14.cell 3 rfl
          have kT4 := bT14.cell 4 rfl
          have kT5 := bT14.cell 5 rfl
          have kT6 := bT14.cell 6 rfl
          have kT7 := bT14.cell 7 rfl
          have kT8 := bT14.cell 8 rfl
          have kT9 := bT14.cell 9 rfl
          have lT := bT14.lt
          have kY0 := bY14.cell 0 rfl
          have kY1 := bY14.cell 1 rfl
          have kY2 := bY14.cell 2 rfl
          have kY3 := bY14.cell 3 rfl
          have lY := bY14.lt
          have kD0 := bD14.cell 0 rfl
          have kD1 := bD14.cell 1 rfl
          have kD2 := bD14.cell 2 rfl
          have kD3 := bD14.cell 3 rfl
          have kD4 := bD14.cell 4 rfl
          have kD5 := bD14.cell 5 rfl
          have kD6 := bD14.cell 6 rfl
          have kD7 := bD14.cell 7 rfl
          have kD8 := bD14.cell 8 rfl
          have kD9 := bD14.cell 9 rfl
          have lD := bD14.lt
          have kE0 := bE14.cell 0 rfl
          have kE1 := bE14.cell 1 rfl
          have kE2 := bE14.cell 2 rfl
          have kE3 := bE14.cell 3 rfl
          have kE4 := bE14.cell 4 rfl
          have kE5 := bE14.cell 5 rfl
          have kE6 := bE14.cell 6 rfl
          have kE7 := bE14.cell 7 rfl
          have kE8 := bE14.cell 8 rfl
          have kE9 := bE14.cell 9 rfl
          have lE := bE14.lt
          go_wp2_with fail
          clear kT0 kT1 kT2 kT3 kT4 kT5 kT6 kT7 kT8 kT9 lT kY0 kY1 kY2 kY3 lY kD0 kD1 kD2 kD3 kD4 kD5 kD6 kD7 kD8 kD9 lD kE0 kE1 kE2 kE3 kE4 kE5 kE6 kE7 kE8 kE9 lE
          refine (HWK.out _).mono ?_
          rintro e w15 ⟨rfl, hb15⟩
          have bT15 := bT14.below hb15
          have bY15 := bY14.below hb15
          have bD15 := bD14.below hb15
          have bE15 := bE14.below hb15
          have hB15 := hB14.trans (hb15.mono hB14.size)
          clear bT14 bY14 bD14 bE14 hB14
          go_wp2_with fail
          go_returns
          exact ⟨rfl, hB15⟩
        have t1 : decide (tw < (ts.length : Int)) = false := decide_eq_false ht1
        have HTU11 : Hid (Tsts w11 w11.heap.size A1 US) := hTU.out.tsts hB11
        have HTV11 : Hid (Tsts w11 w11.heap.size A2 ts) := hC2.out.tsts hO2.out
        clear hTU hC2 hO2
        have kT0 := bT11.cell 0 rfl
        have kT1 := bT11.cell 1 rfl
        have kT2 := bT11.cell 2 rfl
        have kT3 := bT11.cell 3 rfl
        have kT4 := bT11.cell 4 rfl
        have kT5 := bT11.cell 5 rfl
        have kT6 := bT11.cell 6 rfl
        have kT7 := bT11.cell 7 rfl
        have kT8 := bT11.cell 8 rfl
        have kT9 := bT11.cell 9 rfl
        have lT := bT11.lt
        have kY0 := bY11.cell 0 rfl
        have kY1 := bY11.cell 1 rfl
        have kY2 := bY11.cell 2 rfl
        have kY3 := bY11.cell 3 rfl
        have lY := bY11.lt
        have kD0 := bD11.cell 0 rfl
        have kD1 := bD11.cell 1 rfl
        have kD2 := bD11.cell 2 rfl
        have kD3 := bD11.cell 3 rfl
        have kD4 := bD11.cell 4 rfl
        have kD5 := bD11.cell 5 rfl
        have kD6 := bD11.cell 6 rfl
        have kD7 := bD11.cell 7 rfl
        have kD8 := bD11.cell 8 rfl
        have kD9 := bD11.cell 9 rfl
        have lD := bD11.lt
        have kE0 := bE11.cell 0 rfl
        have kE1 := bE11.cell 1 rfl
        have kE2 := bE11.cell 2 rfl
        have kE3 := bE11.cell 3 rfl
        have kE4 := bE11.cell 4 rfl
        have kE5 := bE11.cell 5 rfl
        have kE6 := bE11.cell 6 rfl
        have kE7 := bE11.cell 7 rfl
        have kE8 := bE11.cell 8 rfl
        have kE9 := bE11.cell 9 rfl
        have lE := bE11.lt
        go_wp2_with fail
        clear kT0 kT1 kT2 kT3 kT4 kT5 kT6 kT7 kT8 kT9 lT kY0 kY1 kY2 kY3 lY kD0 kD1 kD2 kD3 kD4 kD5 kD6 kD7 kD8 kD9 lD kE0 kE1 kE2 kE3 kE4 kE5 kE6 kE7 kE8 kE9 lE
        refine (HAL1.out A1 c1 _ hB11 HTU11.out).mono ?_
        rintro e w12 ⟨rfl, hb12⟩
        have bT12 := bT11.below hb12
        have bY12 := bY11.below hb12
        have bD12 := bD11.below hb12
        have bE12 := bE11.below hb12
        have hB12 := hB11.trans (hb12.mono hB11.size)
        clear bT11 bY11 bD11 bE11 hB11
        have HTV12 := Lib.hid ((HTV11.out.keep hb12).wider hb12.size)
        clear HTV11
        clear HTU11
        have kT0 := bT12.cell 0 rfl
        have kT1 := bT12.cell 1 rfl
        have kT2 := bT12.cell 2 rfl
        have kT3 := bT12.cell 3 rfl
        have kT4 := bT12.cell 4 rfl
        have kT5 := bT12.cell 5 rfl
        have kT6 := bT12.cell 6 rfl
        have kT7 := bT12.cell 7 rfl
        have kT8 := bT12.cell 8 rfl
        have kT9 := bT12.cell 9 rfl
        have lT := bT12.lt
        have kY0 := bY12.cell 0 rfl
        have kY1 := bY12.cell 1 rfl
        have kY2 := bY12.cell 2 rfl
        have kY3 := bY12.cell 3 rfl
        have lY := bY12.lt
        have kD0 := bD12.cell 0 rfl
        have kD1 := bD12.cell 1 rfl
        have kD2 := bD12.cell 2 rfl
        have kD3 := bD12.cell 3 rfl
        have kD4 := bD12.cell 4 rfl
        have kD5 := bD12.cell 5 rfl
        have kD6 := bD12.cell 6 rfl
        have kD7 := bD12.cell 7 rfl
        have kD8 := bD12.cell 8 rfl
        have kD9 := bD12.cell 9 rfl
        have lD := bD12.lt
        have kE0 := bE12.cell 0 rfl
        have kE1 := bE12.cell 1 rfl
        have kE2 := bE12.cell 2 rfl
        have kE3 := bE12.cell 3 rfl
        have kE4 := bE12.cell 4 rfl
        have kE5 := bE12.cell 5 rfl
        have kE6 := bE12.cell 6 rfl
        have kE7 := bE12.cell 7 rfl
        have kE8 := bE12.cell 8 rfl
        have kE9 := bE12.cell 9 rfl
        have lE := bE12.lt
        go_wp2_with fail
        clear kT0 kT1 kT2 kT3 kT4 kT5 kT6 kT7 kT8 kT9 lT kY0 kY1 kY2 kY3 lY kD0 kD1 kD2 kD3 kD4 kD5 kD6 kD7 kD8 kD9 lD kE0 kE1 kE2 kE3 kE4 kE5 kE6 kE7 kE8 kE9 lE
        refine (HAL0.out A2 c2 _ hB12 HTV12.out).mono ?_
        rintro e w13 ⟨rfl, hb13⟩
        have bT13 := bT12.below hb13
        have bY13 := bY12.below hb13
        have bD13 := bD12.below hb13
        have bE13 := bE12.below hb13
        have hB13 := hB12.trans (hb13.mono hB12.size)
        clear bT12 bY12 bD12 bE12 hB12
        clear HTV12
        have kT0 := bT13.cell 0 rfl
        have kT1 := bT13.cell 1 rfl
        have kT2 := bT13.cell 2 rfl
        have kT3 := bT13.cell 3 rfl
        have kT4 := bT13.cell 4 rfl
        have kT5 := bT13.cell 5 rfl
        have kT6 := bT13.cell 6 rfl
        have kT7 := bT13.cell 7 rfl
        have kT8 := bT13.cell 8 rfl
        have kT9 := bT13.cell 9 rfl
        have lT := bT13.lt
        have kY0 := bY13.cell 0 rfl
        have kY1 := bY13.cell 1 rfl
        have kY2 := bY13.cell 2 rfl
        have kY3 := bY13.cell 3 rfl
        have lY := bY13.lt
        have kD0 := bD13.cell 0 rfl
        have kD1 := bD13.cell 1 rfl
        have kD2 := bD13.cell 2 rfl
        have kD3 := bD13.cell 3 rfl
        have kD4 := bD13.cell 4 rfl
        have kD5 := bD13.cell 5 rfl
        have kD6 := bD13.cell 6 rfl
        have kD7 := bD13.cell 7 rfl
        have kD8 := bD13.cell 8 rfl
        have kD9 := bD13.cell 9 rfl
        have lD := bD13.lt
        have kE0 := bE13.cell 0 rfl
        have kE1 := bE13.cell 1 rfl
        have kE2 := bE13.cell 2 rfl
        have kE3 := bE13.cell 3 rfl
        have kE4 := bE13.cell 4 rfl
        have kE5 := bE13.cell 5 rfl
        have kE6 := bE13.cell 6 rfl
        have kE7 := bE13.cell 7 rfl
        have kE8 := bE13.cell 8 rfl
        have kE9 := bE13.cell 9 rfl
        have lE := bE13.lt
        go_wp2_with fail
        clear kT0 kT1 kT2 kT3 kT4 kT5 kT6 kT7 kT8 kT9 lT kY0 kY1 kY2 kY3 lY kD0 kD1 kD2 kD3 kD4 kD5 kD6 kD7 kD8 kD9 lD kE0 kE1 kE2 kE3 kE4 kE5 kE6 kE7 kE8 kE9 lE
        refine (HWK.out _).mono ?_
        rintro e w14 ⟨rfl, hb14⟩
        have bT14 := bT13.below hb14
        have bY14 := bY13.below hb14
        have bD14 := bD13.below hb14
        have bE14 := bE13.below hb14
        have hB14 := hB13.trans (hb14.mono hB13.size)
        clear bT13 bY13 bD13 bE13 hB13
        go_wp2_with fail
        go_returns
        exact ⟨rfl, hB14⟩
end Go.Proofs.Ytkmacpkjobdffaa
