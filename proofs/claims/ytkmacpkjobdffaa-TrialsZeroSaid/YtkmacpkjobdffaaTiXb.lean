/- Trials: two appends into two fields of one struct, in one region, whatever the order. -/
import Derived.Test.YtkmacpkjobdffaaTiXa
import Derived.Test.YtkmacpkjobdffaaAnyD
namespace Go.Proofs.Ytkmacpkjobdffaa
open Go.RowKit Go.Maps
section
variable {F : Fence} {n : Nat} {o : Oper} {a : Act} {K : Act → World → Prop} {Q : Exit → Act → World → Prop} {wr : World}
theorem wpIn_loadT (p : Nat) (ho : o.op = .load 26 (.tmp p)) (J i : Nat) (A : Option Addr) (m c : Nat) (hx : a.eval (.tmp p) = .pointer (some ⟨J, i, none⟩)) (hc : wr.cell? ⟨J, i, none⟩ = some (.slice A m c)) (h : K (a.put o.dst (.slice A m c)) wr) : o.wpIn F n Try.prog a wr K Q := by
  obtain ⟨dst, op, ty, pos, after, guard⟩ := o
  dsimp only at ho h
  subst ho
  refine ⟨fun f hf => ?_, ?_⟩
  · cases hf
  · rw [Oper.semAt_eq _ _ _ (fun c hc => by cases hc)]
    unfold execOp
    simp only [hx]
    go_simp
    exact h
theorem wpIn_storeT (p q : Nat) (ho : o.op = .store 26 (.tmp p) (.tmp q)) (hd : o.dst = none) (J i : Nat) (A : Option Addr) (m c : Nat) (u : Value) (hx : a.eval (.tmp p) = .pointer (some ⟨J, i, none⟩)) (hy : a.eval (.tmp q) = .slice A m c) (hc : wr.cell? ⟨J, i, none⟩ = some u) (hf : wr.frozen? ⟨J, i, none⟩ = false) (h : K a (wr.setCell ⟨J, i, none⟩ (.slice A m c))) : o.wpIn F n Try.prog a wr K Q := by
  obtain ⟨dst, op, ty, pos, after, guard⟩ := o
  dsimp only at ho h hd
  subst ho hd
  refine ⟨fun f hf => ?_, ?_⟩
  · cases hf
  · rw [Oper.semAt_eq _ _ _ (fun c hc => by cases hc)]
    unfold execOp
    simp only [hx, hy]
    go_simp
    exact h
theorem wpIn_loadM (p : Nat) (ho : o.op = .load 71 (.tmp p)) (J i : Nat) (A : Option Addr) (m c : Nat) (hx : a.eval (.tmp p) = .pointer (some ⟨J, i, none⟩)) (hc : wr.cell? ⟨J, i, none⟩ = some (.slice A m c)) (h : K (a.put o.dst (.slice A m c)) wr) : o.wpIn F n Try.prog a wr K Q := by
  obtain ⟨dst, op, ty, pos, after, guard⟩ := o
  dsimp only at ho h
  subst ho
  refine ⟨fun f hf => ?_, ?_⟩
  · cases hf
  · rw [Oper.semAt_eq _ _ _ (fun c hc => by cases hc)]
    unfold execOp
    simp only [hx]
    go_simp
    exact h
theorem wpIn_storeM (p q : Nat) (ho : o.op = .store 71 (.tmp p) (.tmp q)) (hd : o.dst = none) (J i : Nat) (A : Option Addr) (m c : Nat) (u : Value) (hx : a.eval (.tmp p) = .pointer (some ⟨J, i, none⟩)) (hy : a.eval (.tmp q) = .slice A m c) (hc : wr.cell? ⟨J, i, none⟩ = some u) (hf : wr.frozen? ⟨J, i, none⟩ = false) (h : K a (wr.setCell ⟨J, i, none⟩ (.slice A m c))) : o.wpIn F n Try.prog a wr K Q := by
  obtain ⟨dst, op, ty, pos, after, guard⟩ := o
  dsimp only at ho h hd
  subst ho hd
  refine ⟨fun f hf => ?_, ?_⟩
  · cases hf
  · rw [Oper.semAt_eq _ _ _ (fun c hc => by cases hc)]
    unfold execOp
    simp only [hx, hy]
    go_simp
    exact h
theorem wpIn_fld0 (ho : o.op = .fieldAddr 73 (.tmp 5) 0) (J : Nat) (hx : a.eval (.tmp 5) = .pointer (some ⟨J, 0, none⟩)) (h : K (a.put o.dst (.pointer (some ⟨J, 0, none⟩))) wr) : o.wpIn F n Try.prog a wr K Q := by
  obtain ⟨dst, op, ty, pos, after, guard⟩ := o
  dsimp only at ho h
  subst ho
  refine ⟨fun f hf => ?_, ?_⟩
  · cases hf
  · rw [Oper.semAt_eq _ _ _ (fun c hc => by cases hc)]
    unfold execOp
    simp only [hx]
    go_simp
    exact h
theorem wpIn_fld1 (ho : o.op = .fieldAddr 28 (.tmp 39) 2) (J : Nat) (hx : a.eval (.tmp 39) = .pointer (some ⟨J, 0, none⟩)) (h : K (a.put o.dst (.pointer (some ⟨J, 9, none⟩))) wr) : o.wpIn F n Try.prog a wr K Q := by
  obtain ⟨dst, op, ty, pos, after, guard⟩ := o
  dsimp only at ho h
  subst ho
  refine ⟨fun f hf => ?_, ?_⟩
  · cases hf
  · rw [Oper.semAt_eq _ _ _ (fun c hc => by cases hc)]
    unfold execOp
    simp only [hx]
    go_simp
    exact h
theorem wpIn_fld2 (ho : o.op = .fieldAddr 73 (.tmp 5) 1) (J : Nat) (hx : a.eval (.tmp 5) = .pointer (some ⟨J, 0, none⟩)) (h : K (a.put o.dst (.pointer (some ⟨J, 10, none⟩))) wr) : o.wpIn F n Try.prog a wr K Q := by
  obtain ⟨dst, op, ty, pos, after, guard⟩ := o
  dsimp only at ho h
  subst ho
  refine ⟨fun f hf => ?_, ?_⟩
  · cases hf
  · rw [Oper.semAt_eq _ _ _ (fun c hc => by cases hc)]
    unfold execOp
    simp only [hx]
    go_simp
    exact h
end
theorem upd_eq (s : Nat → Bool) (j : Nat) : upd s j j = true := by simp [upd]
theorem upd_ne {s : Nat → Bool} {j k : Nat} (h : k ≠ j) : upd s j k = s k := by simp [upd, h]
/-- What holds after some of the operations. -/
def eightI (N0 J : Nat) (tf : TypeId) (vf : Value → Value → Array Value) (k : Nat) (AT0 : Option Addr) (cT0 : Nat) (AM0 : Option Addr) (cM0 : Nat) (xT xM : List Value) (xa : Int) (A' : Option Addr) (n' c' bk : Nat) (L : List Thing) (w0 : World) (a0 : Act) (s : Nat → Bool) (a' : Act) (w' : World) : Prop :=
  ∃ (AT AM : Option Addr) (cT cM B1 B3 : Nat), a' = (putIf (s 23) 41 (.pointer (some ⟨J, 10, none⟩)) (putIf (s 21) 40 (.pointer (some ⟨J, 9, none⟩)) (putIf (s 20) 39 (.pointer (some ⟨J, 0, none⟩)) (putIf (s 19) 38 (.slice AM (k + 1) cM) (putIf (s 18) 37 (.slice (some ⟨B3, 0, none⟩) 1 1) (putIf (s 10) 29 (.slice AT (k + 1) cT) (putIf (s 9) 28 (.slice (some ⟨B1, 0, none⟩) 1 1) (putIf (s 12) 31 (.slice AM0 k cM0) (putIf (s 2) 21 (.slice AT0 k cT0) a0))))))))) ∧ Below N0 w0 w' ∧ ((s 10 = true → s 9 = true ∧ s 2 = true) ∧ (s 19 = true → s 18 = true ∧ s 12 = true) ∧ (s 20 = true → s 10 = true) ∧ (s 21 = true → s 20 = true) ∧ (s 22 = true → s 21 = true) ∧ (s 23 = true → s 12 = true) ∧ (s 24 = true → s 19 = true ∧ s 23 = true)) ∧
    Has w' N0 (.box J tf (vf (if s 22 then .slice AT (k + 1) cT else .slice AT0 k cT0) (if s 24 then .slice AM (k + 1) cM else .slice AM0 k cM0)) :: rowIf (s 10) (.slice AT0 k cT0) (.slice AT (k + 1) cT) 31 2 k xT (xT ++ [.int .i64 xa, .slice A' n' c']) :: rowIf (s 19) (.slice AM0 k cM0) (.slice AM (k + 1) cM) 105 1 k xM (xM ++ [.map (some bk)]) :: boxIf (s 9) B1 31 #[.int .i64 xa, .slice A' n' c'] :: boxIf (s 18) B3 105 #[.map (some bk)] :: L)
section
variable {F : Fence} {n : Nat} {ops : Array Oper} {Q : Exit → Act → World → Prop} {md : Region.Mode} {S : World → Prop} {c : Nat}
theorem wpHeldIn_app8 {o1 o2 o3 o4 o5 o6 o7 o8 o9 o10 o11 : Oper} {pre done : Array Bool} {a0 : Act} {w0 : World} {N0 J : Nat} {tf : TypeId} {vf : Value → Value → Array Value} {fuel f0 : Nat} {k : Nat} {AT0 : Option Addr} {cT0 : Nat} {AM0 : Option Addr} {cM0 : Nat} {xT xM : List Value} {xa : Int} {A' : Option Addr} {n' c' bk : Nat} (hf : fuel = 11 + f0)
    (g1 : ops[2]? = some o1) (g2 : ops[12]? = some o2) (g3 : ops[9]? = some o3) (g4 : ops[10]? = some o4) (g5 : ops[18]? = some o5) (g6 : ops[19]? = some o6) (g7 : ops[22]? = some o7) (g8 : ops[24]? = some o8) (g9 : ops[20]? = some o9) (g10 : ops[21]? = some o10) (g11 : ops[23]? = some o11)
    (e1 : o1.op = .load 26 (.tmp 20)) (e2 : o2.op = .load 71 (.tmp 30))
    (e3 : o3.op = .buildSlice 26 1 #[(0, .tmp 27)]) (e4 : o4.op = .call { callee := .builtin .append, args := #[.tmp 21, .tmp 28], argTypes := #[26, 26] })
    (e5 : o5.op = .buildSlice 71 1 #[(0, .tmp 36)]) (e6 : o6.op = .call { callee := .builtin .append, args := #[.tmp 31, .tmp 37], argTypes := #[71, 71] })
    (e7 : o7.op = .store 26 (.tmp 40) (.tmp 29)) (e8 : o8.op = .store 71 (.tmp 41) (.tmp 38))
    (e9 : o9.op = .fieldAddr 73 (.tmp 5) 0) (e10 : o10.op = .fieldAddr 28 (.tmp 39) 2) (e11 : o11.op = .fieldAddr 73 (.tmp 5) 1)
    (p1 : o1.dst = some 21) (p2 : o2.dst = some 31) (p3 : o3.dst = some 28) (p4 : o4.dst = some 29) (p5 : o5.dst = some 37) (p6 : o6.dst = some 38) (p7 : o7.dst = none) (p8 : o8.dst = none) (p9 : o9.dst = some 39) (p10 : o10.dst = some 40) (p11 : o11.dst = some 41)
    (hchk : anyD md ops c [2, 12, 9, 10, 18, 19, 20, 21, 22, 23, 24] [(2, 10), (9, 10), (12, 19), (18, 19), (10, 20), (12, 20), (20, 21), (21, 22), (10, 23), (12, 23), (23, 24), (19, 24)] pre = true) (hdone : marked pre [2, 12, 9, 10, 18, 19, 20, 21, 22, 23, 24] (fun _ => true) = done) (hpre : marked pre [2, 12, 9, 10, 18, 19, 20, 21, 22, 23, 24] (fun _ => false) = pre)
    (hsz : 41 < a0.tmps.size)
    (hx1 : a0.eval (.tmp 20) = .pointer (some ⟨J, 9, none⟩)) (hx2 : a0.eval (.tmp 30) = .pointer (some ⟨J, 10, none⟩)) (hx3 : a0.eval (.tmp 27) = .agg #[.int .i64 xa, .slice A' n' c']) (hx5 : a0.eval (.tmp 36) = .map (some bk)) (hx9 : a0.eval (.tmp 5) = .pointer (some ⟨J, 0, none⟩)) (hk : k ≤ 10000) (hN : N0 ≤ w0.heap.size)
    (hv9 : ∀ x y, (vf x y)[9]? = some x) (hv10 : ∀ x y, (vf x y)[10]? = some y) (hs9 : ∀ x y z, (vf x y).setIfInBounds 9 z = vf z y) (hs10 : ∀ x y z, (vf x y).setIfInBounds 10 z = vf x z)
    (L : List Thing) (hH : Has w0 N0 (.box J tf (vf (.slice AT0 k cT0) (.slice AM0 k cM0)) :: .row (.slice AT0 k cT0) 31 2 k xT :: .row (.slice AM0 k cM0) 105 1 k xM :: .no :: .no :: L))
    (hS : ∀ V, Below N0 w0 V → S V)
    (hend : ∀ v1 v3 AT cT AM cM T4 T5 w', Below N0 w0 w' → Has w' N0 (.box J tf (vf (.slice AT (k + 1) cT) (.slice AM (k + 1) cM)) :: .row (.slice AT (k + 1) cT) 31 2 (k + 1) (xT ++ [.int .i64 xa, .slice A' n' c']) :: .row (.slice AM (k + 1) cM) 105 1 (k + 1) (xM ++ [.map (some bk)]) :: T4 :: T5 :: L) →
      wpHeldIn F n Try.prog md ops Q S c f0 done ((((((((((((((((((a0).put (some 21) (.slice AT0 k cT0))).put (some 31) (.slice AM0 k cM0))).put (some 28) v1)).put (some 29) (.slice AT (k + 1) cT))).put (some 37) v3)).put (some 38) (.slice AM (k + 1) cM))).put (some 39) (.pointer (some ⟨J, 0, none⟩)))).put (some 40) (.pointer (some ⟨J, 9, none⟩)))).put (some 41) (.pointer (some ⟨J, 10, none⟩))) w') :
    wpHeldIn F n Try.prog md ops Q S c fuel pre a0 w0 := by
  refine wpHeldIn_anyD [2, 12, 9, 10, 18, 19, 20, 21, 22, 23, 24] [(2, 10), (9, 10), (12, 19), (18, 19), (10, 20), (12, 20), (20, 21), (21, 22), (10, 23), (12, 23), (23, 24), (19, 24)] (eightI N0 J tf vf k AT0 cT0 AM0 cM0 xT xM xa A' n' c' bk L w0) (f0 := f0) hf (by decide) hchk hdone hpre ?_ ?_ ?_
  · exact ⟨none, none, 0, 0, 0, 0, rfl, Below.refl _ _, ⟨fun h => (by cases h), fun h => (by cases h), fun h => (by cases h), fun h => (by cases h), fun h => (by cases h), fun h => (by cases h), fun h => (by cases h)⟩, hH⟩
  · intro j o hj ho s a w hI hsj hdep K hK
    obtain ⟨AT, AM, cT, cM, B1, B3, rfl, hB, ⟨h10, h19, h20, h21, h22, h23, h24⟩, hHw⟩ := hI
    have hNw : N0 ≤ w.heap.size := Nat.le_trans hN hB.size
    have hbJ : BoxS w J tf (vf (if s 22 then .slice AT (k + 1) cT else .slice AT0 k cT0) (if s 24 then .slice AM (k + 1) cM else .slice AM0 k cM0)) := (show Thing.In w N0 (.box J tf (vf (if s 22 then .slice AT (k + 1) cT else .slice AT0 k cT0) (if s 24 then .slice AM (k + 1) cM else .slice AM0 k cM0))) from hHw.get 0 rfl).1
    have hJl : N0 ≤ J := (show Thing.In w N0 (.box J tf (vf (if s 22 then .slice AT (k + 1) cT else .slice AT0 k cT0) (if s 24 then .slice AM (k + 1) cM else .slice AM0 k cM0))) from hHw.get 0 rfl).2
    have n10 : s 9 = false ∨ s 2 = false → s 10 = false := fun h => by
      cases h' : s 10
      · rfl
      · have := h10 h'; rcases h with h | h <;> simp [h] at this
    have n19 : s 18 = false ∨ s 12 = false → s 19 = false := fun h => by
      cases h' : s 19
      · rfl
      · have := h19 h'; rcases h with h | h <;> simp [h] at this
    have n20 : s 10 = false → s 20 = false := fun h => by
      cases h' : s 20
      · rfl
      · have := h20 h'; simp [h] at this
    have n21 : s 20 = false → s 21 = false := fun h => by
      cases h' : s 21
      · rfl
      · have := h21 h'; simp [h] at this
    have n22 : s 21 = false → s 22 = false := fun h => by
      cases h' : s 22
      · rfl
      · have := h22 h'; simp [h] at this
    have n23 : s 12 = false → s 23 = false := fun h => by
      cases h' : s 23
      · rfl
      · have := h23 h'; simp [h] at this
    have n24 : s 19 = false ∨ s 23 = false → s 24 = false := fun h => by
      cases h' : s 24
      · rfl
      · have := h24 h'; rcases h with h | h <;> simp [h] at this
    rcases (by simpa using hj : j = 2 ∨ j = 12 ∨ j = 9 ∨ j = 10 ∨ j = 18 ∨ j = 19 ∨ j = 20 ∨ j = 21 ∨ j = 22 ∨ j = 23 ∨ j = 24) with rfl | rfl | rfl | rfl | rfl | rfl | rfl | rfl | rfl | rfl | rfl
    · -- the tests
      rw [g1] at ho
      cases ho
      have s10 := n10 (.inr hsj)
      have s20 := n20 s10
      have s21 := n21 s20
      have s22 := n22 s21
      have s2 := hsj
      simp only [s22, s21, s20, s10, s2] at hbJ hHw ⊢
      refine wpIn_loadT 20 e1 J 9 AT0 k cT0 ?_ (hbJ.cell 9 (hv9 _ _)) ?_
      · show ((putIf (s 23) 41 (.pointer (some ⟨J, 10, none⟩)) (putIf (s 19) 38 (.slice AM (k + 1) cM) (putIf (s 18) 37 (.slice (some ⟨B3, 0, none⟩) 1 1) (putIf (s 9) 28 (.slice (some ⟨B1, 0, none⟩) 1 1) (putIf (s 12) 31 (.slice AM0 k cM0) a0)))))).eval (.tmp 20) = _
        rw [putIf_ne (by decide), putIf_ne (by decide), putIf_ne (by decide), putIf_ne (by decide), putIf_ne (by decide)]
        exact hx1
      rw [p1]
      clear hsj
      refine hK _ _ (hS _ hB) ⟨AT, AM, cT, cM, B1, B3, ?_, hB, ?_, ?_⟩
      · simp only [upd_eq, upd_ne (s := s) (j := 2) (k := 12) (by decide), upd_ne (s := s) (j := 2) (k := 9) (by decide), upd_ne (s := s) (j := 2) (k := 10) (by decide), upd_ne (s := s) (j := 2) (k := 18) (by decide), upd_ne (s := s) (j := 2) (k := 19) (by decide), upd_ne (s := s) (j := 2) (k := 20) (by decide), upd_ne (s := s) (j := 2) (k := 21) (by decide), upd_ne (s := s) (j := 2) (k := 22) (by decide), upd_ne (s := s) (j := 2) (k := 23) (by decide), upd_ne (s := s) (j := 2) (k := 24) (by decide), s10, s20, s21, s22]
        show ((putIf (s 23) 41 (.pointer (some ⟨J, 10, none⟩)) (putIf (s 19) 38 (.slice AM (k + 1) cM) (putIf (s 18) 37 (.slice (some ⟨B3, 0, none⟩) 1 1) (putIf (s 9) 28 (.slice (some ⟨B1, 0, none⟩) 1 1) (putIf (s 12) 31 (.slice AM0 k cM0) a0)))))).put (some 21) _ = (putIf (s 23) 41 (.pointer (some ⟨J, 10, none⟩)) (putIf (s 19) 38 (.slice AM (k + 1) cM) (putIf (s 18) 37 (.slice (some ⟨B3, 0, none⟩) 1 1) (putIf (s 9) 28 (.slice (some ⟨B1, 0, none⟩) 1 1) (putIf (s 12) 31 (.slice AM0 k cM0) ((a0).put (some 21) (.slice AT0 k cT0)))))))
        rw [putIf_put (by decide), putIf_put (by decide), putIf_put (by decide), putIf_put (by decide), putIf_put (by decide)]
      · simp only [upd_eq, upd_ne (s := s) (j := 2) (k := 12) (by decide), upd_ne (s := s) (j := 2) (k := 9) (by decide), upd_ne (s := s) (j := 2) (k := 10) (by decide), upd_ne (s := s) (j := 2) (k := 18) (by decide), upd_ne (s := s) (j := 2) (k := 19) (by decide), upd_ne (s := s) (j := 2) (k := 20) (by decide), upd_ne (s := s) (j := 2) (k := 21) (by decide), upd_ne (s := s) (j := 2) (k := 22) (by decide), upd_ne (s := s) (j := 2) (k := 23) (by decide), upd_ne (s := s) (j := 2) (k := 24) (by decide), s10, s20, s21, s22]
        refine ⟨?_, ?_, ?_, ?_, ?_, ?_, ?_⟩ <;> first | exact fun h => (by simp at h) | exact h10 | exact h19 | exact h20 | exact h21 | exact h22 | exact h23 | exact h24 | exact fun _ => trivial | exact fun _ => ⟨trivial, trivial⟩ | (simp; done) | (intro h; have g10 := h10; have g19 := h19; have g20 := h20; have g21 := h21; have g22 := h22; have g23 := h23; have g24 := h24; simp_all; done)
      · simpa [upd_eq, upd_ne (s := s) (j := 2) (k := 12) (by decide), upd_ne (s := s) (j := 2) (k := 9) (by decide), upd_ne (s := s) (j := 2) (k := 10) (by decide), upd_ne (s := s) (j := 2) (k := 18) (by decide), upd_ne (s := s) (j := 2) (k := 19) (by decide), upd_ne (s := s) (j := 2) (k := 20) (by decide), upd_ne (s := s) (j := 2) (k := 21) (by decide), upd_ne (s := s) (j := 2) (k := 22) (by decide), upd_ne (s := s) (j := 2) (k := 23) (by decide), upd_ne (s := s) (j := 2) (k := 24) (by decide), boxIf, rowIf, s10, s20, s21, s22] using hHw
    · -- the maps
      rw [g2] at ho
      cases ho
      have s19 := n19 (.inr hsj)
      have s23 := n23 hsj
      have s24 := n24 (.inl s19)
      have s12 := hsj
      simp only [s24, s23, s19, s12] at hbJ hHw ⊢
      refine wpIn_loadM 30 e2 J 10 AM0 k cM0 ?_ (hbJ.cell 10 (hv10 _ _)) ?_
      · show ((putIf (s 21) 40 (.pointer (some ⟨J, 9, none⟩)) (putIf (s 20) 39 (.pointer (some ⟨J, 0, none⟩)) (putIf (s 18) 37 (.slice (some ⟨B3, 0, none⟩) 1 1) (putIf (s 10) 29 (.slice AT (k + 1) cT) (putIf (s 9) 28 (.slice (some ⟨B1, 0, none⟩) 1 1) (putIf (s 2) 21 (.slice AT0 k cT0) a0))))))).eval (.tmp 30) = _
        rw [putIf_ne (by decide), putIf_ne (by decide), putIf_ne (by decide), putIf_ne (by decide), putIf_ne (by decide), putIf_ne (by decide)]
        exact hx2
      rw [p2]
      clear hsj
      refine hK _ _ (hS _ hB) ⟨AT, AM, cT, cM, B1, B3, ?_, hB, ?_, ?_⟩
      · simp only [upd_eq, upd_ne (s := s) (j := 12) (k := 2) (by decide), upd_ne (s := s) (j := 12) (k := 9) (by decide), upd_ne (s := s) (j := 12) (k := 10) (by decide), upd_ne (s := s) (j := 12) (k := 18) (by decide), upd_ne (s := s) (j := 12) (k := 19) (by decide), upd_ne (s := s) (j := 12) (k := 20) (by decide), upd_ne (s := s) (j := 12) (k := 21) (by decide), upd_ne (s := s) (j := 12) (k := 22) (by decide), upd_ne (s := s) (j := 12) (k := 23) (by decide), upd_ne (s := s) (j := 12) (k := 24) (by decide), s19, s23, s24]
        show ((putIf (s 21) 40 (.pointer (some ⟨J, 9, none⟩)) (putIf (s 20) 39 (.pointer (some ⟨J, 0, none⟩)) (putIf (s 18) 37 (.slice (some ⟨B3, 0, none⟩) 1 1) (putIf (s 10) 29 (.slice AT (k + 1) cT) (putIf (s 9) 28 (.slice (some ⟨B1, 0, none⟩) 1 1) (putIf (s 2) 21 (.slice AT0 k cT0) a0))))))).put (some 31) _ = (putIf (s 21) 40 (.pointer (some ⟨J, 9, none⟩)) (putIf (s 20) 39 (.pointer (some ⟨J, 0, none⟩)) (putIf (s 18) 37 (.slice (some ⟨B3, 0, none⟩) 1 1) (putIf (s 10) 29 (.slice AT (k + 1) cT) (putIf (s 9) 28 (.slice (some ⟨B1, 0, none⟩) 1 1) (((putIf (s 2) 21 (.slice AT0 k cT0) a0)).put (some 31) (.slice AM0 k cM0)))))))
        rw [putIf_put (by decide), putIf_put (by decide), putIf_put (by decide), putIf_put (by decide), putIf_put (by decide)]
      · simp only [upd_eq, upd_ne (s := s) (j := 12) (k := 2) (by decide), upd_ne (s := s) (j := 12) (k := 9) (by decide), upd_ne (s := s) (j := 12) (k := 10) (by decide), upd_ne (s := s) (j := 12) (k := 18) (by decide), upd_ne (s := s) (j := 12) (k := 19) (by decide), upd_ne (s := s) (j := 12) (k := 20) (by decide), upd_ne (s := s) (j := 12) (k := 21) (by decide), upd_ne (s := s) (j := 12) (k := 22) (by decide), upd_ne (s := s) (j := 12) (k := 23) (by decide), upd_ne (s := s) (j := 12) (k := 24) (by decide), s19, s23, s24]
        refine ⟨?_, ?_, ?_, ?_, ?_, ?_, ?_⟩ <;> first | exact fun h => (by simp at h) | exact h10 | exact h19 | exact h20 | exact h21 | exact h22 | exact h23 | exact h24 | exact fun _ => trivial | exact fun _ => ⟨trivial, trivial⟩ | (simp; done) | (intro h; have g10 := h10; have g19 := h19; have g20 := h20; have g21 := h21; have g22 := h22; have g23 := h23; have g24 := h24; simp_all; done)
      · simpa [upd_eq, upd_ne (s := s) (j := 12) (k := 2) (by decide), upd_ne (s := s) (j := 12) (k := 9) (by decide), upd_ne (s := s) (j := 12) (k := 10) (by decide), upd_ne (s := s) (j := 12) (k := 18) (by decide), upd_ne (s := s) (j := 12) (k := 19) (by decide), upd_ne (s := s) (j := 12) (k := 20) (by decide), upd_ne (s := s) (j := 12) (k := 21) (by decide), upd_ne (s := s) (j := 12) (k := 22) (by decide), upd_ne (s := s) (j := 12) (k := 23) (by decide), upd_ne (s := s) (j := 12) (k := 24) (by decide), boxIf, rowIf, s19, s23, s24] using hHw
    · -- the slice of one test
      rw [g3] at ho
      cases ho
      have s10 := n10 (.inl hsj)
      have s20 := n20 s10
      have s21 := n21 s20
      have s22 := n22 s21
      have s9 := hsj
      simp only [s22, s21, s20, s10, s9] at hbJ hHw ⊢
      refine wpIn_buildT (.tmp 27) e3 xa A' n' c' ?_ (hK _ _ (hS _ (hB.alloc hNw _)) ?_)
      · show ((putIf (s 23) 41 (.pointer (some ⟨J, 10, none⟩)) (putIf (s 19) 38 (.slice AM (k + 1) cM) (putIf (s 18) 37 (.slice (some ⟨B3, 0, none⟩) 1 1) (putIf (s 12) 31 (.slice AM0 k cM0) (putIf (s 2) 21 (.slice AT0 k cT0) a0)))))).eval (.tmp 27) = _
        rw [putIf_ne (by decide), putIf_ne (by decide), putIf_ne (by decide), putIf_ne (by decide), putIf_ne (by decide)]
        exact hx3
      rw [p3]
      clear hsj
      have hfr := hHw.fresh 3 (by simp [boxIf]) (w' := w.alloc (.cells #[.int .i64 xa, .slice A' n' c'] 31)) (n := w.heap.size) ((Below.refl _ _).alloc (Nat.le_refl _) _) (Nat.le_refl _) (T' := .box w.heap.size 31 #[.int .i64 xa, .slice A' n' c']) ⟨BoxS.new w _ _, Nat.le_refl _⟩ hNw
      refine ⟨AT, AM, cT, cM, w.heap.size, B3, ?_, hB.alloc hNw _, ?_, ?_⟩
      · simp only [upd_eq, upd_ne (s := s) (j := 9) (k := 2) (by decide), upd_ne (s := s) (j := 9) (k := 12) (by decide), upd_ne (s := s) (j := 9) (k := 10) (by decide), upd_ne (s := s) (j := 9) (k := 18) (by decide), upd_ne (s := s) (j := 9) (k := 19) (by decide), upd_ne (s := s) (j := 9) (k := 20) (by decide), upd_ne (s := s) (j := 9) (k := 21) (by decide), upd_ne (s := s) (j := 9) (k := 22) (by decide), upd_ne (s := s) (j := 9) (k := 23) (by decide), upd_ne (s := s) (j := 9) (k := 24) (by decide), s10, s20, s21, s22]
        show ((putIf (s 23) 41 (.pointer (some ⟨J, 10, none⟩)) (putIf (s 19) 38 (.slice AM (k + 1) cM) (putIf (s 18) 37 (.slice (some ⟨B3, 0, none⟩) 1 1) (putIf (s 12) 31 (.slice AM0 k cM0) (putIf (s 2) 21 (.slice AT0 k cT0) a0)))))).put (some 28) _ = (putIf (s 23) 41 (.pointer (some ⟨J, 10, none⟩)) (putIf (s 19) 38 (.slice AM (k + 1) cM) (putIf (s 18) 37 (.slice (some ⟨B3, 0, none⟩) 1 1) (((putIf (s 12) 31 (.slice AM0 k cM0) (putIf (s 2) 21 (.slice AT0 k cT0) a0))).put (some 28) (.slice (some ⟨w.heap.size, 0, none⟩) 1 1)))))
        rw [putIf_put (by decide), putIf_put (by decide), putIf_put (by decide)]
      · simp only [upd_eq, upd_ne (s := s) (j := 9) (k := 2) (by decide), upd_ne (s := s) (j := 9) (k := 12) (by decide), upd_ne (s := s) (j := 9) (k := 10) (by decide), upd_ne (s := s) (j := 9) (k := 18) (by decide), upd_ne (s := s) (j := 9) (k := 19) (by decide), upd_ne (s := s) (j := 9) (k := 20) (by decide), upd_ne (s := s) (j := 9) (k := 21) (by decide), upd_ne (s := s) (j := 9) (k := 22) (by decide), upd_ne (s := s) (j := 9) (k := 23) (by decide), upd_ne (s := s) (j := 9) (k := 24) (by decide), s10, s20, s21, s22]
        refine ⟨?_, ?_, ?_, ?_, ?_, ?_, ?_⟩ <;> first | exact fun h => (by simp at h) | exact h10 | exact h19 | exact h20 | exact h21 | exact h22 | exact h23 | exact h24 | exact fun _ => trivial | exact fun _ => ⟨trivial, trivial⟩ | (simp; done) | (intro h; have g10 := h10; have g19 := h19; have g20 := h20; have g21 := h21; have g22 := h22; have g23 := h23; have g24 := h24; simp_all; done)
      · simpa [upd_eq, upd_ne (s := s) (j := 9) (k := 2) (by decide), upd_ne (s := s) (j := 9) (k := 12) (by decide), upd_ne (s := s) (j := 9) (k := 10) (by decide), upd_ne (s := s) (j := 9) (k := 18) (by decide), upd_ne (s := s) (j := 9) (k := 19) (by decide), upd_ne (s := s) (j := 9) (k := 20) (by decide), upd_ne (s := s) (j := 9) (k := 21) (by decide), upd_ne (s := s) (j := 9) (k := 22) (by decide), upd_ne (s := s) (j := 9) (k := 23) (by decide), upd_ne (s := s) (j := 9) (k := 24) (by decide), boxIf, rowIf, s10, s20, s21, s22] using hfr
    · -- one more test
      rw [g4] at ho
      cases ho
      have s9 : s 9 = true := hdep 9 (by simp)
      have s2 : s 2 = true := hdep 2 (by simp)
      have s20 := n20 hsj
      have s21 := n21 s20
      have s22 := n22 s21
      have s10 := hsj
      simp only [s22, s21, s20, s9, s2, s10] at hbJ hHw ⊢
      have hrow : w.ownsRow N0 31 2 (.slice AT0 k cT0) k xT := hHw.get 1 rfl
      have hbx : BoxS w B1 31 #[.int .i64 xa, .slice A' n' c'] := (show Thing.In w N0 (.box B1 31 #[.int .i64 xa, .slice A' n' c']) from hHw.get 3 rfl).1
      refine wpIn_appT (.tmp 21) (.tmp 28) e4 N0 (.slice AT0 k cT0) k xT ?_ hrow B1 xa A' n' c' ?_ hbx hk hNw ?_
      · show ((putIf (s 23) 41 (.pointer (some ⟨J, 10, none⟩)) (putIf (s 19) 38 (.slice AM (k + 1) cM) (putIf (s 18) 37 (.slice (some ⟨B3, 0, none⟩) 1 1) (((putIf (s 12) 31 (.slice AM0 k cM0) ((a0).put (some 21) (.slice AT0 k cT0)))).put (some 28) (.slice (some ⟨B1, 0, none⟩) 1 1)))))).eval (.tmp 21) = _
        rw [putIf_ne (by decide), putIf_ne (by decide), putIf_ne (by decide), put_ne (by decide), putIf_ne (by decide), put_eq (by omega)]
      · show ((putIf (s 23) 41 (.pointer (some ⟨J, 10, none⟩)) (putIf (s 19) 38 (.slice AM (k + 1) cM) (putIf (s 18) 37 (.slice (some ⟨B3, 0, none⟩) 1 1) (((putIf (s 12) 31 (.slice AM0 k cM0) ((a0).put (some 21) (.slice AT0 k cT0)))).put (some 28) (.slice (some ⟨B1, 0, none⟩) 1 1)))))).eval (.tmp 28) = _
        rw [putIf_ne (by decide), putIf_ne (by decide), putIf_ne (by decide), put_eq (by rw [putIf_size, put_size]; omega)]
      intro A'' c'' w' h2 h3 h4
      have hB' : Below N0 w0 w' := hB.grown h3 hNw (fun j hj => (hrow.lt j hj).1)
      have hTin : Thing.In w' N0 (.row (.slice A'' (k + 1) c'') 31 2 (k + 1) (xT ++ [Value.int .i64 xa, Value.slice A' n' c'])) := h2
      have hH' := hHw.change 1 (T := .row (.slice AT0 k cT0) 31 2 k xT) rfl h3 (fun g h => h) hTin (fun g hg => by
        rcases h4 with h4 | h4
        · exact .inl (show Value.ownBlock (.slice AT0 k cT0) = some g from h4.symm.trans hg)
        · refine .inr ?_
          have e : Thing.blk (.row (.slice A'' (k + 1) c'') 31 2 (k + 1) (xT ++ [Value.int .i64 xa, Value.slice A' n' c'])) = some w.heap.size := h4
          rw [e] at hg
          injection hg with hg
          omega)
      rw [p4]
      clear hsj
      refine hK _ _ (hS _ hB') ⟨A'', AM, c'', cM, B1, B3, ?_, hB', ?_, ?_⟩
      · simp only [upd_eq, upd_ne (s := s) (j := 10) (k := 2) (by decide), upd_ne (s := s) (j := 10) (k := 12) (by decide), upd_ne (s := s) (j := 10) (k := 9) (by decide), upd_ne (s := s) (j := 10) (k := 18) (by decide), upd_ne (s := s) (j := 10) (k := 19) (by decide), upd_ne (s := s) (j := 10) (k := 20) (by decide), upd_ne (s := s) (j := 10) (k := 21) (by decide), upd_ne (s := s) (j := 10) (k := 22) (by decide), upd_ne (s := s) (j := 10) (k := 23) (by decide), upd_ne (s := s) (j := 10) (k := 24) (by decide), s20, s21, s22, s9, s2]
        show ((putIf (s 23) 41 (.pointer (some ⟨J, 10, none⟩)) (putIf (s 19) 38 (.slice AM (k + 1) cM) (putIf (s 18) 37 (.slice (some ⟨B3, 0, none⟩) 1 1) (((putIf (s 12) 31 (.slice AM0 k cM0) ((a0).put (some 21) (.slice AT0 k cT0)))).put (some 28) (.slice (some ⟨B1, 0, none⟩) 1 1)))))).put (some 29) _ = (putIf (s 23) 41 (.pointer (some ⟨J, 10, none⟩)) (putIf (s 19) 38 (.slice AM (k + 1) cM) (putIf (s 18) 37 (.slice (some ⟨B3, 0, none⟩) 1 1) (((((putIf (s 12) 31 (.slice AM0 k cM0) ((a0).put (some 21) (.slice AT0 k cT0)))).put (some 28) (.slice (some ⟨B1, 0, none⟩) 1 1))).put (some 29) (.slice A'' (k + 1) c'')))))
        rw [putIf_put (by decide), putIf_put (by decide), putIf_put (by decide)]
      · simp only [upd_eq, upd_ne (s := s) (j := 10) (k := 2) (by decide), upd_ne (s := s) (j := 10) (k := 12) (by decide), upd_ne (s := s) (j := 10) (k := 9) (by decide), upd_ne (s := s) (j := 10) (k := 18) (by decide), upd_ne (s := s) (j := 10) (k := 19) (by decide), upd_ne (s := s) (j := 10) (k := 20) (by decide), upd_ne (s := s) (j := 10) (k := 21) (by decide), upd_ne (s := s) (j := 10) (k := 22) (by decide), upd_ne (s := s) (j := 10) (k := 23) (by decide), upd_ne (s := s) (j := 10) (k := 24) (by decide), s20, s21, s22, s9, s2]
        refine ⟨?_, ?_, ?_, ?_, ?_, ?_, ?_⟩ <;> first | exact fun h => (by simp at h) | exact h10 | exact h19 | exact h20 | exact h21 | exact h22 | exact h23 | exact h24 | exact fun _ => trivial | exact fun _ => ⟨trivial, trivial⟩ | (simp; done) | (intro h; have g10 := h10; have g19 := h19; have g20 := h20; have g21 := h21; have g22 := h22; have g23 := h23; have g24 := h24; simp_all; done)
      · simpa [upd_eq, upd_ne (s := s) (j := 10) (k := 2) (by decide), upd_ne (s := s) (j := 10) (k := 12) (by decide), upd_ne (s := s) (j := 10) (k := 9) (by decide), upd_ne (s := s) (j := 10) (k := 18) (by decide), upd_ne (s := s) (j := 10) (k := 19) (by decide), upd_ne (s := s) (j := 10) (k := 20) (by decide), upd_ne (s := s) (j := 10) (k := 21) (by decide), upd_ne (s := s) (j := 10) (k := 22) (by decide), upd_ne (s := s) (j := 10) (k := 23) (by decide), upd_ne (s := s) (j := 10) (k := 24) (by decide), boxIf, rowIf, s20, s21, s22, s9, s2] using hH'
    · -- the slice of one map
      rw [g5] at ho
      cases ho
      have s19 := n19 (.inl hsj)
      have s24 := n24 (.inl s19)
      have s18 := hsj
      simp only [s24, s19, s18] at hbJ hHw ⊢
      refine wpIn_buildM (.tmp 36) e5 bk ?_ (hK _ _ (hS _ (hB.alloc hNw _)) ?_)
      · show ((putIf (s 23) 41 (.pointer (some ⟨J, 10, none⟩)) (putIf (s 21) 40 (.pointer (some ⟨J, 9, none⟩)) (putIf (s 20) 39 (.pointer (some ⟨J, 0, none⟩)) (putIf (s 10) 29 (.slice AT (k + 1) cT) (putIf (s 9) 28 (.slice (some ⟨B1, 0, none⟩) 1 1) (putIf (s 12) 31 (.slice AM0 k cM0) (putIf (s 2) 21 (.slice AT0 k cT0) a0)))))))).eval (.tmp 36) = _
        rw [putIf_ne (by decide), putIf_ne (by decide), putIf_ne (by decide), putIf_ne (by decide), putIf_ne (by decide), putIf_ne (by decide), putIf_ne (by decide)]
        exact hx5
      rw [p5]
      clear hsj
      have hfr := hHw.fresh 4 (by simp [boxIf]) (w' := w.alloc (.cells #[.map (some bk)] 105)) (n := w.heap.size) ((Below.refl _ _).alloc (Nat.le_refl _) _) (Nat.le_refl _) (T' := .box w.heap.size 105 #[.map (some bk)]) ⟨BoxS.new w _ _, Nat.le_refl _⟩ hNw
      refine ⟨AT, AM, cT, cM, B1, w.heap.size, ?_, hB.alloc hNw _, ?_, ?_⟩
      · simp only [upd_eq, upd_ne (s := s) (j := 18) (k := 2) (by decide), upd_ne (s := s) (j := 18) (k := 12) (by decide), upd_ne (s := s) (j := 18) (k := 9) (by decide), upd_ne (s := s) (j := 18) (k := 10) (by decide), upd_ne (s := s) (j := 18) (k := 19) (by decide), upd_ne (s := s) (j := 18) (k := 20) (by decide), upd_ne (s := s) (j := 18) (k := 21) (by decide), upd_ne (s := s) (j := 18) (k := 22) (by decide), upd_ne (s := s) (j := 18) (k := 23) (by decide), upd_ne (s := s) (j := 18) (k := 24) (by decide), s19, s24]
        show ((putIf (s 23) 41 (.pointer (some ⟨J, 10, none⟩)) (putIf (s 21) 40 (.pointer (some ⟨J, 9, none⟩)) (putIf (s 20) 39 (.pointer (some ⟨J, 0, none⟩)) (putIf (s 10) 29 (.slice AT (k + 1) cT) (putIf (s 9) 28 (.slice (some ⟨B1, 0, none⟩) 1 1) (putIf (s 12) 31 (.slice AM0 k cM0) (putIf (s 2) 21 (.slice AT0 k cT0) a0)))))))).put (some 37) _ = (putIf (s 23) 41 (.pointer (some ⟨J, 10, none⟩)) (putIf (s 21) 40 (.pointer (some ⟨J, 9, none⟩)) (putIf (s 20) 39 (.pointer (some ⟨J, 0, none⟩)) (((putIf (s 10) 29 (.slice AT (k + 1) cT) (putIf (s 9) 28 (.slice (some ⟨B1, 0, none⟩) 1 1) (putIf (s 12) 31 (.slice AM0 k cM0) (putIf (s 2) 21 (.slice AT0 k cT0) a0))))).put (some 37) (.slice (some ⟨w.heap.size, 0, none⟩) 1 1)))))
        rw [putIf_put (by decide), putIf_put (by decide), putIf_put (by decide)]
      · simp only [upd_eq, upd_ne (s := s) (j := 18) (k := 2) (by decide), upd_ne (s := s) (j := 18) (k := 12) (by decide), upd_ne (s := s) (j := 18) (k := 9) (by decide), upd_ne (s := s) (j := 18) (k := 10) (by decide), upd_ne (s := s) (j := 18) (k := 19) (by decide), upd_ne (s := s) (j := 18) (k := 20) (by decide), upd_ne (s := s) (j := 18) (k := 21) (by decide), upd_ne (s := s) (j := 18) (k := 22) (by decide), upd_ne (s := s) (j := 18) (k := 23) (by decide), upd_ne (s := s) (j := 18) (k := 24) (by decide), s19, s24]
        refine ⟨?_, ?_, ?_, ?_, ?_, ?_, ?_⟩ <;> first | exact fun h => (by simp at h) | exact h10 | exact h19 | exact h20 | exact h21 | exact h22 | exact h23 | exact h24 | exact fun _ => trivial | exact fun _ => ⟨trivial, trivial⟩ | (simp; done) | (intro h; have g10 := h10; have g19 := h19; have g20 := h20; have g21 := h21; have g22 := h22; have g23 := h23; have g24 := h24; simp_all; done)
      · simpa [upd_eq, upd_ne (s := s) (j := 18) (k := 2) (by decide), upd_ne (s := s) (j := 18) (k := 12) (by decide), upd_ne (s := s) (j := 18) (k := 9) (by decide), upd_ne (s := s) (j := 18) (k := 10) (by decide), upd_ne (s := s) (j := 18) (k := 19) (by decide), upd_ne (s := s) (j := 18) (k := 20) (by decide), upd_ne (s := s) (j := 18) (k := 21) (by decide), upd_ne (s := s) (j := 18) (k := 22) (by decide), upd_ne (s := s) (j := 18) (k := 23) (by decide), upd_ne (s := s) (j := 18) (k := 24) (by decide), boxIf, rowIf, s19, s24] using hfr
    · -- one more map
      rw [g6] at ho
      cases ho
      have s18 : s 18 = true := hdep 18 (by simp)
      have s12 : s 12 = true := hdep 12 (by simp)
      have s24 := n24 (.inl hsj)
      have s19 := hsj
      simp only [s24, s18, s12, s19] at hbJ hHw ⊢
      have hrow : w.ownsRow N0 105 1 (.slice AM0 k cM0) k xM := hHw.get 2 rfl
      have hbx : BoxS w B3 105 #[.map (some bk)] := (show Thing.In w N0 (.box B3 105 #[.map (some bk)]) from hHw.get 4 rfl).1
      refine wpIn_appM (.tmp 31) (.tmp 37) e6 N0 (.slice AM0 k cM0) k xM ?_ hrow B3 bk ?_ hbx hk hNw ?_
      · show ((putIf (s 23) 41 (.pointer (some ⟨J, 10, none⟩)) (putIf (s 21) 40 (.pointer (some ⟨J, 9, none⟩)) (putIf (s 20) 39 (.pointer (some ⟨J, 0, none⟩)) (((putIf (s 10) 29 (.slice AT (k + 1) cT) (putIf (s 9) 28 (.slice (some ⟨B1, 0, none⟩) 1 1) (((putIf (s 2) 21 (.slice AT0 k cT0) a0)).put (some 31) (.slice AM0 k cM0))))).put (some 37) (.slice (some ⟨B3, 0, none⟩) 1 1)))))).eval (.tmp 31) = _
        rw [putIf_ne (by decide), putIf_ne (by decide), putIf_ne (by decide), put_ne (by decide), putIf_ne (by decide), putIf_ne (by decide), put_eq (by rw [putIf_size]; omega)]
      · show ((putIf (s 23) 41 (.pointer (some ⟨J, 10, none⟩)) (putIf (s 21) 40 (.pointer (some ⟨J, 9, none⟩)) (putIf (s 20) 39 (.pointer (some ⟨J, 0, none⟩)) (((putIf (s 10) 29 (.slice AT (k + 1) cT) (putIf (s 9) 28 (.slice (some ⟨B1, 0, none⟩) 1 1) (((putIf (s 2) 21 (.slice AT0 k cT0) a0)).put (some 31) (.slice AM0 k cM0))))).put (some 37) (.slice (some ⟨B3, 0, none⟩) 1 1)))))).eval (.tmp 37) = _
        rw [putIf_ne (by decide), putIf_ne (by decide), putIf_ne (by decide), put_eq (by rw [putIf_size, putIf_size, put_size, putIf_size]; omega)]
      intro A'' c'' w' h2 h3 h4
      have hB' : Below N0 w0 w' := hB.grown h3 hNw (fun j hj => (hrow.lt j hj).1)
      have hTin : Thing.In w' N0 (.row (.slice A'' (k + 1) c'') 105 1 (k + 1) (xM ++ [Value.map (some bk)])) := h2
      have hH' := hHw.change 2 (T := .row (.slice AM0 k cM0) 105 1 k xM) rfl h3 (fun g h => h) hTin (fun g hg => by
        rcases h4 with h4 | h4
        · exact .inl (show Value.ownBlock (.slice AM0 k cM0) = some g from h4.symm.trans hg)
        · refine .inr ?_
          have e : Thing.blk (.row (.slice A'' (k + 1) c'') 105 1 (k + 1) (xM ++ [Value.map (some bk)])) = some w.heap.size := h4
          rw [e] at hg
          injection hg with hg
          omega)
      rw [p6]
      clear hsj
      refine hK _ _ (hS _ hB') ⟨AT, A'', cT, c'', B1, B3, ?_, hB', ?_, ?_⟩
      · simp only [upd_eq, upd_ne (s := s) (j := 19) (k := 2) (by decide), upd_ne (s := s) (j := 19) (k := 12) (by decide), upd_ne (s := s) (j := 19) (k := 9) (by decide), upd_ne (s := s) (j := 19) (k := 10) (by decide), upd_ne (s := s) (j := 19) (k := 18) (by decide), upd_ne (s := s) (j := 19) (k := 20) (by decide), upd_ne (s := s) (j := 19) (k := 21) (by decide), upd_ne (s := s) (j := 19) (k := 22) (by decide), upd_ne (s := s) (j := 19) (k := 23) (by decide), upd_ne (s := s) (j := 19) (k := 24) (by decide), s24, s18, s12]
        show ((putIf (s 23) 41 (.pointer (some ⟨J, 10, none⟩)) (putIf (s 21) 40 (.pointer (some ⟨J, 9, none⟩)) (putIf (s 20) 39 (.pointer (some ⟨J, 0, none⟩)) (((putIf (s 10) 29 (.slice AT (k + 1) cT) (putIf (s 9) 28 (.slice (some ⟨B1, 0, none⟩) 1 1) (((putIf (s 2) 21 (.slice AT0 k cT0) a0)).put (some 31) (.slice AM0 k cM0))))).put (some 37) (.slice (some ⟨B3, 0, none⟩) 1 1)))))).put (some 38) _ = (putIf (s 23) 41 (.pointer (some ⟨J, 10, none⟩)) (putIf (s 21) 40 (.pointer (some ⟨J, 9, none⟩)) (putIf (s 20) 39 (.pointer (some ⟨J, 0, none⟩)) (((((putIf (s 10) 29 (.slice AT (k + 1) cT) (putIf (s 9) 28 (.slice (some ⟨B1, 0, none⟩) 1 1) (((putIf (s 2) 21 (.slice AT0 k cT0) a0)).put (some 31) (.slice AM0 k cM0))))).put (some 37) (.slice (some ⟨B3, 0, none⟩) 1 1))).put (some 38) (.slice A'' (k + 1) c'')))))
        rw [putIf_put (by decide), putIf_put (by decide), putIf_put (by decide)]
      · simp only [upd_eq, upd_ne (s := s) (j := 19) (k := 2) (by decide), upd_ne (s := s) (j := 19) (k := 12) (by decide), upd_ne (s := s) (j := 19) (k := 9) (by decide), upd_ne (s := s) (j := 19) (k := 10) (by decide), upd_ne (s := s) (j := 19) (k := 18) (by decide), upd_ne (s := s) (j := 19) (k := 20) (by decide), upd_ne (s := s) (j := 19) (k := 21) (by decide), upd_ne (s := s) (j := 19) (k := 22) (by decide), upd_ne (s := s) (j := 19) (k := 23) (by decide), upd_ne (s := s) (j := 19) (k := 24) (by decide), s24, s18, s12]
        refine ⟨?_, ?_, ?_, ?_, ?_, ?_, ?_⟩ <;> first | exact fun h => (by simp at h) | exact h10 | exact h19 | exact h20 | exact h21 | exact h22 | exact h23 | exact h24 | exact fun _ => trivial | exact fun _ => ⟨trivial, trivial⟩ | (simp; done) | (intro h; have g10 := h10; have g19 := h19; have g20 := h20; have g21 := h21; have g22 := h22; have g23 := h23; have g24 := h24; simp_all; done)
      · simpa [upd_eq, upd_ne (s := s) (j := 19) (k := 2) (by decide), upd_ne (s := s) (j := 19) (k := 12) (by decide), upd_ne (s := s) (j := 19) (k := 9) (by decide), upd_ne (s := s) (j := 19) (k := 10) (by decide), upd_ne (s := s) (j := 19) (k := 18) (by decide), upd_ne (s := s) (j := 19) (k := 20) (by decide), upd_ne (s := s) (j := 19) (k := 21) (by decide), upd_ne (s := s) (j := 19) (k := 22) (by decide), upd_ne (s := s) (j := 19) (k := 23) (by decide), upd_ne (s := s) (j := 19) (k := 24) (by decide), boxIf, rowIf, s24, s18, s12] using hH'
    · -- the trial of the file
      rw [g9] at ho
      cases ho
      have s10 : s 10 = true := hdep 10 (by simp)
      have s21 := n21 hsj
      have s22 := n22 s21
      have s20 := hsj
      simp only [s22, s21, s10, s20] at hbJ hHw ⊢
      refine wpIn_fld0 e9 J ?_ ?_
      · show ((putIf (s 23) 41 (.pointer (some ⟨J, 10, none⟩)) (putIf (s 19) 38 (.slice AM (k + 1) cM) (putIf (s 18) 37 (.slice (some ⟨B3, 0, none⟩) 1 1) (((putIf (s 9) 28 (.slice (some ⟨B1, 0, none⟩) 1 1) (putIf (s 12) 31 (.slice AM0 k cM0) (putIf (s 2) 21 (.slice AT0 k cT0) a0)))).put (some 29) (.slice AT (k + 1) cT)))))).eval (.tmp 5) = _
        rw [putIf_ne (by decide), putIf_ne (by decide), putIf_ne (by decide), put_ne (by decide), putIf_ne (by decide), putIf_ne (by decide), putIf_ne (by decide)]
        exact hx9
      rw [p9]
      clear hsj
      refine hK _ _ (hS _ hB) ⟨AT, AM, cT, cM, B1, B3, ?_, hB, ?_, ?_⟩
      · simp only [upd_eq, upd_ne (s := s) (j := 20) (k := 2) (by decide), upd_ne (s := s) (j := 20) (k := 12) (by decide), upd_ne (s := s) (j := 20) (k := 9) (by decide), upd_ne (s := s) (j := 20) (k := 10) (by decide), upd_ne (s := s) (j := 20) (k := 18) (by decide), upd_ne (s := s) (j := 20) (k := 19) (by decide), upd_ne (s := s) (j := 20) (k := 21) (by decide), upd_ne (s := s) (j := 20) (k := 22) (by decide), upd_ne (s := s) (j := 20) (k := 23) (by decide), upd_ne (s := s) (j := 20) (k := 24) (by decide), s21, s22, s10]
        show ((putIf (s 23) 41 (.pointer (some ⟨J, 10, none⟩)) (putIf (s 19) 38 (.slice AM (k + 1) cM) (putIf (s 18) 37 (.slice (some ⟨B3, 0, none⟩) 1 1) (((putIf (s 9) 28 (.slice (some ⟨B1, 0, none⟩) 1 1) (putIf (s 12) 31 (.slice AM0 k cM0) (putIf (s 2) 21 (.slice AT0 k cT0) a0)))).put (some 29) (.slice AT (k + 1) cT)))))).put (some 39) _ = (putIf (s 23) 41 (.pointer (some ⟨J, 10, none⟩)) (((putIf (s 19) 38 (.slice AM (k + 1) cM) (putIf (s 18) 37 (.slice (some ⟨B3, 0, none⟩) 1 1) (((putIf (s 9) 28 (.slice (some ⟨B1, 0, none⟩) 1 1) (putIf (s 12) 31 (.slice AM0 k cM0) (putIf (s 2) 21 (.slice AT0 k cT0) a0)))).put (some 29) (.slice AT (k + 1) cT))))).put (some 39) (.pointer (some ⟨J, 0, none⟩))))
        rw [putIf_put (by decide)]
      · simp only [upd_eq, upd_ne (s := s) (j := 20) (k := 2) (by decide), upd_ne (s := s) (j := 20) (k := 12) (by decide), upd_ne (s := s) (j := 20) (k := 9) (by decide), upd_ne (s := s) (j := 20) (k := 10) (by decide), upd_ne (s := s) (j := 20) (k := 18) (by decide), upd_ne (s := s) (j := 20) (k := 19) (by decide), upd_ne (s := s) (j := 20) (k := 21) (by decide), upd_ne (s := s) (j := 20) (k := 22) (by decide), upd_ne (s := s) (j := 20) (k := 23) (by decide), upd_ne (s := s) (j := 20) (k := 24) (by decide), s21, s22, s10]
        refine ⟨?_, ?_, ?_, ?_, ?_, ?_, ?_⟩ <;> first | exact fun h => (by simp at h) | exact h10 | exact h19 | exact h20 | exact h21 | exact h22 | exact h23 | exact h24 | exact fun _ => trivial | exact fun _ => ⟨trivial, trivial⟩ | (simp; done) | (intro h; have g10 := h10; have g19 := h19; have g20 := h20; have g21 := h21; have g22 := h22; have g23 := h23; have g24 := h24; simp_all; done)
      · simpa [upd_eq, upd_ne (s := s) (j := 20) (k := 2) (by decide), upd_ne (s := s) (j := 20) (k := 12) (by decide), upd_ne (s := s) (j := 20) (k := 9) (by decide), upd_ne (s := s) (j := 20) (k := 10) (by decide), upd_ne (s := s) (j := 20) (k := 18) (by decide), upd_ne (s := s) (j := 20) (k := 19) (by decide), upd_ne (s := s) (j := 20) (k := 21) (by decide), upd_ne (s := s) (j := 20) (k := 22) (by decide), upd_ne (s := s) (j := 20) (k := 23) (by decide), upd_ne (s := s) (j := 20) (k := 24) (by decide), boxIf, rowIf, s21, s22, s10] using hHw
    · -- where its tests lie
      rw [g10] at ho
      cases ho
      have s20 : s 20 = true := hdep 20 (by simp)
      have s22 := n22 hsj
      have s21 := hsj
      simp only [s22, s20, s21] at hbJ hHw ⊢
      refine wpIn_fld1 e10 J ?_ ?_
      · show ((putIf (s 23) 41 (.pointer (some ⟨J, 10, none⟩)) (((putIf (s 19) 38 (.slice AM (k + 1) cM) (putIf (s 18) 37 (.slice (some ⟨B3, 0, none⟩) 1 1) (putIf (s 10) 29 (.slice AT (k + 1) cT) (putIf (s 9) 28 (.slice (some ⟨B1, 0, none⟩) 1 1) (putIf (s 12) 31 (.slice AM0 k cM0) (putIf (s 2) 21 (.slice AT0 k cT0) a0))))))).put (some 39) (.pointer (some ⟨J, 0, none⟩))))).eval (.tmp 39) = _
        rw [putIf_ne (by decide), put_eq (by rw [putIf_size, putIf_size, putIf_size, putIf_size, putIf_size, putIf_size]; omega)]
      rw [p10]
      clear hsj
      refine hK _ _ (hS _ hB) ⟨AT, AM, cT, cM, B1, B3, ?_, hB, ?_, ?_⟩
      · simp only [upd_eq, upd_ne (s := s) (j := 21) (k := 2) (by decide), upd_ne (s := s) (j := 21) (k := 12) (by decide), upd_ne (s := s) (j := 21) (k := 9) (by decide), upd_ne (s := s) (j := 21) (k := 10) (by decide), upd_ne (s := s) (j := 21) (k := 18) (by decide), upd_ne (s := s) (j := 21) (k := 19) (by decide), upd_ne (s := s) (j := 21) (k := 20) (by decide), upd_ne (s := s) (j := 21) (k := 22) (by decide), upd_ne (s := s) (j := 21) (k := 23) (by decide), upd_ne (s := s) (j := 21) (k := 24) (by decide), s22, s20]
        show ((putIf (s 23) 41 (.pointer (some ⟨J, 10, none⟩)) (((putIf (s 19) 38 (.slice AM (k + 1) cM) (putIf (s 18) 37 (.slice (some ⟨B3, 0, none⟩) 1 1) (putIf (s 10) 29 (.slice AT (k + 1) cT) (putIf (s 9) 28 (.slice (some ⟨B1, 0, none⟩) 1 1) (putIf (s 12) 31 (.slice AM0 k cM0) (putIf (s 2) 21 (.slice AT0 k cT0) a0))))))).put (some 39) (.pointer (some ⟨J, 0, none⟩))))).put (some 40) _ = (putIf (s 23) 41 (.pointer (some ⟨J, 10, none⟩)) (((((putIf (s 19) 38 (.slice AM (k + 1) cM) (putIf (s 18) 37 (.slice (some ⟨B3, 0, none⟩) 1 1) (putIf (s 10) 29 (.slice AT (k + 1) cT) (putIf (s 9) 28 (.slice (some ⟨B1, 0, none⟩) 1 1) (putIf (s 12) 31 (.slice AM0 k cM0) (putIf (s 2) 21 (.slice AT0 k cT0) a0))))))).put (some 39) (.pointer (some ⟨J, 0, none⟩)))).put (some 40) (.pointer (some ⟨J, 9, none⟩))))
        rw [putIf_put (by decide)]
      · simp only [upd_eq, upd_ne (s := s) (j := 21) (k := 2) (by decide), upd_ne (s := s) (j := 21) (k := 12) (by decide), upd_ne (s := s) (j := 21) (k := 9) (by decide), upd_ne (s := s) (j := 21) (k := 10) (by decide), upd_ne (s := s) (j := 21) (k := 18) (by decide), upd_ne (s := s) (j := 21) (k := 19) (by decide), upd_ne (s := s) (j := 21) (k := 20) (by decide), upd_ne (s := s) (j := 21) (k := 22) (by decide), upd_ne (s := s) (j := 21) (k := 23) (by decide), upd_ne (s := s) (j := 21) (k := 24) (by decide), s22, s20]
        refine ⟨?_, ?_, ?_, ?_, ?_, ?_, ?_⟩ <;> first | exact fun h => (by simp at h) | exact h10 | exact h19 | exact h20 | exact h21 | exact h22 | exact h23 | exact h24 | exact fun _ => trivial | exact fun _ => ⟨trivial, trivial⟩ | (simp; done) | (intro h; have g10 := h10; have g19 := h19; have g20 := h20; have g21 := h21; have g22 := h22; have g23 := h23; have g24 := h24; simp_all; done)
      · simpa [upd_eq, upd_ne (s := s) (j := 21) (k := 2) (by decide), upd_ne (s := s) (j := 21) (k := 12) (by decide), upd_ne (s := s) (j := 21) (k := 9) (by decide), upd_ne (s := s) (j := 21) (k := 10) (by decide), upd_ne (s := s) (j := 21) (k := 18) (by decide), upd_ne (s := s) (j := 21) (k := 19) (by decide), upd_ne (s := s) (j := 21) (k := 20) (by decide), upd_ne (s := s) (j := 21) (k := 22) (by decide), upd_ne (s := s) (j := 21) (k := 23) (by decide), upd_ne (s := s) (j := 21) (k := 24) (by decide), boxIf, rowIf, s22, s20] using hHw
    · -- the tests are stored
      rw [g7] at ho
      cases ho
      have s21 : s 21 = true := hdep 21 (by simp)
      have s20 := h21 s21
      have s10 := h20 s20
      have s22 := hsj
      simp only [s21, s20, s10, s22] at hbJ hHw ⊢
      have hT := hHw.change 0 rfl (grownBy_set w J 9 (.slice AT (k + 1) cT)) (fun g h => h) (T' := .box J tf (vf (.slice AT (k + 1) cT) (if s 24 then .slice AM (k + 1) cM else .slice AM0 k cM0))) ⟨by have := hbJ.put9 9 (.slice AT (k + 1) cT); rw [hs9] at this; exact this, hJl⟩ (fun g h => .inl h)
      have hB' : Below N0 w0 (w.setCell ⟨J, 9, none⟩ (.slice AT (k + 1) cT)) := hB.setCell hJl _
      clear hsj
      refine wpIn_storeT 40 29 e7 p7 J 9 AT (k + 1) cT _ ?_ ?_ (hbJ.cell 9 (hv9 _ _)) (hbJ.frozen 9) (hK _ _ (hS _ hB') ⟨AT, AM, cT, cM, B1, B3, ?_, hB', ?_, ?_⟩)
      · show ((putIf (s 23) 41 (.pointer (some ⟨J, 10, none⟩)) (((((putIf (s 19) 38 (.slice AM (k + 1) cM) (putIf (s 18) 37 (.slice (some ⟨B3, 0, none⟩) 1 1) (((putIf (s 9) 28 (.slice (some ⟨B1, 0, none⟩) 1 1) (putIf (s 12) 31 (.slice AM0 k cM0) (putIf (s 2) 21 (.slice AT0 k cT0) a0)))).put (some 29) (.slice AT (k + 1) cT))))).put (some 39) (.pointer (some ⟨J, 0, none⟩)))).put (some 40) (.pointer (some ⟨J, 9, none⟩))))).eval (.tmp 40) = _
        rw [putIf_ne (by decide), put_eq (by rw [put_size, putIf_size, putIf_size, put_size, putIf_size, putIf_size, putIf_size]; omega)]
      · show ((putIf (s 23) 41 (.pointer (some ⟨J, 10, none⟩)) (((((putIf (s 19) 38 (.slice AM (k + 1) cM) (putIf (s 18) 37 (.slice (some ⟨B3, 0, none⟩) 1 1) (((putIf (s 9) 28 (.slice (some ⟨B1, 0, none⟩) 1 1) (putIf (s 12) 31 (.slice AM0 k cM0) (putIf (s 2) 21 (.slice AT0 k cT0) a0)))).put (some 29) (.slice AT (k + 1) cT))))).put (some 39) (.pointer (some ⟨J, 0, none⟩)))).put (some 40) (.pointer (some ⟨J, 9, none⟩))))).eval (.tmp 29) = _
        rw [putIf_ne (by decide), put_ne (by decide), put_ne (by decide), putIf_ne (by decide), putIf_ne (by decide), put_eq (by rw [putIf_size, putIf_size, putIf_size]; omega)]
      · simp only [upd_eq, upd_ne (s := s) (j := 22) (k := 2) (by decide), upd_ne (s := s) (j := 22) (k := 12) (by decide), upd_ne (s := s) (j := 22) (k := 9) (by decide), upd_ne (s := s) (j := 22) (k := 10) (by decide), upd_ne (s := s) (j := 22) (k := 18) (by decide), upd_ne (s := s) (j := 22) (k := 19) (by decide), upd_ne (s := s) (j := 22) (k := 20) (by decide), upd_ne (s := s) (j := 22) (k := 21) (by decide), upd_ne (s := s) (j := 22) (k := 23) (by decide), upd_ne (s := s) (j := 22) (k := 24) (by decide), s21, s20, s10]
        try rfl
      · simp only [upd_eq, upd_ne (s := s) (j := 22) (k := 2) (by decide), upd_ne (s := s) (j := 22) (k := 12) (by decide), upd_ne (s := s) (j := 22) (k := 9) (by decide), upd_ne (s := s) (j := 22) (k := 10) (by decide), upd_ne (s := s) (j := 22) (k := 18) (by decide), upd_ne (s := s) (j := 22) (k := 19) (by decide), upd_ne (s := s) (j := 22) (k := 20) (by decide), upd_ne (s := s) (j := 22) (k := 21) (by decide), upd_ne (s := s) (j := 22) (k := 23) (by decide), upd_ne (s := s) (j := 22) (k := 24) (by decide), s21, s20, s10]
        refine ⟨?_, ?_, ?_, ?_, ?_, ?_, ?_⟩ <;> first | exact fun h => (by simp at h) | exact h10 | exact h19 | exact h20 | exact h21 | exact h22 | exact h23 | exact h24 | exact fun _ => trivial | exact fun _ => ⟨trivial, trivial⟩ | (simp; done) | (intro h; have g10 := h10; have g19 := h19; have g20 := h20; have g21 := h21; have g22 := h22; have g23 := h23; have g24 := h24; simp_all; done)
      · simpa [upd_eq, upd_ne (s := s) (j := 22) (k := 2) (by decide), upd_ne (s := s) (j := 22) (k := 12) (by decide), upd_ne (s := s) (j := 22) (k := 9) (by decide), upd_ne (s := s) (j := 22) (k := 10) (by decide), upd_ne (s := s) (j := 22) (k := 18) (by decide), upd_ne (s := s) (j := 22) (k := 19) (by decide), upd_ne (s := s) (j := 22) (k := 20) (by decide), upd_ne (s := s) (j := 22) (k := 21) (by decide), upd_ne (s := s) (j := 22) (k := 23) (by decide), upd_ne (s := s) (j := 22) (k := 24) (by decide), s21, s20, s10] using hT
    · -- where its maps lie
      rw [g11] at ho
      cases ho
      have s10 : s 10 = true := hdep 10 (by simp)
      have s12 : s 12 = true := hdep 12 (by simp)
      have s24 := n24 (.inr hsj)
      have s23 := hsj
      simp only [s24, s10, s12, s23] at hbJ hHw ⊢
      refine wpIn_fld2 e11 J ?_ ?_
      · show ((putIf (s 21) 40 (.pointer (some ⟨J, 9, none⟩)) (putIf (s 20) 39 (.pointer (some ⟨J, 0, none⟩)) (putIf (s 19) 38 (.slice AM (k + 1) cM) (putIf (s 18) 37 (.slice (some ⟨B3, 0, none⟩) 1 1) (((putIf (s 9) 28 (.slice (some ⟨B1, 0, none⟩) 1 1) (((putIf (s 2) 21 (.slice AT0 k cT0) a0)).put (some 31) (.slice AM0 k cM0)))).put (some 29) (.slice AT (k + 1) cT))))))).eval (.tmp 5) = _
        rw [putIf_ne (by decide), putIf_ne (by decide), putIf_ne (by decide), putIf_ne (by decide), put_ne (by decide), putIf_ne (by decide), put_ne (by decide), putIf_ne (by decide)]
        exact hx9
      rw [p11]
      clear hsj
      refine hK _ _ (hS _ hB) ⟨AT, AM, cT, cM, B1, B3, ?_, hB, ?_, ?_⟩
      · simp only [upd_eq, upd_ne (s := s) (j := 23) (k := 2) (by decide), upd_ne (s := s) (j := 23) (k := 12) (by decide), upd_ne (s := s) (j := 23) (k := 9) (by decide), upd_ne (s := s) (j := 23) (k := 10) (by decide), upd_ne (s := s) (j := 23) (k := 18) (by decide), upd_ne (s := s) (j := 23) (k := 19) (by decide), upd_ne (s := s) (j := 23) (k := 20) (by decide), upd_ne (s := s) (j := 23) (k := 21) (by decide), upd_ne (s := s) (j := 23) (k := 22) (by decide), upd_ne (s := s) (j := 23) (k := 24) (by decide), s24, s10, s12]
        show ((putIf (s 21) 40 (.pointer (some ⟨J, 9, none⟩)) (putIf (s 20) 39 (.pointer (some ⟨J, 0, none⟩)) (putIf (s 19) 38 (.slice AM (k + 1) cM) (putIf (s 18) 37 (.slice (some ⟨B3, 0, none⟩) 1 1) (((putIf (s 9) 28 (.slice (some ⟨B1, 0, none⟩) 1 1) (((putIf (s 2) 21 (.slice AT0 k cT0) a0)).put (some 31) (.slice AM0 k cM0)))).put (some 29) (.slice AT (k + 1) cT))))))).put (some 41) _ = (((putIf (s 21) 40 (.pointer (some ⟨J, 9, none⟩)) (putIf (s 20) 39 (.pointer (some ⟨J, 0, none⟩)) (putIf (s 19) 38 (.slice AM (k + 1) cM) (putIf (s 18) 37 (.slice (some ⟨B3, 0, none⟩) 1 1) (((putIf (s 9) 28 (.slice (some ⟨B1, 0, none⟩) 1 1) (((putIf (s 2) 21 (.slice AT0 k cT0) a0)).put (some 31) (.slice AM0 k cM0)))).put (some 29) (.slice AT (k + 1) cT))))))).put (some 41) (.pointer (some ⟨J, 10, none⟩)))
        rfl
      · simp only [upd_eq, upd_ne (s := s) (j := 23) (k := 2) (by decide), upd_ne (s := s) (j := 23) (k := 12) (by decide), upd_ne (s := s) (j := 23) (k := 9) (by decide), upd_ne (s := s) (j := 23) (k := 10) (by decide), upd_ne (s := s) (j := 23) (k := 18) (by decide), upd_ne (s := s) (j := 23) (k := 19) (by decide), upd_ne (s := s) (j := 23) (k := 20) (by decide), upd_ne (s := s) (j := 23) (k := 21) (by decide), upd_ne (s := s) (j := 23) (k := 22) (by decide), upd_ne (s := s) (j := 23) (k := 24) (by decide), s24, s10, s12]
        refine ⟨?_, ?_, ?_, ?_, ?_, ?_, ?_⟩ <;> first | exact fun h => (by simp at h) | exact h10 | exact h19 | exact h20 | exact h21 | exact h22 | exact h23 | exact h24 | exact fun _ => trivial | exact fun _ => ⟨trivial, trivial⟩ | (simp; done) | (intro h; have g10 := h10; have g19 := h19; have g20 := h20; have g21 := h21; have g22 := h22; have g23 := h23; have g24 := h24; simp_all; done)
      · simpa [upd_eq, upd_ne (s := s) (j := 23) (k := 2) (by decide), upd_ne (s := s) (j := 23) (k := 12) (by decide), upd_ne (s := s) (j := 23) (k := 9) (by decide), upd_ne (s := s) (j := 23) (k := 10) (by decide), upd_ne (s := s) (j := 23) (k := 18) (by decide), upd_ne (s := s) (j := 23) (k := 19) (by decide), upd_ne (s := s) (j := 23) (k := 20) (by decide), upd_ne (s := s) (j := 23) (k := 21) (by decide), upd_ne (s := s) (j := 23) (k := 22) (by decide), upd_ne (s := s) (j := 23) (k := 24) (by decide), boxIf, rowIf, s24, s10, s12] using hHw
    · -- the maps are stored
      rw [g8] at ho
      cases ho
      have s19 : s 19 = true := hdep 19 (by simp)
      have s23 : s 23 = true := hdep 23 (by simp)
      have s24 := hsj
      simp only [s19, s23, s24] at hbJ hHw ⊢
      have hT := hHw.change 0 rfl (grownBy_set w J 10 (.slice AM (k + 1) cM)) (fun g h => h) (T' := .box J tf (vf (if s 22 then .slice AT (k + 1) cT else .slice AT0 k cT0) (.slice AM (k + 1) cM))) ⟨by have := hbJ.put9 10 (.slice AM (k + 1) cM); rw [hs10] at this; exact this, hJl⟩ (fun g h => .inl h)
      have hB' : Below N0 w0 (w.setCell ⟨J, 10, none⟩ (.slice AM (k + 1) cM)) := hB.setCell hJl _
      clear hsj
      refine wpIn_storeM 41 38 e8 p8 J 10 AM (k + 1) cM _ ?_ ?_ (hbJ.cell 10 (hv10 _ _)) (hbJ.frozen 10) (hK _ _ (hS _ hB') ⟨AT, AM, cT, cM, B1, B3, ?_, hB', ?_, ?_⟩)
      · show ((((putIf (s 21) 40 (.pointer (some ⟨J, 9, none⟩)) (putIf (s 20) 39 (.pointer (some ⟨J, 0, none⟩)) (((putIf (s 18) 37 (.slice (some ⟨B3, 0, none⟩) 1 1) (putIf (s 10) 29 (.slice AT (k + 1) cT) (putIf (s 9) 28 (.slice (some ⟨B1, 0, none⟩) 1 1) (putIf (s 12) 31 (.slice AM0 k cM0) (putIf (s 2) 21 (.slice AT0 k cT0) a0)))))).put (some 38) (.slice AM (k + 1) cM))))).put (some 41) (.pointer (some ⟨J, 10, none⟩)))).eval (.tmp 41) = _
        rw [put_eq (by rw [putIf_size, putIf_size, put_size, putIf_size, putIf_size, putIf_size, putIf_size, putIf_size]; omega)]
      · show ((((putIf (s 21) 40 (.pointer (some ⟨J, 9, none⟩)) (putIf (s 20) 39 (.pointer (some ⟨J, 0, none⟩)) (((putIf (s 18) 37 (.slice (some ⟨B3, 0, none⟩) 1 1) (putIf (s 10) 29 (.slice AT (k + 1) cT) (putIf (s 9) 28 (.slice (some ⟨B1, 0, none⟩) 1 1) (putIf (s 12) 31 (.slice AM0 k cM0) (putIf (s 2) 21 (.slice AT0 k cT0) a0)))))).put (some 38) (.slice AM (k + 1) cM))))).put (some 41) (.pointer (some ⟨J, 10, none⟩)))).eval (.tmp 38) = _
        rw [put_ne (by decide), putIf_ne (by decide), putIf_ne (by decide), put_eq (by rw [putIf_size, putIf_size, putIf_size, putIf_size, putIf_size]; omega)]
      · simp only [upd_eq, upd_ne (s := s) (j := 24) (k := 2) (by decide), upd_ne (s := s) (j := 24) (k := 12) (by decide), upd_ne (s := s) (j := 24) (k := 9) (by decide), upd_ne (s := s) (j := 24) (k := 10) (by decide), upd_ne (s := s) (j := 24) (k := 18) (by decide), upd_ne (s := s) (j := 24) (k := 19) (by decide), upd_ne (s := s) (j := 24) (k := 20) (by decide), upd_ne (s := s) (j := 24) (k := 21) (by decide), upd_ne (s := s) (j := 24) (k := 22) (by decide), upd_ne (s := s) (j := 24) (k := 23) (by decide), s19, s23]
        try rfl
      · simp only [upd_eq, upd_ne (s := s) (j := 24) (k := 2) (by decide), upd_ne (s := s) (j := 24) (k := 12) (by decide), upd_ne (s := s) (j := 24) (k := 9) (by decide), upd_ne (s := s) (j := 24) (k := 10) (by decide), upd_ne (s := s) (j := 24) (k := 18) (by decide), upd_ne (s := s) (j := 24) (k := 19) (by decide), upd_ne (s := s) (j := 24) (k := 20) (by decide), upd_ne (s := s) (j := 24) (k := 21) (by decide), upd_ne (s := s) (j := 24) (k := 22) (by decide), upd_ne (s := s) (j := 24) (k := 23) (by decide), s19, s23]
        refine ⟨?_, ?_, ?_, ?_, ?_, ?_, ?_⟩ <;> first | exact fun h => (by simp at h) | exact h10 | exact h19 | exact h20 | exact h21 | exact h22 | exact h23 | exact h24 | exact fun _ => trivial | exact fun _ => ⟨trivial, trivial⟩ | (simp; done) | (intro h; have g10 := h10; have g19 := h19; have g20 := h20; have g21 := h21; have g22 := h22; have g23 := h23; have g24 := h24; simp_all; done)
      · simpa [upd_eq, upd_ne (s := s) (j := 24) (k := 2) (by decide), upd_ne (s := s) (j := 24) (k := 12) (by decide), upd_ne (s := s) (j := 24) (k := 9) (by decide), upd_ne (s := s) (j := 24) (k := 10) (by decide), upd_ne (s := s) (j := 24) (k := 18) (by decide), upd_ne (s := s) (j := 24) (k := 19) (by decide), upd_ne (s := s) (j := 24) (k := 20) (by decide), upd_ne (s := s) (j := 24) (k := 21) (by decide), upd_ne (s := s) (j := 24) (k := 22) (by decide), upd_ne (s := s) (j := 24) (k := 23) (by decide), s19, s23] using hT
  · intro s a w hall hI
    obtain ⟨AT, AM, cT, cM, B1, B3, rfl, hB, _, hHw⟩ := hI
    have s2 := hall 2 (by simp)
    have s12 := hall 12 (by simp)
    have s9 := hall 9 (by simp)
    have s10 := hall 10 (by simp)
    have s18 := hall 18 (by simp)
    have s19 := hall 19 (by simp)
    have s20 := hall 20 (by simp)
    have s21 := hall 21 (by simp)
    have s22 := hall 22 (by simp)
    have s23 := hall 23 (by simp)
    have s24 := hall 24 (by simp)
    rw [s2, s12, s9, s10, s18, s19, s20, s21, s23]
    rw [s9, s10, s18, s19, s22, s24] at hHw
    exact hend _ _ AT cT AM cM _ _ w hB hHw
end
end Go.Proofs.Ytkmacpkjobdffaa
