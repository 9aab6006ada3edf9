/- Sheets: the law SheetsMore: what more is known leaves less open, for any sheet, polygon, control and narrower span. -/
import Derived.Test.YtgpmnkdagpcffaaAny
import Derived.Test.YtgpmnkdagpcffaaMorW
import Derived.Test.YtgpmnkdagpcffaaTurP
namespace Go.Proofs.Ytgpmnkdagpcffaa
open Go.RowKit
theorem boxS8a {W : World} {B : Nat} {t : TypeId} {a b c d e f g h : Value} (H : BoxS W B t #[a, b, c, d, e, f, g, h]) : ((W.cell? ⟨B, 0, none⟩ = some a ∧ W.cell? ⟨B, 1, none⟩ = some b) ∧ W.cell? ⟨B, 2, none⟩ = some c ∧ W.cell? ⟨B, 3, none⟩ = some d) ∧ (W.cell? ⟨B, 4, none⟩ = some e ∧ W.cell? ⟨B, 5, none⟩ = some f) ∧ W.cell? ⟨B, 6, none⟩ = some g ∧ W.cell? ⟨B, 7, none⟩ = some h := ⟨⟨⟨H.cell 0 rfl, H.cell 1 rfl⟩, H.cell 2 rfl, H.cell 3 rfl⟩, ⟨H.cell 4 rfl, H.cell 5 rfl⟩, H.cell 6 rfl, H.cell 7 rfl⟩
theorem Has.six {w : World} {NB : Nat} {L : List Thing} (h : Has w NB L) (i : Nat) {B : Nat} {t : TypeId} {a b c d e f : Value} (hi : L[i]? = some (.box B t #[a, b, c, d, e, f])) (u v x y z q : Value) :
    Has ((((((w.setCell ⟨B, 0, none⟩ u).setCell ⟨B, 1, none⟩ v).setCell ⟨B, 2, none⟩ x).setCell ⟨B, 3, none⟩ y).setCell ⟨B, 4, none⟩ z).setCell ⟨B, 5, none⟩ q) NB (L.set i (.box B t #[u, v, x, y, z, q])) := by
  have hb : BoxS w B t #[a, b, c, d, e, f] ∧ NB ≤ B := h.get i hi
  refine h.change i hi (row := some B) (((((grownBy_set w B 0 u).trans (grownBy_set _ B 1 v)).trans (grownBy_set _ B 2 x)).trans (grownBy_set _ B 3 y)).trans (grownBy_set _ B 4 z) |>.trans (grownBy_set _ B 5 q)) (fun g e => e) ⟨six_put hb.1 u v x y z q, hb.2⟩ fun g hg => .inl hg
theorem BoxS.put9 {W : World} {B : Nat} {t : TypeId} {vs : Array Value} (h : BoxS W B t vs) (i : Nat) (v : Value) : BoxS (W.setCell ⟨B, i, none⟩ v) B t (vs.setIfInBounds i v) := by
  obtain ⟨hlt, hk⟩ := Array.getElem?_eq_some_iff.1 h
  show (W.heap.modify B _)[B]? = _
  rw [Array.getElem?_eq_getElem (by rw [Array.size_modify]; exact hlt), Array.getElem_modify_self, hk]
  rfl
theorem Has.put {w : World} {NB : Nat} {L : List Thing} (h : Has w NB L) (i : Nat) {B : Nat} {t : TypeId} {vs : Array Value} (hi : L[i]? = some (.box B t vs)) (j : Nat) (v : Value) :
    Has (w.setCell ⟨B, j, none⟩ v) NB (L.set i (.box B t (vs.setIfInBounds j v))) := by
  have hb : BoxS w B t vs ∧ NB ≤ B := h.get i hi
  exact h.change i hi (row := some B) (grownBy_set w B j v) (fun g e => e) ⟨BoxS.put9 hb.1 j v, hb.2⟩ fun g hg => .inl hg
theorem below_of_grown {w w' : World} {row : Option Nat} {n : Nat} (h : w.grownBy w' row) (hn : n ≤ w.heap.size) (hr : ∀ g, row = some g → n ≤ g) : Below n w w' :=
  ⟨h.os, h.tape, h.output, h.size, fun k hk => h.block k (by omega) (fun e => by have := hr k e.symm; omega)⟩
/-- 'l = append(l, x)' on a row of controls of the call's own. -/
theorem wpList_push4 {ops : Array Oper} {rest : List Oper} {o : Oper} {a : Act} {Q : Exit → Act → World → Prop} {wr : World} (hgd : o.guard = none) (s y : Operand)
    (ho : o.op = .call { callee := .builtin .append, args := #[s, y], argTypes := #[24, 24] }) (g : Sh.Ct) (B : Nat) (v : Value) (n : Nat) (xs : List Value) (hs : a.eval s = v)
    (hx : a.eval y = .slice (some ⟨wr.heap.size, 0, none⟩) 1 1) (hown : wr.ownsRow B 29 4 v n xs) (hB : B ≤ wr.heap.size) (hn : n ≤ 100000)
    (h : ∀ v' w', w'.ownsRow B 29 4 v' (n + 1) (xs ++ flat4 [g]) → wr.grownBy w' v.ownBlock → (∀ k, v'.ownBlock = some k → v.ownBlock = some k ∨ wr.heap.size ≤ k) → wpList Try.prog ops Q rest (a.put o.dst v') w') :
    wpList Try.prog ops Q (o :: rest) a (wr.alloc (.cells #[.int .i64 g.1, .int .i64 g.2.1, .int .i64 g.2.2.1, .int .i64 g.2.2.2] 29)) := by
  obtain ⟨i0, hi0, hz0, hz1, hz2⟩ := info_parts4 control_info
  have hbox := BoxS.new wr 29 #[.int .i64 g.1, .int .i64 g.2.1, .int .i64 g.2.2.1, .int .i64 g.2.2.2]
  have hC : Cts (wr.alloc (.cells #[.int .i64 g.1, .int .i64 g.2.1, .int .i64 g.2.2.1, .int .i64 g.2.2.2] 29)) (wr.heap.size + 1) (some ⟨wr.heap.size, 0, none⟩) [g] := fun _ => ⟨wr.heap.size, 0, rfl, Nat.lt_succ_self _, fun k hk => by
    have : k = 0 := by simp at hk; omega
    subst this
    exact ⟨hbox.cell 0 rfl, hbox.cell 1 rfl, hbox.cell 2 rfl, hbox.cell 3 rfl⟩⟩
  refine wpList_append_any _ hgd s y 24 ho B 29 i0 (.agg #[.int .i64 0, .int .i64 0, .int .i64 0, .int .i64 0]) 4 32 Try.underlying24 hi0 hz0 hz1 hz2 rfl (by decide) v n xs hs (hown.alloc _) (wr.heap.size + 1) (some ⟨wr.heap.size, 0, none⟩) 1 1 (flat4 [g]) hx hC.reads (flat4_one [g]) (by simp only [maxLen]; omega) (by omega) (by simp; omega) ?_
  intro v' w' hown' hgr hat
  refine h v' w' hown' ((World.grownBy_alloc wr _ _).trans hgr) fun k hk => ?_
  rcases hat with e | e
  · exact .inl (e ▸ hk)
  · right
    rw [e] at hk
    injection hk with hk
    rw [← hk, World.size_alloc]
    omega
def cpV (al ah bl bh wrn : Int) (n : Nat) : Option (Option Addr × Nat) → Value
  | none => undef
  | some r => .agg #[.int .i64 al, .int .i64 ah, .int .i64 bl, .int .i64 bh, .slice r.1 n r.2, .int .i64 wrn]
def cpT (cs : List Sh.Ct) : Option (Option Addr × Nat) → Thing
  | none => .no
  | some r => .row (.slice r.1 cs.length r.2) 29 4 cs.length (flat4 cs)
def bxV : Option Nat → Value
  | none => undef
  | some B => .pointer (some ⟨B, 0, none⟩)
def bxT : Option Nat → Thing
  | none => .no
  | some B => .box B 26 #[.int .i64 0, .int .i64 0, .int .i64 0, .int .i64 0, .slice none 0 0, .int .i64 0]
namespace Sh
theorem push_ok {s : Sheet} {k : Ct} : okB ⟨s.al, s.ah, s.bl, s.bh, s.cs ++ [k], s.wr⟩ = true → okB s = true → ∀ x ∈ truthsL ⟨s.al, s.ah, s.bl, s.bh, s.cs ++ [k], s.wr⟩, x ∈ truthsL s := fun h1 h2 =>
  sub_of (ok_of h2) (ok_of h1) (Int.le_refl _) (Int.le_refl _) (Int.le_refl _) (Int.le_refl _) (Int.le_refl _) fun f => wrong_push f s.cs k
theorem span_ok {s : Sheet} {l h : Int} (hl : 0 ≤ l) (hh : 0 ≤ h) : okB ⟨s.al + l, s.ah - h, s.bl, s.bh, s.cs, s.wr⟩ = true → okB s = true → ∀ x ∈ truthsL ⟨s.al + l, s.ah - h, s.bl, s.bh, s.cs, s.wr⟩, x ∈ truthsL s := fun h1 h2 =>
  sub_of (ok_of h2) (ok_of h1) (by show s.al ≤ s.al + l; omega) (by show s.ah - h ≤ s.ah; omega) (Int.le_refl _) (Int.le_refl _) (Int.le_refl _) fun f => Nat.le_refl _
theorem less_ok {s : Sheet} (k : Nat) {o : Int} (ho : 0 ≤ o) : okB ⟨s.al, s.ah, s.bl, s.bh, s.cs.set k (lessC (ctAt s.cs k) o), s.wr⟩ = true → okB s = true → ∀ x ∈ truthsL ⟨s.al, s.ah, s.bl, s.bh, s.cs.set k (lessC (ctAt s.cs k) o), s.wr⟩, x ∈ truthsL s := fun h1 h2 =>
  sub_of (ok_of h2) (ok_of h1) (Int.le_refl _) (Int.le_refl _) (Int.le_refl _) (Int.le_refl _) (Int.le_refl _) fun f => wrong_less f s.cs k ho
end Sh
set_option maxRecDepth 100000 in
set_option maxHeartbeats 16000000 in
theorem SheetsMore_walk (s : Sheet) (A : Option Addr) (c : Nat) (A2 : Option Addr) (c2 : Nat) (ps : List Geo.Pt) (k1 k2 k3 k4 xl xh xw xo : Int) (w : World) (hg : Cts w w.heap.size A s.cs) (hP : Prs w w.heap.size A2 ps) :
    Calls Try.prog 3 #[.agg (shV s A c), .slice A2 ps.length c2, .agg #[.int .i64 k1, .int .i64 k2, .int .i64 k3, .int .i64 k4, .int .i64 xl, .int .i64 xh, .int .i64 xw, .int .i64 xo]] w (TruePost w) := by
  have HWK : Hid (∀ W, Calls Try.prog 15 #[] W fun e w' => e = .returned (.bool true) ∧ Below W.heap.size W w') := works_any
  have HRD : Hid (∀ W, Below w.heap.size w W → Calls Try.prog 13 #[.agg (shV s A c)] W fun e w' => e = .returned (.bool (Sh.readyB s)) ∧ Below W.heap.size W w') := fun W hW => ready4_any s A c W ((hg.keep hW).wider hW.size)
  have HPO : Hid (∀ W, Below w.heap.size w W → Calls Try.prog 14 #[.slice A2 ps.length c2] W fun e w' => e = .returned (.bool (Sh.polyB ps)) ∧ Below W.heap.size W w') := fun W hW => isPoly_any A2 c2 ps W (prs_keep hP hW)
  have HPV : Hid (Sh.polyB ps = true → Geo.validB ps = true) := fun h => by unfold Sh.polyB at h; rw [Bool.and_eq_true] at h; exact h.2
  have HRB : Hid (Sh.readyB s = true → Sh.okB s = true) := fun h => by unfold Sh.readyB at h; exact (Bool.and_eq_true_iff.1 h).2
  have HCO : Hid (Sh.readyB s = true → ∀ W, Below w.heap.size w W → Calls Try.prog 19 #[.agg (shV s A c)] W (Copy4OPost s W)) := fun h W hW => Copy4_own s A c (by have := (Sh.ok_of (HRB.out h)).n; omega) W ((hg.keep hW).wider hW.size)
  have HFW : Hid (Sh.readyB s = true → ∀ W, Below w.heap.size w W → Calls Try.prog 16 #[.agg (shV s A c)] W (TwoPost (Sh.fewV s) 0 W)) := fun h W hW => by
    have := Fewest_any s A c W (by have := (Sh.ok_of (HRB.out h)).n; omega) ((hg.keep hW).wider hW.size)
    unfold Sh.chkE at this
    rw [HRB.out h, if_pos rfl] at this
    exact this
  have HMN : Hid (Sh.readyB s = true → ∀ W, Below w.heap.size w W → Calls Try.prog 17 #[.agg (shV s A c)] W (TwoPost (Sh.manyV s) (Sh.spE s) W)) := fun h W hW => Many_any s A c W (by have := (Sh.ok_of (HRB.out h)).n; omega) ((hg.keep hW).wider hW.size)
  have HIK : Hid (Sh.readyB s = true → ∀ W, Calls Try.prog 18 #[.int .i64 (Sh.spE s)] W fun e w' => e = .returned (.bool true) ∧ w' = W) := fun h W => isKnown_yes _ (Sh.sp_or (HRB.out h)) W
  have HFC : Hid (Sh.readyB s = true → (0 ≤ Sh.fewV s ∧ Sh.fewV s ≤ s.cs.length) ∧ ∃ b : Bool, (Sh.spE s == 0) = b ∧ decide (Sh.fewV s ≤ s.wr) = b) := fun h => by
    have hok := HRB.out h
    refine ⟨?_, ?_⟩
    · unfold Sh.fewV
      rw [hok, if_pos rfl]
      exact Sh.few_bd _ _
    · have hf := Sh.few_sp hok
      by_cases h0 : Sh.spE s = 0
      · exact ⟨true, by simpa using h0, decide_eq_true (hf.2 h0)⟩
      · exact ⟨false, by simpa using h0, decide_eq_false fun e => h0 (hf.1 e)⟩
  have HBD : Hid (Sh.readyB s = true → ((1 ≤ s.al ∧ s.al ≤ 2000) ∧ 1 ≤ s.ah ∧ s.ah ≤ 2000) ∧ s.cs.length ≤ 8 ∧ ∀ k, k < s.cs.length → -100000 ≤ (Sh.ctAt s.cs k).2.2.2 ∧ (Sh.ctAt s.cs k).2.2.2 ≤ 100000) := fun h => by
    have hs := Sh.ok_of (HRB.out h)
    have a1 := hs.a1
    have a2 := hs.a2
    have a3 := hs.a3
    refine ⟨⟨⟨by omega, by omega⟩, by omega, by omega⟩, hs.n, fun k hk => ?_⟩
    have := hs.c k hk
    unfold Sh.ctB inB at this
    simp only [Bool.and_eq_true, decide_eq_true_eq] at this
    omega
  have HINA : Hid (Sh.readyB s = true → Sh.polyB ps = true → ∀ A' c' W, Below w.heap.size w W → Cts W W.heap.size A' (s.cs ++ [(k1, k2, k3, k4)]) → Calls Try.prog 20 #[.agg #[.int .i64 s.al, .int .i64 s.ah, .int .i64 s.bl, .int .i64 s.bh, .slice A' (s.cs.length + 1) c', .int .i64 s.wr], .agg (shV s A c), .slice A2 ps.length c2] W (TruePost W)) := fun h hp A' c' W hW hC => by
    have := inside_yes ⟨s.al, s.ah, s.bl, s.bh, s.cs ++ [(k1, k2, k3, k4)], s.wr⟩ s A' A c' c ps A2 c2 W (HPV.out hp) (HRB.out h) (by have := (Sh.ok_of (HRB.out h)).n; simp; omega) (fun h1 => Sh.push_ok h1 (HRB.out h)) hC ((hg.keep hW).wider hW.size) (prs_keep hP hW)
    have el : (s.cs ++ [(k1, k2, k3, k4)]).length = s.cs.length + 1 := by simp
    unfold shV at this ⊢
    dsimp only at this
    rw [el] at this
    exact this
  have HINB : Hid (Sh.readyB s = true → Sh.polyB ps = true → 0 ≤ xl → 0 ≤ xh → ∀ A' c' W, Below w.heap.size w W → Cts W W.heap.size A' s.cs → Calls Try.prog 20 #[.agg #[.int .i64 (s.al + xl), .int .i64 (s.ah - xh), .int .i64 s.bl, .int .i64 s.bh, .slice A' s.cs.length c', .int .i64 s.wr], .agg (shV s A c), .slice A2 ps.length c2] W (TruePost W)) := fun h hp h1 h2 A' c' W hW hC =>
    inside_yes ⟨s.al + xl, s.ah - xh, s.bl, s.bh, s.cs, s.wr⟩ s A' A c' c ps A2 c2 W (HPV.out hp) (HRB.out h) (by have := (Sh.ok_of (HRB.out h)).n; show s.cs.length ≤ _; omega) (fun h3 => Sh.span_ok h1 h2 h3 (HRB.out h)) hC ((hg.keep hW).wider hW.size) (prs_keep hP hW)
  have HINC : Hid (Sh.readyB s = true → Sh.polyB ps = true → ∀ A' c' W (ds : List Sh.Ct), (ds = s.cs ∨ ∃ k, k < s.cs.length ∧ 0 ≤ xo ∧ ds = s.cs.set k (Sh.lessC (Sh.ctAt s.cs k) xo)) → Below w.heap.size w W → Cts W W.heap.size A' ds → Calls Try.prog 20 #[.agg #[.int .i64 s.al, .int .i64 s.ah, .int .i64 s.bl, .int .i64 s.bh, .slice A' s.cs.length c', .int .i64 s.wr], .agg (shV s A c), .slice A2 ps.length c2] W (TruePost W)) := fun h hp A' c' W ds hds hW hC => by
    have hn := (Sh.ok_of (HRB.out h)).n
    have el : ds.length = s.cs.length := by
      rcases hds with rfl | ⟨k, hk, h0, rfl⟩
      · rfl
      · simp
    have := inside_yes ⟨s.al, s.ah, s.bl, s.bh, ds, s.wr⟩ s A' A c' c ps A2 c2 W (HPV.out hp) (HRB.out h) (by show ds.length ≤ _; omega) (fun h1 => by
      rcases hds with rfl | ⟨k, hk, h0, rfl⟩
      · exact fun x hx => hx
      · exact Sh.less_ok k h0 h1 (HRB.out h)) hC ((hg.keep hW).wider hW.size) (prs_keep hP hW)
    unfold shV at this ⊢
    dsimp only at this
    rw [el] at this
    exact this
  unfold Copy4OPost at HCO
  generalize Sh.fewV s = FV at *
  generalize Sh.manyV s = MV at *
  generalize Sh.spE s = SE at *
  generalize Sh.readyB s = RB at *
  generalize Sh.polyB ps = PB at *
  generalize Sh.okB s = OK at *
  generalize Geo.validB ps = VB at *
  clear hg hP HRB HPV
  obtain ⟨al, ah, bl, bh, cs, wrn⟩ := s
  unfold shV at *
  dsimp only at *
  cases RB with
  | false =>
    go_enter Try.func3, Try.ntmps3
    go_wp2_with fail
    have bS1 := (BoxS.new w 26 #[.int .i64 al, .int .i64 ah, .int .i64 bl, .int .i64 bh, .slice A cs.length c, .int .i64 wrn]).alloc (.cells #[.int .i64 k1, .int .i64 k2, .int .i64 k3, .int .i64 k4, .int .i64 xl, .int .i64 xh, .int .i64 xw, .int .i64 xo] 31)
    have bX1 := BoxS.new (w.alloc (.cells #[.int .i64 al, .int .i64 ah, .int .i64 bl, .int .i64 bh, .slice A cs.length c, .int .i64 wrn] 26)) 31 #[.int .i64 k1, .int .i64 k2, .int .i64 k3, .int .i64 k4, .int .i64 xl, .int .i64 xh, .int .i64 xw, .int .i64 xo]
    rw [World.size_alloc] at bX1
    have hB1 : Below w.heap.size w ((w.alloc (.cells #[.int .i64 al, .int .i64 ah, .int .i64 bl, .int .i64 bh, .slice A cs.length c, .int .i64 wrn] 26)).alloc (.cells #[.int .i64 k1, .int .i64 k2, .int .i64 k3, .int .i64 k4, .int .i64 xl, .int .i64 xh, .int .i64 xw, .int .i64 xo] 31)) := by (repeat' (first | (with_reducible exact Below.refl _ _) | (with_reducible assumption) | (with_reducible refine Below.alloc ?_ ?_ _) | (with_reducible refine Below.drew ?_) | (with_reducible refine Below.setCell ?_ ?_ _) | go_size | (exact (by simp)) | omega))
    generalize World.alloc (World.alloc w _) _ = w1 at *
    obtain ⟨⟨s0, s1, s2⟩, s3, s4, s5⟩ := boxS6 bS1
    have lS1 := bS1.lt
    obtain ⟨⟨⟨x0, x1⟩, x2, x3⟩, ⟨x4, x5⟩, x6, x7⟩ := boxS8a bX1
    have lX1 := bX1.lt
    go_wp2_with fail
    refine (HRD.out _ hB1).mono ?_
    rintro e w2 ⟨rfl, hb2⟩
    have bS2 := bS1.below hb2
    have bX2 := bX1.below hb2
    have hB2 := hB1.trans (hb2.mono hB1.size)
    clear s0 s1 s2 s3 s4 s5 lS1 x0 x1 x2 x3 x4 x5 x6 x7 lX1 bS1 bX1 hB1 hb2
    obtain ⟨⟨s0, s1, s2⟩, s3, s4, s5⟩ := boxS6 bS2
    have lS2 := bS2.lt
    obtain ⟨⟨⟨x0, x1⟩, x2, x3⟩, ⟨x4, x5⟩, x6, x7⟩ := boxS8a bX2
    have lX2 := bX2.lt
    go_wp2_with fail
    refine (HWK.out _).mono ?_
    rintro e wz ⟨rfl, hbz⟩
    have hBz := hB2.trans (hbz.mono hB2.size)
    go_wp2_with fail
    go_returns
    exact ⟨rfl, hBz⟩
  | true =>
    have HCO2 := Lib.hid (HCO.out rfl)
    have HFW2 := Lib.hid (HFW.out rfl)
    have HMN2 := Lib.hid (HMN.out rfl)
    have HIK2 := Lib.hid (HIK.out rfl)
    have HFC2 := Lib.hid (HFC.out rfl)
    have HBD2 := Lib.hid (HBD.out rfl)
    have HINA2 := Lib.hid (HINA.out rfl)
    have HINB2 := Lib.hid (HINB.out rfl)
    have HINC2 := Lib.hid (HINC.out rfl)
    clear HCO HFW HMN HIK HFC HBD HINA HINB HINC
    cases PB with
    | false =>
      go_enter Try.func3, Try.ntmps3
      go_wp2_with fail
      have bS1 := (BoxS.new w 26 #[.int .i64 al, .int .i64 ah, .int .i64 bl, .int .i64 bh, .slice A cs.length c, .int .i64 wrn]).alloc (.cells #[.int .i64 k1, .int .i64 k2, .int .i64 k3, .int .i64 k4, .int .i64 xl, .int .i64 xh, .int .i64 xw, .int .i64 xo] 31)
      have bX1 := BoxS.new (w.alloc (.cells #[.int .i64 al, .int .i64 ah, .int .i64 bl, .int .i64 bh, .slice A cs.length c, .int .i64 wrn] 26)) 31 #[.int .i64 k1, .int .i64 k2, .int .i64 k3, .int .i64 k4, .int .i64 xl, .int .i64 xh, .int .i64 xw, .int .i64 xo]
      rw [World.size_alloc] at bX1
      have hB1 : Below w.heap.size w ((w.alloc (.cells #[.int .i64 al, .int .i64 ah, .int .i64 bl, .int .i64 bh, .slice A cs.length c, .int .i64 wrn] 26)).alloc (.cells #[.int .i64 k1, .int .i64 k2, .int .i64 k3, .int .i64 k4, .int .i64 xl, .int .i64 xh, .int .i64 xw, .int .i64 xo] 31)) := by (repeat' (first | (with_reducible exact Below.refl _ _) | (with_reducible assumption) | (with_reducible refine Below.alloc ?_ ?_ _) | (with_reducible refine Below.drew ?_) | (with_reducible refine Below.setCell ?_ ?_ _) | go_size | (exact (by simp)) | omega))
      generalize World.alloc (World.alloc w _) _ = w1 at *
      obtain ⟨⟨s0, s1, s2⟩, s3, s4, s5⟩ := boxS6 bS1
      have lS1 := bS1.lt
      obtain ⟨⟨⟨x0, x1⟩, x2, x3⟩, ⟨x4, x5⟩, x6, x7⟩ := boxS8a bX1
      have lX1 := bX1.lt
      go_wp2_with fail
      refine (HRD.out _ hB1).mono ?_
      rintro e w2 ⟨rfl, hb2⟩
      have bS2 := bS1.below hb2
      have bX2 := bX1.below hb2
      have hB2 := hB1.trans (hb2.mono hB1.size)
      clear s0 s1 s2 s3 s4 s5 lS1 x0 x1 x2 x3 x4 x5 x6 x7 lX1 bS1 bX1 hB1 hb2
      obtain ⟨⟨s0, s1, s2⟩, s3, s4, s5⟩ := boxS6 bS2
      have lS2 := bS2.lt
      obtain ⟨⟨⟨x0, x1⟩, x2, x3⟩, ⟨x4, x5⟩, x6, x7⟩ := boxS8a bX2
      have lX2 := bX2.lt
      go_wp2_with fail
      refine (HPO.out _ hB2).mono ?_
      rintro e w3 ⟨rfl, hb3⟩
      have bS3 := bS2.below hb3
      have bX3 := bX2.below hb3
      have hB3 := hB2.trans (hb3.mono hB2.size)
      clear s0 s1 s2 s3 s4 s5 lS2 x0 x1 x2 x3 x4 x5 x6 x7 lX2 bS2 bX2 hB2 hb3
      obtain ⟨⟨s0, s1, s2⟩, s3, s4, s5⟩ := boxS6 bS3
      have lS3 := bS3.lt
      obtain ⟨⟨⟨x0, x1⟩, x2, x3⟩, ⟨x4, x5⟩, x6, x7⟩ := boxS8a bX3
      have lX3 := bX3.lt
      go_wp2_with fail
      refine (HWK.out _).mono ?_
      rintro e wz ⟨rfl, hbz⟩
      have hBz := hB3.trans (hbz.mono hB3.size)
      go_wp2_with fail
      go_returns
      exact ⟨rfl, hBz⟩
    | true =>
      have HINA3 := Lib.hid (HINA2.out rfl)
      have HINB3 := Lib.hid (HINB2.out rfl)
      have HINC3 := Lib.hid (HINC2.out rfl)
      clear HINA2 HINB2 HINC2
      by_cases h0 : xl < 0
      · have d0 : decide (xl < 0) = true := decide_eq_true h0
        go_enter Try.func3, Try.ntmps3
        go_wp2_with fail
        have bS1 := (BoxS.new w 26 #[.int .i64 al, .int .i64 ah, .int .i64 bl, .int .i64 bh, .slice A cs.length c, .int .i64 wrn]).alloc (.cells #[.int .i64 k1, .int .i64 k2, .int .i64 k3, .int .i64 k4, .int .i64 xl, .int .i64 xh, .int .i64 xw, .int .i64 xo] 31)
        have bX1 := BoxS.new (w.alloc (.cells #[.int .i64 al, .int .i64 ah, .int .i64 bl, .int .i64 bh, .slice A cs.length c, .int .i64 wrn] 26)) 31 #[.int .i64 k1, .int .i64 k2, .int .i64 k3, .int .i64 k4, .int .i64 xl, .int .i64 xh, .int .i64 xw, .int .i64 xo]
        rw [World.size_alloc] at bX1
        have hB1 : Below w.heap.size w ((w.alloc (.cells #[.int .i64 al, .int .i64 ah, .int .i64 bl, .int .i64 bh, .slice A cs.length c, .int .i64 wrn] 26)).alloc (.cells #[.int .i64 k1, .int .i64 k2, .int .i64 k3, .int .i64 k4, .int .i64 xl, .int .i64 xh, .int .i64 xw, .int .i64 xo] 31)) := by (repeat' (first | (with_reducible exact Below.refl _ _) | (with_reducible assumption) | (with_reducible refine Below.alloc ?_ ?_ _) | (with_reducible refine Below.drew ?_) | (with_reducible refine Below.setCell ?_ ?_ _) | go_size | (exact (by simp)) | omega))
        generalize World.alloc (World.alloc w _) _ = w1 at *
        obtain ⟨⟨s0, s1, s2⟩, s3, s4, s5⟩ := boxS6 bS1
        have lS1 := bS1.lt
        obtain ⟨⟨⟨x0, x1⟩, x2, x3⟩, ⟨x4, x5⟩, x6, x7⟩ := boxS8a bX1
        have lX1 := bX1.lt
        go_wp2_with fail
        refine (HRD.out _ hB1).mono ?_
        rintro e w2 ⟨rfl, hb2⟩
        have bS2 := bS1.below hb2
        have bX2 := bX1.below hb2
        have hB2 := hB1.trans (hb2.mono hB1.size)
        clear s0 s1 s2 s3 s4 s5 lS1 x0 x1 x2 x3 x4 x5 x6 x7 lX1 bS1 bX1 hB1 hb2
        obtain ⟨⟨s0, s1, s2⟩, s3, s4, s5⟩ := boxS6 bS2
        have lS2 := bS2.lt
        obtain ⟨⟨⟨x0, x1⟩, x2, x3⟩, ⟨x4, x5⟩, x6, x7⟩ := boxS8a bX2
        have lX2 := bX2.lt
        go_wp2_with fail
        refine (HPO.out _ hB2).mono ?_
        rintro e w3 ⟨rfl, hb3⟩
        have bS3 := bS2.below hb3
        have bX3 := bX2.below hb3
        have hB3 := hB2.trans (hb3.mono hB2.size)
        clear s0 s1 s2 s3 s4 s5 lS2 x0 x1 x2 x3 x4 x5 x6 x7 lX2 bS2 bX2 hB2 hb3
        obtain ⟨⟨s0, s1, s2⟩, s3, s4, s5⟩ := boxS6 bS3
        have lS3 := bS3.lt
        obtain ⟨⟨⟨x0, x1⟩, x2, x3⟩, ⟨x4, x5⟩, x6, x7⟩ := boxS8a bX3
        have lX3 := bX3.lt
        go_wp2_with fail
        refine (HWK.out _).mono ?_
        rintro e wz ⟨rfl, hbz⟩
        have hBz := hB3.trans (hbz.mono hB3.size)
        go_wp2_with fail
        go_returns
        exact ⟨rfl, hBz⟩
      · have d0 : decide (xl < 0) = false := decide_eq_false h0
        by_cases h1 : xh < 0
        · have d1 : decide (xh < 0) = true := decide_eq_true h1
          go_enter Try.func3, Try.ntmps3
          go_wp2_with fail
          have bS1 := (BoxS.new w 26 #[.int .i64 al, .int .i64 ah, .int .i64 bl, .int .i64 bh, .slice A cs.length c, .int .i64 wrn]).alloc (.cells #[.int .i64 k1, .int .i64 k2, .int .i64 k3, .int .i64 k4, .int .i64 xl, .int .i64 xh, .int .i64 xw, .int .i64 xo] 31)
          have bX1 := BoxS.new (w.alloc (.cells #[.int .i64 al, .int .i64 ah, .int .i64 bl, .int .i64 bh, .slice A cs.length c, .int .i64 wrn] 26)) 31 #[.int .i64 k1, .int .i64 k2, .int .i64 k3, .int .i64 k4, .int .i64 xl, .int .i64 xh, .int .i64 xw, .int .i64 xo]
          rw [World.size_alloc] at bX1
          have hB1 : Below w.heap.size w ((w.alloc (.cells #[.int .i64 al, .int .i64 ah, .int .i64 bl, .int .i64 bh, .slice A cs.length c, .int .i64 wrn] 26)).alloc (.cells #[.int .i64 k1, .int .i64 k2, .int .i64 k3, .int .i64 k4, .int .i64 xl, .int .i64 xh, .int .i64 xw, .int .i64 xo] 31)) := by (repeat' (first | (with_reducible exact Below.refl _ _) | (with_reducible assumption) | (with_reducible refine Below.alloc ?_ ?_ _) | (with_reducible refine Below.drew ?_) | (with_reducible refine Below.setCell ?_ ?_ _) | go_size | (exact (by simp)) | omega))
          generalize World.alloc (World.alloc w _) _ = w1 at *
          obtain ⟨⟨s0, s1, s2⟩, s3, s4, s5⟩ := boxS6 bS1
          have lS1 := bS1.lt
          obtain ⟨⟨⟨x0, x1⟩, x2, x3⟩, ⟨x4, x5⟩, x6, x7⟩ := boxS8a bX1
          have lX1 := bX1.lt
          go_wp2_with fail
          refine (HRD.out _ hB1).mono ?_
          rintro e w2 ⟨rfl, hb2⟩
          have bS2 := bS1.below hb2
          have bX2 := bX1.below hb2
          have hB2 := hB1.trans (hb2.mono hB1.size)
          clear s0 s1 s2 s3 s4 s5 lS1 x0 x1 x2 x3 x4 x5 x6 x7 lX1 bS1 bX1 hB1 hb2
          obtain ⟨⟨s0, s1, s2⟩, s3, s4, s5⟩ := boxS6 bS2
          have lS2 := bS2.lt
          obtain ⟨⟨⟨x0, x1⟩, x2, x3⟩, ⟨x4, x5⟩, x6, x7⟩ := boxS8a bX2
          have lX2 := bX2.lt
          go_wp2_with fail
          refine (HPO.out _ hB2).mono ?_
          rintro e w3 ⟨rfl, hb3⟩
          have bS3 := bS2.below hb3
          have bX3 := bX2.below hb3
          have hB3 := hB2.trans (hb3.mono hB2.size)
          clear s0 s1 s2 s3 s4 s5 lS2 x0 x1 x2 x3 x4 x5 x6 x7 lX2 bS2 bX2 hB2 hb3
          obtain ⟨⟨s0, s1, s2⟩, s3, s4, s5⟩ := boxS6 bS3
          have lS3 := bS3.lt
          obtain ⟨⟨⟨x0, x1⟩, x2, x3⟩, ⟨x4, x5⟩, x6, x7⟩ := boxS8a bX3
          have lX3 := bX3.lt
          go_wp2_with fail
          refine (HWK.out _).mono ?_
          rintro e wz ⟨rfl, hbz⟩
          have hBz := hB3.trans (hbz.mono hB3.size)
          go_wp2_with fail
          go_returns
          exact ⟨rfl, hBz⟩
        · have d1 : decide (xh < 0) = false := decide_eq_false h1
          by_cases h2 : 1000 < xl
          · have d2 : decide (1000 < xl) = true := decide_eq_true h2
            go_enter Try.func3, Try.ntmps3
            go_wp2_with fail
            have bS1 := (BoxS.new w 26 #[.int .i64 al, .int .i64 ah, .int .i64 bl, .int .i64 bh, .slice A cs.length c, .int .i64 wrn]).alloc (.cells #[.int .i64 k1, .int .i64 k2, .int .i64 k3, .int .i64 k4, .int .i64 xl, .int .i64 xh, .int .i64 xw, .int .i64 xo] 31)
            have bX1 := BoxS.new (w.alloc (.cells #[.int .i64 al, .int .i64 ah, .int .i64 bl, .int .i64 bh, .slice A cs.length c, .int .i64 wrn] 26)) 31 #[.int .i64 k1, .int .i64 k2, .int .i64 k3, .int .i64 k4, .int .i64 xl, .int .i64 xh, .int .i64 xw, .int .i64 xo]
            rw [World.size_alloc] at bX1
            have hB1 : Below w.heap.size w ((w.alloc (.cells #[.int .i64 al, .int .i64 ah, .int .i64 bl, .int .i64 bh, .slice A cs.length c, .int .i64 wrn] 26)).alloc (.cells #[.int .i64 k1, .int .i64 k2, .int .i64 k3, .int .i64 k4, .int .i64 xl, .int .i64 xh, .int .i64 xw, .int .i64 xo] 31)) := by (repeat' (first | (with_reducible exact Below.refl _ _) | (with_reducible assumption) | (with_reducible refine Below.alloc ?_ ?_ _) | (with_reducible refine Below.drew ?_) | (with_reducible refine Below.setCell ?_ ?_ _) | go_size | (exact (by simp)) | omega))
            generalize World.alloc (World.alloc w _) _ = w1 at *
            obtain ⟨⟨s0, s1, s2⟩, s3, s4, s5⟩ := boxS6 bS1
            have lS1 := bS1.lt
            obtain ⟨⟨⟨x0, x1⟩, x2, x3⟩, ⟨x4, x5⟩, x6, x7⟩ := boxS8a bX1
            have lX1 := bX1.lt
            go_wp2_with fail
            refine (HRD.out _ hB1).mono ?_
            rintro e w2 ⟨rfl, hb2⟩
            have bS2 := bS1.below hb2
            have bX2 := bX1.below hb2
            have hB2 := hB1.trans (hb2.mono hB1.size)
            clear s0 s1 s2 s3 s4 s5 lS1 x0 x1 x2 x3 x4 x5 x6 x7 lX1 bS1 bX1 hB1 hb2
            obtain ⟨⟨s0, s1, s2⟩, s3, s4, s5⟩ := boxS6 bS2
            have lS2 := bS2.lt
            obtain ⟨⟨⟨x0, x1⟩, x2, x3⟩, ⟨x4, x5⟩, x6, x7⟩ := boxS8a bX2
            have lX2 := bX2.lt
            go_wp2_with fail
            refine (HPO.out _ hB2).mono ?_
            rintro e w3 ⟨rfl, hb3⟩
            have bS3 := bS2.below hb3
            have bX3 := bX2.below hb3
            have hB3 := hB2.trans (hb3.mono hB2.size)
            clear s0 s1 s2 s3 s4 s5 lS2 x0 x1 x2 x3 x4 x5 x6 x7 lX2 bS2 bX2 hB2 hb3
            obtain ⟨⟨s0, s1, s2⟩, s3, s4, s5⟩ := boxS6 bS3
            have lS3 := bS3.lt
            obtain ⟨⟨⟨x0, x1⟩, x2, x3⟩, ⟨x4, x5⟩, x6, x7⟩ := boxS8a bX3
            have lX3 := bX3.lt
            go_wp2_with fail
            refine (HWK.out _).mono ?_
            rintro e wz ⟨rfl, hbz⟩
            have hBz := hB3.trans (hbz.mono hB3.size)
            go_wp2_with fail
            go_returns
            exact ⟨rfl, hBz⟩
          · have d2 : decide (1000 < xl) = false := decide_eq_false h2
            by_cases h3 : 1000 < xh
            · have d3 : decide (1000 < xh) = true := decide_eq_true h3
              go_enter Try.func3, Try.ntmps3
              go_wp2_with fail
              have bS1 := (BoxS.new w 26 #[.int .i64 al, .int .i64 ah, .int .i64 bl, .int .i64 bh, .slice A cs.length c, .int .i64 wrn]).alloc (.cells #[.int .i64 k1, .int .i64 k2, .int .i64 k3, .int .i64 k4, .int .i64 xl, .int .i64 xh, .int .i64 xw, .int .i64 xo] 31)
              have bX1 := BoxS.new (w.alloc (.cells #[.int .i64 al, .int .i64 ah, .int .i64 bl, .int .i64 bh, .slice A cs.length c, .int .i64 wrn] 26)) 31 #[.int .i64 k1, .int .i64 k2, .int .i64 k3, .int .i64 k4, .int .i64 xl, .int .i64 xh, .int .i64 xw, .int .i64 xo]
              rw [World.size_alloc] at bX1
              have hB1 : Below w.heap.size w ((w.alloc (.cells #[.int .i64 al, .int .i64 ah, .int .i64 bl, .int .i64 bh, .slice A cs.length c, .int .i64 wrn] 26)).alloc (.cells #[.int .i64 k1, .int .i64 k2, .int .i64 k3, .int .i64 k4, .int .i64 xl, .int .i64 xh, .int .i64 xw, .int .i64 xo] 31)) := by (repeat' (first | (with_reducible exact Below.refl _ _) | (with_reducible assumption) | (with_reducible refine Below.alloc ?_ ?_ _) | (with_reducible refine Below.drew ?_) | (with_reducible refine Below.setCell ?_ ?_ _) | go_size | (exact (by simp)) | omega))
              generalize World.alloc (World.alloc w _) _ = w1 at *
              obtain ⟨⟨s0, s1, s2⟩, s3, s4, s5⟩ := boxS6 bS1
              have lS1 := bS1.lt
              obtain ⟨⟨⟨x0, x1⟩, x2, x3⟩, ⟨x4, x5⟩, x6, x7⟩ := boxS8a bX1
              have lX1 := bX1.lt
              go_wp2_with fail
              refine (HRD.out _ hB1).mono ?_
              rintro e w2 ⟨rfl, hb2⟩
              have bS2 := bS1.below hb2
              have bX2 := bX1.below hb2
              have hB2 := hB1.trans (hb2.mono hB1.size)
              clear s0 s1 s2 s3 s4 s5 lS1 x0 x1 x2 x3 x4 x5 x6 x7 lX1 bS1 bX1 hB1 hb2
              obtain ⟨⟨s0, s1, s2⟩, s3, s4, s5⟩ := boxS6 bS2
              have lS2 := bS2.lt
              obtain ⟨⟨⟨x0, x1⟩, x2, x3⟩, ⟨x4, x5⟩, x6, x7⟩ := boxS8a bX2
              have lX2 := bX2.lt
              go_wp2_with fail
              refine (HPO.out _ hB2).mono ?_
              rintro e w3 ⟨rfl, hb3⟩
              have bS3 := bS2.below hb3
              have bX3 := bX2.below hb3
              have hB3 := hB2.trans (hb3.mono hB2.size)
              clear s0 s1 s2 s3 s4 s5 lS2 x0 x1 x2 x3 x4 x5 x6 x7 lX2 bS2 bX2 hB2 hb3
              obtain ⟨⟨s0, s1, s2⟩, s3, s4, s5⟩ := boxS6 bS3
              have lS3 := bS3.lt
              obtain ⟨⟨⟨x0, x1⟩, x2, x3⟩, ⟨x4, x5⟩, x6, x7⟩ := boxS8a bX3
              have lX3 := bX3.lt
              go_wp2_with fail
              refine (HWK.out _).mono ?_
              rintro e wz ⟨rfl, hbz⟩
              have hBz := hB3.trans (hbz.mono hB3.size)
              go_wp2_with fail
              go_returns
              exact ⟨rfl, hBz⟩
            · have d3 : decide (1000 < xh) = false := decide_eq_false h3
              by_cases h4 : xo < 0
              · have d4 : decide (xo < 0) = true := decide_eq_true h4
                go_enter Try.func3, Try.ntmps3
                go_wp2_with fail
                have bS1 := (BoxS.new w 26 #[.int .i64 al, .int .i64 ah, .int .i64 bl, .int .i64 bh, .slice A cs.length c, .int .i64 wrn]).alloc (.cells #[.int .i64 k1, .int .i64 k2, .int .i64 k3, .int .i64 k4, .int .i64 xl, .int .i64 xh, .int .i64 xw, .int .i64 xo] 31)
                have bX1 := BoxS.new (w.alloc (.cells #[.int .i64 al, .int .i64 ah, .int .i64 bl, .int .i64 bh, .slice A cs.length c, .int .i64 wrn] 26)) 31 #[.int .i64 k1, .int .i64 k2, .int .i64 k3, .int .i64 k4, .int .i64 xl, .int .i64 xh, .int .i64 xw, .int .i64 xo]
                rw [World.size_alloc] at bX1
                have hB1 : Below w.heap.size w ((w.alloc (.cells #[.int .i64 al, .int .i64 ah, .int .i64 bl, .int .i64 bh, .slice A cs.length c, .int .i64 wrn] 26)).alloc (.cells #[.int .i64 k1, .int .i64 k2, .int .i64 k3, .int .i64 k4, .int .i64 xl, .int .i64 xh, .int .i64 xw, .int .i64 xo] 31)) := by (repeat' (first | (with_reducible exact Below.refl _ _) | (with_reducible assumption) | (with_reducible refine Below.alloc ?_ ?_ _) | (with_reducible refine Below.drew ?_) | (with_reducible refine Below.setCell ?_ ?_ _) | go_size | (exact (by simp)) | omega))
                generalize World.alloc (World.alloc w _) _ = w1 at *
                obtain ⟨⟨s0, s1, s2⟩, s3, s4, s5⟩ := boxS6 bS1
                have lS1 := bS1.lt
                obtain ⟨⟨⟨x0, x1⟩, x2, x3⟩, ⟨x4, x5⟩, x6, x7⟩ := boxS8a bX1
                have lX1 := bX1.lt
                go_wp2_with fail
                refine (HRD.out _ hB1).mono ?_
                rintro e w2 ⟨rfl, hb2⟩
                have bS2 := bS1.below hb2
                have bX2 := bX1.below hb2
                have hB2 := hB1.trans (hb2.mono hB1.size)
                clear s0 s1 s2 s3 s4 s5 lS1 x0 x1 x2 x3 x4 x5 x6 x7 lX1 bS1 bX1 hB1 hb2
                obtain ⟨⟨s0, s1, s2⟩, s3, s4, s5⟩ := boxS6 bS2
                have lS2 := bS2.lt
                obtain ⟨⟨⟨x0, x1⟩, x2, x3⟩, ⟨x4, x5⟩, x6, x7⟩ := boxS8a bX2
                have lX2 := bX2.lt
                go_wp2_with fail
                refine (HPO.out _ hB2).mono ?_
                rintro e w3 ⟨rfl, hb3⟩
                have bS3 := bS2.below hb3
                have bX3 := bX2.below hb3
                have hB3 := hB2.trans (hb3.mono hB2.size)
                clear s0 s1 s2 s3 s4 s5 lS2 x0 x1 x2 x3 x4 x5 x6 x7 lX2 bS2 bX2 hB2 hb3
                obtain ⟨⟨s0, s1, s2⟩, s3, s4, s5⟩ := boxS6 bS3
                have lS3 := bS3.lt
                obtain ⟨⟨⟨x0, x1⟩, x2, x3⟩, ⟨x4, x5⟩, x6, x7⟩ := boxS8a bX3
                have lX3 := bX3.lt
                go_wp2_with fail
                refine (HWK.out _).mono ?_
                rintro e wz ⟨rfl, hbz⟩
                have hBz := hB3.trans (hbz.mono hB3.size)
                go_wp2_with fail
                go_returns
                exact ⟨rfl, hBz⟩
              · have d4 : decide (xo < 0) = false := decide_eq_false h4
                by_cases h5 : 9999 < xo
                · have d5 : decide (9999 < xo) = true := decide_eq_true h5
                  go_enter Try.func3, Try.ntmps3
                  go_wp2_with fail
                  have bS1 := (BoxS.new w 26 #[.int .i64 al, .int .i64 ah, .int .i64 bl, .int .i64 bh, .slice A cs.length c, .int .i64 wrn]).alloc (.cells #[.int .i64 k1, .int .i64 k2, .int .i64 k3, .int .i64 k4, .int .i64 xl, .int .i64 xh, .int .i64 xw, .int .i64 xo] 31)
                  have bX1 := BoxS.new (w.alloc (.cells #[.int .i64 al, .int .i64 ah, .int .i64 bl, .int .i64 bh, .slice A cs.length c, .int .i64 wrn] 26)) 31 #[.int .i64 k1, .int .i64 k2, .int .i64 k3, .int .i64 k4, .int .i64 xl, .int .i64 xh, .int .i64 xw, .int .i64 xo]
                  rw [World.size_alloc] at bX1
                  have hB1 : Below w.heap.size w ((w.alloc (.cells #[.int .i64 al, .int .i64 ah, .int .i64 bl, .int .i64 bh, .slice A cs.length c, .int .i64 wrn] 26)).alloc (.cells #[.int .i64 k1, .int .i64 k2, .int .i64 k3, .int .i64 k4, .int .i64 xl, .int .i64 xh, .int .i64 xw, .int .i64 xo] 31)) := by (repeat' (first | (with_reducible exact Below.refl _ _) | (with_reducible assumption) | (with_reducible refine Below.alloc ?_ ?_ _) | (with_reducible refine Below.drew ?_) | (with_reducible refine Below.setCell ?_ ?_ _) | go_size | (exact (by simp)) | omega))
                  generalize World.alloc (World.alloc w _) _ = w1 at *
                  obtain ⟨⟨s0, s1, s2⟩, s3, s4, s5⟩ := boxS6 bS1
                  have lS1 := bS1.lt
                  obtain ⟨⟨⟨x0, x1⟩, x2, x3⟩, ⟨x4, x5⟩, x6, x7⟩ := boxS8a bX1
                  have lX1 := bX1.lt
                  go_wp2_with fail
                  refine (HRD.out _ hB1).mono ?_
                  rintro e w2 ⟨rfl, hb2⟩
                  have bS2 := bS1.below hb2
                  have bX2 := bX1.below hb2
                  have hB2 := hB1.trans (hb2.mono hB1.size)
                  clear s0 s1 s2 s3 s4 s5 lS1 x0 x1 x2 x3 x4 x5 x6 x7 lX1 bS1 bX1 hB1 hb2
                  obtain ⟨⟨s0, s1, s2⟩, s3, s4, s5⟩ := boxS6 bS2
                  have lS2 := bS2.lt
                  obtain ⟨⟨⟨x0, x1⟩, x2, x3⟩, ⟨x4, x5⟩, x6, x7⟩ := boxS8a bX2
                  have lX2 := bX2.lt
                  go_wp2_with fail
                  refine (HPO.out _ hB2).mono ?_
                  rintro e w3 ⟨rfl, hb3⟩
                  have bS3 := bS2.below hb3
                  have bX3 := bX2.below hb3
                  have hB3 := hB2.trans (hb3.mono hB2.size)
                  clear s0 s1 s2 s3 s4 s5 lS2 x0 x1 x2 x3 x4 x5 x6 x7 lX2 bS2 bX2 hB2 hb3
                  obtain ⟨⟨s0, s1, s2⟩, s3, s4, s5⟩ := boxS6 bS3
                  have lS3 := bS3.lt
                  obtain ⟨⟨⟨x0, x1⟩, x2, x3⟩, ⟨x4, x5⟩, x6, x7⟩ := boxS8a bX3
                  have lX3 := bX3.lt
                  go_wp2_with fail
                  refine (HWK.out _).mono ?_
                  rintro e wz ⟨rfl, hbz⟩
                  have hBz := hB3.trans (hbz.mono hB3.size)
                  go_wp2_with fail
                  go_returns
                  exact ⟨rfl, hBz⟩
                · have d5 : decide (9999 < xo) = false := decide_eq_false h5
                  go_enter Try.func3, Try.ntmps3
                  go_wp2_with fail
                  have bS1 := (BoxS.new w 26 #[.int .i64 al, .int .i64 ah, .int .i64 bl, .int .i64 bh, .slice A cs.length c, .int .i64 wrn]).alloc (.cells #[.int .i64 k1, .int .i64 k2, .int .i64 k3, .int .i64 k4, .int .i64 xl, .int .i64 xh, .int .i64 xw, .int .i64 xo] 31)
                  have bX1 := BoxS.new (w.alloc (.cells #[.int .i64 al, .int .i64 ah, .int .i64 bl, .int .i64 bh, .slice A cs.length c, .int .i64 wrn] 26)) 31 #[.int .i64 k1, .int .i64 k2, .int .i64 k3, .int .i64 k4, .int .i64 xl, .int .i64 xh, .int .i64 xw, .int .i64 xo]
                  rw [World.size_alloc] at bX1
                  have hB1 : Below w.heap.size w ((w.alloc (.cells #[.int .i64 al, .int .i64 ah, .int .i64 bl, .int .i64 bh, .slice A cs.length c, .int .i64 wrn] 26)).alloc (.cells #[.int .i64 k1, .int .i64 k2, .int .i64 k3, .int .i64 k4, .int .i64 xl, .int .i64 xh, .int .i64 xw, .int .i64 xo] 31)) := by (repeat' (first | (with_reducible exact Below.refl _ _) | (with_reducible assumption) | (with_reducible refine Below.alloc ?_ ?_ _) | (with_reducible refine Below.drew ?_) | (with_reducible refine Below.setCell ?_ ?_ _) | go_size | (exact (by simp)) | omega))
                  generalize World.alloc (World.alloc w _) _ = w1 at *
                  obtain ⟨⟨s0, s1, s2⟩, s3, s4, s5⟩ := boxS6 bS1
                  have lS1 := bS1.lt
                  obtain ⟨⟨⟨x0, x1⟩, x2, x3⟩, ⟨x4, x5⟩, x6, x7⟩ := boxS8a bX1
                  have lX1 := bX1.lt
                  go_wp2_with fail
                  refine (HRD.out _ hB1).mono ?_
                  rintro e w2 ⟨rfl, hb2⟩
                  have bS2 := bS1.below hb2
                  have bX2 := bX1.below hb2
                  have hB2 := hB1.trans (hb2.mono hB1.size)
                  clear s0 s1 s2 s3 s4 s5 lS1 x0 x1 x2 x3 x4 x5 x6 x7 lX1 bS1 bX1 hB1 hb2
                  obtain ⟨⟨s0, s1, s2⟩, s3, s4, s5⟩ := boxS6 bS2
                  have lS2 := bS2.lt
                  obtain ⟨⟨⟨x0, x1⟩, x2, x3⟩, ⟨x4, x5⟩, x6, x7⟩ := boxS8a bX2
                  have lX2 := bX2.lt
                  go_wp2_with fail
                  refine (HPO.out _ hB2).mono ?_
                  rintro e w3 ⟨rfl, hb3⟩
                  have bS3 := bS2.below hb3
                  have bX3 := bX2.below hb3
                  have hB3 := hB2.trans (hb3.mono hB2.size)
                  clear s0 s1 s2 s3 s4 s5 lS2 x0 x1 x2 x3 x4 x5 x6 x7 lX2 bS2 bX2 hB2 hb3
                  obtain ⟨⟨s0, s1, s2⟩, s3, s4, s5⟩ := boxS6 bS3
                  have lS3 := bS3.lt
                  obtain ⟨⟨⟨x0, x1⟩, x2, x3⟩, ⟨x4, x5⟩, x6, x7⟩ := boxS8a bX3
                  have lX3 := bX3.lt
                  go_wp2_with fail
                  clear HRD HPO
                  obtain ⟨⟨hf0, hf1⟩, bb, hbb1, hbb2⟩ := HFC2.out
                  obtain ⟨⟨⟨hal1, hal2⟩, hah1, hah2⟩, hcl, hoff⟩ := HBD2.out
                  have HOFF := Lib.hid hoff
                  clear hoff HFC2 HBD2
                  have df0 : decide (FV < 0) = false := decide_eq_false (by omega)
                  have df1 : decide ((cs.length : Int) < FV) = false := decide_eq_false (by omega)
                  refine (HFW2.out _ hB3).mono ?_
                  rintro e w4 ⟨rfl, hb4⟩
                  have bS4 := bS3.below hb4
                  have bX4 := bX3.below hb4
                  have hB4 := hB3.trans (hb4.mono hB3.size)
                  clear s0 s1 s2 s3 s4 s5 lS3 x0 x1 x2 x3 x4 x5 x6 x7 lX3 bS3 bX3 hB3 hb4 HFW2
                  obtain ⟨⟨s0, s1, s2⟩, s3, s4, s5⟩ := boxS6 bS4
                  have lS4 := bS4.lt
                  obtain ⟨⟨⟨x0, x1⟩, x2, x3⟩, ⟨x4, x5⟩, x6, x7⟩ := boxS8a bX4
                  have lX4 := bX4.lt
                  go_wp2_with fail
                  refine (HMN2.out _ hB4).mono ?_
                  rintro e w5 ⟨rfl, hb5⟩
                  have bS5 := bS4.below hb5
                  have bX5 := bX4.below hb5
                  have hB5 := hB4.trans (hb5.mono hB4.size)
                  clear s0 s1 s2 s3 s4 s5 lS4 x0 x1 x2 x3 x4 x5 x6 x7 lX4 bS4 bX4 hB4 hb5 HMN2
                  obtain ⟨⟨s0, s1, s2⟩, s3, s4, s5⟩ := boxS6 bS5
                  have lS5 := bS5.lt
                  obtain ⟨⟨⟨x0, x1⟩, x2, x3⟩, ⟨x4, x5⟩, x6, x7⟩ := boxS8a bX5
                  have lX5 := bX5.lt
                  go_wp2_with fail
                  refine (HIK2.out _).mono ?_
                  rintro e w6 ⟨rfl, rfl⟩
                  go_wp2_with fail
                  clear hbb1 hbb2 df0 df1 HIK2 s0 s1 s2 s3 s4 s5 lS5 x0 x1 x2 x3 x4 x5 x6 x7 lX5
                  have bS6 := bS5
                  have bX6 := bX5
                  have hB6 := hB5
                  clear bS5 bX5 hB5
                  refine (wpIn_wide (n := 4)).1 ?_
                  have hmo : Try.prog.follows .mixedOrders = true := by kernel_rfl
                  have q0 : Below w6.heap.size w6 w6.drew := (Below.refl _ _).drew
                  have KC : Hid (∀ W', Below w6.heap.size w6 W' → (W'.cell? ⟨w.heap.size, 0, none⟩ = some (.int .i64 al) ∧ W'.cell? ⟨w.heap.size, 1, none⟩ = some (.int .i64 ah) ∧ W'.cell? ⟨w.heap.size, 2, none⟩ = some (.int .i64 bl)) ∧ W'.cell? ⟨w.heap.size, 3, none⟩ = some (.int .i64 bh) ∧ W'.cell? ⟨w.heap.size, 4, none⟩ = some (.slice A cs.length c) ∧ W'.cell? ⟨w.heap.size, 5, none⟩ = some (.int .i64 wrn)) := fun W' h => boxS6 (bS6.below h)
                  obtain ⟨NB, hNB⟩ : ∃ n, n = w6.heap.size := ⟨_, rfl⟩
                  have hle : NB ≤ w6.heap.size := Nat.le_of_eq hNB
                  have hwN : w.heap.size ≤ NB := by rw [hNB]; exact hB6.size
                  have hSN : w.heap.size < NB := by rw [hNB]; exact bS6.lt
                  have hXN : w.heap.size + 1 < NB := by rw [hNB]; exact bX6.lt
                  have HS : Hid (∀ W', Below NB w6 W' → BoxS W' w.heap.size 26 #[.int .i64 al, .int .i64 ah, .int .i64 bl, .int .i64 bh, .slice A cs.length c, .int .i64 wrn]) := fun W' h => bS6.below (by rw [hNB] at h; exact h)
                  have HX : Hid (∀ W', Below NB w6 W' → BoxS W' (w.heap.size + 1) 31 #[.int .i64 k1, .int .i64 k2, .int .i64 k3, .int .i64 k4, .int .i64 xl, .int .i64 xh, .int .i64 xw, .int .i64 xo]) := fun W' h => bX6.below (by rw [hNB] at h; exact h)
                  have HBW : Hid (∀ W', Below NB w6 W' → Below w.heap.size w W') := fun W' h => hB6.trans (h.mono hwN)
                  rw [← hNB] at q0 KC
                  refine wpIn_region_held (fun W' => Below NB w6 W') 60 hmo ?_
                  refine wpHeldIn_take (i := 0) (v := ?_) (plain_of (by kernel_rfl)) rfl (by kernel_rfl) (fun _ _ _ h => h) (yieldsSoIn_of (by kernel_rfl) ?_ (fun _ => rfl)) q0 ?_; rotate_left; focus (intro wq hw; have kq := KC.out wq hw; clear hw; go_simp; try (with_reducible rfl))
                  refine wpHeldIn_take (i := 2) (v := ?_) (plain_of (by kernel_rfl)) rfl (by kernel_rfl) (fun _ _ _ h => h) (yieldsSoIn_of (by kernel_rfl) ?_ (fun _ => rfl)) q0 ?_; rotate_left; focus (intro wq hw; have kq := KC.out wq hw; clear hw; go_simp; try (with_reducible rfl))
                  refine wpHeldIn_take (i := 4) (v := ?_) (plain_of (by kernel_rfl)) rfl (by kernel_rfl) (fun _ _ _ h => h) (yieldsSoIn_of (by kernel_rfl) ?_ (fun _ => rfl)) q0 ?_; rotate_left; focus (intro wq hw; have kq := KC.out wq hw; clear hw; go_simp; try (with_reducible rfl))
                  refine wpHeldIn_any [1, 3, 5, 6, 7, 8] [] (fun (a0 : Act) (s : Nat → Bool) (a : Act) (W : World) => ∃ (r1 r3 r5 : Option (Option Addr × Nat)) (x6 x7 x8 : Option Nat), s 1 = r1.isSome ∧ s 3 = r3.isSome ∧ s 5 = r5.isSome ∧ s 6 = x6.isSome ∧ s 7 = x7.isSome ∧ s 8 = x8.isSome ∧ a = ((((((a0.put (some 91) (cpV al ah bl bh wrn cs.length r1)).put (some 93) (cpV al ah bl bh wrn cs.length r3)).put (some 95) (cpV al ah bl bh wrn cs.length r5)).put (some 11) (bxV x6)).put (some 12) (bxV x7)).put (some 13) (bxV x8)) ∧ Has W NB [cpT cs r1, cpT cs r3, cpT cs r5, bxT x6, bxT x7, bxT x8] ∧ Below NB w6 W) (done := #[true, true, true, true, true, true, true, true, true, false, false, false]) (f0 := 3) (by kernel_rfl) (by decide) (by kernel_rfl) (by kernel_rfl) (by kernel_rfl) ?_ ?_ ?_
                  · refine ⟨none, none, none, none, none, none, rfl, rfl, rfl, rfl, rfl, rfl, by kernel_rfl, ⟨fun T hT => ?_, ?_⟩, q0⟩
                    · simp [cpT, bxT] at hT
                      subst hT
                      trivial
                    · simp [cpT, bxT, Thing.blk]
                  · intro j o hj ho s a W1 hI hs _ K hK
                    obtain ⟨r1, r3, r5, x6, x7, x8, e1, e3, e5, e6, e7, e8, rfl, hH, hBw⟩ := hI
                    rcases (by simpa using hj : j = 1 ∨ j = 3 ∨ j = 5 ∨ j = 6 ∨ j = 7 ∨ j = 8) with rfl | rfl | rfl | rfl | rfl | rfl
                    · obtain rfl := Option.some.inj ho
                      obtain rfl : r1 = none := by cases r1 with | none => rfl | some _ => rw [hs] at e1; cases e1
                      go_simp
                      refine ⟨trivial, (callsIn_wide.2 (HCO2.out _ (hB6.trans (hBw.mono hwN)))).mono ?_⟩
                      rintro e w1 ⟨A1, c1, rfl, hO, hb⟩
                      refine hK _ _ (hBw.trans (hb.mono (Nat.le_trans hle hBw.size))) ⟨some (A1, c1), r3, r5, x6, x7, x8, by simp [upd], by simpa [upd] using e3, by simpa [upd] using e5, by simpa [upd] using e6, by simpa [upd] using e7, by simpa [upd] using e8, by kernel_rfl, hH.fresh 0 rfl hb (Nat.le_refl _) hO.out (Nat.le_trans hle hBw.size), hBw.trans (hb.mono (Nat.le_trans hle hBw.size))⟩
                    · obtain rfl := Option.some.inj ho
                      obtain rfl : r3 = none := by cases r3 with | none => rfl | some _ => rw [hs] at e3; cases e3
                      go_simp
                      refine ⟨trivial, (callsIn_wide.2 (HCO2.out _ (hB6.trans (hBw.mono hwN)))).mono ?_⟩
                      rintro e w1 ⟨A1, c1, rfl, hO, hb⟩
                      refine hK _ _ (hBw.trans (hb.mono (Nat.le_trans hle hBw.size))) ⟨r1, some (A1, c1), r5, x6, x7, x8, by simpa [upd] using e1, by simp [upd], by simpa [upd] using e5, by simpa [upd] using e6, by simpa [upd] using e7, by simpa [upd] using e8, by kernel_rfl, hH.fresh 1 rfl hb (Nat.le_refl _) hO.out (Nat.le_trans hle hBw.size), hBw.trans (hb.mono (Nat.le_trans hle hBw.size))⟩
                    · obtain rfl := Option.some.inj ho
                      obtain rfl : r5 = none := by cases r5 with | none => rfl | some _ => rw [hs] at e5; cases e5
                      go_simp
                      refine ⟨trivial, (callsIn_wide.2 (HCO2.out _ (hB6.trans (hBw.mono hwN)))).mono ?_⟩
                      rintro e w1 ⟨A1, c1, rfl, hO, hb⟩
                      refine hK _ _ (hBw.trans (hb.mono (Nat.le_trans hle hBw.size))) ⟨r1, r3, some (A1, c1), x6, x7, x8, by simpa [upd] using e1, by simpa [upd] using e3, by simp [upd], by simpa [upd] using e6, by simpa [upd] using e7, by simpa [upd] using e8, by kernel_rfl, hH.fresh 2 rfl hb (Nat.le_refl _) hO.out (Nat.le_trans hle hBw.size), hBw.trans (hb.mono (Nat.le_trans hle hBw.size))⟩
                    · obtain rfl := Option.some.inj ho
                      obtain rfl : x6 = none := by cases x6 with | none => rfl | some _ => rw [hs] at e6; cases e6
                      go_simp
                      have hb : Below W1.heap.size W1 (W1.alloc (.cells #[.int .i64 0, .int .i64 0, .int .i64 0, .int .i64 0, .slice none 0 0, .int .i64 0] 26)) := (Below.refl _ _).alloc (Nat.le_refl _) _
                      refine hK _ _ (hBw.trans (hb.mono (Nat.le_trans hle hBw.size))) ⟨r1, r3, r5, some W1.heap.size, x7, x8, by simpa [upd] using e1, by simpa [upd] using e3, by simpa [upd] using e5, by simp [upd], by simpa [upd] using e7, by simpa [upd] using e8, by kernel_rfl, hH.fresh 3 rfl hb (Nat.le_refl _) (show BoxS _ _ _ _ ∧ _ ≤ _ from ⟨BoxS.new W1 26 #[.int .i64 0, .int .i64 0, .int .i64 0, .int .i64 0, .slice none 0 0, .int .i64 0], Nat.le_refl _⟩) (Nat.le_trans hle hBw.size), hBw.trans (hb.mono (Nat.le_trans hle hBw.size))⟩
                    · obtain rfl := Option.some.inj ho
                      obtain rfl : x7 = none := by cases x7 with | none => rfl | some _ => rw [hs] at e7; cases e7
                      go_simp
                      have hb : Below W1.heap.size W1 (W1.alloc (.cells #[.int .i64 0, .int .i64 0, .int .i64 0, .int .i64 0, .slice none 0 0, .int .i64 0] 26)) := (Below.refl _ _).alloc (Nat.le_refl _) _
                      refine hK _ _ (hBw.trans (hb.mono (Nat.le_trans hle hBw.size))) ⟨r1, r3, r5, x6, some W1.heap.size, x8, by simpa [upd] using e1, by simpa [upd] using e3, by simpa [upd] using e5, by simpa [upd] using e6, by simp [upd], by simpa [upd] using e8, by kernel_rfl, hH.fresh 4 rfl hb (Nat.le_refl _) (show BoxS _ _ _ _ ∧ _ ≤ _ from ⟨BoxS.new W1 26 #[.int .i64 0, .int .i64 0, .int .i64 0, .int .i64 0, .slice none 0 0, .int .i64 0], Nat.le_refl _⟩) (Nat.le_trans hle hBw.size), hBw.trans (hb.mono (Nat.le_trans hle hBw.size))⟩
                    · obtain rfl := Option.some.inj ho
                      obtain rfl : x8 = none := by cases x8 with | none => rfl | some _ => rw [hs] at e8; cases e8
                      go_simp
                      have hb : Below W1.heap.size W1 (W1.alloc (.cells #[.int .i64 0, .int .i64 0, .int .i64 0, .int .i64 0, .slice none 0 0, .int .i64 0] 26)) := (Below.refl _ _).alloc (Nat.le_refl _) _
                      refine hK _ _ (hBw.trans (hb.mono (Nat.le_trans hle hBw.size))) ⟨r1, r3, r5, x6, x7, some W1.heap.size, by simpa [upd] using e1, by simpa [upd] using e3, by simpa [upd] using e5, by simpa [upd] using e6, by simpa [upd] using e7, by simp [upd], by kernel_rfl, hH.fresh 5 rfl hb (Nat.le_refl _) (show BoxS _ _ _ _ ∧ _ ≤ _ from ⟨BoxS.new W1 26 #[.int .i64 0, .int .i64 0, .int .i64 0, .int .i64 0, .slice none 0 0, .int .i64 0], Nat.le_refl _⟩) (Nat.le_trans hle hBw.size), hBw.trans (hb.mono (Nat.le_trans hle hBw.size))⟩
                  · intro s a W1 hall hI
                    obtain ⟨r1, r3, r5, x6, x7, x8, e1, e3, e5, e6, e7, e8, rfl, hH, hBw⟩ := hI
                    rw [hall 1 (by simp)] at e1
                    rw [hall 3 (by simp)] at e3
                    rw [hall 5 (by simp)] at e5
                    rw [hall 6 (by simp)] at e6
                    rw [hall 7 (by simp)] at e7
                    rw [hall 8 (by simp)] at e8
                    obtain ⟨⟨A3, c3⟩, rfl⟩ := Option.isSome_iff_exists.1 e1.symm
                    obtain ⟨⟨A4, c4⟩, rfl⟩ := Option.isSome_iff_exists.1 e3.symm
                    obtain ⟨⟨A5, c5⟩, rfl⟩ := Option.isSome_iff_exists.1 e5.symm
                    obtain ⟨BP, rfl⟩ := Option.isSome_iff_exists.1 e6.symm
                    obtain ⟨BQ, rfl⟩ := Option.isSome_iff_exists.1 e7.symm
                    obtain ⟨BR, rfl⟩ := Option.isSome_iff_exists.1 e8.symm
                    clear e1 e3 e5 e6 e7 e8 hall HCO2
                    unfold cpV bxV
                    unfold cpT bxT at hH
                    dsimp only at hH
                    have hbx : BoxS W1 BP 26 #[.int .i64 0, .int .i64 0, .int .i64 0, .int .i64 0, .slice none 0 0, .int .i64 0] ∧ NB ≤ BP := hH.get 3 rfl
                    obtain ⟨hbx, hNBx⟩ := hbx
                    obtain ⟨⟨o0, o1, o2⟩, o3, o4, o5⟩ := boxS6 hbx
                    have f0 := hbx.frozen 0
                    have f1 := hbx.frozen 1
                    have f2 := hbx.frozen 2
                    have f3 := hbx.frozen 3
                    have f4 := hbx.frozen 4
                    have f5 := hbx.frozen 5
                    refine wpHeldIn_one (i := 9) (by kernel_rfl) (by kernel_rfl) rfl (by kernel_rfl) (fun K' hK' => ?_)
                    go_simp
                    have qn : Below NB w6 ((((((W1.setCell ⟨BP, 0, none⟩ (.int .i64 al)).setCell ⟨BP, 1, none⟩ (.int .i64 ah)).setCell ⟨BP, 2, none⟩ (.int .i64 bl)).setCell ⟨BP, 3, none⟩ (.int .i64 bh)).setCell ⟨BP, 4, none⟩ (.slice A3 cs.length c3)).setCell ⟨BP, 5, none⟩ (.int .i64 wrn)) := by (repeat' (first | (with_reducible exact Below.refl _ _) | (with_reducible assumption) | (with_reducible refine Below.alloc ?_ ?_ _) | (with_reducible refine Below.drew ?_) | (with_reducible refine Below.setCell ?_ ?_ _) | go_size | (exact (by simp)) | omega))
                    refine hK' _ _ qn ?_
                    clear hK' K' o0 o1 o2 o3 o4 o5 f0 f1 f2 f3 f4 f5 hbx hNBx hBw
                    have hH2 : Has ((((((W1.setCell ⟨BP, 0, none⟩ (.int .i64 al)).setCell ⟨BP, 1, none⟩ (.int .i64 ah)).setCell ⟨BP, 2, none⟩ (.int .i64 bl)).setCell ⟨BP, 3, none⟩ (.int .i64 bh)).setCell ⟨BP, 4, none⟩ (.slice A3 cs.length c3)).setCell ⟨BP, 5, none⟩ (.int .i64 wrn)) NB [.row (.slice A3 cs.length c3) 29 4 cs.length (flat4 cs), .row (.slice A4 cs.length c4) 29 4 cs.length (flat4 cs), .row (.slice A5 cs.length c5) 29 4 cs.length (flat4 cs), .box BP 26 #[.int .i64 al, .int .i64 ah, .int .i64 bl, .int .i64 bh, .slice A3 cs.length c3, .int .i64 wrn], .box BQ 26 #[.int .i64 0, .int .i64 0, .int .i64 0, .int .i64 0, .slice none 0 0, .int .i64 0], .box BR 26 #[.int .i64 0, .int .i64 0, .int .i64 0, .int .i64 0, .slice none 0 0, .int .i64 0]] := hH.six 3 rfl (.int .i64 al) (.int .i64 ah) (.int .i64 bl) (.int .i64 bh) (.slice A3 cs.length c3) (.int .i64 wrn)
                    have hH := hH2
                    have hBw := qn
                    clear hH2 qn
                    generalize World.setCell (World.setCell (World.setCell (World.setCell (World.setCell (World.setCell W1 _ _) _ _) _ _) _ _) _ _) _ _ = W2 at *
                    have hbx : BoxS W2 BQ 26 #[.int .i64 0, .int .i64 0, .int .i64 0, .int .i64 0, .slice none 0 0, .int .i64 0] ∧ NB ≤ BQ := hH.get 4 rfl
                    obtain ⟨hbx, hNBx⟩ := hbx
                    obtain ⟨⟨o0, o1, o2⟩, o3, o4, o5⟩ := boxS6 hbx
                    have f0 := hbx.frozen 0
                    have f1 := hbx.frozen 1
                    have f2 := hbx.frozen 2
                    have f3 := hbx.frozen 3
                    have f4 := hbx.frozen 4
                    have f5 := hbx.frozen 5
                    refine wpHeldIn_one (i := 10) (by kernel_rfl) (by kernel_rfl) rfl (by kernel_rfl) (fun K' hK' => ?_)
                    go_simp
                    have qn : Below NB w6 ((((((W2.setCell ⟨BQ, 0, none⟩ (.int .i64 al)).setCell ⟨BQ, 1, none⟩ (.int .i64 ah)).setCell ⟨BQ, 2, none⟩ (.int .i64 bl)).setCell ⟨BQ, 3, none⟩ (.int .i64 bh)).setCell ⟨BQ, 4, none⟩ (.slice A4 cs.length c4)).setCell ⟨BQ, 5, none⟩ (.int .i64 wrn)) := by (repeat' (first | (with_reducible exact Below.refl _ _) | (with_reducible assumption) | (with_reducible refine Below.alloc ?_ ?_ _) | (with_reducible refine Below.drew ?_) | (with_reducible refine Below.setCell ?_ ?_ _) | go_size | (exact (by simp)) | omega))
                    refine hK' _ _ qn ?_
                    clear hK' K' o0 o1 o2 o3 o4 o5 f0 f1 f2 f3 f4 f5 hbx hNBx hBw
                    have hH2 : Has ((((((W2.setCell ⟨BQ, 0, none⟩ (.int .i64 al)).setCell ⟨BQ, 1, none⟩ (.int .i64 ah)).setCell ⟨BQ, 2, none⟩ (.int .i64 bl)).setCell ⟨BQ, 3, none⟩ (.int .i64 bh)).setCell ⟨BQ, 4, none⟩ (.slice A4 cs.length c4)).setCell ⟨BQ, 5, none⟩ (.int .i64 wrn)) NB [.row (.slice A3 cs.length c3) 29 4 cs.length (flat4 cs), .row (.slice A4 cs.length c4) 29 4 cs.length (flat4 cs), .row (.slice A5 cs.length c5) 29 4 cs.length (flat4 cs), .box BP 26 #[.int .i64 al, .int .i64 ah, .int .i64 bl, .int .i64 bh, .slice A3 cs.length c3, .int .i64 wrn], .box BQ 26 #[.int .i64 al, .int .i64 ah, .int .i64 bl, .int .i64 bh, .slice A4 cs.length c4, .int .i64 wrn], .box BR 26 #[.int .i64 0, .int .i64 0, .int .i64 0, .int .i64 0, .slice none 0 0, .int .i64 0]] := hH.six 4 rfl (.int .i64 al) (.int .i64 ah) (.int .i64 bl) (.int .i64 bh) (.slice A4 cs.length c4) (.int .i64 wrn)
                    have hH := hH2
                    have hBw := qn
                    clear hH2 qn
                    generalize World.setCell (World.setCell (World.setCell (World.setCell (World.setCell (World.setCell W2 _ _) _ _) _ _) _ _) _ _) _ _ = W3 at *
                    have hbx : BoxS W3 BR 26 #[.int .i64 0, .int .i64 0, .int .i64 0, .int .i64 0, .slice none 0 0, .int .i64 0] ∧ NB ≤ BR := hH.get 5 rfl
                    obtain ⟨hbx, hNBx⟩ := hbx
                    obtain ⟨⟨o0, o1, o2⟩, o3, o4, o5⟩ := boxS6 hbx
                    have f0 := hbx.frozen 0
                    have f1 := hbx.frozen 1
                    have f2 := hbx.frozen 2
                    have f3 := hbx.frozen 3
                    have f4 := hbx.frozen 4
                    have f5 := hbx.frozen 5
                    refine wpHeldIn_one (i := 11) (by kernel_rfl) (by kernel_rfl) rfl (by kernel_rfl) (fun K' hK' => ?_)
                    go_simp
                    have qn : Below NB w6 ((((((W3.setCell ⟨BR, 0, none⟩ (.int .i64 al)).setCell ⟨BR, 1, none⟩ (.int .i64 ah)).setCell ⟨BR, 2, none⟩ (.int .i64 bl)).setCell ⟨BR, 3, none⟩ (.int .i64 bh)).setCell ⟨BR, 4, none⟩ (.slice A5 cs.length c5)).setCell ⟨BR, 5, none⟩ (.int .i64 wrn)) := by (repeat' (first | (with_reducible exact Below.refl _ _) | (with_reducible assumption) | (with_reducible refine Below.alloc ?_ ?_ _) | (with_reducible refine Below.drew ?_) | (with_reducible refine Below.setCell ?_ ?_ _) | go_size | (exact (by simp)) | omega))
                    refine hK' _ _ qn ?_
                    clear hK' K' o0 o1 o2 o3 o4 o5 f0 f1 f2 f3 f4 f5 hbx hNBx hBw
                    have hH2 : Has ((((((W3.setCell ⟨BR, 0, none⟩ (.int .i64 al)).setCell ⟨BR, 1, none⟩ (.int .i64 ah)).setCell ⟨BR, 2, none⟩ (.int .i64 bl)).setCell ⟨BR, 3, none⟩ (.int .i64 bh)).setCell ⟨BR, 4, none⟩ (.slice A5 cs.length c5)).setCell ⟨BR, 5, none⟩ (.int .i64 wrn)) NB [.row (.slice A3 cs.length c3) 29 4 cs.length (flat4 cs), .row (.slice A4 cs.length c4) 29 4 cs.length (flat4 cs), .row (.slice A5 cs.length c5) 29 4 cs.length (flat4 cs), .box BP 26 #[.int .i64 al, .int .i64 ah, .int .i64 bl, .int .i64 bh, .slice A3 cs.length c3, .int .i64 wrn], .box BQ 26 #[.int .i64 al, .int .i64 ah, .int .i64 bl, .int .i64 bh, .slice A4 cs.length c4, .int .i64 wrn], .box BR 26 #[.int .i64 al, .int .i64 ah, .int .i64 bl, .int .i64 bh, .slice A5 cs.length c5, .int .i64 wrn]] := hH.six 5 rfl (.int .i64 al) (.int .i64 ah) (.int .i64 bl) (.int .i64 bh) (.slice A5 cs.length c5) (.int .i64 wrn)
                    have hH := hH2
                    have hBw := qn
                    clear hH2 qn
                    generalize World.setCell (World.setCell (World.setCell (World.setCell (World.setCell (World.setCell W3 _ _) _ _) _ _) _ _) _ _) _ _ = W4 at *
                    refine wpHeldIn_done (by kernel_rfl) ?_ _
                    go_simp
                    obtain ⟨w7, rfl⟩ : ∃ w, w = W4 := ⟨_, rfl⟩
                    have hBN7 : Below NB w6 w7 := hBw
                    have hNz : NB ≤ w7.heap.size := Nat.le_trans hle hBN7.size
                    have hH7 := hH
                    have bX7 := HX.out _ hBN7
                    clear hH hBw KC q0 bS6 bX6 hB6
                    have bP7 : BoxS w7 BP 26 #[.int .i64 al, .int .i64 ah, .int .i64 bl, .int .i64 bh, .slice A3 cs.length c3, .int .i64 wrn] := (hH7.get 3 rfl).1
                    have bQ7 : BoxS w7 BQ 26 #[.int .i64 al, .int .i64 ah, .int .i64 bl, .int .i64 bh, .slice A4 cs.length c4, .int .i64 wrn] := (hH7.get 4 rfl).1
                    have bR7 : BoxS w7 BR 26 #[.int .i64 al, .int .i64 ah, .int .i64 bl, .int .i64 bh, .slice A5 cs.length c5, .int .i64 wrn] := (hH7.get 5 rfl).1
                    obtain ⟨⟨⟨x0, x1⟩, x2, x3⟩, ⟨x4, x5⟩, x6, x7⟩ := boxS8a bX7
                    have lX7 := bX7.lt
                    obtain ⟨⟨p0, p1, p2⟩, p3, p4, p5⟩ := boxS6 bP7
                    have lP7 := bP7.lt
                    have hNP : NB ≤ BP := (hH7.get 3 rfl).2
                    have hNQ : NB ≤ BQ := (hH7.get 4 rfl).2
                    have hNR : NB ≤ BR := (hH7.get 5 rfl).2
                    have hrA : Hid (w7.ownsRow NB 29 4 (.slice A3 cs.length c3) cs.length (flat4 cs)) := hH7.get 0 rfl
                    go_upto_region 9 with (at_builtin; go_must (refine wpList_push4 rfl (.tmp 97) (.tmp 100) rfl (k1, k2, k3, k4) NB _ cs.length (flat4 cs) rfl rfl hrA.out hNz (by omega) ?_; intro v' w8 hown8 hgr8 hfr8; (obtain ⟨A6, c6, rfl⟩ := own_form4 hown8); (have hH8 : Has w8 NB [.row (.slice A6 (cs.length + 1) c6) 29 4 (cs.length + 1) (flat4 cs ++ flat4 [(k1, k2, k3, k4)]), .row (.slice A4 cs.length c4) 29 4 cs.length (flat4 cs), .row (.slice A5 cs.length c5) 29 4 cs.length (flat4 cs), .box BP 26 #[.int .i64 al, .int .i64 ah, .int .i64 bl, .int .i64 bh, .slice A3 cs.length c3, .int .i64 wrn], .box BQ 26 #[.int .i64 al, .int .i64 ah, .int .i64 bl, .int .i64 bh, .slice A4 cs.length c4, .int .i64 wrn], .box BR 26 #[.int .i64 al, .int .i64 ah, .int .i64 bl, .int .i64 bh, .slice A5 cs.length c5, .int .i64 wrn]] := hH7.change 0 rfl hgr8 (fun g e => e) hown8 hfr8); (have hB8 : Below NB w6 w8 := hBN7.trans (below_of_grown hgr8 hNz (fun g e => (Thing.lt (hH7.get 0 rfl) e).1))); clear hown8 hgr8 hfr8 p0 p1 p2 p3 p4 p5; (obtain ⟨⟨p0, p1, p2⟩, p3, p4, p5⟩ := boxS6 (hH8.get 3 rfl : BoxS w8 BP 26 #[.int .i64 al, .int .i64 ah, .int .i64 bl, .int .i64 bh, .slice A3 cs.length c3, .int .i64 wrn] ∧ NB ≤ BP).1); (have pf4 := (hH8.get 3 rfl : BoxS w8 BP 26 #[.int .i64 al, .int .i64 ah, .int .i64 bl, .int .i64 bh, .slice A3 cs.length c3, .int .i64 wrn] ∧ NB ≤ BP).1.frozen 4)))
                    have hH9n : Has (w8.setCell ⟨BP, 4, none⟩ (.slice A6 (cs.length + 1) c6)) NB [.row (.slice A6 (cs.length + 1) c6) 29 4 (cs.length + 1) (flat4 cs ++ flat4 [(k1, k2, k3, k4)]), .row (.slice A4 cs.length c4) 29 4 cs.length (flat4 cs), .row (.slice A5 cs.length c5) 29 4 cs.length (flat4 cs), .box BP 26 #[.int .i64 al, .int .i64 ah, .int .i64 bl, .int .i64 bh, .slice A6 (cs.length + 1) c6, .int .i64 wrn], .box BQ 26 #[.int .i64 al, .int .i64 ah, .int .i64 bl, .int .i64 bh, .slice A4 cs.length c4, .int .i64 wrn], .box BR 26 #[.int .i64 al, .int .i64 ah, .int .i64 bl, .int .i64 bh, .slice A5 cs.length c5, .int .i64 wrn]] := hH8.put 3 rfl 4 (.slice A6 (cs.length + 1) c6)
                    have hB9n : Below NB w6 (w8.setCell ⟨BP, 4, none⟩ (.slice A6 (cs.length + 1) c6)) := by (repeat' (first | (with_reducible exact Below.refl _ _) | (with_reducible assumption) | (with_reducible refine Below.alloc ?_ ?_ _) | (with_reducible refine Below.drew ?_) | (with_reducible refine Below.setCell ?_ ?_ _) | go_size | (exact (by simp)) | omega))
                    clear hH8 hB8 p0 p1 p2 p3 p4 p5 pf4 hrA
                    generalize World.setCell w8 _ _ = w9 at *
                    have hH9 := hH9n
                    have hBN9 := hB9n
                    clear hH9n hB9n hH7 bP7 bQ7 bR7 lP7 x0 x1 x2 x3 x4 x5 x6 x7 lX7
                    have bS9 := HS.out _ hBN9
                    have bX9 := HX.out _ hBN9
                    have bQ9 : BoxS w9 BQ 26 #[.int .i64 al, .int .i64 ah, .int .i64 bl, .int .i64 bh, .slice A4 cs.length c4, .int .i64 wrn] := (hH9.get 4 rfl : BoxS w9 BQ 26 #[.int .i64 al, .int .i64 ah, .int .i64 bl, .int .i64 bh, .slice A4 cs.length c4, .int .i64 wrn] ∧ NB ≤ BQ).1
                    obtain ⟨⟨s0, s1, s2⟩, s3, s4, s5⟩ := boxS6 bS9
                    have lS9 := bS9.lt
                    obtain ⟨⟨⟨x0, x1⟩, x2, x3⟩, ⟨x4, x5⟩, x6, x7⟩ := boxS8a bX9
                    have lX9 := bX9.lt
                    obtain ⟨⟨q0, q1, q2⟩, q3, q4, q5⟩ := boxS6 bQ9
                    have lQ9 := bQ9.lt
                    have hw1 : IntKind.i64.wrap (al + xl) = al + xl := IntWalk.i64_in _ (by omega)
                    have hw2 : IntKind.i64.wrap (ah - xh) = ah - xh := IntWalk.i64_in _ (by omega)
                    have fQ0 := bQ9.frozen 0
                    have fQ1 := bQ9.frozen 1
                    go_upto_region 10 with fail
                    have hH9a : Has (w9.setCell ⟨BQ, 0, none⟩ (.int .i64 (al + xl))) NB [.row (.slice A6 (cs.length + 1) c6) 29 4 (cs.length + 1) (flat4 cs ++ flat4 [(k1, k2, k3, k4)]), .row (.slice A4 cs.length c4) 29 4 cs.length (flat4 cs), .row (.slice A5 cs.length c5) 29 4 cs.length (flat4 cs), .box BP 26 #[.int .i64 al, .int .i64 ah, .int .i64 bl, .int .i64 bh, .slice A6 (cs.length + 1) c6, .int .i64 wrn], .box BQ 26 #[.int .i64 (al + xl), .int .i64 ah, .int .i64 bl, .int .i64 bh, .slice A4 cs.length c4, .int .i64 wrn], .box BR 26 #[.int .i64 al, .int .i64 ah, .int .i64 bl, .int .i64 bh, .slice A5 cs.length c5, .int .i64 wrn]] := hH9.put 4 rfl 0 (.int .i64 (al + xl))
                    have hH10n : Has ((w9.setCell ⟨BQ, 0, none⟩ (.int .i64 (al + xl))).setCell ⟨BQ, 1, none⟩ (.int .i64 (ah - xh))) NB [.row (.slice A6 (cs.length + 1) c6) 29 4 (cs.length + 1) (flat4 cs ++ flat4 [(k1, k2, k3, k4)]), .row (.slice A4 cs.length c4) 29 4 cs.length (flat4 cs), .row (.slice A5 cs.length c5) 29 4 cs.length (flat4 cs), .box BP 26 #[.int .i64 al, .int .i64 ah, .int .i64 bl, .int .i64 bh, .slice A6 (cs.length + 1) c6, .int .i64 wrn], .box BQ 26 #[.int .i64 (al + xl), .int .i64 (ah - xh), .int .i64 bl, .int .i64 bh, .slice A4 cs.length c4, .int .i64 wrn], .box BR 26 #[.int .i64 al, .int .i64 ah, .int .i64 bl, .int .i64 bh, .slice A5 cs.length c5, .int .i64 wrn]] := hH9a.put 4 rfl 1 (.int .i64 (ah - xh))
                    have hB10n : Below NB w6 ((w9.setCell ⟨BQ, 0, none⟩ (.int .i64 (al + xl))).setCell ⟨BQ, 1, none⟩ (.int .i64 (ah - xh))) := by have := hBN9; (repeat' (first | (with_reducible exact Below.refl _ _) | (with_reducible assumption) | (with_reducible refine Below.alloc ?_ ?_ _) | (with_reducible refine Below.drew ?_) | (with_reducible refine Below.setCell ?_ ?_ _) | go_size | (exact (by simp)) | omega))
                    clear hH9a hH9 hBN9 hw1 hw2 fQ0 fQ1 s0 s1 s2 s3 s4 s5 lS9 x0 x1 x2 x3 x4 x5 x6 x7 lX9 q0 q1 q2 q3 q4 q5 lQ9 bS9 bX9 bQ9
                    generalize World.setCell (World.setCell w9 _ _) _ _ = w10 at *
                    have hH10 := hH10n
                    have hBN10 := hB10n
                    clear hH10n hB10n
                    have bX10 := HX.out _ hBN10
                    have bR10 : BoxS w10 BR 26 #[.int .i64 al, .int .i64 ah, .int .i64 bl, .int .i64 bh, .slice A5 cs.length c5, .int .i64 wrn] := (hH10.get 5 rfl : BoxS w10 BR 26 #[.int .i64 al, .int .i64 ah, .int .i64 bl, .int .i64 bh, .slice A5 cs.length c5, .int .i64 wrn] ∧ NB ≤ BR).1
                    obtain ⟨⟨⟨x0, x1⟩, x2, x3⟩, ⟨x4, x5⟩, x6, x7⟩ := boxS8a bX10
                    have lX10 := bX10.lt
                    obtain ⟨⟨r0, r1, r2⟩, r3, r4, r5⟩ := boxS6 bR10
                    have lR10 := bR10.lt
                    by_cases hw0 : 0 ≤ xw
                    · have dw0 : decide (0 ≤ xw) = true := decide_eq_true hw0
                      by_cases hw1 : xw < cs.length
                      · have dw1 : decide (xw < (cs.length : Int)) = true := decide_eq_true hw1
                        obtain ⟨k, hk⟩ : ∃ k : Nat, xw = k := ⟨xw.toNat, by omega⟩
                        subst hk
                        have hkn : k < cs.length := by omega
                        obtain ⟨hofl, hofh⟩ := HOFF.out k hkn
                        have hrC : Hid (w10.ownsRow NB 29 4 (.slice A5 cs.length c5) cs.length (flat4 cs)) := hH10.get 2 rfl
                        obtain ⟨g, cap, rfl, hgNB, rfl⟩ : ∃ g cap, A5 = some ⟨g, 0, none⟩ ∧ NB ≤ g ∧ c5 = cap := by
                          rcases hrC.out.2 with ⟨e, e2⟩ | ⟨g, cap, cur, e, hb, _⟩
                          · omega
                          · injection e with e1 _ e3
                            exact ⟨g, cap, e1, hb, e3⟩
                        have hck : Sh.ctAt cs k = cs[k] := Sh.ctAt_eq (List.getElem?_eq_getElem hkn)
                        have hcell := hrC.out.cellAt (k * 4 + 3) (by omega)
                        rw [(flat4_get _ k).2.2.2, List.getElem?_eq_getElem hkn] at hcell
                        have hfroz := hrC.out.frozenAt (k * 4 + 3)
                        have hst := hrC.out.stored (k * 4 + 3) (.int .i64 (cs[k].2.2.2 - xo))
                        rw [flat4_set3 _ k _ (List.getElem?_eq_getElem hkn)] at hst
                        rw [hck] at hofl hofh
                        have hw1 : IntKind.i64.wrap (cs[k].2.2.2 - xo) = cs[k].2.2.2 - xo := IntWalk.i64_in _ (by omega)
                        have hds : cs.set k (cs[k].1, cs[k].2.1, cs[k].2.2.1, cs[k].2.2.2 - xo) = cs.set k (Sh.lessC (Sh.ctAt cs k) xo) := by rw [hck]; rfl
                        rw [hds] at hst
                        have HST := Lib.hid hst
                        have hcel2 : w10.cell? ⟨g, k * 4 + 3, none⟩ = some (.int .i64 cs[k].2.2.2) := hcell
                        have hgl : g < w10.heap.size := (hrC.out.lt g rfl).2
                        clear hst hcell hds hck hrC
                        generalize cs[k].2.2.2 = off at *
                        go_upto_region 11 with fail
                        refine (wpIn_wide (n := 4)).1 ?_
                        have hmo3 : Try.prog.follows .mixedOrders = true := by kernel_rfl
                        refine wpIn_region_held (fun W' => W' = w10.drew) 12 hmo3 ?_
                        refine wpHeldIn_take (i := 0) (v := ?_) (plain_of (by kernel_rfl)) rfl (by kernel_rfl) (fun _ _ _ h => h) (yieldsSoIn_of (by kernel_rfl) ?_ (fun _ => rfl)) rfl ?_; rotate_left; focus (intro w hw; cases hw; go_simp; try (with_reducible rfl))
                        refine wpHeldIn_take (i := 1) (v := ?_) (plain_of (by kernel_rfl)) rfl (by kernel_rfl) (fun _ _ _ h => h) (yieldsSoIn_of (by kernel_rfl) ?_ (fun _ => rfl)) rfl ?_; rotate_left; focus (intro w hw; cases hw; go_simp; try (with_reducible rfl))
                        refine wpHeldIn_take (i := 2) (v := ?_) (plain_of (by kernel_rfl)) rfl (by kernel_rfl) (fun _ _ _ h => h) (yieldsSoIn_of (by kernel_rfl) ?_ (fun _ => rfl)) rfl ?_; rotate_left; focus (intro w hw; cases hw; go_simp; try (with_reducible rfl))
                        refine wpHeldIn_take (i := 3) (v := ?_) (plain_of (by kernel_rfl)) rfl (by kernel_rfl) (fun _ _ _ h => h) (yieldsSoIn_of (by kernel_rfl) ?_ (fun _ => rfl)) rfl ?_; rotate_left; focus (intro w hw; cases hw; go_simp; try (with_reducible rfl))
                        refine wpHeldIn_take (i := 4) (v := ?_) (plain_of (by kernel_rfl)) rfl (by kernel_rfl) (fun _ _ _ h => h) (yieldsSoIn_of (by kernel_rfl) ?_ (fun _ => rfl)) rfl ?_; rotate_left; focus (intro w hw; cases hw; go_simp; try (with_reducible rfl))
                        refine wpHeldIn_take (i := 5) (v := ?_) (plain_of (by kernel_rfl)) rfl (by kernel_rfl) (fun _ _ _ h => h) (yieldsSoIn_of (by kernel_rfl) ?_ (fun _ => rfl)) rfl ?_; rotate_left; focus (intro w hw; cases hw; go_simp; try (with_reducible rfl))
                        refine wpHeldIn_take (i := 6) (v := ?_) (plain_of (by kernel_rfl)) rfl (by kernel_rfl) (fun _ _ _ h => h) (yieldsSoIn_of (by kernel_rfl) ?_ (fun _ => rfl)) rfl ?_; rotate_left; focus (intro w hw; cases hw; go_simp; try (with_reducible rfl))
                        refine wpHeldIn_take (i := 7) (v := ?_) (plain_of (by kernel_rfl)) rfl (by kernel_rfl) (fun _ _ _ h => h) (yieldsSoIn_of (by kernel_rfl) ?_ (fun _ => rfl)) rfl ?_; rotate_left; focus (intro w hw; cases hw; go_simp; try (with_reducible rfl))
                        refine wpHeldIn_take (i := 8) (v := ?_) (plain_of (by kernel_rfl)) rfl (by kernel_rfl) (fun _ _ _ h => h) (yieldsSoIn_of (by kernel_rfl) ?_ (fun _ => rfl)) rfl ?_; rotate_left; focus (intro w hw; cases hw; go_simp; try (with_reducible rfl))
                        refine wpHeldIn_take (i := 9) (v := ?_) (plain_of (by kernel_rfl)) rfl (by kernel_rfl) (fun _ _ _ h => h) (yieldsSoIn_of (by kernel_rfl) ?_ (fun _ => rfl)) rfl ?_; rotate_left; focus (intro w hw; cases hw; go_simp; try (with_reducible rfl))
                        refine wpHeldIn_take (i := 10) (v := ?_) (plain_of (by kernel_rfl)) rfl (by kernel_rfl) (fun _ _ _ h => h) (yieldsSoIn_of (by kernel_rfl) ?_ (fun _ => rfl)) rfl ?_; rotate_left; focus (intro w hw; cases hw; go_simp; try (with_reducible rfl))
                        refine wpHeldIn_take (i := 11) (v := ?_) (plain_of (by kernel_rfl)) rfl (by kernel_rfl) (fun _ _ _ h => h) (yieldsSoIn_of (by kernel_rfl) ?_ (fun _ => rfl)) rfl ?_; rotate_left; focus (intro w hw; cases hw; go_simp; try (with_reducible rfl))
                        refine wpHeldIn_last (by kernel_rfl) rfl (by kernel_rfl) (fun K2 hK2 => ?_)
                        go_simp
                        refine hK2 _ _ ?_
                        refine wpHeldIn_done (by kernel_rfl) ?_ _
                        go_simp
                        have hsd : Below (w10.setCell ⟨g, k * 4 + 3, none⟩ (.int .i64 (off - xo))).heap.size (w10.setCell ⟨g, k * 4 + 3, none⟩ (.int .i64 (off - xo))) (w10.setCell ⟨g, k * 4 + 3, none⟩ (.int .i64 (off - xo))).drew := (Below.refl _ _).drew
                        have hH11m : Has (w10.setCell ⟨g, k * 4 + 3, none⟩ (.int .i64 (off - xo))) NB [.row (.slice A6 (cs.length + 1) c6) 29 4 (cs.length + 1) (flat4 cs ++ flat4 [(k1, k2, k3, k4)]), .row (.slice A4 cs.length c4) 29 4 cs.length (flat4 cs), .row (.slice (some ⟨g, 0, none⟩) cs.length c5) 29 4 cs.length (flat4 (cs.set k (Sh.lessC (Sh.ctAt cs k) xo))), .box BP 26 #[.int .i64 al, .int .i64 ah, .int .i64 bl, .int .i64 bh, .slice A6 (cs.length + 1) c6, .int .i64 wrn], .box BQ 26 #[.int .i64 (al + xl), .int .i64 (ah - xh), .int .i64 bl, .int .i64 bh, .slice A4 cs.length c4, .int .i64 wrn], .box BR 26 #[.int .i64 al, .int .i64 ah, .int .i64 bl, .int .i64 bh, .slice (some ⟨g, 0, none⟩) cs.length c5, .int .i64 wrn]] := hH10.change 2 rfl (row := some g) (grownBy_set _ _ _ _) (fun _ e => e) HST.out.1 (fun _ e => .inl e)
                        have hH11n : Has (w10.setCell ⟨g, k * 4 + 3, none⟩ (.int .i64 (off - xo))).drew NB [.row (.slice A6 (cs.length + 1) c6) 29 4 (cs.length + 1) (flat4 cs ++ flat4 [(k1, k2, k3, k4)]), .row (.slice A4 cs.length c4) 29 4 cs.length (flat4 cs), .row (.slice (some ⟨g, 0, none⟩) cs.length c5) 29 4 cs.length (flat4 (cs.set k (Sh.lessC (Sh.ctAt cs k) xo))), .box BP 26 #[.int .i64 al, .int .i64 ah, .int .i64 bl, .int .i64 bh, .slice A6 (cs.length + 1) c6, .int .i64 wrn], .box BQ 26 #[.int .i64 (al + xl), .int .i64 (ah - xh), .int .i64 bl, .int .i64 bh, .slice A4 cs.length c4, .int .i64 wrn], .box BR 26 #[.int .i64 al, .int .i64 ah, .int .i64 bl, .int .i64 bh, .slice (some ⟨g, 0, none⟩) cs.length c5, .int .i64 wrn]] := hH11m.below hsd (Nat.le_refl _)
                        have hB11n : Below NB w6 (w10.setCell ⟨g, k * 4 + 3, none⟩ (.int .i64 (off - xo))).drew := by have := hBN10; (repeat' (first | (with_reducible exact Below.refl _ _) | (with_reducible assumption) | (with_reducible refine Below.alloc ?_ ?_ _) | (with_reducible refine Below.drew ?_) | (with_reducible refine Below.setCell ?_ ?_ _) | go_size | (exact (by simp)) | omega))
                        clear hsd hH11m hH10 hBN10 HST hcel2 hfroz hw1 hofl hofh hgl x0 x1 x2 x3 x4 x5 x6 x7 lX10 r0 r1 r2 r3 r4 r5 lR10 bX10 bR10
                        generalize World.drew (World.setCell w10 _ _) = w11 at *
                        have hH11 := hH11n
                        have hBN11 := hB11n
                        clear hH11n hB11n
                        go_upto_region 12 with fail
                        have bS11 := HS.out _ hBN11
                        have bP11 : BoxS w11 BP 26 #[.int .i64 al, .int .i64 ah, .int .i64 bl, .int .i64 bh, .slice A6 (cs.length + 1) c6, .int .i64 wrn] := (hH11.get 3 rfl : BoxS w11 BP 26 #[.int .i64 al, .int .i64 ah, .int .i64 bl, .int .i64 bh, .slice A6 (cs.length + 1) c6, .int .i64 wrn] ∧ NB ≤ BP).1
                        have bQ11 : BoxS w11 BQ 26 #[.int .i64 (al + xl), .int .i64 (ah - xh), .int .i64 bl, .int .i64 bh, .slice A4 cs.length c4, .int .i64 wrn] := (hH11.get 4 rfl : BoxS w11 BQ 26 #[.int .i64 (al + xl), .int .i64 (ah - xh), .int .i64 bl, .int .i64 bh, .slice A4 cs.length c4, .int .i64 wrn] ∧ NB ≤ BQ).1
                        have bR11 : BoxS w11 BR 26 #[.int .i64 al, .int .i64 ah, .int .i64 bl, .int .i64 bh, .slice (some ⟨g, 0, none⟩) cs.length c5, .int .i64 wrn] := (hH11.get 5 rfl : BoxS w11 BR 26 #[.int .i64 al, .int .i64 ah, .int .i64 bl, .int .i64 bh, .slice (some ⟨g, 0, none⟩) cs.length c5, .int .i64 wrn] ∧ NB ≤ BR).1
                        obtain ⟨⟨s0, s1, s2⟩, s3, s4, s5⟩ := boxS6 bS11
                        have lS11 := bS11.lt
                        obtain ⟨⟨p0, p1, p2⟩, p3, p4, p5⟩ := boxS6 bP11
                        have lP11 := bP11.lt
                        obtain ⟨⟨q0, q1, q2⟩, q3, q4, q5⟩ := boxS6 bQ11
                        have lQ11 := bQ11.lt
                        obtain ⟨⟨r0, r1, r2⟩, r3, r4, r5⟩ := boxS6 bR11
                        have lR11 := bR11.lt
                        have hB11 := HBW.out _ hBN11
                        have hlA : (cs ++ [(k1, k2, k3, k4)]).length = cs.length + 1 := by simp
                        have HCA11 : Hid (Cts w11 w11.heap.size A6 (cs ++ [(k1, k2, k3, k4)])) := Cts.of_reads (Reads.of_own (by rw [hlA, flat4_append]; exact (hH11.get 0 rfl : w11.ownsRow NB 29 4 (.slice A6 (cs.length + 1) c6) (cs.length + 1) (flat4 cs ++ flat4 [(k1, k2, k3, k4)]))))
                        have HCB11 : Hid (Cts w11 w11.heap.size A4 cs) := Cts.of_reads (Reads.of_own (hH11.get 1 rfl : w11.ownsRow NB 29 4 (.slice A4 cs.length c4) cs.length (flat4 cs)))
                        have hlD : (cs.set k (Sh.lessC (Sh.ctAt cs k) xo)).length = cs.length := by simp
                        have HCC11 : Hid (Cts w11 w11.heap.size (some ⟨g, 0, none⟩) (cs.set k (Sh.lessC (Sh.ctAt cs k) xo))) := Cts.of_reads (Reads.of_own (by rw [hlD]; exact (hH11.get 2 rfl : w11.ownsRow NB 29 4 (.slice (some ⟨g, 0, none⟩) cs.length c5) cs.length (flat4 (cs.set k (Sh.lessC (Sh.ctAt cs k) xo))))))
                        clear hlA hlD
                        go_wp2_with fail
                        refine (HINA3.out A6 c6 _ hB11 HCA11.out).mono ?_
                        rintro e w12 ⟨rfl, hb12⟩
                        have bS12 := bS11.below hb12
                        have bP12 := bP11.below hb12
                        have bQ12 := bQ11.below hb12
                        have bR12 := bR11.below hb12
                        have hB12 := hB11.trans (hb12.mono hB11.size)
                        have HCA12 : Hid (Cts w12 w12.heap.size A6 (cs ++ [(k1, k2, k3, k4)])) := (HCA11.out.keep hb12).wider hb12.size
                        have HCB12 : Hid (Cts w12 w12.heap.size A4 cs) := (HCB11.out.keep hb12).wider hb12.size
                        have HCC12 : Hid (Cts w12 w12.heap.size (some ⟨g, 0, none⟩) (cs.set k (Sh.lessC (Sh.ctAt cs k) xo))) := (HCC11.out.keep hb12).wider hb12.size
                        clear s0 s1 s2 s3 s4 s5 lS11 p0 p1 p2 p3 p4 p5 lP11 q0 q1 q2 q3 q4 q5 lQ11 r0 r1 r2 r3 r4 r5 lR11 bS11 bP11 bQ11 bR11 HCA11 HCB11 HCC11 hB11 hb12
                        obtain ⟨⟨s0, s1, s2⟩, s3, s4, s5⟩ := boxS6 bS12
                        have lS12 := bS12.lt
                        obtain ⟨⟨q0, q1, q2⟩, q3, q4, q5⟩ := boxS6 bQ12
                        have lQ12 := bQ12.lt
                        obtain ⟨⟨r0, r1, r2⟩, r3, r4, r5⟩ := boxS6 bR12
                        have lR12 := bR12.lt
                        go_wp2_with fail
                        refine (HINB3.out (by omega) (by omega) A4 c4 _ hB12 HCB12.out).mono ?_
                        rintro e w13 ⟨rfl, hb13⟩
                        have bS13 := bS12.below hb13
                        have bP13 := bP12.below hb13
                        have bQ13 := bQ12.below hb13
                        have bR13 := bR12.below hb13
                        have hB13 := hB12.trans (hb13.mono hB12.size)
                        have HCA13 : Hid (Cts w13 w13.heap.size A6 (cs ++ [(k1, k2, k3, k4)])) := (HCA12.out.keep hb13).wider hb13.size
                        have HCB13 : Hid (Cts w13 w13.heap.size A4 cs) := (HCB12.out.keep hb13).wider hb13.size
                        have HCC13 : Hid (Cts w13 w13.heap.size (some ⟨g, 0, none⟩) (cs.set k (Sh.lessC (Sh.ctAt cs k) xo))) := (HCC12.out.keep hb13).wider hb13.size
                        clear s0 s1 s2 s3 s4 s5 lS12 q0 q1 q2 q3 q4 q5 lQ12 r0 r1 r2 r3 r4 r5 lR12 bS12 bP12 bQ12 bR12 HCA12 HCB12 HCC12 hB12 hb13
                        obtain ⟨⟨s0, s1, s2⟩, s3, s4, s5⟩ := boxS6 bS13
                        have lS13 := bS13.lt
                        obtain ⟨⟨r0, r1, r2⟩, r3, r4, r5⟩ := boxS6 bR13
                        have lR13 := bR13.lt
                        go_wp2_with fail
                        refine (HINC3.out (some ⟨g, 0, none⟩) c5 _ (cs.set k (Sh.lessC (Sh.ctAt cs k) xo)) (.inr ⟨k, hkn, by omega, rfl⟩) hB13 HCC13.out).mono ?_
                        rintro e w14 ⟨rfl, hb14⟩
                        have bS14 := bS13.below hb14
                        have bP14 := bP13.below hb14
                        have bQ14 := bQ13.below hb14
                        have bR14 := bR13.below hb14
                        have hB14 := hB13.trans (hb14.mono hB13.size)
                        have HCA14 : Hid (Cts w14 w14.heap.size A6 (cs ++ [(k1, k2, k3, k4)])) := (HCA13.out.keep hb14).wider hb14.size
                        have HCB14 : Hid (Cts w14 w14.heap.size A4 cs) := (HCB13.out.keep hb14).wider hb14.size
                        have HCC14 : Hid (Cts w14 w14.heap.size (some ⟨g, 0, none⟩) (cs.set k (Sh.lessC (Sh.ctAt cs k) xo))) := (HCC13.out.keep hb14).wider hb14.size
                        clear s0 s1 s2 s3 s4 s5 lS13 r0 r1 r2 r3 r4 r5 lR13 bS13 bP13 bQ13 bR13 HCA13 HCB13 HCC13 hB13 hb14
                        go_wp2_with fail
                        refine (HWK.out _).mono ?_
                        rintro e wz ⟨rfl, hbz⟩
                        have hBz := hB14.trans (hbz.mono hB14.size)
                        go_wp2_with fail
                        go_returns
                        exact ⟨rfl, hBz⟩
                      · have dw1 : decide (xw < (cs.length : Int)) = false := decide_eq_false hw1
                        go_upto_region 12 with fail
                        clear x0 x1 x2 x3 x4 x5 x6 x7 lX10 r0 r1 r2 r3 r4 r5 lR10 bX10 bR10
                        have bS10 := HS.out _ hBN10
                        have bP10 : BoxS w10 BP 26 #[.int .i64 al, .int .i64 ah, .int .i64 bl, .int .i64 bh, .slice A6 (cs.length + 1) c6, .int .i64 wrn] := (hH10.get 3 rfl : BoxS w10 BP 26 #[.int .i64 al, .int .i64 ah, .int .i64 bl, .int .i64 bh, .slice A6 (cs.length + 1) c6, .int .i64 wrn] ∧ NB ≤ BP).1
                        have bQ10 : BoxS w10 BQ 26 #[.int .i64 (al + xl), .int .i64 (ah - xh), .int .i64 bl, .int .i64 bh, .slice A4 cs.length c4, .int .i64 wrn] := (hH10.get 4 rfl : BoxS w10 BQ 26 #[.int .i64 (al + xl), .int .i64 (ah - xh), .int .i64 bl, .int .i64 bh, .slice A4 cs.length c4, .int .i64 wrn] ∧ NB ≤ BQ).1
                        have bR10 : BoxS w10 BR 26 #[.int .i64 al, .int .i64 ah, .int .i64 bl, .int .i64 bh, .slice A5 cs.length c5, .int .i64 wrn] := (hH10.get 5 rfl : BoxS w10 BR 26 #[.int .i64 al, .int .i64 ah, .int .i64 bl, .int .i64 bh, .slice A5 cs.length c5, .int .i64 wrn] ∧ NB ≤ BR).1
                        obtain ⟨⟨s0, s1, s2⟩, s3, s4, s5⟩ := boxS6 bS10
                        have lS10 := bS10.lt
                        obtain ⟨⟨p0, p1, p2⟩, p3, p4, p5⟩ := boxS6 bP10
                        have lP10 := bP10.lt
                        obtain ⟨⟨q0, q1, q2⟩, q3, q4, q5⟩ := boxS6 bQ10
                        have lQ10 := bQ10.lt
                        obtain ⟨⟨r0, r1, r2⟩, r3, r4, r5⟩ := boxS6 bR10
                        have lR10 := bR10.lt
                        have hB10 := HBW.out _ hBN10
                        have hlA : (cs ++ [(k1, k2, k3, k4)]).length = cs.length + 1 := by simp
                        have HCA10 : Hid (Cts w10 w10.heap.size A6 (cs ++ [(k1, k2, k3, k4)])) := Cts.of_reads (Reads.of_own (by rw [hlA, flat4_append]; exact (hH10.get 0 rfl : w10.ownsRow NB 29 4 (.slice A6 (cs.length + 1) c6) (cs.length + 1) (flat4 cs ++ flat4 [(k1, k2, k3, k4)]))))
                        have HCB10 : Hid (Cts w10 w10.heap.size A4 cs) := Cts.of_reads (Reads.of_own (hH10.get 1 rfl : w10.ownsRow NB 29 4 (.slice A4 cs.length c4) cs.length (flat4 cs)))
                        have hlD : cs.length = cs.length := by simp
                        have HCC10 : Hid (Cts w10 w10.heap.size A5 cs) := Cts.of_reads (Reads.of_own (by rw [hlD]; exact (hH10.get 2 rfl : w10.ownsRow NB 29 4 (.slice A5 cs.length c5) cs.length (flat4 cs))))
                        clear hlA hlD
                        go_wp2_with fail
                        refine (HINA3.out A6 c6 _ hB10 HCA10.out).mono ?_
                        rintro e w11 ⟨rfl, hb11⟩
                        have bS11 := bS10.below hb11
                        have bP11 := bP10.below hb11
                        have bQ11 := bQ10.below hb11
                        have bR11 := bR10.below hb11
                        have hB11 := hB10.trans (hb11.mono hB10.size)
                        have HCA11 : Hid (Cts w11 w11.heap.size A6 (cs ++ [(k1, k2, k3, k4)])) := (HCA10.out.keep hb11).wider hb11.size
                        have HCB11 : Hid (Cts w11 w11.heap.size A4 cs) := (HCB10.out.keep hb11).wider hb11.size
                        have HCC11 : Hid (Cts w11 w11.heap.size A5 cs) := (HCC10.out.keep hb11).wider hb11.size
                        clear s0 s1 s2 s3 s4 s5 lS10 p0 p1 p2 p3 p4 p5 lP10 q0 q1 q2 q3 q4 q5 lQ10 r0 r1 r2 r3 r4 r5 lR10 bS10 bP10 bQ10 bR10 HCA10 HCB10 HCC10 hB10 hb11
                        obtain ⟨⟨s0, s1, s2⟩, s3, s4, s5⟩ := boxS6 bS11
                        have lS11 := bS11.lt
                        obtain ⟨⟨q0, q1, q2⟩, q3, q4, q5⟩ := boxS6 bQ11
                        have lQ11 := bQ11.lt
                        obtain ⟨⟨r0, r1, r2⟩, r3, r4, r5⟩ := boxS6 bR11
                        have lR11 := bR11.lt
                        go_wp2_with fail
                        refine (HINB3.out (by omega) (by omega) A4 c4 _ hB11 HCB11.out).mono ?_
                        rintro e w12 ⟨rfl, hb12⟩
                        have bS12 := bS11.below hb12
                        have bP12 := bP11.below hb12
                        have bQ12 := bQ11.below hb12
                        have bR12 := bR11.below hb12
                        have hB12 := hB11.trans (hb12.mono hB11.size)
                        have HCA12 : Hid (Cts w12 w12.heap.size A6 (cs ++ [(k1, k2, k3, k4)])) := (HCA11.out.keep hb12).wider hb12.size
                        have HCB12 : Hid (Cts w12 w12.heap.size A4 cs) := (HCB11.out.keep hb12).wider hb12.size
                        have HCC12 : Hid (Cts w12 w12.heap.size A5 cs) := (HCC11.out.keep hb12).wider hb12.size
                        clear s0 s1 s2 s3 s4 s5 lS11 q0 q1 q2 q3 q4 q5 lQ11 r0 r1 r2 r3 r4 r5 lR11 bS11 bP11 bQ11 bR11 HCA11 HCB11 HCC11 hB11 hb12
                        obtain ⟨⟨s0, s1, s2⟩, s3, s4, s5⟩ := boxS6 bS12
                        have lS12 := bS12.lt
                        obtain ⟨⟨r0, r1, r2⟩, r3, r4, r5⟩ := boxS6 bR12
                        have lR12 := bR12.lt
                        go_wp2_with fail
                        refine (HINC3.out A5 c5 _ cs (.inl rfl) hB12 HCC12.out).mono ?_
                        rintro e w13 ⟨rfl, hb13⟩
                        have bS13 := bS12.below hb13
                        have bP13 := bP12.below hb13
                        have bQ13 := bQ12.below hb13
                        have bR13 := bR12.below hb13
                        have hB13 := hB12.trans (hb13.mono hB12.size)
                        have HCA13 : Hid (Cts w13 w13.heap.size A6 (cs ++ [(k1, k2, k3, k4)])) := (HCA12.out.keep hb13).wider hb13.size
                        have HCB13 : Hid (Cts w13 w13.heap.size A4 cs) := (HCB12.out.keep hb13).wider hb13.size
                        have HCC13 : Hid (Cts w13 w13.heap.size A5 cs) := (HCC12.out.keep hb13).wider hb13.size
                        clear s0 s1 s2 s3 s4 s5 lS12 r0 r1 r2 r3 r4 r5 lR12 bS12 bP12 bQ12 bR12 HCA12 HCB12 HCC12 hB12 hb13
                        go_wp2_with fail
                        refine (HWK.out _).mono ?_
                        rintro e wz ⟨rfl, hbz⟩
                        have hBz := hB13.trans (hbz.mono hB13.size)
                        go_wp2_with fail
                        go_returns
                        exact ⟨rfl, hBz⟩
                    · have dw0 : decide (0 ≤ xw) = false := decide_eq_false hw0
                      go_upto_region 12 with fail
                      clear x0 x1 x2 x3 x4 x5 x6 x7 lX10 r0 r1 r2 r3 r4 r5 lR10 bX10 bR10
                      have bS10 := HS.out _ hBN10
                      have bP10 : BoxS w10 BP 26 #[.int .i64 al, .int .i64 ah, .int .i64 bl, .int .i64 bh, .slice A6 (cs.length + 1) c6, .int .i64 wrn] := (hH10.get 3 rfl : BoxS w10 BP 26 #[.int .i64 al, .int .i64 ah, .int .i64 bl, .int .i64 bh, .slice A6 (cs.length + 1) c6, .int .i64 wrn] ∧ NB ≤ BP).1
                      have bQ10 : BoxS w10 BQ 26 #[.int .i64 (al + xl), .int .i64 (ah - xh), .int .i64 bl, .int .i64 bh, .slice A4 cs.length c4, .int .i64 wrn] := (hH10.get 4 rfl : BoxS w10 BQ 26 #[.int .i64 (al + xl), .int .i64 (ah - xh), .int .i64 bl, .int .i64 bh, .slice A4 cs.length c4, .int .i64 wrn] ∧ NB ≤ BQ).1
                      have bR10 : BoxS w10 BR 26 #[.int .i64 al, .int .i64 ah, .int .i64 bl, .int .i64 bh, .slice A5 cs.length c5, .int .i64 wrn] := (hH10.get 5 rfl : BoxS w10 BR 26 #[.int .i64 al, .int .i64 ah, .int .i64 bl, .int .i64 bh, .slice A5 cs.length c5, .int .i64 wrn] ∧ NB ≤ BR).1
                      obtain ⟨⟨s0, s1, s2⟩, s3, s4, s5⟩ := boxS6 bS10
                      have lS10 := bS10.lt
                      obtain ⟨⟨p0, p1, p2⟩, p3, p4, p5⟩ := boxS6 bP10
                      have lP10 := bP10.lt
                      obtain ⟨⟨q0, q1, q2⟩, q3, q4, q5⟩ := boxS6 bQ10
                      have lQ10 := bQ10.lt
                      obtain ⟨⟨r0, r1, r2⟩, r3, r4, r5⟩ := boxS6 bR10
                      have lR10 := bR10.lt
                      have hB10 := HBW.out _ hBN10
                      have hlA : (cs ++ [(k1, k2, k3, k4)]).length = cs.length + 1 := by simp
                      have HCA10 : Hid (Cts w10 w10.heap.size A6 (cs ++ [(k1, k2, k3, k4)])) := Cts.of_reads (Reads.of_own (by rw [hlA, flat4_append]; exact (hH10.get 0 rfl : w10.ownsRow NB 29 4 (.slice A6 (cs.length + 1) c6) (cs.length + 1) (flat4 cs ++ flat4 [(k1, k2, k3, k4)]))))
                      have HCB10 : Hid (Cts w10 w10.heap.size A4 cs) := Cts.of_reads (Reads.of_own (hH10.get 1 rfl : w10.ownsRow NB 29 4 (.slice A4 cs.length c4) cs.length (flat4 cs)))
                      have hlD : cs.length = cs.length := by simp
                      have HCC10 : Hid (Cts w10 w10.heap.size A5 cs) := Cts.of_reads (Reads.of_own (by rw [hlD]; exact (hH10.get 2 rfl : w10.ownsRow NB 29 4 (.slice A5 cs.length c5) cs.length (flat4 cs))))
                      clear hlA hlD
                      go_wp2_with fail
                      refine (HINA3.out A6 c6 _ hB10 HCA10.out).mono ?_
                      rintro e w11 ⟨rfl, hb11⟩
                      have bS11 := bS10.below hb11
                      have bP11 := bP10.below hb11
                      have bQ11 := bQ10.below hb11
                      have bR11 := bR10.below hb11
                      have hB11 := hB10.trans (hb11.mono hB10.size)
                      have HCA11 : Hid (Cts w11 w11.heap.size A6 (cs ++ [(k1, k2, k3, k4)])) := (HCA10.out.keep hb11).wider hb11.size
                      have HCB11 : Hid (Cts w11 w11.heap.size A4 cs) := (HCB10.out.keep hb11).wider hb11.size
                      have HCC11 : Hid (Cts w11 w11.heap.size A5 cs) := (HCC10.out.keep hb11).wider hb11.size
                      clear s0 s1 s2 s3 s4 s5 lS10 p0 p1 p2 p3 p4 p5 lP10 q0 q1 q2 q3 q4 q5 lQ10 r0 r1 r2 r3 r4 r5 lR10 bS10 bP10 bQ10 bR10 HCA10 HCB10 HCC10 hB10 hb11
                      obtain ⟨⟨s0, s1, s2⟩, s3, s4, s5⟩ := boxS6 bS11
                      have lS11 := bS11.lt
                      obtain ⟨⟨q0, q1, q2⟩, q3, q4, q5⟩ := boxS6 bQ11
                      have lQ11 := bQ11.lt
                      obtain ⟨⟨r0, r1, r2⟩, r3, r4, r5⟩ := boxS6 bR11
                      have lR11 := bR11.lt
                      go_wp2_with fail
                      refine (HINB3.out (by omega) (by omega) A4 c4 _ hB11 HCB11.out).mono ?_
                      rintro e w12 ⟨rfl, hb12⟩
                      have bS12 := bS11.below hb12
                      have bP12 := bP11.below hb12
                      have bQ12 := bQ11.below hb12
                      have bR12 := bR11.below hb12
                      have hB12 := hB11.trans (hb12.mono hB11.size)
                      have HCA12 : Hid (Cts w12 w12.heap.size A6 (cs ++ [(k1, k2, k3, k4)])) := (HCA11.out.keep hb12).wider hb12.size
                      have HCB12 : Hid (Cts w12 w12.heap.size A4 cs) := (HCB11.out.keep hb12).wider hb12.size
                      have HCC12 : Hid (Cts w12 w12.heap.size A5 cs) := (HCC11.out.keep hb12).wider hb12.size
                      clear s0 s1 s2 s3 s4 s5 lS11 q0 q1 q2 q3 q4 q5 lQ11 r0 r1 r2 r3 r4 r5 lR11 bS11 bP11 bQ11 bR11 HCA11 HCB11 HCC11 hB11 hb12
                      obtain ⟨⟨s0, s1, s2⟩, s3, s4, s5⟩ := boxS6 bS12
                      have lS12 := bS12.lt
                      obtain ⟨⟨r0, r1, r2⟩, r3, r4, r5⟩ := boxS6 bR12
                      have lR12 := bR12.lt
                      go_wp2_with fail
                      refine (HINC3.out A5 c5 _ cs (.inl rfl) hB12 HCC12.out).mono ?_
                      rintro e w13 ⟨rfl, hb13⟩
                      have bS13 := bS12.below hb13
                      have bP13 := bP12.below hb13
                      have bQ13 := bQ12.below hb13
                      have bR13 := bR12.below hb13
                      have hB13 := hB12.trans (hb13.mono hB12.size)
                      have HCA13 : Hid (Cts w13 w13.heap.size A6 (cs ++ [(k1, k2, k3, k4)])) := (HCA12.out.keep hb13).wider hb13.size
                      have HCB13 : Hid (Cts w13 w13.heap.size A4 cs) := (HCB12.out.keep hb13).wider hb13.size
                      have HCC13 : Hid (Cts w13 w13.heap.size A5 cs) := (HCC12.out.keep hb13).wider hb13.size
                      clear s0 s1 s2 s3 s4 s5 lS12 r0 r1 r2 r3 r4 r5 lR12 bS12 bP12 bQ12 bR12 HCA12 HCB12 HCC12 hB12 hb13
                      go_wp2_with fail
                      refine (HWK.out _).mono ?_
                      rintro e wz ⟨rfl, hbz⟩
                      have hBz := hB13.trans (hbz.mono hB13.size)
                      go_wp2_with fail
                      go_returns
                      exact ⟨rfl, hBz⟩

open Go.ChangeShapes Go.WideShapes Go.ChangeAt Go.RowKit Go.Joins Go.Deep
section
variable {H : Type} {enc : TypeId × Value → H} {w : World} {base : Nat} {spare : Nat → Bool} {held : Bool} {r : Reach} {b0 : Nat} {v : Value} {d : DataW H} {p : List MemPlace}
set_option maxRecDepth 100000 in
theorem open_More (hv : Value.okWide Try.prog w r b0 31 v) (h : DataW.Trod enc Try.prog w base spare held 31 v d p) :
    ∃ k1 k2 k3 k4 xl xh xw xo : Int, v = .agg #[.int .i64 k1, .int .i64 k2, .int .i64 k3, .int .i64 k4, .int .i64 xl, .int .i64 xh, .int .i64 xw, .int .i64 xo] := by
  obtain ⟨cs, rfl, hsz⟩ := okWide_struct Try.underlying31 hv
  obtain ⟨l⟩ := cs
  match l, hsz.trans (by kernel_rfl : Try.prog.cellsOf 31 = 8) with
  | [c0, c1, c2, c3, c4, c5, c6, c7], _ =>
    obtain ⟨fuel, hf⟩ := h
    obtain ⟨xs, n, _, hx, _, hlen, hg⟩ := DataW.trod_struct Try.underlying31 hf
    match xs, hlen with
    | [y0, y1, y2, y3, y4], _ =>
      have g0 := hg 0 _ rfl
      have g1 := hg 1 _ rfl
      have g2 := hg 2 _ rfl
      have g3 := hg 3 _ rfl
      have g4 := hg 4 _ rfl
      simp [Value.cells, cells_ctl4, cells_int4] at g0 g1 g2 g3 g4
      obtain ⟨q, rfl, rfl, rfl, rfl⟩ := trod_ctl_cells g0
      obtain ⟨xl, e1, rfl, _⟩ := DataW.trod_int Try.underlying3 g1
      obtain ⟨xh, e2, rfl, _⟩ := DataW.trod_int Try.underlying3 g2
      obtain ⟨xw, e3, rfl, _⟩ := DataW.trod_int Try.underlying3 g3
      obtain ⟨xo, e4, rfl, _⟩ := DataW.trod_int Try.underlying3 g4
      simp at e1 e2 e3 e4
      subst e1 e2 e3 e4
      exact ⟨_, _, _, _, xl, xh, xw, xo, rfl⟩
end
theorem lawMore_walk (s : Sheet) (A : Option Addr) (c : Nat) (A2 : Option Addr) (c2 : Nat) (ps : List (Int × Int)) (k1 k2 k3 k4 xl xh xw xo : Int) (w : World) (_hl : ps.length ≤ maxLen) (hP : Prs w w.heap.size A2 ps) (hg : Cts w w.heap.size A s.cs) :
    Calls Try.prog 3 #[.agg (shV s A c), .slice A2 ps.length c2, .agg #[.int .i64 k1, .int .i64 k2, .int .i64 k3, .int .i64 k4, .int .i64 xl, .int .i64 xh, .int .i64 xw, .int .i64 xo]] w (TruePost w) :=
  SheetsMore_walk s A c A2 c2 ps k1 k2 k3 k4 xl xh xw xo w hg hP

open Go.ChangeShapes Go.WideShapes Go.ChangeAt Go.RowKit Go.Joins

set_option maxRecDepth 100000 in
theorem more4_lifted (os : Os) (started : os.Started) (H : Type) (enc : TypeId × Value → H) :
    ReturnsInHanded {} Try.checked os 3 .any (Rows.sheetsMoreSpec.pre6 enc Try.prog Try.f3 Rows.sheetsMoreRow.domain false) (Rows.sheetsMoreSpec.post enc Try.prog Try.f3 false true false false) := by
  refine returnsInHanded_of_change (C := Try.checked) own started (by kernel_rfl) Try.func3
    (ChangeSpec.witness6 (enc := enc) (C := Try.checked) false ⟨#[], #[.agg #[.int .i64 0, .int .i64 0, .int .i64 0, .int .i64 0, .slice none 0 0, .int .i64 0], .slice none 0 0, .agg #[.int .i64 0, .int .i64 0, .int .i64 0, .int .i64 0, .int .i64 0, .int .i64 0, .int .i64 0, .int .i64 0]], []⟩ 8 (by kernel_rfl) (by kernel_rfl) (by kernel_rfl) (by kernel_rfl)) ?_
  intro W base args ds gs before hval0 hW hcnd _
  have hval : ∀ (j : Nat) t v, Try.f3.params[j]? = some t → args[j]? = some v → Value.okWide Try.prog W .any base t v := hval0
  have hW' := hW
  obtain ⟨p, q, hA0, hV, rfl, hfz, hnd⟩ := hW
  have hA : DataW.TrodAll enc Try.prog W 0 (fun _ => true) true Try.f3.params.toList args.toList ds p := hA0
  rw [Try.params3] at hA hval
  obtain ⟨v0, v1, v2, d0, d1, d2, p0, p1, p2, rfl, rfl, rfl, h0, h1, h2⟩ := trodAll_three hA
  obtain ⟨rfl, rfl⟩ := trodVars_none hV
  obtain ⟨s, A, c, rfl, hg_s, hl_s⟩ := open_Sheet (hval 0 26 v0 rfl rfl) h0
  obtain ⟨A2, c2, ps, rfl, hg_ps, hl_ps⟩ := open_prs Try.underlying27 Try.underlying43 (by kernel_rfl) (by kernel_rfl) (by kernel_rfl) (by kernel_rfl) (by kernel_rfl) Try.underlying3 Try.underlying3 (hval 1 27 v1 rfl rfl) h1
  obtain ⟨k1, k2, k3, k4, xl, xh, xw, xo, rfl⟩ := open_More (hval 2 31 v2 rfl rfl) h2
  refine (lawMore_walk s A c A2 c2 ps k1 k2 k3 k4 xl xh xw xo W hl_ps hg_ps hg_s).mono fun e W' ⟨he, hb⟩ => ?_
  subst he
  exact ⟨_, rfl, law_post hW' rfl rfl (by intro t ht; have : t = 26 ∨ t = 27 ∨ t = 31 := (by rw [Try.params3] at ht; simpa using ht); rcases this with rfl | rfl | rfl <;> exact ⟨by kernel_rfl, of_decide_eq_true (by kernel_rfl)⟩) rfl rfl rfl hb⟩

theorem more4_holds : Rows.SheetsMoreSaid :=
  OpenClaim.holds_of_wide 3 Try.f3 rfl rfl rfl rfl rfl rfl rfl ⟨rfl, rfl, rfl, rfl, rfl⟩ rfl rfl rfl rfl rfl (by kernel_rfl) Try.func3 (by kernel_rfl)
    (of_decide_eq_true (by kernel_rfl)) (by unfold Func.isWrapper; rw [if_neg (of_decide_eq_false (by kernel_rfl))]; exact ⟨rfl, rfl⟩)
    (fun os started H enc _ => more4_lifted os started H enc)
end Go.Proofs.Ytgpmnkdagpcffaa
