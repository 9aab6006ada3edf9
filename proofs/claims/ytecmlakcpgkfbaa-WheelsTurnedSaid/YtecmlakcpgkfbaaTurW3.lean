/- Wheels: the law WheelsTurned (P3.14): the walk. -/
import Derived.Test.YtecmlakcpgkfbaaTurQ
import Derived.Test.YtecmlakcpgkfbaaMoreW
namespace Go.Proofs.Ytecmlakcpgkfbaa
open Go.RowKit
theorem own5_nil (w : World) (B : Nat) : w.ownsRow B 54 5 (.slice none 0 0) 0 (flatW []) := ⟨rfl, .inl ⟨rfl, rfl⟩⟩
theorem below_of_grown {w w' : World} {row : Option Nat} {n : Nat} (h : w.grownBy w' row) (hn : n ≤ w.heap.size) (hr : ∀ g, row = some g → n ≤ g) : Below n w w' :=
  ⟨h.os, h.tape, h.output, h.size, fun k hk => h.block k (by omega) (fun e => by have := hr k e.symm; omega)⟩
theorem Has.put {w : World} {NB : Nat} {L : List Thing} (h : Has w NB L) (i : Nat) {B : Nat} {t : TypeId} {vs : Array Value} (hi : L[i]? = some (.box B t vs)) (j : Nat) (v : Value) :
    Has (w.setCell ⟨B, j, none⟩ v) NB (L.set i (.box B t (vs.setIfInBounds j v))) := by
  have hb : BoxS w B t vs ∧ NB ≤ B := h.get i hi
  exact h.change i hi (row := some B) (grownBy_set w B j v) (fun g e => e) ⟨BoxS.put9 hb.1 j v, hb.2⟩ fun g hg => .inl hg
/-- 'l = append(l, x)' on a row of walks of the call's own. -/
theorem wpList_push5 {ops : Array Oper} {rest : List Oper} {o : Oper} {a : Act} {Q : Exit → Act → World → Prop} {wr : World} (hgd : o.guard = none) (s y : Operand)
    (ho : o.op = .call { callee := .builtin .append, args := #[s, y], argTypes := #[26, 26] }) (g : Wh.Wk) (B : Nat) (v : Value) (n : Nat) (xs : List Value) (hs : a.eval s = v)
    (hx : a.eval y = .slice (some ⟨wr.heap.size, 0, none⟩) 1 1) (hown : wr.ownsRow B 54 5 v n xs) (hB : B ≤ wr.heap.size) (hn : n ≤ 100000)
    (h : ∀ A' c' w', w'.ownsRow B 54 5 (.slice A' (n + 1) c') (n + 1) (xs ++ flatW [g]) → wr.grownBy w' v.ownBlock → (∀ k, Value.ownBlock (.slice A' (n + 1) c') = some k → v.ownBlock = some k ∨ wr.heap.size ≤ k) → wpList Try.prog ops Q rest (a.put o.dst (.slice A' (n + 1) c')) w') :
    wpList Try.prog ops Q (o :: rest) a (wr.alloc (.cells #[.int .i64 g.1, .int .i64 g.2.1, .int .i64 g.2.2.1, .int .i64 g.2.2.2.1, .int .i64 g.2.2.2.2] 54)) := by
  obtain ⟨i0, hi0, hz0, hz1, hz2⟩ := info_parts5 walk_info
  have hbox : BoxS (wr.alloc (.cells #[.int .i64 g.1, .int .i64 g.2.1, .int .i64 g.2.2.1, .int .i64 g.2.2.2.1, .int .i64 g.2.2.2.2] 54)) wr.heap.size 54 (flat5 g).toArray := BoxS.new wr _ _
  have hrd := reads5 hbox (Nat.lt_succ_self _)
  have ef : flatW [g] = flat5 g := by simp [flatW]
  refine wpList_append_any _ hgd s y 26 ho B 54 i0 (.agg #[.int .i64 0, .int .i64 0, .int .i64 0, .int .i64 0, .int .i64 0]) 5 40 Try.underlying26 hi0 hz0 hz1 hz2 rfl (by decide) v n xs hs (hown.alloc _) (wr.heap.size + 1) (some ⟨wr.heap.size, 0, none⟩) 1 1 (flatW [g]) hx (by rw [ef]; exact hrd) (flatW_one [g]) (by simp only [maxLen]; omega) (by omega) (by simp; omega) ?_
  intro v' w' hown' hgr hat
  obtain ⟨A', c', rfl⟩ := own_form5 hown'
  refine h A' c' w' hown' ((World.grownBy_alloc wr _ _).trans hgr) fun k hk => ?_
  rcases hat with e | e
  · exact .inl (e ▸ hk)
  · right
    rw [e] at hk
    injection hk with hk
    rw [← hk, World.size_alloc]
    omega
set_option maxRecDepth 100000 in
set_option maxHeartbeats 16000000 in
theorem Turned_core (full read slip skew circ glo ghi wrn yw yb yf : Int) (nf : Nat) (hyf : Hid (yf = (nf : Int))) (ws : List Wh.Wk) (A : Option Addr) (c : Nat) (w : World) (BK LT TN : Nat → List Wh.Wk) (HG : Hid (Wks w w.heap.size A ws)) (hl8 : ws.length ≤ 8) (hfu : 10 ≤ full ∧ full ≤ 10000) (hyb : 0 ≤ yb ∧ yb ≤ 10000) (hyf2 : 0 ≤ yf ∧ yf ≤ 100)
    (t0 : decide (yb < 0) = false) (t1 : decide (10000 < yb) = false) (t2 : decide (yf < 0) = false) (t3 : decide (100 < yf) = false)
    (HWK : Hid (∀ W, Calls Try.prog 13 #[] W (BoolPost true W)))
    (HRD : Hid (∀ W, Below w.heap.size w W → Calls Try.prog 34 #[.agg #[.int .i64 full, .int .i64 read, .int .i64 slip, .int .i64 skew, .int .i64 circ, .int .i64 glo, .int .i64 ghi, .int .i64 wrn], .slice A ws.length c] W (BoolPost true W)))
    (HB0 : Hid (BK 0 = [])) (HL0 : Hid (LT 0 = [])) (HT0 : Hid (TN 0 = []))
    (HBS : Hid (∀ k, k < ws.length → BK (k + 1) = BK k ++ [Wh.backW (Wh.wkAt ws k)]))
    (HLY : Hid (∀ k, k < ws.length → (k : Int) = yw → LT (k + 1) = LT k ++ [Wh.laterW full yb (Wh.wkAt ws k)]))
    (HLN : Hid (∀ k, k < ws.length → ¬ (k : Int) = yw → LT (k + 1) = LT k ++ [Wh.wkAt ws k]))
    (HTS : Hid (∀ k, k < ws.length → TN (k + 1) = TN k ++ [Wh.wkAt ws ((k + nf) % ws.length)]))
    (HSM : Hid (∀ k, k < ws.length → Wh.ksm (Wh.wkAt ws k)))
    (HBKN : Hid ((BK ws.length).length = ws.length)) (HLTN : Hid ((LT ws.length).length = ws.length)) (HTNN : Hid ((TN ws.length).length = ws.length))
    (HAB : Hid (∀ A' c' W, Below w.heap.size w W → Wks W W.heap.size A' (BK ws.length) → Calls Try.prog 41 #[.agg #[.int .i64 full, .int .i64 read, .int .i64 slip, .int .i64 skew, .int .i64 circ, .int .i64 glo, .int .i64 ghi, .int .i64 wrn], .slice A ws.length c, .slice A' ws.length c'] W fun e w' => e = .returned (.bool true) ∧ Below W.heap.size W w'))
    (HAL : Hid (∀ A' c' W, Below w.heap.size w W → Wks W W.heap.size A' (LT ws.length) → Calls Try.prog 41 #[.agg #[.int .i64 full, .int .i64 read, .int .i64 slip, .int .i64 skew, .int .i64 circ, .int .i64 glo, .int .i64 ghi, .int .i64 wrn], .slice A ws.length c, .slice A' ws.length c'] W fun e w' => e = .returned (.bool true) ∧ Below W.heap.size W w'))
    (HAT : Hid (∀ A' c' W, Below w.heap.size w W → Wks W W.heap.size A' (TN ws.length) → Calls Try.prog 41 #[.agg #[.int .i64 full, .int .i64 read, .int .i64 slip, .int .i64 skew, .int .i64 circ, .int .i64 glo, .int .i64 ghi, .int .i64 wrn], .slice A ws.length c, .slice A' ws.length c'] W fun e w' => e = .returned (.bool true) ∧ Below W.heap.size W w')) :
    Calls Try.prog 8 #[.agg #[.int .i64 full, .int .i64 read, .int .i64 slip, .int .i64 skew, .int .i64 circ, .int .i64 glo, .int .i64 ghi, .int .i64 wrn], .slice A ws.length c, .agg #[.int .i64 yw, .int .i64 yb, .int .i64 yf]] w (BoolPost true w) := by
  go_enter Try.func8, Try.ntmps8
  go_wp2_with fail
  have bS1 := (BoxS.new w 25 #[.int .i64 full, .int .i64 read, .int .i64 slip, .int .i64 skew, .int .i64 circ, .int .i64 glo, .int .i64 ghi, .int .i64 wrn]).alloc (.cells #[.int .i64 yw, .int .i64 yb, .int .i64 yf] 59)
  have bX1 := BoxS.new (w.alloc (.cells #[.int .i64 full, .int .i64 read, .int .i64 slip, .int .i64 skew, .int .i64 circ, .int .i64 glo, .int .i64 ghi, .int .i64 wrn] 25)) 59 #[.int .i64 yw, .int .i64 yb, .int .i64 yf]
  rw [World.size_alloc] at bX1
  have hB1 : Below w.heap.size w ((w.alloc (.cells #[.int .i64 full, .int .i64 read, .int .i64 slip, .int .i64 skew, .int .i64 circ, .int .i64 glo, .int .i64 ghi, .int .i64 wrn] 25)).alloc (.cells #[.int .i64 yw, .int .i64 yb, .int .i64 yf] 59)) := by (repeat' (first | (with_reducible exact Below.refl _ _) | (with_reducible assumption) | (with_reducible refine Below.alloc ?_ ?_ _) | (with_reducible refine Below.drew ?_) | (with_reducible refine Below.setCell ?_ ?_ _) | go_size | (exact (by simp)) | omega))
  generalize World.alloc (World.alloc w _) _ = w1 at *
  have cs0 : w1.cell? ⟨w.heap.size, 0, none⟩ = some (.int .i64 full) := bS1.cell 0 rfl
  have cs1 : w1.cell? ⟨w.heap.size, 1, none⟩ = some (.int .i64 read) := bS1.cell 1 rfl
  have cs2 : w1.cell? ⟨w.heap.size, 2, none⟩ = some (.int .i64 slip) := bS1.cell 2 rfl
  have cs3 : w1.cell? ⟨w.heap.size, 3, none⟩ = some (.int .i64 skew) := bS1.cell 3 rfl
  have cs4 : w1.cell? ⟨w.heap.size, 4, none⟩ = some (.int .i64 circ) := bS1.cell 4 rfl
  have cs5 : w1.cell? ⟨w.heap.size, 5, none⟩ = some (.int .i64 glo) := bS1.cell 5 rfl
  have cs6 : w1.cell? ⟨w.heap.size, 6, none⟩ = some (.int .i64 ghi) := bS1.cell 6 rfl
  have cs7 : w1.cell? ⟨w.heap.size, 7, none⟩ = some (.int .i64 wrn) := bS1.cell 7 rfl
  have lS1 := bS1.lt
  have cx0 : w1.cell? ⟨w.heap.size + 1, 0, none⟩ = some (.int .i64 yw) := bX1.cell 0 rfl
  have cx1 : w1.cell? ⟨w.heap.size + 1, 1, none⟩ = some (.int .i64 yb) := bX1.cell 1 rfl
  have cx2 : w1.cell? ⟨w.heap.size + 1, 2, none⟩ = some (.int .i64 yf) := bX1.cell 2 rfl
  have lX1 := bX1.lt
  go_wp2_with fail
  refine (HRD.out _ hB1).mono ?_
  rintro e w2 ⟨rfl, hb2⟩
  have bS2 := bS1.below hb2
  have bX2 := bX1.below hb2
  have hB2 := hB1.trans (hb2.mono hB1.size)
  clear cs0 cs1 cs2 cs3 cs4 cs5 cs6 cs7 lS1 cx0 cx1 cx2 lX1 bS1 bX1 hB1 hb2
  have cs0 : w2.cell? ⟨w.heap.size, 0, none⟩ = some (.int .i64 full) := bS2.cell 0 rfl
  have cs1 : w2.cell? ⟨w.heap.size, 1, none⟩ = some (.int .i64 read) := bS2.cell 1 rfl
  have cs2 : w2.cell? ⟨w.heap.size, 2, none⟩ = some (.int .i64 slip) := bS2.cell 2 rfl
  have cs3 : w2.cell? ⟨w.heap.size, 3, none⟩ = some (.int .i64 skew) := bS2.cell 3 rfl
  have cs4 : w2.cell? ⟨w.heap.size, 4, none⟩ = some (.int .i64 circ) := bS2.cell 4 rfl
  have cs5 : w2.cell? ⟨w.heap.size, 5, none⟩ = some (.int .i64 glo) := bS2.cell 5 rfl
  have cs6 : w2.cell? ⟨w.heap.size, 6, none⟩ = some (.int .i64 ghi) := bS2.cell 6 rfl
  have cs7 : w2.cell? ⟨w.heap.size, 7, none⟩ = some (.int .i64 wrn) := bS2.cell 7 rfl
  have lS2 := bS2.lt
  have cx0 : w2.cell? ⟨w.heap.size + 1, 0, none⟩ = some (.int .i64 yw) := bX2.cell 0 rfl
  have cx1 : w2.cell? ⟨w.heap.size + 1, 1, none⟩ = some (.int .i64 yb) := bX2.cell 1 rfl
  have cx2 : w2.cell? ⟨w.heap.size + 1, 2, none⟩ = some (.int .i64 yf) := bX2.cell 2 rfl
  have lX2 := bX2.lt
  go_wp2_with fail
  obtain ⟨NB, hNB⟩ : ∃ n, n = w2.heap.size := ⟨_, rfl⟩
  have hle : NB ≤ w2.heap.size := Nat.le_of_eq hNB
  have hwN : w.heap.size ≤ NB := by rw [hNB]; exact hB2.size
  have hSN : w.heap.size < NB := by rw [hNB]; exact bS2.lt
  have hXN : w.heap.size + 1 < NB := by rw [hNB]; exact bX2.lt
  have HS : Hid (∀ W', Below NB w2 W' → BoxS W' w.heap.size 25 #[.int .i64 full, .int .i64 read, .int .i64 slip, .int .i64 skew, .int .i64 circ, .int .i64 glo, .int .i64 ghi, .int .i64 wrn]) := fun W' h => bS2.below (by rw [hNB] at h; exact h)
  have HX : Hid (∀ W', Below NB w2 W' → BoxS W' (w.heap.size + 1) 59 #[.int .i64 yw, .int .i64 yb, .int .i64 yf]) := fun W' h => bX2.below (by rw [hNB] at h; exact h)
  have HBW : Hid (∀ W', Below NB w2 W' → Below w.heap.size w W') := fun W' h => hB2.trans (h.mono hwN)
  clear cs0 cs1 cs2 cs3 cs4 cs5 cs6 cs7 lS2 cx0 cx1 cx2 lX2 bS2 bX2
  go_loopw [7, 8, 9, 10] (fun x7 x8 x9 x10 wr => ∃ k : Nat, (k : Int) ≤ ws.length ∧ x10 = .int .i64 (k : Int) ∧ Below NB w2 wr ∧ ∃ A7 c7 A8 c8 A9 c9, x7 = .slice A7 k c7 ∧ x8 = .slice A8 k c8 ∧ x9 = .slice A9 k c9 ∧ Has wr NB [.row (.slice A7 k c7) 54 5 k (flatW (BK k)), .row (.slice A8 k c8) 54 5 k (flatW (LT k)), .row (.slice A9 k c9) 54 5 k (flatW (TN k)), .no]) (fun _ _ _ i _ => (ws.length - intOf i).toNat)
  case atStart =>
    refine ⟨0, by omega, rfl, Below.refl _ _, none, 0, none, 0, none, 0, rfl, rfl, rfl, ?_⟩
    rw [HB0.out, HL0.out, HT0.out]
    refine ⟨fun T hT => ?_, ?_⟩
    · simp only [List.mem_cons, List.not_mem_nil, or_false] at hT
      rcases hT with rfl | rfl | rfl | rfl
      · exact own5_nil w2 NB
      · exact own5_nil w2 NB
      · exact own5_nil w2 NB
      · trivial
    · simp [Thing.blk, Value.ownBlock]
  case round =>
    obtain ⟨k, hk, rfl, hBr, A7, c7, A8, c8, A9, c9, rfl, rfl, rfl, hH⟩ := hrel
    have hk0 := Int.natCast_nonneg k
    by_cases hlt : (k : Int) < ws.length
    · have hkn : k < ws.length := by omega
      obtain ⟨bb, off, hA, hbb, hcc⟩ := HG.out (by omega)
      subst hA
      have hbw := HBW.out _ hBr
      have hck := hcc k hkn
      obtain ⟨r', hr'⟩ : ∃ r', r' = (k + nf) % ws.length := ⟨_, rfl⟩
      have hrl : r' < ws.length := by rw [hr']; exact Nat.mod_lt _ (by omega)
      have hrl2 : (r' : Int) < ws.length := by omega
      have hr0 := Int.natCast_nonneg r'
      have hcr := hcc r' hrl
      have hSB := HBS.out k hkn
      have hST := HTS.out k hkn
      rw [← hr'] at hST
      have hLY := Lib.hid (HLY.out k hkn)
      have hLN := Lib.hid (HLN.out k hkn)
      have hsm := HSM.out k hkn
      have ha1 := (hbw.cell (p := ⟨bb, _, none⟩) hbb).trans hck.1
      have ha2 := (hbw.cell (p := ⟨bb, _, none⟩) hbb).trans hck.2.1
      have ha3 := (hbw.cell (p := ⟨bb, _, none⟩) hbb).trans hck.2.2.1
      have ha4 := (hbw.cell (p := ⟨bb, _, none⟩) hbb).trans hck.2.2.2.1
      have ha5 := (hbw.cell (p := ⟨bb, _, none⟩) hbb).trans hck.2.2.2.2
      have hbN : bb < NB := by omega
      have HQ : Hid (∀ W', Below NB w2 W' → W'.cell? ⟨bb, off + r' * 5, none⟩ = some (.int .i64 (Wh.wkAt ws r').1) ∧ W'.cell? ⟨bb, off + r' * 5 + 1, none⟩ = some (.int .i64 (Wh.wkAt ws r').2.1) ∧ W'.cell? ⟨bb, off + r' * 5 + 2, none⟩ = some (.int .i64 (Wh.wkAt ws r').2.2.1) ∧ W'.cell? ⟨bb, off + r' * 5 + 3, none⟩ = some (.int .i64 (Wh.wkAt ws r').2.2.2.1) ∧ W'.cell? ⟨bb, off + r' * 5 + 4, none⟩ = some (.int .i64 (Wh.wkAt ws r').2.2.2.2)) := fun W' h => by
        have hx := HBW.out _ h
        exact ⟨(hx.cell (p := ⟨bb, _, none⟩) hbb).trans hcr.1, (hx.cell (p := ⟨bb, _, none⟩) hbb).trans hcr.2.1, (hx.cell (p := ⟨bb, _, none⟩) hbb).trans hcr.2.2.1, (hx.cell (p := ⟨bb, _, none⟩) hbb).trans hcr.2.2.2.1, (hx.cell (p := ⟨bb, _, none⟩) hbb).trans hcr.2.2.2.2⟩
      have hrm : ((k : Int) + yf).tmod (ws.length : Int) = (r' : Int) := by
        rw [hr', hyf.out, Int.natCast_emod, Int.natCast_add, Int.tmod_eq_emod_of_nonneg (by omega)]
      have hwr : IntKind.i64.wrap (r' : Int) = (r' : Int) := IntWalk.i64_in _ (by omega)
      have hwa : IntKind.i64.wrap ((k : Int) + yf) = (k : Int) + yf := IntWalk.i64_in _ (by omega)
      have hln0 : ¬ (ws.length : Int) = 0 := by omega
      have hln1 : ¬ ws.length = 0 := by omega
      have hln2 : ¬ ws = [] := fun e => by rw [e] at hln1; exact hln1 rfl
      clear hck hcr hcc hr'
      obtain ⟨⟨q1, q2, q3, q4, q5⟩, hq⟩ : ∃ q, q = Wh.wkAt ws k := ⟨_, rfl⟩
      rw [← hq] at ha1 ha2 ha3 ha4 ha5 hSB hLY hLN hsm
      clear hq
      generalize Wh.wkAt ws r' = qq at *
      unfold Wh.ksm at hsm
      dsimp only at ha1 ha2 ha3 ha4 ha5 hsm
      obtain ⟨m1, m2, m3, m4, m5⟩ := hsm
      have hn1 : IntKind.i64.wrap (-q1) = -q1 := IntWalk.i64_in _ (by omega)
      have hn2 : IntKind.i64.wrap (-q2) = -q2 := IntWalk.i64_in _ (by omega)
      go_upto_region 8 with fail
      obtain ⟨NX, hNX⟩ : ∃ n, n = wr.heap.size := ⟨_, rfl⟩
      have hNBX : NB ≤ NX := by rw [hNX]; exact Nat.le_trans hle hBr.size
      have hH1 : Has (wr.alloc (.cells #[.int .i64 q1, .int .i64 q2, .int .i64 q3, .int .i64 q4, .int .i64 q5] 54)) NB [.row (.slice A7 k c7) 54 5 k (flatW (BK k)), .row (.slice A8 k c8) 54 5 k (flatW (LT k)), .row (.slice A9 k c9) 54 5 k (flatW (TN k)), .box NX 54 #[.int .i64 q1, .int .i64 q2, .int .i64 q3, .int .i64 q4, .int .i64 q5]] := by
        have hh := hH.fresh 3 rfl (w' := wr.alloc (.cells #[.int .i64 q1, .int .i64 q2, .int .i64 q3, .int .i64 q4, .int .i64 q5] 54)) (n := wr.heap.size) ((Below.refl _ _).alloc (Nat.le_refl _) _) (Nat.le_refl _) (T' := .box wr.heap.size 54 #[.int .i64 q1, .int .i64 q2, .int .i64 q3, .int .i64 q4, .int .i64 q5]) ⟨BoxS.new wr _ _, Nat.le_refl _⟩ (by rw [← hNX]; exact hNBX)
        rw [hNX]
        exact hh
      have hBr1 : Below NB w2 (wr.alloc (.cells #[.int .i64 q1, .int .i64 q2, .int .i64 q3, .int .i64 q4, .int .i64 q5] 54)) := hBr.alloc (by rw [← hNX]; exact hNBX) _
      rw [← hNX]
      generalize World.alloc wr _ = w3 at *
      clear ha1 ha2 ha3 ha4 ha5 hH hBr hNX
      have bN : BoxS w3 NX 54 #[.int .i64 q1, .int .i64 q2, .int .i64 q3, .int .i64 q4, .int .i64 q5] := (hH1.get 3 rfl : BoxS w3 NX 54 #[.int .i64 q1, .int .i64 q2, .int .i64 q3, .int .i64 q4, .int .i64 q5] ∧ NB ≤ NX).1
      have cn0 : w3.cell? ⟨NX, 0, none⟩ = some (.int .i64 q1) := bN.cell 0 rfl
      have cn1 : w3.cell? ⟨NX, 1, none⟩ = some (.int .i64 q2) := bN.cell 1 rfl
      have cn2 : w3.cell? ⟨NX, 2, none⟩ = some (.int .i64 q3) := bN.cell 2 rfl
      have cn3 : w3.cell? ⟨NX, 3, none⟩ = some (.int .i64 q4) := bN.cell 3 rfl
      have cn4 : w3.cell? ⟨NX, 4, none⟩ = some (.int .i64 q5) := bN.cell 4 rfl
      have lN := bN.lt
      have hrA : Hid (w3.ownsRow NB 54 5 (.slice A7 k c7) k (flatW (BK k))) := hH1.get 0 rfl
      have hNz : NB ≤ w3.heap.size := Nat.le_trans hle hBr1.size
      go_upto_region 9 with (at_builtin; go_must (refine wpList_push5 rfl (.tmp 47) (.tmp 61) rfl (-q1, -q2, q3, q5, q4) NB _ k (flatW (BK k)) rfl rfl hrA.out hNz (by omega) ?_; intro A' c' w4 hown8 hgr8 hfr8; (have hHn : Has w4 NB [.row (.slice A' (k + 1) c') 54 5 (k + 1) (flatW (BK k) ++ flatW [(-q1, -q2, q3, q5, q4)]), .row (.slice A8 k c8) 54 5 k (flatW (LT k)), .row (.slice A9 k c9) 54 5 k (flatW (TN k)), .box NX 54 #[.int .i64 q1, .int .i64 q2, .int .i64 q3, .int .i64 q4, .int .i64 q5]] := hH1.change 0 rfl hgr8 (fun g e => e) hown8 hfr8); (have hBn : Below NB w2 w4 := hBr1.trans (below_of_grown hgr8 hNz (fun g e => (Thing.lt (hH1.get 0 rfl) e).1))); clear hown8 hgr8 hfr8))
      obtain ⟨A7', hA7⟩ : ∃ a, a = A' := ⟨_, rfl⟩
      obtain ⟨c7', hc7⟩ : ∃ a, a = c' := ⟨_, rfl⟩
      rw [← hA7, ← hc7] at hHn
      subst hA7 hc7
      have hH2 := hHn
      have hBr2 := hBn
      clear cn0 cn1 cn2 cn3 cn4 lN bN hrA hNz hHn hBn hH1 hBr1 hn1 hn2
      have bS := HS.out _ hBr2
      have bX := HX.out _ hBr2
      have cs0 : w4.cell? ⟨w.heap.size, 0, none⟩ = some (.int .i64 full) := bS.cell 0 rfl
      have cs1 : w4.cell? ⟨w.heap.size, 1, none⟩ = some (.int .i64 read) := bS.cell 1 rfl
      have cs2 : w4.cell? ⟨w.heap.size, 2, none⟩ = some (.int .i64 slip) := bS.cell 2 rfl
      have cs3 : w4.cell? ⟨w.heap.size, 3, none⟩ = some (.int .i64 skew) := bS.cell 3 rfl
      have cs4 : w4.cell? ⟨w.heap.size, 4, none⟩ = some (.int .i64 circ) := bS.cell 4 rfl
      have cs5 : w4.cell? ⟨w.heap.size, 5, none⟩ = some (.int .i64 glo) := bS.cell 5 rfl
      have cs6 : w4.cell? ⟨w.heap.size, 6, none⟩ = some (.int .i64 ghi) := bS.cell 6 rfl
      have cs7 : w4.cell? ⟨w.heap.size, 7, none⟩ = some (.int .i64 wrn) := bS.cell 7 rfl
      have cx0 : w4.cell? ⟨w.heap.size + 1, 0, none⟩ = some (.int .i64 yw) := bX.cell 0 rfl
      have cx1 : w4.cell? ⟨w.heap.size + 1, 1, none⟩ = some (.int .i64 yb) := bX.cell 1 rfl
      have cx2 : w4.cell? ⟨w.heap.size + 1, 2, none⟩ = some (.int .i64 yf) := bX.cell 2 rfl
      have lS := bS.lt
      have lX := bX.lt
      clear bS bX
      obtain ⟨d0, d1, d2, d3, d4⟩ := HQ.out _ hBr2
      have lbb : bb < w4.heap.size := by have := hBr2.size; omega
      have hrA : Hid (w4.ownsRow NB 54 5 (.slice A9 k c9) k (flatW (TN k))) := hH2.get 2 rfl
      have hNz : NB ≤ w4.heap.size := Nat.le_trans hle hBr2.size
      go_upto_region 10 with (at_builtin; go_must (refine wpList_push5 rfl (.tmp 63) (.tmp 74) rfl qq NB _ k (flatW (TN k)) rfl rfl hrA.out hNz (by omega) ?_; intro A' c' w5 hown8 hgr8 hfr8; (have hHn : Has w5 NB [.row (.slice A7' (k + 1) c7') 54 5 (k + 1) (flatW (BK k) ++ flatW [(-q1, -q2, q3, q5, q4)]), .row (.slice A8 k c8) 54 5 k (flatW (LT k)), .row (.slice A' (k + 1) c') 54 5 (k + 1) (flatW (TN k) ++ flatW [qq]), .box NX 54 #[.int .i64 q1, .int .i64 q2, .int .i64 q3, .int .i64 q4, .int .i64 q5]] := hH2.change 2 rfl hgr8 (fun g e => e) hown8 hfr8); (have hBn : Below NB w2 w5 := hBr2.trans (below_of_grown hgr8 hNz (fun g e => (Thing.lt (hH2.get 2 rfl) e).1))); clear hown8 hgr8 hfr8))
      obtain ⟨A9', hA9⟩ : ∃ a, a = A' := ⟨_, rfl⟩
      obtain ⟨c9', hc9⟩ : ∃ a, a = c' := ⟨_, rfl⟩
      rw [← hA9, ← hc9] at hHn
      subst hA9 hc9
      have hH3 := hHn
      have hBr3 := hBn
      clear cs0 cs1 cs2 cs3 cs4 cs5 cs6 cs7 cx0 cx1 cx2 lS lX d0 d1 d2 d3 d4 lbb hrA hNz hHn hBn hH2 hBr2
      have bS := HS.out _ hBr3
      have bX := HX.out _ hBr3
      have cs0 : w5.cell? ⟨w.heap.size, 0, none⟩ = some (.int .i64 full) := bS.cell 0 rfl
      have cs1 : w5.cell? ⟨w.heap.size, 1, none⟩ = some (.int .i64 read) := bS.cell 1 rfl
      have cs2 : w5.cell? ⟨w.heap.size, 2, none⟩ = some (.int .i64 slip) := bS.cell 2 rfl
      have cs3 : w5.cell? ⟨w.heap.size, 3, none⟩ = some (.int .i64 skew) := bS.cell 3 rfl
      have cs4 : w5.cell? ⟨w.heap.size, 4, none⟩ = some (.int .i64 circ) := bS.cell 4 rfl
      have cs5 : w5.cell? ⟨w.heap.size, 5, none⟩ = some (.int .i64 glo) := bS.cell 5 rfl
      have cs6 : w5.cell? ⟨w.heap.size, 6, none⟩ = some (.int .i64 ghi) := bS.cell 6 rfl
      have cs7 : w5.cell? ⟨w.heap.size, 7, none⟩ = some (.int .i64 wrn) := bS.cell 7 rfl
      have cx0 : w5.cell? ⟨w.heap.size + 1, 0, none⟩ = some (.int .i64 yw) := bX.cell 0 rfl
      have cx1 : w5.cell? ⟨w.heap.size + 1, 1, none⟩ = some (.int .i64 yb) := bX.cell 1 rfl
      have cx2 : w5.cell? ⟨w.heap.size + 1, 2, none⟩ = some (.int .i64 yf) := bX.cell 2 rfl
      have lS := bS.lt
      have lX := bX.lt
      clear bS bX
      have bN : BoxS w5 NX 54 #[.int .i64 q1, .int .i64 q2, .int .i64 q3, .int .i64 q4, .int .i64 q5] := (hH3.get 3 rfl : BoxS w5 NX 54 #[.int .i64 q1, .int .i64 q2, .int .i64 q3, .int .i64 q4, .int .i64 q5] ∧ NB ≤ NX).1
      have cn0 : w5.cell? ⟨NX, 0, none⟩ = some (.int .i64 q1) := bN.cell 0 rfl
      have cn1 : w5.cell? ⟨NX, 1, none⟩ = some (.int .i64 q2) := bN.cell 1 rfl
      have cn2 : w5.cell? ⟨NX, 2, none⟩ = some (.int .i64 q3) := bN.cell 2 rfl
      have cn3 : w5.cell? ⟨NX, 3, none⟩ = some (.int .i64 q4) := bN.cell 3 rfl
      have cn4 : w5.cell? ⟨NX, 4, none⟩ = some (.int .i64 q5) := bN.cell 4 rfl
      have lN := bN.lt
      by_cases hyw : (k : Int) = yw
      · have hyB : ((k : Int) == yw) = true := by simpa using hyw
        have key := hLY.out hyw
        have ht1 : (q4 + yb).tmod full = (q4 + yb) % full := Int.tmod_eq_emod_of_nonneg (by omega)
        have ht2 : (q5 + yb).tmod full = (q5 + yb) % full := Int.tmod_eq_emod_of_nonneg (by omega)
        have e1 := Int.emod_nonneg (q4 + yb) (show full ≠ 0 by omega)
        have e2 := Int.emod_lt_of_pos (q4 + yb) (show 0 < full by omega)
        have e3 := Int.emod_nonneg (q5 + yb) (show full ≠ 0 by omega)
        have e4 := Int.emod_lt_of_pos (q5 + yb) (show 0 < full by omega)
        have hu1 : IntKind.i64.wrap (q4 + yb) = q4 + yb := IntWalk.i64_in _ (by omega)
        have hu2 : IntKind.i64.wrap (q5 + yb) = q5 + yb := IntWalk.i64_in _ (by omega)
        have hu3 : IntKind.i64.wrap ((q4 + yb) % full) = (q4 + yb) % full := IntWalk.i64_in _ (by omega)
        have hu4 : IntKind.i64.wrap ((q5 + yb) % full) = (q5 + yb) % full := IntWalk.i64_in _ (by omega)
        have hf0 : ¬ full = 0 := by omega
        clear e1 e2 e3 e4 hyw hLY hLN
        go_upto_region 11 with fail
        refine (wpIn_wide (n := 4)).1 ?_
        have hmo : Try.prog.follows .mixedOrders = true := by kernel_rfl
        have q0 : Below NX w5 w5.drew := (Below.refl _ _).drew
        have KC : Hid (∀ W', Below NX w5 W' ∧ W'.cell? ⟨NX, 4, none⟩ = some (.int .i64 q5) → (W'.cell? ⟨w.heap.size + 1, 1, none⟩ = some (.int .i64 yb) ∧ W'.cell? ⟨w.heap.size, 0, none⟩ = some (.int .i64 full)) ∧ W'.cell? ⟨NX, 4, none⟩ = some (.int .i64 q5)) := fun W' h => ⟨⟨(h.1.cell (p := ⟨w.heap.size + 1, 1, none⟩) (show w.heap.size + 1 < NX by omega)).trans cx1, (h.1.cell (p := ⟨w.heap.size, 0, none⟩) (show w.heap.size < NX by omega)).trans cs0⟩, h.2⟩
        have hd4 : w5.drew.cell? ⟨NX, 4, none⟩ = some (.int .i64 q5) := cn4
        have hd3 : w5.drew.cell? ⟨NX, 3, none⟩ = some (.int .i64 q4) := cn3
        have qs : Below NX w5 w5.drew ∧ w5.drew.cell? ⟨NX, 4, none⟩ = some (.int .i64 q5) := ⟨q0, hd4⟩
        have fn3 := bN.frozen 3
        have fn4 := bN.frozen 4
        refine wpIn_region_held (fun W' => Below NX w5 W' ∧ W'.cell? ⟨NX, 4, none⟩ = some (.int .i64 q5)) 19 hmo ?_
        refine wpHeldIn_take (i := 0) (v := ?_) (plain_of (by kernel_rfl)) rfl (by kernel_rfl) (fun _ _ _ h => h) (yieldsSoIn_of (by kernel_rfl) ?_ (fun _ => rfl)) qs ?_; rotate_left; focus (intro wq hw; have kq := KC.out wq hw; clear hw; go_simp; try (with_reducible rfl))
        refine wpHeldIn_take (i := 2) (v := ?_) (plain_of (by kernel_rfl)) rfl (by kernel_rfl) (fun _ _ _ h => h) (yieldsSoIn_of (by kernel_rfl) ?_ (fun _ => rfl)) qs ?_; rotate_left; focus (intro wq hw; have kq := KC.out wq hw; clear hw; go_simp; try (with_reducible rfl))
        refine wpHeldIn_take (i := 3) (v := ?_) (plain_of (by kernel_rfl)) rfl (by kernel_rfl) (fun _ _ _ h => h) (yieldsSoIn_of (by kernel_rfl) ?_ (fun _ => rfl)) qs ?_; rotate_left; focus (intro wq hw; have kq := KC.out wq hw; clear hw; go_simp; try (with_reducible rfl))
        refine wpHeldIn_take (i := 5) (v := ?_) (plain_of (by kernel_rfl)) rfl (by kernel_rfl) (fun _ _ _ h => h) (yieldsSoIn_of (by kernel_rfl) ?_ (fun _ => rfl)) qs ?_; rotate_left; focus (intro wq hw; have kq := KC.out wq hw; clear hw; go_simp; try (with_reducible rfl))
        refine wpHeldIn_take (i := 6) (v := ?_) (plain_of (by kernel_rfl)) rfl (by kernel_rfl) (fun _ _ _ h => h) (yieldsSoIn_of (by kernel_rfl) ?_ (fun _ => rfl)) qs ?_; rotate_left; focus (intro wq hw; have kq := KC.out wq hw; clear hw; go_simp; try (with_reducible rfl))
        refine wpHeldIn_take (i := 8) (v := ?_) (plain_of (by kernel_rfl)) rfl (by kernel_rfl) (fun _ _ _ h => h) (yieldsSoIn_of (by kernel_rfl) ?_ (fun _ => rfl)) qs ?_; rotate_left; focus (intro wq hw; have kq := KC.out wq hw; clear hw; go_simp; try (with_reducible rfl))
        refine wpHeldIn_take (i := 9) (v := ?_) (plain_of (by kernel_rfl)) rfl (by kernel_rfl) (fun _ _ _ h => h) (yieldsSoIn_of (by kernel_rfl) ?_ (fun _ => rfl)) qs ?_; rotate_left; focus (intro wq hw; have kq := KC.out wq hw; clear hw; go_simp; try (with_reducible rfl))
        refine wpHeldIn_take (i := 10) (v := ?_) (plain_of (by kernel_rfl)) rfl (by kernel_rfl) (fun _ _ _ h => h) (yieldsSoIn_of (by kernel_rfl) ?_ (fun _ => rfl)) qs ?_; rotate_left; focus (intro wq hw; have kq := KC.out wq hw; clear hw; go_simp; try (with_reducible rfl))
        refine wpHeldIn_take (i := 11) (v := ?_) (plain_of (by kernel_rfl)) rfl (by kernel_rfl) (fun _ _ _ h => h) (yieldsSoIn_of (by kernel_rfl) ?_ (fun _ => rfl)) qs ?_; rotate_left; focus (intro wq hw; have kq := KC.out wq hw; clear hw; go_simp; try (with_reducible rfl))
        refine wpHeldIn_take (i := 12) (v := ?_) (plain_of (by kernel_rfl)) rfl (by kernel_rfl) (fun _ _ _ h => h) (yieldsSoIn_of (by kernel_rfl) ?_ (fun _ => rfl)) qs ?_; rotate_left; focus (intro wq hw; have kq := KC.out wq hw; clear hw; go_simp; try (with_reducible rfl))
        refine wpHeldIn_take (i := 13) (v := ?_) (plain_of (by kernel_rfl)) rfl (by kernel_rfl) (fun _ _ _ h => h) (yieldsSoIn_of (by kernel_rfl) ?_ (fun _ => rfl)) qs ?_; rotate_left; focus (intro wq hw; have kq := KC.out wq hw; clear hw; go_simp; try (with_reducible rfl))
        refine wpHeldIn_take (i := 14) (v := ?_) (plain_of (by kernel_rfl)) rfl (by kernel_rfl) (fun _ _ _ h => h) (yieldsSoIn_of (by kernel_rfl) ?_ (fun _ => rfl)) qs ?_; rotate_left; focus (intro wq hw; have kq := KC.out wq hw; clear hw; go_simp; try (with_reducible rfl))
        refine wpHeldIn_take (i := 15) (v := ?_) (plain_of (by kernel_rfl)) rfl (by kernel_rfl) (fun _ _ _ h => h) (yieldsSoIn_of (by kernel_rfl) ?_ (fun _ => rfl)) qs ?_; rotate_left; focus (intro wq hw; have kq := KC.out wq hw; clear hw; go_simp; try (with_reducible rfl))
        refine wpHeldIn_one (i := 1) (by kernel_rfl) (by kernel_rfl) rfl (by kernel_rfl) (fun K' hK' => ?_); go_simp; refine hK' _ _ qs ?_
        refine wpHeldIn_take (i := 4) (v := ?_) (plain_of (by kernel_rfl)) rfl (by kernel_rfl) (fun _ _ _ h => h) (yieldsSoIn_of (by kernel_rfl) ?_ (fun _ => rfl)) qs ?_; rotate_left; focus (intro wq hw; have kq := KC.out wq hw; clear hw; go_simp; try (with_reducible rfl))
        refine wpHeldIn_take (i := 7) (v := ?_) (plain_of (by kernel_rfl)) rfl (by kernel_rfl) (fun _ _ _ h => h) (yieldsSoIn_of (by kernel_rfl) ?_ (fun _ => rfl)) qs ?_; rotate_left; focus (intro wq hw; have kq := KC.out wq hw; clear hw; go_simp; try (with_reducible rfl))
        refine wpHeldIn_take (i := 16) (v := ?_) (plain_of (by kernel_rfl)) rfl (by kernel_rfl) (fun _ _ _ h => h) (yieldsSoIn_of (by kernel_rfl) ?_ (fun _ => rfl)) qs ?_; rotate_left; focus (intro wq hw; have kq := KC.out wq hw; clear hw; go_simp; try (with_reducible rfl))
        have hH3d : Has (w5.setCell ⟨NX, 3, none⟩ (.int .i64 ((q4 + yb) % full))) NB [.row (.slice A7' (k + 1) c7') 54 5 (k + 1) (flatW (BK k) ++ flatW [(-q1, -q2, q3, q5, q4)]), .row (.slice A8 k c8) 54 5 k (flatW (LT k)), .row (.slice A9' (k + 1) c9') 54 5 (k + 1) (flatW (TN k) ++ flatW [qq]), .box NX 54 #[.int .i64 q1, .int .i64 q2, .int .i64 q3, .int .i64 ((q4 + yb) % full), .int .i64 q5]] := hH3.put 3 rfl 3 _
        have hH4 : Has (w5.setCell ⟨NX, 3, none⟩ (.int .i64 ((q4 + yb) % full))).drew NB [.row (.slice A7' (k + 1) c7') 54 5 (k + 1) (flatW (BK k) ++ flatW [(-q1, -q2, q3, q5, q4)]), .row (.slice A8 k c8) 54 5 k (flatW (LT k)), .row (.slice A9' (k + 1) c9') 54 5 (k + 1) (flatW (TN k) ++ flatW [qq]), .box NX 54 #[.int .i64 q1, .int .i64 q2, .int .i64 q3, .int .i64 ((q4 + yb) % full), .int .i64 q5]] := hH3d.below (Below.refl _ _).drew (Nat.le_refl _)
        have qt : Below NX w5 (w5.setCell ⟨NX, 3, none⟩ (.int .i64 ((q4 + yb) % full))).drew ∧ (w5.setCell ⟨NX, 3, none⟩ (.int .i64 ((q4 + yb) % full))).drew.cell? ⟨NX, 4, none⟩ = some (.int .i64 q5) := ⟨by have := Below.refl NX w5; (repeat' (first | (with_reducible exact Below.refl _ _) | (with_reducible assumption) | (with_reducible refine Below.alloc ?_ ?_ _) | (with_reducible refine Below.drew ?_) | (with_reducible refine Below.setCell ?_ ?_ _) | go_size | (exact (by simp)) | omega)), (hH4.get 3 rfl : BoxS _ NX 54 #[.int .i64 q1, .int .i64 q2, .int .i64 q3, .int .i64 ((q4 + yb) % full), .int .i64 q5] ∧ NB ≤ NX).1.cell 4 rfl⟩
        refine wpHeldIn_one (i := 17) (by kernel_rfl) (by kernel_rfl) rfl (by kernel_rfl) (fun K1 hK1 => ?_)
        go_simp
        refine hK1 _ _ qt ?_
        have hB4 : Below NB w2 (w5.setCell ⟨NX, 3, none⟩ (.int .i64 ((q4 + yb) % full))).drew := by (repeat' (first | (with_reducible exact Below.refl _ _) | (with_reducible assumption) | (with_reducible refine Below.alloc ?_ ?_ _) | (with_reducible refine Below.drew ?_) | (with_reducible refine Below.setCell ?_ ?_ _) | go_size | (exact (by simp)) | omega))
        have fn4b := (hH4.get 3 rfl : BoxS _ NX 54 #[.int .i64 q1, .int .i64 q2, .int .i64 q3, .int .i64 ((q4 + yb) % full), .int .i64 q5] ∧ NB ≤ NX).1.frozen 4
        have cn4b := qt.2
        generalize World.drew (World.setCell w5 _ _) = w6 at *
        refine wpHeldIn_take (i := 18) (v := ?_) (plain_of (by kernel_rfl)) rfl (by kernel_rfl) (fun _ _ _ h => h) (yieldsSoIn_of (by kernel_rfl) ?_ (fun _ => rfl)) qt ?_; rotate_left; focus (intro wq hw; have kq := KC.out wq hw; clear hw; go_simp; try (with_reducible rfl))
        refine wpHeldIn_last (by kernel_rfl) rfl (by kernel_rfl) (fun K2 hK2 => ?_)
        go_simp
        refine hK2 _ _ ?_
        refine wpHeldIn_done (by kernel_rfl) ?_ _
        go_simp
        have hH5 : Has (w6.setCell ⟨NX, 4, none⟩ (.int .i64 ((q5 + yb) % full))) NB [.row (.slice A7' (k + 1) c7') 54 5 (k + 1) (flatW (BK k) ++ flatW [(-q1, -q2, q3, q5, q4)]), .row (.slice A8 k c8) 54 5 k (flatW (LT k)), .row (.slice A9' (k + 1) c9') 54 5 (k + 1) (flatW (TN k) ++ flatW [qq]), .box NX 54 #[.int .i64 q1, .int .i64 q2, .int .i64 q3, .int .i64 ((q4 + yb) % full), .int .i64 ((q5 + yb) % full)]] := hH4.put 3 rfl 4 _
        have hB5 : Below NB w2 (w6.setCell ⟨NX, 4, none⟩ (.int .i64 ((q5 + yb) % full))) := by (repeat' (first | (with_reducible exact Below.refl _ _) | (with_reducible assumption) | (with_reducible refine Below.alloc ?_ ?_ _) | (with_reducible refine Below.drew ?_) | (with_reducible refine Below.setCell ?_ ?_ _) | go_size | (exact (by simp)) | omega))
        clear KC q0 qs qt hd3 hd4 fn3 fn4 fn4b cn4b hH3d hH4 hmo hu1 hu2 hu3 hu4 ht1 ht2 hH3 hBr3 cs0 cs1 cs2 cs3 cs4 cs5 cs6 cs7 cx0 cx1 cx2 lS lX cn0 cn1 cn2 cn3 cn4 lN bN
        generalize World.setCell w6 _ _ = w7 at *
        have bN : BoxS w7 NX 54 #[.int .i64 q1, .int .i64 q2, .int .i64 q3, .int .i64 ((q4 + yb) % full), .int .i64 ((q5 + yb) % full)] := (hH5.get 3 rfl : BoxS w7 NX 54 #[.int .i64 q1, .int .i64 q2, .int .i64 q3, .int .i64 ((q4 + yb) % full), .int .i64 ((q5 + yb) % full)] ∧ NB ≤ NX).1
        have cn0 : w7.cell? ⟨NX, 0, none⟩ = some (.int .i64 q1) := bN.cell 0 rfl
        have cn1 : w7.cell? ⟨NX, 1, none⟩ = some (.int .i64 q2) := bN.cell 1 rfl
        have cn2 : w7.cell? ⟨NX, 2, none⟩ = some (.int .i64 q3) := bN.cell 2 rfl
        have cn3 : w7.cell? ⟨NX, 3, none⟩ = some (.int .i64 ((q4 + yb) % full)) := bN.cell 3 rfl
        have cn4 : w7.cell? ⟨NX, 4, none⟩ = some (.int .i64 ((q5 + yb) % full)) := bN.cell 4 rfl
        have lN := bN.lt
        have hrA : Hid (w7.ownsRow NB 54 5 (.slice A8 k c8) k (flatW (LT k))) := hH5.get 1 rfl
        have hNz : NB ≤ w7.heap.size := Nat.le_trans hle hB5.size
        go_wp2_with (at_builtin; go_must (refine wpList_push5 rfl (.tmp 98) (.tmp 100) rfl (q1, q2, q3, (q4 + yb) % full, (q5 + yb) % full) NB _ k (flatW (LT k)) rfl rfl hrA.out hNz (by omega) ?_; intro A' c' w8 hown8 hgr8 hfr8; (have hHn : Has w8 NB [.row (.slice A7' (k + 1) c7') 54 5 (k + 1) (flatW (BK k) ++ flatW [(-q1, -q2, q3, q5, q4)]), .row (.slice A' (k + 1) c') 54 5 (k + 1) (flatW (LT k) ++ flatW [(q1, q2, q3, (q4 + yb) % full, (q5 + yb) % full)]), .row (.slice A9' (k + 1) c9') 54 5 (k + 1) (flatW (TN k) ++ flatW [qq]), .box NX 54 #[.int .i64 q1, .int .i64 q2, .int .i64 q3, .int .i64 ((q4 + yb) % full), .int .i64 ((q5 + yb) % full)]] := hH5.change 1 rfl hgr8 (fun g e => e) hown8 hfr8); (have hBn : Below NB w2 w8 := hB5.trans (below_of_grown hgr8 hNz (fun g e => (Thing.lt (hH5.get 1 rfl) e).1))); clear hown8 hgr8 hfr8))
        go_roundw
        case rel =>
          refine ⟨k + 1, by omega, by go_num, hBn, A7', c7', A', c', A9', c9', rfl, rfl, rfl, ?_⟩
          rw [hSB, key, hST, flatW_append, flatW_append, flatW_append]
          exact hHn.change 3 rfl (World.grownBy.refl w8 none) (fun g e => by cases e) (T' := .no) trivial (fun g e => by cases e)
        case measure => simp [intOf]; omega
      · have hyB : ((k : Int) == yw) = false := by simpa using hyw
        have key := hLN.out hyw
        clear hyw hLY hLN
        go_upto_region 12 with fail
        have hrA : Hid (w5.ownsRow NB 54 5 (.slice A8 k c8) k (flatW (LT k))) := hH3.get 1 rfl
        have hNz : NB ≤ w5.heap.size := Nat.le_trans hle hBr3.size
        go_wp2_with (at_builtin; go_must (refine wpList_push5 rfl (.tmp 98) (.tmp 100) rfl (q1, q2, q3, q4, q5) NB _ k (flatW (LT k)) rfl rfl hrA.out hNz (by omega) ?_; intro A' c' w8 hown8 hgr8 hfr8; (have hHn : Has w8 NB [.row (.slice A7' (k + 1) c7') 54 5 (k + 1) (flatW (BK k) ++ flatW [(-q1, -q2, q3, q5, q4)]), .row (.slice A' (k + 1) c') 54 5 (k + 1) (flatW (LT k) ++ flatW [(q1, q2, q3, q4, q5)]), .row (.slice A9' (k + 1) c9') 54 5 (k + 1) (flatW (TN k) ++ flatW [qq]), .box NX 54 #[.int .i64 q1, .int .i64 q2, .int .i64 q3, .int .i64 q4, .int .i64 q5]] := hH3.change 1 rfl hgr8 (fun g e => e) hown8 hfr8); (have hBn : Below NB w2 w8 := hBr3.trans (below_of_grown hgr8 hNz (fun g e => (Thing.lt (hH3.get 1 rfl) e).1))); clear hown8 hgr8 hfr8))
        go_roundw
        case rel =>
          refine ⟨k + 1, by omega, by go_num, hBn, A7', c7', A', c', A9', c9', rfl, rfl, rfl, ?_⟩
          rw [hSB, key, hST, flatW_append, flatW_append, flatW_append]
          exact hHn.change 3 rfl (World.grownBy.refl w8 none) (fun g e => by cases e) (T' := .no) trivial (fun g e => by cases e)
        case measure => simp [intOf]; omega
    · have hkn : k = ws.length := by omega
      subst hkn
      obtain ⟨w20, rfl⟩ : ∃ x, x = wr := ⟨_, rfl⟩
      have hB20 := HBW.out _ hBr
      have bS20 := HS.out _ hBr
      have WA20 : Hid (Wks w20 w20.heap.size A7 (BK ws.length)) := Wks.of_reads (by rw [HBKN.out]; exact Reads.of_own (hH.get 0 rfl : w20.ownsRow NB 54 5 (.slice A7 ws.length c7) ws.length (flatW (BK ws.length))))
      have WB20 : Hid (Wks w20 w20.heap.size A8 (LT ws.length)) := Wks.of_reads (by rw [HLTN.out]; exact Reads.of_own (hH.get 1 rfl : w20.ownsRow NB 54 5 (.slice A8 ws.length c8) ws.length (flatW (LT ws.length))))
      have WC20 : Hid (Wks w20 w20.heap.size A9 (TN ws.length)) := Wks.of_reads (by rw [HTNN.out]; exact Reads.of_own (hH.get 2 rfl : w20.ownsRow NB 54 5 (.slice A9 ws.length c9) ws.length (flatW (TN ws.length))))
      clear hH hBr HS HX HBW hlt hk hk0
      have cs0 : w20.cell? ⟨w.heap.size, 0, none⟩ = some (.int .i64 full) := bS20.cell 0 rfl
      have cs1 : w20.cell? ⟨w.heap.size, 1, none⟩ = some (.int .i64 read) := bS20.cell 1 rfl
      have cs2 : w20.cell? ⟨w.heap.size, 2, none⟩ = some (.int .i64 slip) := bS20.cell 2 rfl
      have cs3 : w20.cell? ⟨w.heap.size, 3, none⟩ = some (.int .i64 skew) := bS20.cell 3 rfl
      have cs4 : w20.cell? ⟨w.heap.size, 4, none⟩ = some (.int .i64 circ) := bS20.cell 4 rfl
      have cs5 : w20.cell? ⟨w.heap.size, 5, none⟩ = some (.int .i64 glo) := bS20.cell 5 rfl
      have cs6 : w20.cell? ⟨w.heap.size, 6, none⟩ = some (.int .i64 ghi) := bS20.cell 6 rfl
      have cs7 : w20.cell? ⟨w.heap.size, 7, none⟩ = some (.int .i64 wrn) := bS20.cell 7 rfl
      have lS20 := bS20.lt
      go_wp2_with fail
      refine (HAB.out _ _ _ hB20 WA20.out).mono ?_
      rintro e w21 ⟨rfl, hb21⟩
      have bS21 := bS20.below hb21
      have hB21 := hB20.trans (hb21.mono hB20.size)
      have WA21 : Hid (Wks w21 w21.heap.size A7 (BK ws.length)) := (WA20.out.keep hb21).wider hb21.size
      have WB21 : Hid (Wks w21 w21.heap.size A8 (LT ws.length)) := (WB20.out.keep hb21).wider hb21.size
      have WC21 : Hid (Wks w21 w21.heap.size A9 (TN ws.length)) := (WC20.out.keep hb21).wider hb21.size
      clear cs0 cs1 cs2 cs3 cs4 cs5 cs6 cs7 lS20 bS20 WA20 WB20 WC20 hB20 hb21
      have cs0 : w21.cell? ⟨w.heap.size, 0, none⟩ = some (.int .i64 full) := bS21.cell 0 rfl
      have cs1 : w21.cell? ⟨w.heap.size, 1, none⟩ = some (.int .i64 read) := bS21.cell 1 rfl
      have cs2 : w21.cell? ⟨w.heap.size, 2, none⟩ = some (.int .i64 slip) := bS21.cell 2 rfl
      have cs3 : w21.cell? ⟨w.heap.size, 3, none⟩ = some (.int .i64 skew) := bS21.cell 3 rfl
      have cs4 : w21.cell? ⟨w.heap.size, 4, none⟩ = some (.int .i64 circ) := bS21.cell 4 rfl
      have cs5 : w21.cell? ⟨w.heap.size, 5, none⟩ = some (.int .i64 glo) := bS21.cell 5 rfl
      have cs6 : w21.cell? ⟨w.heap.size, 6, none⟩ = some (.int .i64 ghi) := bS21.cell 6 rfl
      have cs7 : w21.cell? ⟨w.heap.size, 7, none⟩ = some (.int .i64 wrn) := bS21.cell 7 rfl
      have lS21 := bS21.lt
      go_wp2_with fail
      refine (HAL.out _ _ _ hB21 WB21.out).mono ?_
      rintro e w22 ⟨rfl, hb22⟩
      have bS22 := bS21.below hb22
      have hB22 := hB21.trans (hb22.mono hB21.size)
      have WA22 : Hid (Wks w22 w22.heap.size A7 (BK ws.length)) := (WA21.out.keep hb22).wider hb22.size
      have WB22 : Hid (Wks w22 w22.heap.size A8 (LT ws.length)) := (WB21.out.keep hb22).wider hb22.size
      have WC22 : Hid (Wks w22 w22.heap.size A9 (TN ws.length)) := (WC21.out.keep hb22).wider hb22.size
      clear cs0 cs1 cs2 cs3 cs4 cs5 cs6 cs7 lS21 bS21 WA21 WB21 WC21 hB21 hb22
      have cs0 : w22.cell? ⟨w.heap.size, 0, none⟩ = some (.int .i64 full) := bS22.cell 0 rfl
      have cs1 : w22.cell? ⟨w.heap.size, 1, none⟩ = some (.int .i64 read) := bS22.cell 1 rfl
      have cs2 : w22.cell? ⟨w.heap.size, 2, none⟩ = some (.int .i64 slip) := bS22.cell 2 rfl
      have cs3 : w22.cell? ⟨w.heap.size, 3, none⟩ = some (.int .i64 skew) := bS22.cell 3 rfl
      have cs4 : w22.cell? ⟨w.heap.size, 4, none⟩ = some (.int .i64 circ) := bS22.cell 4 rfl
      have cs5 : w22.cell? ⟨w.heap.size, 5, none⟩ = some (.int .i64 glo) := bS22.cell 5 rfl
      have cs6 : w22.cell? ⟨w.heap.size, 6, none⟩ = some (.int .i64 ghi) := bS22.cell 6 rfl
      have cs7 : w22.cell? ⟨w.heap.size, 7, none⟩ = some (.int .i64 wrn) := bS22.cell 7 rfl
      have lS22 := bS22.lt
      go_wp2_with fail
      refine (HAT.out _ _ _ hB22 WC22.out).mono ?_
      rintro e w23 ⟨rfl, hb23⟩
      have bS23 := bS22.below hb23
      have hB23 := hB22.trans (hb23.mono hB22.size)
      have WA23 : Hid (Wks w23 w23.heap.size A7 (BK ws.length)) := (WA22.out.keep hb23).wider hb23.size
      have WB23 : Hid (Wks w23 w23.heap.size A8 (LT ws.length)) := (WB22.out.keep hb23).wider hb23.size
      have WC23 : Hid (Wks w23 w23.heap.size A9 (TN ws.length)) := (WC22.out.keep hb23).wider hb23.size
      clear cs0 cs1 cs2 cs3 cs4 cs5 cs6 cs7 lS22 bS22 WA22 WB22 WC22 hB22 hb23
      have cs0 : w23.cell? ⟨w.heap.size, 0, none⟩ = some (.int .i64 full) := bS23.cell 0 rfl
      have cs1 : w23.cell? ⟨w.heap.size, 1, none⟩ = some (.int .i64 read) := bS23.cell 1 rfl
      have cs2 : w23.cell? ⟨w.heap.size, 2, none⟩ = some (.int .i64 slip) := bS23.cell 2 rfl
      have cs3 : w23.cell? ⟨w.heap.size, 3, none⟩ = some (.int .i64 skew) := bS23.cell 3 rfl
      have cs4 : w23.cell? ⟨w.heap.size, 4, none⟩ = some (.int .i64 circ) := bS23.cell 4 rfl
      have cs5 : w23.cell? ⟨w.heap.size, 5, none⟩ = some (.int .i64 glo) := bS23.cell 5 rfl
      have cs6 : w23.cell? ⟨w.heap.size, 6, none⟩ = some (.int .i64 ghi) := bS23.cell 6 rfl
      have cs7 : w23.cell? ⟨w.heap.size, 7, none⟩ = some (.int .i64 wrn) := bS23.cell 7 rfl
      have lS23 := bS23.lt
      go_wp2_with fail
      refine (HWK.out _).mono ?_
      rintro e wz ⟨rfl, hbz⟩
      have hBz := hB23.trans (hbz.mono hB23.size)
      go_wp2_with fail
      go_returns
      exact ⟨rfl, hBz⟩
end Go.Proofs.Ytecmlakcpgkfbaa
