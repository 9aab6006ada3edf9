/- Wheels: how many areas one more walk leaves at the most. -/
import Derived.Test.YtecmlakcpgkfbaaWhP
import Derived.Test.YtecmlakcpgkfbaaAny
import Derived.OwnWalkIn
namespace Go.Proofs.Ytecmlakcpgkfbaa
open Go.RowKit Go.Shelf
attribute [local go_sem] Oper.semAt_some
theorem wpListIn_make_full {F : Fence} {n : Nat} {P : Program} (w : World) {ops : Array Oper} {rest : List Oper} {o : Oper} {a : Act} {Q : Exit → Act → World → Prop}
    (hg : o.guard = none) (l c : Operand) (t : TypeId) (hop : o.op = Op.makeSlice t l c)
    (base : Nat) (e : TypeId) (i : TypeInfo) (z : Value) (size : Nat) (h1 : P.underlying t = some (.slice e)) (h2 : P.info? e = some i) (h3 : i.zero = some z) (h4 : i.size = size)
    (kl kc : IntKind) (L C : Int) (m : Nat) (hl : a.eval l = .int kl L) (hc : a.eval c = .int kc C) (hL : L = (m : Int)) (hC : C = (m : Int)) (b2 : i.bytes * m ≤ 281474976710656) (b3 : m ≤ maxLen) (b4 : base ≤ w.heap.size)
    (hK : ∀ w', w'.ownsRow base e size (.slice (some ⟨w.heap.size, 0, none⟩) m m) m (madeCells z.cells (m * size)).toList → w.grownBy w' none → wpListIn F n P ops Q rest (a.put o.dst (.slice (some ⟨w.heap.size, 0, none⟩) m m)) w') :
    wpListIn F n P ops Q (o :: rest) a w := by
  refine wpListIn_plain hg fun K hK' => ?_
  obtain ⟨w', hrun, r1, r2⟩ := run_make_full (P := P) w base t e i z size h1 h2 h3 h4 kl kc m b2 b3 b4
  subst hL
  subst hC
  unfold Oper.wpIn
  refine ⟨?_, ?_⟩
  · simp [Oper.about, hop]
  · rw [Oper.semAt_plain F _ _ (by rw [hop]; intro c hc'; cases hc')]
    simp [execOp, hop, hl, hc, hrun, Result.andThen]
    exact hK' _ _ (hK w' r1 r2)
theorem below_of_none {w w' : World} (h : w.grownBy w' none) : Below w.heap.size w w' := ⟨h.os, h.tape, h.output, h.size, fun k hk => h.block k hk (by simp)⟩
namespace Wh
def maxFrom (m : Int) : List Int → Int
  | [] => m
  | x :: l => maxFrom (max m x) l
def maxL : List Int → Int
  | [] => 0
  | x :: l => maxFrom x l
def maxTo (xs : List Int) : Nat → Int
  | 0 => 0
  | 1 => xs[0]?.getD 0
  | k + 2 => max (maxTo xs (k + 1)) (xs[k + 1]?.getD 0)
/-- One difference of the readings is counted for an area. -/
def tick (t1 : Int) (s : List Int × List Int) (j : Nat) : List Int × List Int :=
  if s.2[j]?.getD 0 = t1 + 1 then s else (s.1.set j (s.1[j]?.getD 0 + 1), s.2.set j (t1 + 1))
def tickTo (n : Nat) (t1 : Int) (j0 : Nat) (s : List Int × List Int) : Nat → List Int × List Int
  | 0 => s
  | m + 1 => tick t1 (tickTo n t1 j0 s m) ((j0 + m) % n)
def diffN (d : Desk) (k1 k2 : Int) (t : Tr) : Nat := (modV (k1 * t.1 + k2 * t.2) d.full).toNat
def rndS (d : Desk) (k1 k2 : Int) (s : List Int × List Int) (t : Tr) : List Int × List Int := tickTo d.full.toNat t.1 (diffN d k1 k2 t) s (looseV d + 1).toNat
def worstS (d : Desk) (k1 k2 : Int) (L : List TrS) : List Int × List Int := L.foldl (fun s x => rndS d k1 k2 s x.1) (List.replicate d.full.toNat 0, List.replicate d.full.toNat 0)
def worstV (d : Desk) (k1 k2 : Int) : Int := maxTo (worstS d k1 k2 (truthsL d)).1 d.full.toNat
theorem worstS_snoc (d : Desk) (k1 k2 : Int) (L : List TrS) (x : TrS) : worstS d k1 k2 (L ++ [x]) = rndS d k1 k2 (worstS d k1 k2 L) x.1 := by unfold worstS; rw [List.foldl_append]; rfl
theorem tick_len (t1 : Int) (s : List Int × List Int) (j : Nat) : (tick t1 s j).1.length = s.1.length ∧ (tick t1 s j).2.length = s.2.length := by
  unfold tick
  split <;> simp
theorem tickTo_len (n : Nat) (t1 : Int) (j0 : Nat) (s : List Int × List Int) : ∀ m, (tickTo n t1 j0 s m).1.length = s.1.length ∧ (tickTo n t1 j0 s m).2.length = s.2.length
  | 0 => ⟨rfl, rfl⟩
  | m + 1 => by
    have ih := tickTo_len n t1 j0 s m
    have := tick_len t1 (tickTo n t1 j0 s m) ((j0 + m) % n)
    exact ⟨this.1.trans ih.1, this.2.trans ih.2⟩
theorem worstS_len (d : Desk) (k1 k2 : Int) (L : List TrS) : (worstS d k1 k2 L).1.length = d.full.toNat ∧ (worstS d k1 k2 L).2.length = d.full.toNat := by
  have key : ∀ (L : List TrS) (s : List Int × List Int), (L.foldl (fun s x => rndS d k1 k2 s x.1) s).1.length = s.1.length ∧ (L.foldl (fun s x => rndS d k1 k2 s x.1) s).2.length = s.2.length := by
    intro L
    induction L with
    | nil => exact fun s => ⟨rfl, rfl⟩
    | cons x l ih => exact fun s => ⟨(ih _).1.trans (tickTo_len _ _ _ _ _).1, (ih _).2.trans (tickTo_len _ _ _ _ _).2⟩
  have := key L (List.replicate d.full.toNat 0, List.replicate d.full.toNat 0)
  simpa [worstS] using this
/-- No count is greater than the number of ticks. -/
def cbd (s : List Int × List Int) (M : Int) : Prop := ∀ j : Nat, 0 ≤ s.1[j]?.getD 0 ∧ s.1[j]?.getD 0 ≤ M
theorem tick_bd {t1 : Int} {s : List Int × List Int} {M : Int} (h : cbd s M) (j : Nat) : cbd (tick t1 s j) (M + 1) := by
  intro i
  unfold tick
  split
  · have := h i; omega
  · dsimp only
    rw [List.getElem?_set]
    split
    · have := h j
      split <;> simp <;> omega
    · have := h i; omega
theorem tickTo_bd {n : Nat} {t1 : Int} {j0 : Nat} {s : List Int × List Int} {M : Int} (h : cbd s M) : ∀ m : Nat, cbd (tickTo n t1 j0 s m) (M + m)
  | 0 => by have : M + ((0 : Nat) : Int) = M := by omega
            rw [this]; exact h
  | m + 1 => by
    have := tick_bd (t1 := t1) (tickTo_bd (n := n) (t1 := t1) (j0 := j0) h m) ((j0 + m) % n)
    have e : M + (m : Int) + 1 = M + ((m + 1 : Nat) : Int) := by omega
    rw [e] at this
    exact this
theorem worstS_bd (d : Desk) (k1 k2 : Int) (hl : (looseV d + 1).toNat ≤ 101) (L : List TrS) : cbd (worstS d k1 k2 L) (101 * (L.length : Int)) := by
  have key : ∀ (L : List TrS) (s : List Int × List Int) (M : Int), cbd s M → cbd (L.foldl (fun s x => rndS d k1 k2 s x.1) s) (M + 101 * (L.length : Int)) := by
    intro L
    induction L with
    | nil => intro s M h; simpa using h
    | cons x l ih =>
      intro s M h
      have h1 := tickTo_bd (n := d.full.toNat) (t1 := x.1.1) (j0 := diffN d k1 k2 x.1) h (looseV d + 1).toNat
      have h2 := ih _ _ h1
      intro j
      have := h2 j
      rw [List.foldl_cons, List.length_cons]
      unfold rndS
      refine ⟨this.1, Int.le_trans this.2 ?_⟩
      have e : ((l.length + 1 : Nat) : Int) = (l.length : Int) + 1 := by simp
      rw [e]
      omega
  have h0 : cbd (List.replicate d.full.toNat 0, List.replicate d.full.toNat 0) 0 := by
    intro j
    dsimp only
    rw [List.getElem?_replicate]
    split <;> simp
  have := key L _ 0 h0
  rw [Int.zero_add] at this
  exact this
theorem mod_next {n j m : Nat} (hn : 0 < n) : (j + (m + 1)) % n = if (j + m) % n + 1 = n then 0 else (j + m) % n + 1 := by
  have h1 := Nat.mod_lt (j + m) hn
  have h2 := Nat.div_add_mod (j + m) n
  split
  · rename_i h
    have e : j + (m + 1) = n * ((j + m) / n + 1) := by rw [Nat.mul_add]; omega
    rw [e, Nat.mul_mod_right]
  · have e : j + (m + 1) = n * ((j + m) / n) + ((j + m) % n + 1) := by omega
    rw [e, Nat.mul_add_mod, Nat.mod_eq_of_lt (by omega)]
end Wh

set_option maxHeartbeats 2000000 in
theorem Max_any (b off cap : Nat) (xs : List Int) (hn : 0 < xs.length) (hl : xs.length ≤ 1000000000) (w : World) (hb : b < w.heap.size) (hc : ∀ (k : Nat) (x : Int), xs[k]? = some x → w.cell? ⟨b, off + k, none⟩ = some (.int .i64 x)) :
    Calls Try.prog 85 #[.slice (some ⟨b, off, none⟩) xs.length cap] w fun e w' => e = .returned (.int .i64 (Wh.maxTo xs xs.length)) ∧ Below w.heap.size w w' := by
  have HC : Hid (∀ k : Nat, k < xs.length → w.cell? ⟨b, off + k, none⟩ = some (.int .i64 (xs[k]?.getD 0))) := fun k hk => by
    rw [hc k xs[k] (List.getElem?_eq_getElem hk), List.getElem?_eq_getElem hk]
    rfl
  have HS : Hid (∀ k : Nat, Wh.maxTo xs (k + 2) = max (Wh.maxTo xs (k + 1)) (xs[k + 1]?.getD 0)) := fun k => rfl
  have H1 : Hid (Wh.maxTo xs 1 = xs[0]?.getD 0) := rfl
  have c0 := HC.out 0 hn
  have hnn : (1 : Int) ≤ xs.length := by omega
  have hll : (xs.length : Int) ≤ 1000000000 := by omega
  have d0 : decide ((xs.length : Int) < 1) = false := decide_eq_false (by omega)
  clear hc
  generalize Wh.maxTo xs = MT at *
  rw [Nat.add_zero] at c0
  obtain ⟨x0, hx0⟩ : ∃ x, x = xs[0]?.getD 0 := ⟨_, rfl⟩
  rw [← hx0] at c0 H1
  clear hx0
  go_enter Try.func85, Try.ntmps85
  go_wp2_with fail
  go_loopw [3, 4] (fun m i wr => ∃ k : Nat, (k : Int) + 1 ≤ xs.length ∧ i = .int .i64 ((k : Int) + 1) ∧ m = .int .i64 (MT (k + 1)) ∧ Below w.heap.size w wr) (fun _ i _ => (xs.length - intOf i).toNat)
  case atStart => exact ⟨0, by omega, rfl, by rw [H1.out], Below.refl _ _⟩
  case round =>
    obtain ⟨k, hk, rfl, rfl, hB⟩ := hrel
    have hk0 := Int.natCast_nonneg k
    by_cases hlt : (k : Int) + 1 < xs.length
    · have c1 := (hB.cell (p := ⟨b, _, none⟩) hb).trans (HC.out (k + 1) (by omega))
      have hw1 : IntKind.i64.wrap ((k : Int) + 1 + 1) = (k : Int) + 1 + 1 := IntWalk.i64_in _ (by omega)
      have HS1 := Lib.hid (HS.out k)
      have hkt : ((k : Int) + 1).toNat = k + 1 := by omega
      generalize xs[k + 1]?.getD 0 = y at *
      go_wp2_with fail
      go_roundw
      case rel => exact ⟨k + 1, by omega, by go_num, by rw [HS1.out], hB⟩
      case measure => simp [intOf]; omega
    · have e : xs.length = k + 1 := by omega
      go_wp2_with fail
      go_returns
      exact ⟨by first | rfl | rw [e], hB⟩

theorem int_infoW : (Try.prog.info? 3).map (fun i => (i.zero, i.size, i.bytes)) = some (some (.int .i64 0), 1, 8) := by kernel_rfl
def encI (x : Int) : Value := .int .i64 x
theorem made_zero (m : Nat) : (madeCells (Value.int .i64 0).cells (m * 1)).toList = (List.replicate m (0 : Int)).map encI := by
  rw [Nat.mul_one, List.map_replicate]
  exact toList_madeCells_one _ _
theorem BoxS.away {W : World} {B B' : Nat} {t : TypeId} {vs : Array Value} (h : BoxS W B t vs) (hne : B ≠ B') (i : Nat) (v : Value) : BoxS (W.setCell ⟨B', i, none⟩ v) B t vs := (Below.heap_setCell _ _ _ B hne).trans h
theorem Apart.drewA {b c : Nat} {W W' : World} (h : Apart b c W W') : Apart b c W W'.drew := h.trans (Apart.of_below ((Below.refl _ _).drew))
theorem row_get {w : World} {B : Nat} {g n cap : Nat} {xs : List Int} (h : w.ownsRow B 3 1 (.slice (some ⟨g, 0, none⟩) n cap) n (xs.map encI)) {j : Nat} (hj : j < n) : w.cell? ⟨g, j, none⟩ = some (.int .i64 (xs[j]?.getD 0)) := by
  have hl : xs.length = n := by have := h.1; simpa using this
  have := h.cellAt j (by omega)
  rw [List.getElem?_map, List.getElem?_eq_getElem (by omega)] at this
  rw [this, List.getElem?_eq_getElem (by omega)]
  rfl
theorem row_set {w : World} {B : Nat} {g n cap : Nat} {xs : List Int} (h : w.ownsRow B 3 1 (.slice (some ⟨g, 0, none⟩) n cap) n (xs.map encI)) (j : Nat) (v : Int) : (w.setCell ⟨g, j, none⟩ (.int .i64 v)).ownsRow B 3 1 (.slice (some ⟨g, 0, none⟩) n cap) n ((xs.set j v).map encI) := by
  have := (h.stored j (.int .i64 v)).1
  rw [List.map_set]
  exact this
set_option maxRecDepth 100000 in
set_option maxHeartbeats 16000000 in
theorem worst_any (d : Wh.Desk) (hok : Wh.okB d = true) (k1 k2 : Int) (hk1 : -1 ≤ k1 ∧ k1 ≤ 1) (hk2 : -1 ≤ k2 ∧ k2 ≤ 1) (A : Option Addr) (c : Nat) (w : World) (hg : Wks w w.heap.size A d.ws) :
    Calls Try.prog 64 #[.agg (dkV d A c), .agg #[.int .i64 k1, .int .i64 k2]] w fun e w' => e = .returned (.int .i64 (Wh.worstV d k1 k2)) ∧ Below w.heap.size w w' := by
  have hs := Wh.ok_of hok
  have hln := Wh.ok_len hok
  have HSEQ : Hid (∀ w', Below w.heap.size w w' → SeqFar Try.prog 56 #[.agg (dkV d A c)] #[] encTr w.heap.size (fun ys => ys = Wh.truthsL d) (fun pre => pre <+: Wh.truthsL d) 500000 w') := fun w' h => truths_far d hs (by omega) (Wh.ok_sm hok) A c w.heap.size w' h.size (hg.keep h)
  have HLO : Hid (∀ W, Calls Try.prog 84 #[.agg (dkV d A c)] W fun e w' => e = .returned (.int .i64 (Wh.looseV d)) ∧ Below W.heap.size W w') := fun W => loose_any d hs A c W
  have hlv : 0 ≤ Wh.looseV d ∧ Wh.looseV d ≤ 100 := by
    have h1 := hs.r1
    have h2 := hs.r2
    have h3 := hs.s1
    have h4 := hs.s2
    unfold Wh.looseV
    omega
  have HBD : Hid (∀ L, Wh.cbd (Wh.worstS d k1 k2 L) (101 * (L.length : Int))) := fun L => Wh.worstS_bd d k1 k2 (by omega) L
  have HSN : Hid (∀ L x, Wh.worstS d k1 k2 (L ++ [x]) = Wh.tickTo d.full.toNat x.1.1 (Wh.diffN d k1 k2 x.1) (Wh.worstS d k1 k2 L) (Wh.looseV d + 1).toNat) := fun L x => Wh.worstS_snoc d k1 k2 L x
  have HL0 : Hid (Wh.worstS d k1 k2 [] = (List.replicate d.full.toNat 0, List.replicate d.full.toNat 0)) := rfl
  have HLN : Hid (∀ L, (Wh.worstS d k1 k2 L).1.length = d.full.toNat ∧ (Wh.worstS d k1 k2 L).2.length = d.full.toNat) := fun L => Wh.worstS_len d k1 k2 L
  have HWV : Hid (Wh.worstV d k1 k2 = Wh.maxTo (Wh.worstS d k1 k2 (Wh.truthsL d)).1 d.full.toNat) := rfl
  have hf1 := hs.f1
  have hf2 := hs.f2
  have HDF : Hid (∀ x : Wh.TrS, (Wh.modV (k1 * x.1.1 + k2 * x.1.2) d.full = (Wh.diffN d k1 k2 x.1 : Int)) ∧ Wh.diffN d k1 k2 x.1 < d.full.toNat) := fun x => by
    unfold Wh.diffN
    rw [Wh.modV_eq (by omega)]
    have h1 := Int.emod_nonneg (k1 * x.1.1 + k2 * x.1.2) (show d.full ≠ 0 by omega)
    have h2 := Int.emod_lt_of_pos (k1 * x.1.1 + k2 * x.1.2) (show 0 < d.full by omega)
    omega
  have HMO : Hid (∀ (x : Wh.TrS) W, Calls Try.prog 83 #[.int .i64 (k1 * x.1.1 + k2 * x.1.2), .int .i64 d.full] W fun e w' => e = .returned (.int .i64 (Wh.diffN d k1 k2 x.1 : Nat)) ∧ w' = W) := fun x W => by
    rw [← (HDF.out x).1]
    obtain ⟨⟨x1, x2⟩, ⟨y1, y2⟩, y3, y4⟩ := x
    dsimp only at *
    have m1 := mul_bd (a := k1) (b := x1) (x := 1) (y := 10000) (by omega) (by omega) (by omega) (by omega)
    have m2 := mul_bd (a := k2) (b := x2) (x := 1) (y := 20) (by omega) (by omega) (by omega) (by omega)
    exact modulo_any _ _ W (by omega) (by omega)
  have hTL := Wh.truthsL_len d hs
  clear hg hok hs hln
  generalize Wh.worstV d k1 k2 = WV at *
  generalize Wh.worstS d k1 k2 = WS at *
  generalize Wh.diffN d k1 k2 = DF at *
  generalize Wh.looseV d = LV at *
  generalize Wh.truthsL d = TL at *
  obtain ⟨full, read, slip, skew, circ, glo, ghi, wrn, ws⟩ := d
  unfold dkV at *
  dsimp only at *
  obtain ⟨n, rfl⟩ : ∃ n : Nat, full = n := ⟨full.toNat, by omega⟩
  rw [Int.toNat_natCast] at HSN HL0 HLN HWV HDF
  have hn1 : 10 ≤ n := by omega
  have hn2 : n ≤ 10000 := by omega
  obtain ⟨LN, hLN⟩ : ∃ m : Nat, m = (LV + 1).toNat := ⟨_, rfl⟩
  have hLN2 : (LN : Int) = LV + 1 := by omega
  rw [← hLN] at HSN
  clear hLN hf1 hf2
  obtain ⟨i0, hi0, hz0, hz1, hz2⟩ := info_parts int_infoW
  have hby : i0.bytes * n ≤ 281474976710656 := by rw [hz2]; omega
  have hmx : n ≤ maxLen := by simp only [maxLen]; omega
  refine (callsIn_wide (n := 8)).1 ?_
  refine callsIn_of_wp_marks Try.func64 rfl trivial ?_ rfl
  simp only [Try.ntmps64, List.size_toArray, List.length_cons, List.length_nil, Nat.reduceAdd, Nat.reduceSub, Array.replicate_succ, Array.replicate_zero, List.push_toArray, List.append_toArray, List.nil_append, List.cons_append]
  gi_wp2_with (gi_at_make; go_must (first
    | (refine wpListIn_make_full _ rfl (.tmp 11) (.tmp 11) 33 rfl w.heap.size 3 i0 (.int .i64 0) 1 Try.underlying33 hi0 hz0 hz1 .i64 .i64 (n : Int) (n : Int) n rfl rfl rfl rfl hby hmx (by simp; omega) ?_; intro w2 hown2 hg2; rw [made_zero] at hown2;
       (have hx2 := below_of_none hg2); (have bD2 : BoxS w2 w.heap.size 77 #[.int .i64 (n : Int), .int .i64 read, .int .i64 slip, .int .i64 skew, .int .i64 circ, .int .i64 glo, .int .i64 ghi, .int .i64 wrn, .slice A ws.length c] := ((BoxS.new w 77 #[.int .i64 (n : Int), .int .i64 read, .int .i64 slip, .int .i64 skew, .int .i64 circ, .int .i64 glo, .int .i64 ghi, .int .i64 wrn, .slice A ws.length c]).alloc _).below hx2);
       (have bK2 : BoxS w2 (w.heap.size + 1) 95 #[.int .i64 k1, .int .i64 k2] := by (have := BoxS.new (w.alloc (.cells #[.int .i64 (n : Int), .int .i64 read, .int .i64 slip, .int .i64 skew, .int .i64 circ, .int .i64 glo, .int .i64 ghi, .int .i64 wrn, .slice A ws.length c] 77)) 95 #[.int .i64 k1, .int .i64 k2]); rw [World.size_alloc] at this; exact this.below hx2);
       (have hB2 : Below w.heap.size w w2 := (show Below w.heap.size w ((w.alloc (.cells #[.int .i64 (n : Int), .int .i64 read, .int .i64 slip, .int .i64 skew, .int .i64 circ, .int .i64 glo, .int .i64 ghi, .int .i64 wrn, .slice A ws.length c] 77)).alloc (.cells #[.int .i64 k1, .int .i64 k2] 95)) from by (repeat' (first | (with_reducible exact Below.refl _ _) | (with_reducible assumption) | (with_reducible refine Below.alloc ?_ ?_ _) | (with_reducible refine Below.drew ?_) | (with_reducible refine Below.setCell ?_ ?_ _) | go_size | (exact (by simp)) | omega))).trans (hx2.mono (by simp; omega)));
       (have lG2 := (World.ownsRow.lt hown2 _ rfl).2); simp only [World.size_alloc] at lG2 hown2; clear hg2 hx2; (have e2 := bD2.cell 0 rfl); (have l2 := bD2.lt))
    | (refine wpListIn_make_full _ rfl (.tmp 15) (.tmp 15) 33 rfl w.heap.size 3 i0 (.int .i64 0) 1 Try.underlying33 hi0 hz0 hz1 .i64 .i64 (n : Int) (n : Int) n rfl rfl rfl rfl hby hmx (by simp; omega) ?_; intro w3 hown3 hg3; rw [made_zero] at hown3;
       (have hx3 := below_of_none hg3); (have bD3 := (bD2.alloc _).below hx3); (have bK3 := (bK2.alloc _).below hx3);
       (have bA3 := (BoxS.new w2 33 #[.slice (some ⟨w.heap.size + 1 + 1, 0, none⟩) n n]).below hx3);
       (have hA3 := World.ownsRow.kept (hown2.alloc _) hg3 (.inr (by simp [Value.ownBlock])));
       (have hB3 : Below w.heap.size w w3 := (hB2.alloc hB2.size _).trans (hx3.mono (by (have := hB2.size); simp; omega)));
       (have lG3 := (World.ownsRow.lt hown3 _ rfl).2); simp only [World.size_alloc] at lG3 hown3; clear hg3 hx3 e2; (obtain ⟨⟨⟨e0, e1, e2⟩, e3, e4, e5⟩, e6, e7, e8⟩ := boxS9 bD3); (have l3 := bD3.lt))))
  have bL4 := BoxS.new w3 33 #[.slice (some ⟨w2.heap.size + 1, 0, none⟩) n n]
  have bD4 := bD3.alloc (.cells #[.slice (some ⟨w2.heap.size + 1, 0, none⟩) n n] 33)
  have bK4 := bK3.alloc (.cells #[.slice (some ⟨w2.heap.size + 1, 0, none⟩) n n] 33)
  have bA4 := bA3.alloc (.cells #[.slice (some ⟨w2.heap.size + 1, 0, none⟩) n n] 33)
  have hA4 := hA3.alloc (.cells #[.slice (some ⟨w2.heap.size + 1, 0, none⟩) n n] 33)
  have hL4 := hown3.alloc (.cells #[.slice (some ⟨w2.heap.size + 1, 0, none⟩) n n] 33)
  have hB4 : Below w.heap.size w (w3.alloc (.cells #[.slice (some ⟨w2.heap.size + 1, 0, none⟩) n n] 33)) := hB3.alloc hB3.size _
  have hz4 : (w3.alloc (.cells #[.slice (some ⟨w2.heap.size + 1, 0, none⟩) n n] 33)).heap.size = w3.heap.size + 1 := by simp
  have lA3 := bA3.lt
  obtain ⟨GA, hGA⟩ : ∃ B, B = w.heap.size + 1 + 1 := ⟨_, rfl⟩
  obtain ⟨BA, hBA⟩ : ∃ B, B = w2.heap.size := ⟨_, rfl⟩
  obtain ⟨GL, hGL⟩ : ∃ B, B = w2.heap.size + 1 := ⟨_, rfl⟩
  obtain ⟨BL, hBL⟩ : ∃ B, B = w3.heap.size := ⟨_, rfl⟩
  have o1 : w.heap.size + 1 < GA := by omega
  have o2 : GA < BA := by omega
  have o3 : BA < GL := by omega
  have o4 : GL < BL := by omega
  have o5 : BL < (w3.alloc (.cells #[.slice (some ⟨w2.heap.size + 1, 0, none⟩) n n] 33)).heap.size := by omega
  clear lA3 bD3 bK3 bA3 hA3 hown3 hB3 lG3 bD2 bK2 hown2 hB2 lG2 l2 l3 e0 e1 e2 e3 e4 e5 e6 e7 e8
  generalize World.alloc w3 _ = w5 at *
  rw [← hGL] at bL4 hL4 ⊢
  rw [← hGA] at bA4 hA4 ⊢
  rw [← hBA] at bA4 ⊢
  rw [← hBL] at bL4 ⊢
  clear hGA hBA hGL hBL hz4
  rw [show (List.replicate n (0 : Int)) = (WS []).2 from by rw [HL0.out]] at hL4
  rw [show (List.replicate n (0 : Int)) = (WS []).1 from by rw [HL0.out]] at hA4
  refine wpIn_far (n₀ := w.heap.size) (gf := 56) (pb := #[.agg #[.int .i64 (n : Int), .int .i64 read, .int .i64 slip, .int .i64 skew, .int .i64 circ, .int .i64 glo, .int .i64 ghi, .int .i64 wrn, .slice A ws.length c]]) (lb := #[]) rfl (enters_of Try.func56 (by kernel_rfl) rfl)
    (HSEQ.out w5 hB4) (Below.refl _ _) (by omega) (fun _ => rfl)
    (fun (pre : List Wh.TrS) V => (((((BoxS V w.heap.size 77 #[.int .i64 (n : Int), .int .i64 read, .int .i64 slip, .int .i64 skew, .int .i64 circ, .int .i64 glo, .int .i64 ghi, .int .i64 wrn, .slice A ws.length c] ∧ BoxS V (w.heap.size + 1) 95 #[.int .i64 k1, .int .i64 k2]) ∧ BoxS V BA 33 #[.slice (some ⟨GA, 0, none⟩) n n]) ∧ BoxS V BL 33 #[.slice (some ⟨GL, 0, none⟩) n n]) ∧ V.ownsRow w.heap.size 3 1 (.slice (some ⟨GA, 0, none⟩) n n) n ((WS pre).1.map encI)) ∧ V.ownsRow w.heap.size 3 1 (.slice (some ⟨GL, 0, none⟩) n n) n ((WS pre).2.map encI)) ∧ Below w.heap.size w V)
    (fun _ _ _ => False)
    (OwnFrom.and (OwnFrom.and (OwnFrom.and (OwnFrom.and (OwnFrom.and (OwnFrom.and (Own.from (boxS_own _ _ (fun _ => _)) _) (Own.from (boxS_own _ _ (fun _ => _)) _)) (Own.from (boxS_own _ _ (fun _ => _)) _)) (Own.from (boxS_own _ _ (fun _ => _)) _)) (fun s X Y row hs hg hr => World.ownsRow.kept hs hg (.inr (fun e => by have := (hr GA e.symm).1; omega)))) (fun s X Y row hs hg hr => World.ownsRow.kept hs hg (.inr (fun e => by have := (hr GL e.symm).1; omega)))) (ownFrom_below (Nat.le_refl _) (by omega)))
    (fun _ _ _ _ _ hs _ _ => hs)
    ⟨⟨⟨⟨⟨⟨bD4, bK4⟩, bA4⟩, bL4⟩, hA4⟩, hL4⟩, hB4⟩
    (fun x a' V => ∃ Bx, BL < Bx ∧ BoxS V Bx 80 #[.int .i64 x.1.1, .int .i64 x.1.2] ∧ a' = { tmps := #[.agg #[.int .i64 (n : Int), .int .i64 read, .int .i64 slip, .int .i64 skew, .int .i64 circ, .int .i64 glo, .int .i64 ghi, .int .i64 wrn, .slice A ws.length c], .agg #[.int .i64 k1, .int .i64 k2], .pointer (some ⟨w.heap.size, 0, none⟩), .pointer (some ⟨w.heap.size + 1, 0, none⟩), .int .i64 0, .pointer (some ⟨BA, 0, none⟩), .pointer (some ⟨BL, 0, none⟩), .pointer (some ⟨Bx, 0, none⟩), undef, .pointer (some ⟨w.heap.size, 0, none⟩), .pointer (some ⟨w.heap.size, 0, none⟩), .int .i64 (n : Int), .slice (some ⟨GA, 0, none⟩) n n, .pointer (some ⟨w.heap.size, 0, none⟩), .pointer (some ⟨w.heap.size, 0, none⟩), .int .i64 (n : Int), .slice (some ⟨GL, 0, none⟩) n n, .agg #[.int .i64 (n : Int), .int .i64 read, .int .i64 slip, .int .i64 skew, .int .i64 circ, .int .i64 glo, .int .i64 ghi, .int .i64 wrn, .slice A ws.length c], .func (.func 56) #[.agg #[.int .i64 (n : Int), .int .i64 read, .int .i64 slip, .int .i64 skew, .int .i64 circ, .int .i64 glo, .int .i64 ghi, .int .i64 wrn, .slice A ws.length c]] #[], .agg #[.int .i64 x.1.1, .int .i64 x.1.2], undef, undef, undef, undef, undef, undef, undef, undef, undef, undef, undef, undef, undef, undef, undef, undef, undef, undef, undef, undef, undef, undef, undef, undef, undef, undef, undef, undef, undef, undef, undef, undef, undef, undef, undef, undef, undef, undef, undef, undef, undef, undef, undef, undef, undef, undef, undef, undef, undef, undef], defers := [] })
    (fun x a' _ X Y row hs hg hr => by obtain ⟨Bx, e1, e2, e3⟩ := hs; exact ⟨Bx, e1, boxS_own Bx 80 (fun (_ : Unit) => #[.int .i64 x.1.1, .int .i64 x.1.2]) () X Y row e2 hg (fun r e => (hr r e).2), e3⟩)
    ?assign ?body ?done ?stop
  case assign =>
    rintro l2 pre x V K ⟨⟨⟨⟨⟨⟨bD, bK⟩, bA⟩, bL⟩, hA⟩, hL⟩, hB⟩ hK
    unfold encTr
    gi_wp2
    exact hK _ _ (Apart.alloc _ _) ⟨⟨⟨⟨⟨⟨bD.alloc _, bK.alloc _⟩, bA.alloc _⟩, bL.alloc _⟩, hA.alloc _⟩, hL.alloc _⟩, hB.alloc hB.size _⟩ ⟨V.heap.size, bL.lt, BoxS.new V _ _, rfl⟩
  case body =>
    rintro l2 pre x a' V ⟨⟨⟨⟨⟨⟨bD, bK⟩, bA⟩, bL⟩, hA⟩, hL⟩, hB⟩ ⟨Bx, hBx, bX, rfl⟩ hlt
    have HM := Lib.hid (HMO.out x)
    have hdf := (HDF.out x).2
    have HS := Lib.hid (HSN.out pre x)
    have HB0 := Lib.hid (HBD.out pre)
    have hln0 := HLN.out pre
    have hx1 := x.2
    obtain ⟨⟨t1, t2⟩, ⟨y1, y2⟩, y3, y4⟩ := x
    dsimp only at *
    have m1 := mul_bd (a := k1) (b := t1) (x := 1) (y := 10000) (by omega) (by omega) (by omega) (by omega)
    have m2 := mul_bd (a := k2) (b := t2) (x := 1) (y := 20) (by omega) (by omega) (by omega) (by omega)
    have w1 : IntKind.i64.wrap (k1 * t1) = k1 * t1 := IntWalk.i64_in _ (by omega)
    have w2' : IntKind.i64.wrap (k2 * t2) = k2 * t2 := IntWalk.i64_in _ (by omega)
    have w3' : IntKind.i64.wrap (k1 * t1 + k2 * t2) = k1 * t1 + k2 * t2 := IntWalk.i64_in _ (by omega)
    have w4' : IntKind.i64.wrap (LV + 1) = (LN : Int) := by rw [IntWalk.i64_in _ (by omega)]; omega
    have w5' : IntKind.i64.wrap (t1 + 1) = t1 + 1 := IntWalk.i64_in _ (by omega)
    obtain ⟨⟨⟨d0, d1, d2⟩, d3, d4, d5⟩, d6, d7, d8⟩ := boxS9 bD
    obtain ⟨c0, c1⟩ := boxS2 bK
    obtain ⟨x0, x1⟩ := boxS2 bX
    clear m1 m2 HSEQ HSN HBD HLN HDF HMO HWV HL0 bD4 bK4 bA4 bL4 hA4 hL4 hB4
    generalize DF (t1, t2) = j0 at *
    gi_wp2
    refine ⟨trivial, (CallsIn.inRound l2 (callsIn_wide.2 (HM.out _))).mono ?_⟩
    rintro e V2 ⟨rfl, rfl⟩
    gi_wp2
    refine ⟨trivial, (CallsIn.inRound l2 (callsIn_wide.2 (HLO.out _))).mono ?_⟩
    rintro e V3 ⟨rfl, hb3⟩
    have bD3 := bD.below hb3
    have bK3 := bK.below hb3
    have bA3 := bA.below hb3
    have bL3 := bL.below hb3
    have bX3 := bX.below hb3
    have hA3 := World.ownsRow.kept hA (grown_of_below hb3 (Nat.le_refl _)) (.inr (by simp [Value.ownBlock]))
    have hL3 := World.ownsRow.kept hL (grown_of_below hb3 (Nat.le_refl _)) (.inr (by simp [Value.ownBlock]))
    have hP3 : Apart w.heap.size w5.heap.size V2 V3 := Apart.of_below hb3
    have hmn : (j0 + 0) % n = j0 := Nat.mod_eq_of_lt (by omega)
    clear d0 d1 d2 d3 d4 d5 d6 d7 d8 c0 c1 x0 x1 bD bK bA bL bX hA hL hb3 HM HLO w1 w2' w3'
    gi_wp2
    gi_loopw [8, 38] (fun s8 s38 wr => ∃ m : Nat, (m : Int) ≤ LN ∧ s38 = .int .i64 m ∧ s8 = .int .i64 (((j0 + m) % n : Nat) : Int) ∧ (((((BoxS wr w.heap.size 77 #[.int .i64 (n : Int), .int .i64 read, .int .i64 slip, .int .i64 skew, .int .i64 circ, .int .i64 glo, .int .i64 ghi, .int .i64 wrn, .slice A ws.length c] ∧ BoxS wr (w.heap.size + 1) 95 #[.int .i64 k1, .int .i64 k2]) ∧ BoxS wr BA 33 #[.slice (some ⟨GA, 0, none⟩) n n]) ∧ BoxS wr BL 33 #[.slice (some ⟨GL, 0, none⟩) n n]) ∧ BoxS wr Bx 80 #[.int .i64 t1, .int .i64 t2]) ∧ wr.ownsRow w.heap.size 3 1 (.slice (some ⟨GA, 0, none⟩) n n) n ((Wh.tickTo n t1 j0 (WS pre) m).1.map encI) ∧ wr.ownsRow w.heap.size 3 1 (.slice (some ⟨GL, 0, none⟩) n n) n ((Wh.tickTo n t1 j0 (WS pre) m).2.map encI)) ∧ Apart w.heap.size w5.heap.size V2 wr) (fun _ x _ => (LN - intOf x).toNat)
    case atStart => exact ⟨0, by omega, rfl, by rw [hmn], ⟨⟨⟨⟨⟨bD3, bK3⟩, bA3⟩, bL3⟩, bX3⟩, hA3, hL3⟩, hP3⟩
    case round =>
      clear bD3 bK3 bA3 bL3 bX3 hA3 hL3 hP3
      obtain ⟨m, hm, rfl, rfl, ⟨⟨⟨⟨⟨bD, bK⟩, bA⟩, bL⟩, bX⟩, hA, hL⟩, hP⟩ := hrel
      have hm0 := Int.natCast_nonneg m
      by_cases hml : (m : Int) < LN
      · obtain ⟨j, hj⟩ : ∃ j, j = (j0 + m) % n := ⟨_, rfl⟩
        have hjn : j < n := by rw [hj]; exact Nat.mod_lt _ (by omega)
        have HN : Hid ((j0 + (m + 1)) % n = if j + 1 = n then 0 else j + 1) := by rw [hj]; exact Wh.mod_next (by omega)
        have HT : Hid (Wh.tickTo n t1 j0 (WS pre) (m + 1) = Wh.tick t1 (Wh.tickTo n t1 j0 (WS pre) m) j) := by rw [hj]; rfl
        have hbd := Wh.tickTo_bd (n := n) (t1 := t1) (j0 := j0) HB0.out m j
        rw [← hj]
        have cA := row_get hA hjn
        have cL := row_get hL hjn
        have fA := hA.frozenAt j
        have fL := hL.frozenAt j
        have HA := Lib.hid hA
        have HL := Lib.hid hL
        clear hA hL hj
        generalize Wh.tickTo n t1 j0 (WS pre) m = S at *
        obtain ⟨av, hav⟩ : ∃ v, v = S.1[j]?.getD 0 := ⟨_, rfl⟩
        obtain ⟨lv, hlv2⟩ : ∃ v, v = S.2[j]?.getD 0 := ⟨_, rfl⟩
        rw [← hav] at cA hbd
        rw [← hlv2] at cL
        have HAV := Lib.hid hav
        have HLV := Lib.hid hlv2
        clear hav hlv2
        have v1 : IntKind.i64.wrap (av + 1) = av + 1 := IntWalk.i64_in _ (by omega)
        have v2 : IntKind.i64.wrap ((j : Int) + 1) = (j : Int) + 1 := IntWalk.i64_in _ (by omega)
        have v3 : IntKind.i64.wrap ((m : Int) + 1) = (m : Int) + 1 := IntWalk.i64_in _ (by omega)
        have hji : (j : Int) < n := by omega
        have g1 : GA ≠ GL := by omega
        have g2 : GL ≠ GA := by omega
        have sA := bA.cell 0 rfl
        have sL := bL.cell 0 rfl
        obtain ⟨x0, x1⟩ := boxS2 bX
        have dd0 := bD.cell 0 rfl
        have hmo : Try.prog.follows .mixedOrders = true := by kernel_rfl
        gi_wp2
        refine wpIn_region_held (fun W' => W' = wr.drew) 60 hmo ?_
        refine wpHeldIn_take (i := 0) (v := ?_) (plain_of (by kernel_rfl)) rfl (by kernel_rfl) (fun _ _ _ h => h) (yieldsSoIn_of (by kernel_rfl) ?_ (fun _ => rfl)) rfl ?_; rotate_left; focus (intro w hw; cases hw; go_simp; try (with_reducible rfl))
        refine wpHeldIn_take (i := 1) (v := ?_) (plain_of (by kernel_rfl)) rfl (by kernel_rfl) (fun _ _ _ h => h) (yieldsSoIn_of (by kernel_rfl) ?_ (fun _ => rfl)) rfl ?_; rotate_left; focus (intro w hw; cases hw; go_simp; try (with_reducible rfl))
        refine wpHeldIn_take (i := 2) (v := ?_) (plain_of (by kernel_rfl)) rfl (by kernel_rfl) (fun _ _ _ h => h) (yieldsSoIn_of (by kernel_rfl) ?_ (fun _ => rfl)) rfl ?_; rotate_left; focus (intro w hw; cases hw; go_simp; try (with_reducible rfl))
        refine wpHeldIn_take (i := 3) (v := ?_) (plain_of (by kernel_rfl)) rfl (by kernel_rfl) (fun _ _ _ h => h) (yieldsSoIn_of (by kernel_rfl) ?_ (fun _ => rfl)) rfl ?_; rotate_left; focus (intro w hw; cases hw; go_simp; try (with_reducible rfl))
        refine wpHeldIn_take (i := 4) (v := ?_) (plain_of (by kernel_rfl)) rfl (by kernel_rfl) (fun _ _ _ h => h) (yieldsSoIn_of (by kernel_rfl) ?_ (fun _ => rfl)) rfl ?_; rotate_left; focus (intro w hw; cases hw; go_simp; try (with_reducible rfl))
        refine wpHeldIn_take (i := 5) (v := ?_) (plain_of (by kernel_rfl)) rfl (by kernel_rfl) (fun _ _ _ h => h) (yieldsSoIn_of (by kernel_rfl) ?_ (fun _ => rfl)) rfl ?_; rotate_left; focus (intro w hw; cases hw; go_simp; try (with_reducible rfl))
        refine wpHeldIn_take (i := 6) (v := ?_) (plain_of (by kernel_rfl)) rfl (by kernel_rfl) (fun _ _ _ h => h) (yieldsSoIn_of (by kernel_rfl) ?_ (fun _ => rfl)) rfl ?_; rotate_left; focus (intro w hw; cases hw; go_simp; try (with_reducible rfl))
        refine wpHeldIn_take (i := 7) (v := ?_) (plain_of (by kernel_rfl)) rfl (by kernel_rfl) (fun _ _ _ h => h) (yieldsSoIn_of (by kernel_rfl) ?_ (fun _ => rfl)) rfl ?_; rotate_left; focus (intro w hw; cases hw; go_simp; try (with_reducible rfl))
        refine wpHeldIn_done (by kernel_rfl) ?_ _
        go_simp
        by_cases hl : lv = t1 + 1
        · have hlb : (lv != t1 + 1) = false := by simpa using hl
          have HT2 : Hid (Wh.tickTo n t1 j0 (WS pre) (m + 1) = S) := by
            unfold Hid
            rw [HT.out]
            unfold Wh.tick
            rw [← HLV.out, if_pos hl]
          by_cases hw : j + 1 = n
          · have hwb : ((j : Int) + 1 == (n : Int)) = true := by simp; omega
            gi_wp2
            go_roundw
            case rel => exact ⟨m + 1, by omega, by go_num, by rw [HN.out, if_pos hw]; rfl, ⟨⟨⟨⟨⟨bD.drew, bK.drew⟩, bA.drew⟩, bL.drew⟩, bX.drew⟩, by rw [HT2.out]; exact HA.out.drew, by rw [HT2.out]; exact HL.out.drew⟩, hP.drewA⟩
            case measure => simp [intOf]; omega
          · have hwb : ((j : Int) + 1 == (n : Int)) = false := by simp; omega
            gi_wp2
            go_roundw
            case rel => exact ⟨m + 1, by omega, by go_num, by rw [HN.out, if_neg hw]; go_num, ⟨⟨⟨⟨⟨bD.drew, bK.drew⟩, bA.drew⟩, bL.drew⟩, bX.drew⟩, by rw [HT2.out]; exact HA.out.drew, by rw [HT2.out]; exact HL.out.drew⟩, hP.drewA⟩
            case measure => simp [intOf]; omega
        · have hlb : (lv != t1 + 1) = true := by simpa using hl
          have HT2 : Hid (Wh.tickTo n t1 j0 (WS pre) (m + 1) = (S.1.set j (av + 1), S.2.set j (t1 + 1))) := by
            unfold Hid
            rw [HT.out]
            unfold Wh.tick
            rw [← HLV.out, ← HAV.out, if_neg hl]
          have b1 := BoxS.away (BoxS.away (BoxS.drew bD) (B' := GL) (by omega) j (.int .i64 (t1 + 1))) (B' := GA) (by omega) j (.int .i64 (av + 1))
          have b2 := BoxS.away (BoxS.away (BoxS.drew bK) (B' := GL) (by omega) j (.int .i64 (t1 + 1))) (B' := GA) (by omega) j (.int .i64 (av + 1))
          have b3 := BoxS.away (BoxS.away (BoxS.drew bA) (B' := GL) (by omega) j (.int .i64 (t1 + 1))) (B' := GA) (by omega) j (.int .i64 (av + 1))
          have b4 := BoxS.away (BoxS.away (BoxS.drew bL) (B' := GL) (by omega) j (.int .i64 (t1 + 1))) (B' := GA) (by omega) j (.int .i64 (av + 1))
          have b5 := BoxS.away (BoxS.away (BoxS.drew bX) (B' := GL) (by omega) j (.int .i64 (t1 + 1))) (B' := GA) (by omega) j (.int .i64 (av + 1))
          have r1 : ((wr.drew.setCell ⟨GL, j, none⟩ (.int .i64 (t1 + 1))).setCell ⟨GA, j, none⟩ (.int .i64 (av + 1))).ownsRow w.heap.size 3 1 (.slice (some ⟨GA, 0, none⟩) n n) n ((Wh.tickTo n t1 j0 (WS pre) (m + 1)).1.map encI) := by
            rw [HT2.out]
            exact row_set (ownsRow_setCell_other HA.out.drew (a := ⟨GL, j, none⟩) (by simp [Value.ownBlock]; omega) _) j (av + 1)
          have r2 : ((wr.drew.setCell ⟨GL, j, none⟩ (.int .i64 (t1 + 1))).setCell ⟨GA, j, none⟩ (.int .i64 (av + 1))).ownsRow w.heap.size 3 1 (.slice (some ⟨GL, 0, none⟩) n n) n ((Wh.tickTo n t1 j0 (WS pre) (m + 1)).2.map encI) := by
            rw [HT2.out]
            exact ownsRow_setCell_other (row_set HL.out.drew j (t1 + 1)) (a := ⟨GA, j, none⟩) (by simp [Value.ownBlock]; omega) _
          have hP2 : Apart w.heap.size w5.heap.size V2 ((wr.drew.setCell ⟨GL, j, none⟩ (.int .i64 (t1 + 1))).setCell ⟨GA, j, none⟩ (.int .i64 (av + 1))) := (hP.drewA.trans (Apart.setCell _ ⟨GL, j, none⟩ (by simp; omega) (by simp; omega) _)).trans (Apart.setCell _ ⟨GA, j, none⟩ (by simp; omega) (by simp; omega) _)
          by_cases hw : j + 1 = n
          · have hwb : ((j : Int) + 1 == (n : Int)) = true := by simp; omega
            gi_wp2
            go_roundw
            case rel => exact ⟨m + 1, by omega, by go_num, by rw [HN.out, if_pos hw]; rfl, ⟨⟨⟨⟨⟨b1, b2⟩, b3⟩, b4⟩, b5⟩, r1, r2⟩, hP2⟩
            case measure => simp [intOf]; omega
          · have hwb : ((j : Int) + 1 == (n : Int)) = false := by simp; omega
            gi_wp2
            go_roundw
            case rel => exact ⟨m + 1, by omega, by go_num, by rw [HN.out, if_neg hw]; go_num, ⟨⟨⟨⟨⟨b1, b2⟩, b3⟩, b4⟩, b5⟩, r1, r2⟩, hP2⟩
            case measure => simp [intOf]; omega
      · obtain rfl : m = LN := by omega
        gi_wp2
        refine ⟨hP, ⟨⟨⟨⟨⟨⟨bD, bK⟩, bA⟩, bL⟩, by rw [HS.out]; exact hA⟩, by rw [HS.out]; exact hL⟩, hB.trans (hP.below hB.size)⟩⟩
  case done =>
    rintro D0 zs V hD0 rfl ⟨⟨⟨⟨⟨⟨bD, bK⟩, bA⟩, bL⟩, hA⟩, hL⟩, hB⟩ hK
    have sA := bA.cell 0 rfl
    have hlen := (HLN.out zs).1
    have hgl := (World.ownsRow.lt hA _ rfl).2
    have HMX : Hid (Calls Try.prog 85 #[.slice (some ⟨GA, 0, none⟩) n n] V fun e w' => e = .returned (.int .i64 WV) ∧ Below V.heap.size V w') := by
      have := Max_any GA 0 n (WS zs).1 (by omega) (by omega) V hgl (fun k x hx => by
        have hk : k < n := by have := (List.getElem?_eq_some_iff.1 hx).1; omega
        have := row_get hA hk
        rw [hx] at this
        rw [Nat.zero_add]
        exact this)
      rw [hlen, ← HWV.out] at this
      exact this
    clear bD bK bL hA hL hlen
    gi_wp2
    refine ⟨trivial, (callsIn_wide.2 HMX.out).mono ?_⟩
    rintro e V3 ⟨rfl, hb3⟩
    have hK3 := heap_below hb3 hK
    have hB3 := hB.trans (hb3.mono hB.size)
    have hVs := hB.size
    gi_wp2
    refine ⟨by simp, .inl ⟨_, _, rfl, run_takeDeferred hK3, ?_⟩⟩
    exact ⟨.int .i64 WV, by simp [results, Try.f64, go_sem], rfl, hB3.trans (belowK_b (w := w) (Nat.le_refl _) V3 D0 _ _ (by omega) hK3 rfl rfl)⟩
  case stop =>
    rintro D0 cc pre V hD0 hpre h hK
    exact h.elim

end Go.Proofs.Ytecmlakcpgkfbaa
