/- Trials: the span of the errors, by the reference. -/
import Derived.Test.YtkmacpkjobdffaaGreatRtC
import Derived.Test.YtkmacpkjobdffaaGreatTqC
import Derived.Test.YtkmacpkjobdffaaGreatTiXb
namespace Go.Proofs.YtkmacpkjobdffaaGreat
open Go.RowKit
theorem truth_info9 : (Tryz.prog.info? 56).map (fun i => (i.zero, i.size, i.bytes)) = some (some (.agg #[.int .i64 0, .int .i64 0]), 2, 16) := by kernel_rfl
/-- 'out = append(out, g)' on a row of the call's own. -/
theorem wpList_pushk {ops : Array Oper} {rest : List Oper} {o : Oper} {a : Act} {Q : Exit → Act → World → Prop} {wr : World} (hgd : o.guard = none) (s y : Operand)
    (ho : o.op = .call { callee := .builtin .append, args := #[s, y], argTypes := #[88, 88] }) (g : Int × Int) (B : Nat) (v : Value) (n : Nat) (xs : List Value) (hs : a.eval s = v)
    (hx : a.eval y = .slice (some ⟨wr.heap.size, 0, none⟩) 1 1) (hown : wr.ownsRow B 56 2 v n xs) (hB : B ≤ wr.heap.size) (hn : n ≤ 100000)
    (h : ∀ v' w', w'.ownsRow B 56 2 v' (n + 1) (xs ++ flat [g]) → Below B wr w' → wpList Tryz.prog ops Q rest (a.put o.dst v') w') :
    wpList Tryz.prog ops Q (o :: rest) a (wr.alloc (.cells #[.int .i64 g.1, .int .i64 g.2] 56)) := by
  obtain ⟨i0, hi0, hz0, hz1, hz2⟩ := info_partsQ truth_info9
  refine wpList_append_any _ hgd s y 88 ho B 56 i0 (.agg #[.int .i64 0, .int .i64 0]) 2 16 Tryz.underlying88 hi0 hz0 hz1 hz2 rfl (by decide) v n xs hs (hown.alloc _) (wr.heap.size + 1) (some ⟨wr.heap.size, 0, none⟩) 1 1 (flat [g]) hx (reads_q wr _ g) (flat_one [g]) (by simp only [maxLen]; omega) (by omega) (by simp; omega) ?_
  intro v' w' hown' hgr _
  exact h v' w' hown' (((Below.refl B wr).alloc hB _).grown hgr (by simp; omega) (fun j hj => (hown.lt j hj).1))
theorem ownk_nil (w : World) (B : Nat) {L : List (Int × Int)} (h : L = []) : w.ownsRow B 56 2 (.slice none 0 0) L.length (flat L) := by subst h; exact ⟨rfl, .inl ⟨rfl, rfl⟩⟩
theorem ownk_below {w w' : World} {B : Nat} {v : Value} {n : Nat} {xs : List Value} (h : w.ownsRow B 56 2 v n xs) (hb : Below w.heap.size w w') : w'.ownsRow B 56 2 v n xs :=
  h.kept (row := none) ⟨hb.os, hb.tape, hb.output, hb.size, fun k hk _ => hb.block k hk⟩ (by cases hv : v.ownBlock <;> simp)
theorem prsk_of_own {w : World} {B : Nat} {L : List (Int × Int)} {v : Value} (h : w.ownsRow B 56 2 v L.length (flat L)) : ∃ A c, v = .slice A L.length c ∧ Hid (Prs w w.heap.size A L) := by
  obtain ⟨A, c, rfl⟩ := own_form2 h
  exact ⟨A, c, rfl, Prs.of_reads (Reads.of_own h)⟩
namespace Ti
def valsK (L : List GkS) : List (Int × Int) := L.map (·.1)
def tkTo (t : Tri) (i j : Nat) : List (Int × Int) := valsK ((casesTo t i ++ rowTo t i j).filter (trB t))
def tkRow (t : Tri) (i : Nat) : List (Int × Int) := valsK ((casesTo t i).filter (trB t))
theorem tr_isT {t : Tri} (hg : 0 ≤ t.gain ∧ t.gain ≤ 50) (hk : 0 ≤ t.d.skew ∧ t.d.skew ≤ 20) {x : GkS} (hx : x ∈ casesL t) : trB t x = isT t x.1 := by
  have h1 : trB t x = true ↔ x ∈ truthsL t := by unfold truthsL; rw [List.mem_filter]; exact ⟨fun h => ⟨hx, h⟩, fun h => h.2⟩
  have h2 := (mem_cases hg hk).1 hx
  have h3 : isT t x.1 = true ↔ ∀ y ∈ t.ts, tstB t x.1 y = true := by
    unfold isT
    rw [Bool.and_eq_true, inB_true.2 h2.1, inB_true.2 h2.2, isTo_iff]
    constructor
    · rintro ⟨_, h⟩ y hy
      obtain ⟨k, hkl, e⟩ := List.getElem_of_mem hy
      have e2 : tstAt t.ts k = y := by unfold tstAt; rw [List.getElem?_eq_getElem hkl, e]; rfl
      rw [← e2]
      exact h k hkl
    · intro h
      refine ⟨rfl, fun k hkl => ?_⟩
      have e2 : tstAt t.ts k = t.ts[k] := by unfold tstAt; rw [List.getElem?_eq_getElem hkl]; rfl
      rw [e2]
      exact h _ (List.getElem_mem hkl)
  rw [Bool.eq_iff_iff, h1, h3, mem_truths hg hk]
  exact ⟨fun h => h.2, fun h => ⟨hx, h⟩⟩
theorem tk_succ {t : Tri} (hg : 0 ≤ t.gain ∧ t.gain ≤ 50) (hk : 0 ≤ t.d.skew ∧ t.d.skew ≤ 20) {i j : Nat} (hi : i < nG t) (hj : j < nS t) :
    tkTo t i (j + 1) = if isT t (-t.gain + (i : Int), -t.d.skew + (j : Int)) then tkTo t i j ++ [(-t.gain + (i : Int), -t.d.skew + (j : Int))] else tkTo t i j := by
  have hs : gsm (-t.gain + (i : Int), -t.d.skew + (j : Int)) := by unfold nG at hi; unfold nS at hj; unfold gsm; dsimp only; omega
  have hm : gkOf (-t.gain + (i : Int), -t.d.skew + (j : Int)) ∈ casesL t := (part_pre t hi (show j + 1 ≤ nS t by omega)).subset (by rw [rowTo_succ]; simp)
  have hv := tr_isT hg hk hm
  rw [gkOf_val hs] at hv
  unfold tkTo
  rw [rowTo_succ, ← List.append_assoc, List.filter_append]
  rw [← hv]
  cases hb : trB t (gkOf (-t.gain + (i : Int), -t.d.skew + (j : Int)))
  · rw [List.filter_cons_of_neg (by simp [hb])]; simp
  · rw [List.filter_cons_of_pos hb, if_pos rfl]
    unfold valsK
    rw [List.map_append]
    show _ ++ [(gkOf _).1] = _
    rw [gkOf_val hs]
theorem tk_zero (t : Tri) (i : Nat) : tkTo t i 0 = tkRow t i := by unfold tkTo tkRow rowTo; simp
theorem tk_end (t : Tri) (i : Nat) : tkTo t i (nS t) = tkRow t (i + 1) := by unfold tkTo tkRow; rw [casesTo_succ]
theorem tk_all (t : Tri) : tkRow t (nG t) = valsK (truthsL t) := rfl
theorem tk_len (t : Tri) (hg : 0 ≤ t.gain ∧ t.gain ≤ 50) (hk : 0 ≤ t.d.skew ∧ t.d.skew ≤ 20) {i j : Nat} (hi : i < nG t) (hj : j ≤ nS t) : (tkTo t i j).length ≤ 5000 := by
  unfold tkTo valsK
  rw [List.length_map]
  refine Nat.le_trans (List.length_filter_le _ _) ?_
  rw [List.length_append, casesTo_len]
  have h1 : (rowTo t i j).length = j := by unfold rowTo; simp
  have h2 : i * nS t ≤ 101 * 41 := Nat.mul_le_mul (by unfold nG at hi; omega) (by unfold nS; omega)
  unfold nS at hj
  omega
end Ti
set_option maxRecDepth 100000 in
set_option maxHeartbeats 8000000 in
theorem truths9_any (t : Ti.Tri) (A : Option Addr) (c : Nat) (w : World) (hck : Ti.chkV t = 0) (hl : t.ts.length ≤ 1000000000) (hg : Tsts w w.heap.size A t.ts) :
    Calls Tryz.prog 77 #[.agg (tiV t A c)] w (PrsPost (Ti.valsK (Ti.truthsL t)) w) := by
  obtain ⟨hga, hsk, hn6, har⟩ := Ti.chk_ok hck
  have ha : ((Ti.nG t : Nat) : Int) = 2 * t.gain + 1 := by unfold Ti.nG; omega
  have hb : ((Ti.nS t : Nat) : Int) = 2 * t.d.skew + 1 := by unfold Ti.nS; omega
  have HT : Hid (∀ f : Ti.Gk, ∀ W, Below w.heap.size w W → Calls Tryz.prog 38 #[.agg (tiV t A c), .agg #[.int .i64 f.1, .int .i64 f.2]] W fun e w' => e = .returned (.bool (Ti.isT t f)) ∧ Below W.heap.size W w') := fun f W hW => IsTruth9_any t f A c W hck hl ((hg.keep hW).wider hW.size)
  have HE : Hid (Ti.valsK (Ti.truthsL t) = Ti.tkRow t (Ti.nG t)) := (Ti.tk_all t).symm
  have HR0 : Hid (∀ i, Ti.tkTo t i 0 = Ti.tkRow t i) := Ti.tk_zero t
  have HRE : Hid (∀ i, Ti.tkTo t i (Ti.nS t) = Ti.tkRow t (i + 1)) := Ti.tk_end t
  have HRS : Hid (∀ i j, i < Ti.nG t → j < Ti.nS t → Ti.tkTo t i (j + 1) = if Ti.isT t (-t.gain + (i : Int), -t.d.skew + (j : Int)) then Ti.tkTo t i j ++ [(-t.gain + (i : Int), -t.d.skew + (j : Int))] else Ti.tkTo t i j) := fun i j hi hj => Ti.tk_succ hga hsk hi hj
  have HLN : Hid (∀ i j, i < Ti.nG t → j ≤ Ti.nS t → (Ti.tkTo t i j).length ≤ 5000) := fun i j hi hj => Ti.tk_len t hga hsk hi hj
  have HC0 : Hid (Ti.tkRow t 0 = []) := rfl
  have hwn : IntKind.i64.wrap (-t.gain) = -t.gain := IntWalk.i64_in _ (by omega)
  have hwm : IntKind.i64.wrap (-t.d.skew) = -t.d.skew := IntWalk.i64_in _ (by omega)
  clear hg hck har
  generalize Ti.valsK (Ti.truthsL t) = LL at *
  generalize Ti.nG t = n1 at *
  generalize Ti.nS t = n2 at *
  generalize Ti.tkTo t = R at *
  generalize Ti.tkRow t = C at *
  generalize Ti.isT t = IT at *
  obtain ⟨d, gain, ts⟩ := t
  obtain ⟨full, read, slip, skew, circ, glo, ghi, wrn, dws⟩ := d
  unfold tiV at *
  dsimp only at *
  go_enter Tryz.func77, Tryz.ntmps77
  go_wp2_with fail
  have bS1 := BoxS.new w 28 #[.int .i64 full, .int .i64 read, .int .i64 slip, .int .i64 skew, .int .i64 circ, .int .i64 glo, .int .i64 ghi, .int .i64 wrn, .int .i64 gain, .slice A ts.length c]
  have hB1 : Below w.heap.size w (w.alloc (.cells #[.int .i64 full, .int .i64 read, .int .i64 slip, .int .i64 skew, .int .i64 circ, .int .i64 glo, .int .i64 ghi, .int .i64 wrn, .int .i64 gain, .slice A ts.length c] 28)) := by (repeat' (first | (with_reducible exact Below.refl _ _) | (with_reducible assumption) | (with_reducible refine Below.alloc ?_ ?_ _) | (with_reducible refine Below.drew ?_) | (with_reducible refine Below.setCell ?_ ?_ _) | go_size | (exact (by simp)) | omega))
  have hz1 : w.heap.size < (w.alloc (.cells #[.int .i64 full, .int .i64 read, .int .i64 slip, .int .i64 skew, .int .i64 circ, .int .i64 glo, .int .i64 ghi, .int .i64 wrn, .int .i64 gain, .slice A ts.length c] 28)).heap.size := by simp
  generalize World.alloc w _ = w1 at *
  have s8 := bS1.cell 8 rfl
  try go_wp2_with fail
  clear s8
  go_loopg [3, 4, 5, 6] n1 (fun g x3 x4 x5 x6 wx => ∃ i : Nat, Hid (i + g = n1) ∧ (i : Int) ≤ n1 ∧ x4 = .int .i64 (-gain + (i : Int)) ∧ Below w.heap.size w wx ∧ w.heap.size < wx.heap.size ∧ BoxS wx w.heap.size 28 #[.int .i64 full, .int .i64 read, .int .i64 slip, .int .i64 skew, .int .i64 circ, .int .i64 glo, .int .i64 ghi, .int .i64 wrn, .int .i64 gain, .slice A ts.length c] ∧ wx.ownsRow (w.heap.size + 1) 56 2 x3 (C i).length (flat (C i)))
  case atStart => exact ⟨0, by simp [Hid], by omega, by simp, hB1, hz1, bS1, ownk_nil _ _ HC0.out⟩
  case round =>
    clear hB1 hz1 bS1
    obtain ⟨i, hi, hi1, rfl, hB, hz, bS, hown⟩ := hrel
    have hi0 := Int.natCast_nonneg i
    have s3 := bS.cell 3 rfl
    have s8 := bS.cell 8 rfl
    by_cases hlt : (i : Int) < n1
    · have hle : -gain + (i : Int) ≤ gain := by omega
      have hin : i < n1 := by omega
      have HOW : Hid (wr.ownsRow (w.heap.size + 1) 56 2 u3 (R i 0).length (flat (R i 0))) := by rw [HR0.out]; exact hown
      have HRS1 := Lib.hid (fun j => HRS.out i j hin)
      have HLN1 := Lib.hid (fun j => HLN.out i j hin)
      have HRE1 := Lib.hid (HRE.out i)
      clear hown hlt
      go_wp2_with fail
      obtain ⟨gko, rfl⟩ : ∃ gko, gko = gk := ⟨_, rfl⟩
      obtain ⟨wq, rfl⟩ : ∃ wq, wq = wr := ⟨_, rfl⟩
      clear s3 s8
      go_loopg [3, 5, 6] n2 (fun g x3 x5 x6 wx => ∃ j : Nat, Hid (j + g = n2) ∧ (j : Int) ≤ n2 ∧ x5 = .int .i64 (-skew + (j : Int)) ∧ Below w.heap.size w wx ∧ w.heap.size < wx.heap.size ∧ BoxS wx w.heap.size 28 #[.int .i64 full, .int .i64 read, .int .i64 slip, .int .i64 skew, .int .i64 circ, .int .i64 glo, .int .i64 ghi, .int .i64 wrn, .int .i64 gain, .slice A ts.length c] ∧ wx.ownsRow (w.heap.size + 1) 56 2 x3 (R i j).length (flat (R i j)))
      case atStart => exact ⟨0, by simp [Hid], by omega, by simp, hB, hz, bS, HOW.out⟩
      case round =>
        clear hB hz bS HOW
        obtain ⟨j, hj, hj1, rfl, hB, hz, bS, hown⟩ := hrel
        have hj0 := Int.natCast_nonneg j
        by_cases hlt : (j : Int) < n2
        · have hle2 : -skew + (j : Int) ≤ skew := by omega
          have hjn : j < n2 := by omega
          have hw1 : IntKind.i64.wrap (-skew + (j : Int) + 1) = -skew + (j : Int) + 1 := IntWalk.i64_in _ (by omega)
          have HO := Lib.hid hown
          have hln := HLN1.out j (by omega)
          have HS1 := HRS1.out j hjn
          clear hown hlt
          have s0 := bS.cell 0 rfl
          have s1 := bS.cell 1 rfl
          have s2 := bS.cell 2 rfl
          have s3 := bS.cell 3 rfl
          have s4 := bS.cell 4 rfl
          have s5 := bS.cell 5 rfl
          have s6 := bS.cell 6 rfl
          have s7 := bS.cell 7 rfl
          have s8 := bS.cell 8 rfl
          have s9 := bS.cell 9 rfl
          go_wp2_with fail
          clear s0 s1 s2 s3 s4 s5 s6 s7 s8 s9
          have bK := BoxS.new wr 56 #[.int .i64 (-gain + (i : Int)), .int .i64 (-skew + (j : Int))]
          have hb0 : Below wr.heap.size wr (wr.alloc (.cells #[.int .i64 (-gain + (i : Int)), .int .i64 (-skew + (j : Int))] 56)) := (Below.refl _ _).alloc (Nat.le_refl _) _
          have hBk := hB.trans (hb0.mono hB.size)
          have bSk := bS.below hb0
          have HOk := Lib.hid (ownk_below HO.out hb0)
          have hzk := hb0.size
          clear hb0
          generalize World.alloc wr _ = wk at *
          generalize wr.heap.size = BK at *
          refine (HT.out (-gain + (i : Int), -skew + (j : Int)) _ hBk).mono ?_
          rintro e w3 ⟨rfl, hb3⟩
          have hz3 := hb3.size
          have bS3 := bSk.below hb3
          have bK3 := bK.below hb3
          have HO3 := Lib.hid (ownk_below HOk.out hb3)
          have hB3 := hBk.trans (hb3.mono hBk.size)
          clear bSk bK HOk hBk HO hb3
          cases hT : IT (-gain + (i : Int), -skew + (j : Int))
          · rw [hT] at HS1
            have HN : Hid (w3.ownsRow (w.heap.size + 1) 56 2 u3 (R i (j + 1)).length (flat (R i (j + 1)))) := by rw [HS1]; exact HO3.out
            clear HS1 HO3
            go_wp2_with fail
            obtain ⟨g', hg'⟩ : ∃ g', gk = g' + 1 := ⟨gk - 1, by have := hj.out; omega⟩
            go_roundg g'
            case measure => omega
            case rel => exact ⟨j + 1, by have := hj.out; simp only [Hid]; omega, by omega, by simp; omega, hB3, by omega, bS3, HN.out⟩
          · rw [hT] at HS1
            have HS2 := Lib.hid HS1
            clear HS1
            have k0 := bK3.cell 0 rfl
            have k1 := bK3.cell 1 rfl
            have lK := bK3.lt
            go_wp2_with (at_builtin; refine wpList_pushk rfl (.tmp 33) (.tmp 35) rfl (-gain + (i : Int), -skew + (j : Int)) (w.heap.size + 1) _ _ _ rfl rfl HO3.out (by omega) (by omega) ?_; intro v' w4 hown4 hb4; have HO4 := Lib.hid hown4; clear hown4)
            obtain ⟨g', hg'⟩ : ∃ g', gk = g' + 1 := ⟨gk - 1, by have := hj.out; omega⟩
            go_roundg g'
            case measure => omega
            case rel =>
              refine ⟨j + 1, by have := hj.out; simp only [Hid]; omega, by omega, by simp; omega, hB3.trans (hb4.mono (by omega)), by have := hb4.size; omega, (hb4.block w.heap.size (by omega)).trans bS3, ?_⟩
              rw [HS2.out]
              simp only [↓reduceIte]
              rw [flat_append, List.length_append]
              exact HO4.out
        · have e : j = n2 := by omega
          have hle2 : ¬ -skew + (j : Int) ≤ skew := by omega
          have HO : Hid (wr.ownsRow (w.heap.size + 1) 56 2 u3 (C (i + 1)).length (flat (C (i + 1)))) := by rw [← HRE1.out, ← e]; exact hown
          have hw1 : IntKind.i64.wrap (-gain + (i : Int) + 1) = -gain + (i : Int) + 1 := IntWalk.i64_in _ (by omega)
          have s3 := bS.cell 3 rfl
          clear hown hlt e
          go_wp2_with fail
          obtain ⟨g', hg'⟩ : ∃ g', gko = g' + 1 := ⟨gko - 1, by have := hi.out; omega⟩
          go_roundg g'
          case measure => omega
          case rel => exact ⟨i + 1, by have := hi.out; simp only [Hid]; omega, by omega, by simp; omega, hB, hz, bS, HO.out⟩
    · have e : i = n1 := by omega
      have hle : ¬ -gain + (i : Int) ≤ gain := by omega
      rw [e, ← HE.out] at hown
      obtain ⟨A', c', hv, hP⟩ := prsk_of_own hown
      have HV := Lib.hid hv
      clear hown hv hlt e
      go_wp2_with fail
      go_returns
      exact ⟨A', c', by rw [HV.out]; rfl, hP, hB⟩
end Go.Proofs.YtkmacpkjobdffaaGreat
namespace Go.Proofs.YtkmacpkjobdffaaGreat
open Go.RowKit
namespace Ti
def knL (t : Tri) (E : Int) : List (Int × Int) := if E = 0 then valsK (truthsL t) else []
end Ti
set_option maxRecDepth 100000 in
set_option maxHeartbeats 8000000 in
theorem known9_any (t : Ti.Tri) (b : Bool) (A : Option Addr) (c : Nat) (w : World) (hl : t.ts.length ≤ 1000000000) (hg : Tsts w w.heap.size A t.ts) :
    Calls Tryz.prog 56 #[.agg (tiV t A c), .bool b] w (PrsEPost (Ti.knL t (Ti.opE t b)) (Ti.opE t b) w) := by
  have HC : Hid (∀ W, Below w.heap.size w W → Calls Tryz.prog 12 #[.agg (tiV t A c)] W (ErrPost (Ti.chkV t) W)) := fun W hW => Check9_any t A c hl W ((hg.keep hW).wider hW.size)
  unfold ErrPost at HC
  have hno : ∀ W' : World, ∀ x, x ≠ 0 → ∀ E, E = x → Below w.heap.size w W' → PrsEPost (Ti.knL t E) E w (.returned (.tuple #[.slice none 0 0, .int .i64 x])) W' := fun W' x hx E hE hB => by
    subst hE
    have h1 : Ti.knL t E = [] := if_neg hx
    rw [h1]
    exact ⟨none, 0, rfl, fun h => by simp at h, hB⟩
  by_cases hck : Ti.chkV t = 0
  · cases b with
    | false =>
      have hE : Ti.opE t false = 1 := by unfold Ti.opE; rw [if_pos hck, if_neg (by decide)]
      have HNO := Lib.hid (fun W' => hno W' 1 (by decide) _ hE)
      rw [hck] at HC
      clear hno hE hg
      generalize Ti.knL t (Ti.opE t false) = KL at *
      generalize Ti.opE t false = E at *
      clear hck
      obtain ⟨d, gain, ts⟩ := t
      obtain ⟨full, read, slip, skew, circ, glo, ghi, wrn, dws⟩ := d
      unfold tiV at *
      dsimp only at *
      go_enter Tryz.func56, Tryz.ntmps56
      go_wp2_with fail
      have bT1 := (BoxS.new w 28 #[.int .i64 full, .int .i64 read, .int .i64 slip, .int .i64 skew, .int .i64 circ, .int .i64 glo, .int .i64 ghi, .int .i64 wrn, .int .i64 gain, .slice A ts.length c])
      have hB1 : Below w.heap.size w (World.alloc w (.cells #[.int .i64 full, .int .i64 read, .int .i64 slip, .int .i64 skew, .int .i64 circ, .int .i64 glo, .int .i64 ghi, .int .i64 wrn, .int .i64 gain, .slice A ts.length c] 28)) := by (repeat' (first | (with_reducible exact Below.refl _ _) | (with_reducible assumption) | (with_reducible refine Below.alloc ?_ ?_ _) | (with_reducible refine Below.drew ?_) | (with_reducible refine Below.setCell ?_ ?_ _) | go_size | (exact (by simp)) | omega))
      generalize World.alloc w _ = w1 at *
      refine (HC.out _ hB1).mono ?_
      rintro e w2 ⟨rfl, hb2⟩
      have bT2 := bT1.below hb2
      have hB2 := hB1.trans (hb2.mono hB1.size)
      clear bT1 hB1
      have kT0 := bT2.cell 0 rfl
      have kT1 := bT2.cell 1 rfl
      have kT2 := bT2.cell 2 rfl
      have kT3 := bT2.cell 3 rfl
      have kT4 := bT2.cell 4 rfl
      have kT5 := bT2.cell 5 rfl
      have kT6 := bT2.cell 6 rfl
      have kT7 := bT2.cell 7 rfl
      have kT8 := bT2.cell 8 rfl
      have kT9 := bT2.cell 9 rfl
      have lT := bT2.lt
      go_wp2_with fail
      clear kT0 kT1 kT2 kT3 kT4 kT5 kT6 kT7 kT8 kT9 lT
      go_returns
      exact HNO.out _ hB2
    | true =>
      have HT : Hid (∀ W, Below w.heap.size w W → Calls Tryz.prog 77 #[.agg (tiV t A c)] W (PrsPost (Ti.valsK (Ti.truthsL t)) W)) := fun W hW => truths9_any t A c W hck hl ((hg.keep hW).wider hW.size)
      unfold PrsPost at HT
      rw [hck] at HC
      by_cases h0 : Ti.truthsL t = []
      · have hE : Ti.opE t true = 3 := by rw [Ti.op_of hck, if_pos h0]
        have HNO := Lib.hid (fun W' => hno W' 3 (by decide) _ hE)
        have hv : Ti.valsK (Ti.truthsL t) = [] := by rw [h0]; rfl
        rw [hv] at HT
        clear hno hE hg h0 hv
        generalize Ti.knL t (Ti.opE t true) = KL at *
        generalize Ti.opE t true = E at *
        clear hck
        obtain ⟨d, gain, ts⟩ := t
        obtain ⟨full, read, slip, skew, circ, glo, ghi, wrn, dws⟩ := d
        unfold tiV at *
        dsimp only at *
        go_enter Tryz.func56, Tryz.ntmps56
        go_wp2_with fail
        have bT1 := (BoxS.new w 28 #[.int .i64 full, .int .i64 read, .int .i64 slip, .int .i64 skew, .int .i64 circ, .int .i64 glo, .int .i64 ghi, .int .i64 wrn, .int .i64 gain, .slice A ts.length c])
        have hB1 : Below w.heap.size w (World.alloc w (.cells #[.int .i64 full, .int .i64 read, .int .i64 slip, .int .i64 skew, .int .i64 circ, .int .i64 glo, .int .i64 ghi, .int .i64 wrn, .int .i64 gain, .slice A ts.length c] 28)) := by (repeat' (first | (with_reducible exact Below.refl _ _) | (with_reducible assumption) | (with_reducible refine Below.alloc ?_ ?_ _) | (with_reducible refine Below.drew ?_) | (with_reducible refine Below.setCell ?_ ?_ _) | go_size | (exact (by simp)) | omega))
        generalize World.alloc w _ = w1 at *
        refine (HC.out _ hB1).mono ?_
        rintro e w2 ⟨rfl, hb2⟩
        have bT2 := bT1.below hb2
        have hB2 := hB1.trans (hb2.mono hB1.size)
        clear bT1 hB1
        have kT0 := bT2.cell 0 rfl
        have kT1 := bT2.cell 1 rfl
        have kT2 := bT2.cell 2 rfl
        have kT3 := bT2.cell 3 rfl
        have kT4 := bT2.cell 4 rfl
        have kT5 := bT2.cell 5 rfl
        have kT6 := bT2.cell 6 rfl
        have kT7 := bT2.cell 7 rfl
        have kT8 := bT2.cell 8 rfl
        have kT9 := bT2.cell 9 rfl
        have lT := bT2.lt
        go_wp2_with fail
        clear kT0 kT1 kT2 kT3 kT4 kT5 kT6 kT7 kT8 kT9 lT
        refine (HT.out _ hB2).mono ?_
        rintro e w3 ⟨AL, cL, rfl, hP, hb3⟩
        have bT3 := bT2.below hb3
        have hB3 := hB2.trans (hb3.mono hB2.size)
        clear bT2 hB2
        have kT0 := bT3.cell 0 rfl
        have kT1 := bT3.cell 1 rfl
        have kT2 := bT3.cell 2 rfl
        have kT3 := bT3.cell 3 rfl
        have kT4 := bT3.cell 4 rfl
        have kT5 := bT3.cell 5 rfl
        have kT6 := bT3.cell 6 rfl
        have kT7 := bT3.cell 7 rfl
        have kT8 := bT3.cell 8 rfl
        have kT9 := bT3.cell 9 rfl
        have lT := bT3.lt
        go_wp2_with fail
        clear kT0 kT1 kT2 kT3 kT4 kT5 kT6 kT7 kT8 kT9 lT
        go_returns
        exact HNO.out _ hB3
      · have hE : Ti.opE t true = 0 := by rw [Ti.op_of hck, if_neg h0]
        have hv : Ti.valsK (Ti.truthsL t) ≠ [] := fun h => h0 (List.map_eq_nil_iff.1 h)
        have hR : Hid (∀ (AL : Option Addr) (cL : Nat) (W' : World), Hid (Prs W' W'.heap.size AL (Ti.valsK (Ti.truthsL t))) → Below w.heap.size w W' → PrsEPost (Ti.knL t (Ti.opE t true)) (Ti.opE t true) w (.returned (.tuple #[.slice AL (Ti.valsK (Ti.truthsL t)).length cL, .int .i64 0])) W') := fun AL cL W' h1 h2 => by
          have h3 : Ti.knL t (Ti.opE t true) = Ti.valsK (Ti.truthsL t) := by unfold Ti.knL; rw [hE, if_pos rfl]
          rw [h3, hE]
          exact ⟨AL, cL, rfl, h1, h2⟩
        clear hno hE hg h0
        generalize Ti.knL t (Ti.opE t true) = KL at *
        generalize Ti.opE t true = E at *
        clear hck
        generalize Ti.valsK (Ti.truthsL t) = VL at *
        have hvb : ((VL.length : Int) == 0) = false := by simpa using hv
        have hvn : ¬ VL.length = 0 := by simpa using hv
        obtain ⟨d, gain, ts⟩ := t
        obtain ⟨full, read, slip, skew, circ, glo, ghi, wrn, dws⟩ := d
        unfold tiV at *
        dsimp only at *
        go_enter Tryz.func56, Tryz.ntmps56
        go_wp2_with fail
        have bT1 := (BoxS.new w 28 #[.int .i64 full, .int .i64 read, .int .i64 slip, .int .i64 skew, .int .i64 circ, .int .i64 glo, .int .i64 ghi, .int .i64 wrn, .int .i64 gain, .slice A ts.length c])
        have hB1 : Below w.heap.size w (World.alloc w (.cells #[.int .i64 full, .int .i64 read, .int .i64 slip, .int .i64 skew, .int .i64 circ, .int .i64 glo, .int .i64 ghi, .int .i64 wrn, .int .i64 gain, .slice A ts.length c] 28)) := by (repeat' (first | (with_reducible exact Below.refl _ _) | (with_reducible assumption) | (with_reducible refine Below.alloc ?_ ?_ _) | (with_reducible refine Below.drew ?_) | (with_reducible refine Below.setCell ?_ ?_ _) | go_size | (exact (by simp)) | omega))
        generalize World.alloc w _ = w1 at *
        refine (HC.out _ hB1).mono ?_
        rintro e w2 ⟨rfl, hb2⟩
        have bT2 := bT1.below hb2
        have hB2 := hB1.trans (hb2.mono hB1.size)
        clear bT1 hB1
        have kT0 := bT2.cell 0 rfl
        have kT1 := bT2.cell 1 rfl
        have kT2 := bT2.cell 2 rfl
        have kT3 := bT2.cell 3 rfl
        have kT4 := bT2.cell 4 rfl
        have kT5 := bT2.cell 5 rfl
        have kT6 := bT2.cell 6 rfl
        have kT7 := bT2.cell 7 rfl
        have kT8 := bT2.cell 8 rfl
        have kT9 := bT2.cell 9 rfl
        have lT := bT2.lt
        go_wp2_with fail
        clear kT0 kT1 kT2 kT3 kT4 kT5 kT6 kT7 kT8 kT9 lT
        refine (HT.out _ hB2).mono ?_
        rintro e w3 ⟨AL, cL, rfl, hP, hb3⟩
        have bT3 := bT2.below hb3
        have hB3 := hB2.trans (hb3.mono hB2.size)
        clear bT2 hB2
        have kT0 := bT3.cell 0 rfl
        have kT1 := bT3.cell 1 rfl
        have kT2 := bT3.cell 2 rfl
        have kT3 := bT3.cell 3 rfl
        have kT4 := bT3.cell 4 rfl
        have kT5 := bT3.cell 5 rfl
        have kT6 := bT3.cell 6 rfl
        have kT7 := bT3.cell 7 rfl
        have kT8 := bT3.cell 8 rfl
        have kT9 := bT3.cell 9 rfl
        have lT := bT3.lt
        go_wp2_with fail
        clear kT0 kT1 kT2 kT3 kT4 kT5 kT6 kT7 kT8 kT9 lT
        go_returns
        exact hR.out _ _ _ hP hB3
  · have hE : Ti.opE t b = Ti.chkV t := by unfold Ti.opE; rw [if_neg hck]
    have HNO := Lib.hid (fun W' => hno W' (Ti.chkV t) hck _ hE)
    have hcb : (Ti.chkV t != 0) = true := by simpa using hck
    clear hno hE hg hck
    generalize Ti.knL t (Ti.opE t b) = KL at *
    generalize Ti.opE t b = E at *
    generalize Ti.chkV t = CE at *
    obtain ⟨d, gain, ts⟩ := t
    obtain ⟨full, read, slip, skew, circ, glo, ghi, wrn, dws⟩ := d
    unfold tiV at *
    dsimp only at *
    go_enter Tryz.func56, Tryz.ntmps56
    go_wp2_with fail
    have bT1 := (BoxS.new w 28 #[.int .i64 full, .int .i64 read, .int .i64 slip, .int .i64 skew, .int .i64 circ, .int .i64 glo, .int .i64 ghi, .int .i64 wrn, .int .i64 gain, .slice A ts.length c])
    have hB1 : Below w.heap.size w (World.alloc w (.cells #[.int .i64 full, .int .i64 read, .int .i64 slip, .int .i64 skew, .int .i64 circ, .int .i64 glo, .int .i64 ghi, .int .i64 wrn, .int .i64 gain, .slice A ts.length c] 28)) := by (repeat' (first | (with_reducible exact Below.refl _ _) | (with_reducible assumption) | (with_reducible refine Below.alloc ?_ ?_ _) | (with_reducible refine Below.drew ?_) | (with_reducible refine Below.setCell ?_ ?_ _) | go_size | (exact (by simp)) | omega))
    generalize World.alloc w _ = w1 at *
    refine (HC.out _ hB1).mono ?_
    rintro e w2 ⟨rfl, hb2⟩
    have bT2 := bT1.below hb2
    have hB2 := hB1.trans (hb2.mono hB1.size)
    clear bT1 hB1
    have kT0 := bT2.cell 0 rfl
    have kT1 := bT2.cell 1 rfl
    have kT2 := bT2.cell 2 rfl
    have kT3 := bT2.cell 3 rfl
    have kT4 := bT2.cell 4 rfl
    have kT5 := bT2.cell 5 rfl
    have kT6 := bT2.cell 6 rfl
    have kT7 := bT2.cell 7 rfl
    have kT8 := bT2.cell 8 rfl
    have kT9 := bT2.cell 9 rfl
    have lT := bT2.lt
    go_wp2_with fail
    clear kT0 kT1 kT2 kT3 kT4 kT5 kT6 kT7 kT8 kT9 lT
    go_returns
    exact HNO.out _ hB2
set_option maxRecDepth 100000 in
set_option maxHeartbeats 4000000 in
theorem Many9_any (t : Ti.Tri) (A : Option Addr) (c : Nat) (w : World) (hl : t.ts.length ≤ 1000000000) (hg : Tsts w w.heap.size A t.ts) :
    Calls Tryz.prog 14 #[.agg (tiV t A c)] w (TwoPost (Ti.manyE (Ti.opE t true) t) (Ti.opE t true) w) := by
  have HK : Hid (∀ W, Below w.heap.size w W → Calls Tryz.prog 56 #[.agg (tiV t A c), .bool true] W (PrsEPost (Ti.knL t (Ti.opE t true)) (Ti.opE t true) W)) := fun W hW => known9_any t true A c W hl ((hg.keep hW).wider hW.size)
  unfold PrsEPost at HK
  have hM : Ti.manyE (Ti.opE t true) t = ((Ti.knL t (Ti.opE t true)).length : Int) := by
    unfold Ti.manyE Ti.knL
    split
    · unfold Ti.valsK; rw [List.length_map]
    · rfl
  rw [hM]
  unfold TwoPost
  clear hM hg
  generalize Ti.knL t (Ti.opE t true) = VL at *
  generalize Ti.opE t true = E at *
  obtain ⟨d, gain, ts⟩ := t
  obtain ⟨full, read, slip, skew, circ, glo, ghi, wrn, dws⟩ := d
  unfold tiV at *
  dsimp only at *
  go_enter Tryz.func14, Tryz.ntmps14
  go_wp2_with fail
  have bT1 := (BoxS.new w 28 #[.int .i64 full, .int .i64 read, .int .i64 slip, .int .i64 skew, .int .i64 circ, .int .i64 glo, .int .i64 ghi, .int .i64 wrn, .int .i64 gain, .slice A ts.length c])
  have hB1 : Below w.heap.size w (World.alloc w (.cells #[.int .i64 full, .int .i64 read, .int .i64 slip, .int .i64 skew, .int .i64 circ, .int .i64 glo, .int .i64 ghi, .int .i64 wrn, .int .i64 gain, .slice A ts.length c] 28)) := by (repeat' (first | (with_reducible exact Below.refl _ _) | (with_reducible assumption) | (with_reducible refine Below.alloc ?_ ?_ _) | (with_reducible refine Below.drew ?_) | (with_reducible refine Below.setCell ?_ ?_ _) | go_size | (exact (by simp)) | omega))
  generalize World.alloc w _ = w1 at *
  refine (HK.out _ hB1).mono ?_
  rintro e w2 ⟨AL, cL, rfl, hP, hb2⟩
  have bT2 := bT1.below hb2
  have hB2 := hB1.trans (hb2.mono hB1.size)
  clear bT1 hB1
  have kT0 := bT2.cell 0 rfl
  have kT1 := bT2.cell 1 rfl
  have kT2 := bT2.cell 2 rfl
  have kT3 := bT2.cell 3 rfl
  have kT4 := bT2.cell 4 rfl
  have kT5 := bT2.cell 5 rfl
  have kT6 := bT2.cell 6 rfl
  have kT7 := bT2.cell 7 rfl
  have kT8 := bT2.cell 8 rfl
  have kT9 := bT2.cell 9 rfl
  have lT := bT2.lt
  go_wp2_with fail
  clear kT0 kT1 kT2 kT3 kT4 kT5 kT6 kT7 kT8 kT9 lT
  go_returns
  exact ⟨rfl, hB2⟩
end Go.Proofs.YtkmacpkjobdffaaGreat
namespace Go.Proofs.YtkmacpkjobdffaaGreat
open Go.RowKit
namespace Ti
def gAt (P : List (Int × Int)) (k : Nat) : Int × Int := (P[k]?).getD (0, 0)
/-- The first numbers of the first pairs, each once. -/
def gkTo (P : List (Int × Int)) : Nat → List Int
  | 0 => []
  | k + 1 => if decide ((gAt P k).1 ∈ gkTo P k) then gkTo P k else gkTo P k ++ [(gAt P k).1]
theorem gkTo_mem {P : List (Int × Int)} {x : Int} : ∀ k, x ∈ gkTo P k ↔ ∃ j, j < k ∧ (gAt P j).1 = x
  | 0 => by simp [gkTo]
  | k + 1 => by
    have ih := gkTo_mem (P := P) (x := x) k
    unfold gkTo
    split
    · rename_i h
      rw [decide_eq_true_eq] at h
      rw [ih]
      constructor
      · rintro ⟨j, hj, e⟩; exact ⟨j, by omega, e⟩
      · rintro ⟨j, hj, e⟩
        by_cases hjk : j = k
        · subst hjk
          rw [e] at h
          exact ih.1 h
        · exact ⟨j, by omega, e⟩
    · rw [List.mem_append, ih]
      constructor
      · rintro (⟨j, hj, e⟩ | h)
        · exact ⟨j, by omega, e⟩
        · exact ⟨k, by omega, (List.mem_singleton.1 h).symm⟩
      · rintro ⟨j, hj, e⟩
        by_cases hjk : j = k
        · subst hjk; right; simp [e]
        · exact .inl ⟨j, by omega, e⟩
theorem gkTo_len (P : List (Int × Int)) : ∀ k, (gkTo P k).length ≤ k
  | 0 => by simp [gkTo]
  | k + 1 => by
    have := gkTo_len P k
    unfold gkTo
    split
    · omega
    · rw [List.length_append, List.length_singleton]; omega
theorem gkTo_asc {P : List (Int × Int)} (hP : ∀ i j, i < j → j < P.length → (gAt P i).1 ≤ (gAt P j).1) : ∀ k, k ≤ P.length → (gkTo P k).Pairwise fun x y => x < y
  | 0, _ => by unfold gkTo; exact List.Pairwise.nil
  | k + 1, hk => by
    have ih := gkTo_asc hP k (by omega)
    unfold gkTo
    split
    · exact ih
    · rename_i h
      rw [decide_eq_true_eq] at h
      rw [List.pairwise_append]
      refine ⟨ih, List.pairwise_singleton _ _, fun x hx y hy => ?_⟩
      obtain rfl : y = (gAt P k).1 := by simpa using hy
      obtain ⟨j, hj, e⟩ := (gkTo_mem k).1 hx
      have h1 := hP j k hj (by omega)
      rw [e] at h1
      have h2 : x ≠ (gAt P k).1 := fun e2 => h (by rw [← e2]; exact hx)
      omega
theorem gAt_some {P : List (Int × Int)} {k : Nat} (h : k < P.length) : P[k]? = some (gAt P k) := by unfold gAt; rw [List.getElem?_eq_getElem h]; rfl
/-- Truths come by rising gains. -/
theorem truths_asc {t : Tri} (hg : 0 ≤ t.gain ∧ t.gain ≤ 50) (hk : 0 ≤ t.d.skew ∧ t.d.skew ≤ 20) : (truthsL t).Pairwise fun x y => x.1.1 ≤ y.1.1 := by
  refine List.Pairwise.filter _ ?_
  have hr : ∀ n, (List.range n).Pairwise (fun a b => a < b) := fun n => List.pairwise_lt_range
  have val : ∀ i j : Nat, i < nG t → j < nS t → (gkOf (-t.gain + (i : Int), -t.d.skew + (j : Int))).1 = (-t.gain + (i : Int), -t.d.skew + (j : Int)) := fun i j hi hj => gkOf_val (by unfold nG at hi; unfold nS at hj; unfold gsm; dsimp only; omega)
  unfold casesL casesTo
  rw [List.pairwise_flatMap]
  constructor
  · intro i hi
    have hi := List.mem_range.1 hi
    unfold rowTo
    rw [List.pairwise_map]
    refine List.Pairwise.imp_of_mem ?_ (hr _)
    intro a b ha hb _
    rw [val i a hi (List.mem_range.1 ha), val i b hi (List.mem_range.1 hb)]
    exact Int.le_refl _
  · refine List.Pairwise.imp_of_mem ?_ (hr _)
    intro a b ha hb hab x hx y hy
    unfold rowTo at hx hy
    obtain ⟨j, hj, rfl⟩ := List.mem_map.1 hx
    obtain ⟨k, hk, rfl⟩ := List.mem_map.1 hy
    rw [val a j (List.mem_range.1 ha) (List.mem_range.1 hj), val b k (List.mem_range.1 hb) (List.mem_range.1 hk)]
    dsimp only
    omega
theorem gains_kn {t : Tri} (hck : chkV t = 0) (h0 : opE t true = 0) : gkTo (knL t 0) (knL t 0).length = allE (fun x => x.1) 0 t := by
  obtain ⟨hg, hk, _⟩ := chk_ok hck
  have hL : knL t 0 = valsK (truthsL t) := if_pos rfl
  have hat : ∀ j (hj : j < (truthsL t).length), gAt (valsK (truthsL t)) j = ((truthsL t)[j]).1 := fun j hj => by
    unfold gAt valsK
    rw [List.getElem?_map, List.getElem?_eq_getElem hj]
    rfl
  have hlen : (valsK (truthsL t)).length = (truthsL t).length := List.length_map _
  rw [hL]
  unfold allE
  rw [if_pos rfl]
  refine (all_eq _ _ (gkTo_asc (fun i j hij hj => ?_) _ (Nat.le_refl _)) fun x => ?_).symm
  · rw [hlen] at hj
    rw [hat i (by omega), hat j hj]
    exact List.pairwise_iff_getElem.1 (truths_asc hg hk) i j (by omega) hj hij
  · rw [gkTo_mem]
    constructor
    · rintro ⟨j, hj, e⟩
      rw [hlen] at hj
      rw [hat j hj] at e
      exact ⟨_, List.getElem_mem hj, e⟩
    · rintro ⟨f, hf, e⟩
      obtain ⟨j, hj, rfl⟩ := List.getElem_of_mem hf
      exact ⟨j, by rw [hlen]; exact hj, by rw [hat j hj]; exact e⟩
end Ti
set_option maxRecDepth 100000 in
set_option maxHeartbeats 4000000 in
theorem Gains9_any (t : Ti.Tri) (A : Option Addr) (c : Nat) (w : World) (hl : t.ts.length ≤ 1000000000) (hg : Tsts w w.heap.size A t.ts) :
    Calls Tryz.prog 16 #[.agg (tiV t A c)] w (IntsEPost (Ti.allE (fun x => x.1) (Ti.opE t true) t) (Ti.opE t true) w) := by
  have HK : Hid (∀ W, Below w.heap.size w W → Calls Tryz.prog 56 #[.agg (tiV t A c), .bool true] W (PrsEPost (Ti.knL t (Ti.opE t true)) (Ti.opE t true) W)) := fun W hW => known9_any t true A c W hl ((hg.keep hW).wider hW.size)
  unfold PrsEPost at HK
  have hM : Ti.allE (fun x => x.1) (Ti.opE t true) t = Ti.gkTo (Ti.knL t (Ti.opE t true)) (Ti.knL t (Ti.opE t true)).length := by
    by_cases h0 : Ti.opE t true = 0
    · rw [h0]; exact (Ti.gains_kn (Ti.op_ok h0).1 h0).symm
    · unfold Ti.allE Ti.knL; rw [if_neg h0, if_neg h0]; rfl
  have hLn : (Ti.knL t (Ti.opE t true)).length ≤ 5000 := by
    unfold Ti.knL
    split
    · rename_i h0
      obtain ⟨hg1, hk1, _⟩ := Ti.chk_ok (Ti.op_ok h0).1
      unfold Ti.valsK Ti.truthsL
      rw [List.length_map]
      refine Nat.le_trans (List.length_filter_le _ _) ?_
      unfold Ti.casesL
      rw [Ti.casesTo_len]
      exact Nat.le_trans (Nat.mul_le_mul (show Ti.nG t ≤ 101 by unfold Ti.nG; omega) (show Ti.nS t ≤ 41 by unfold Ti.nS; omega)) (by decide)
    · simp
  have HIN : Hid (∀ (v : Value) (xs : List Int) (n : Int) (W : World), Ints W W.heap.size v xs → xs.length ≤ 5000 → Calls Tryz.prog 59 #[v, .int .i64 n] W fun e w' => e = .returned (.bool (decide (n ∈ xs))) ∧ w' = W) := fun v xs n W h hl => in9_any v xs n W h (by omega)
  have HGL : Hid (∀ k, k ≤ (Ti.knL t (Ti.opE t true)).length → (Ti.gkTo (Ti.knL t (Ti.opE t true)) k).length ≤ 5000) := fun k hk => Nat.le_trans (Ti.gkTo_len _ k) (by omega)
  have HG0 : Hid (Ti.gkTo (Ti.knL t (Ti.opE t true)) 0 = []) := rfl
  have HGS : Hid (∀ k, Ti.gkTo (Ti.knL t (Ti.opE t true)) (k + 1) = if decide ((Ti.gAt (Ti.knL t (Ti.opE t true)) k).1 ∈ Ti.gkTo (Ti.knL t (Ti.opE t true)) k) then Ti.gkTo (Ti.knL t (Ti.opE t true)) k else Ti.gkTo (Ti.knL t (Ti.opE t true)) k ++ [(Ti.gAt (Ti.knL t (Ti.opE t true)) k).1]) := fun k => rfl
  have HAT : Hid (∀ k, k < (Ti.knL t (Ti.opE t true)).length → (Ti.knL t (Ti.opE t true))[k]? = some (Ti.gAt (Ti.knL t (Ti.opE t true)) k)) := fun k hk => Ti.gAt_some hk
  rw [hM]
  clear hM hg
  generalize Ti.gkTo (Ti.knL t (Ti.opE t true)) = G at *
  generalize Ti.gAt (Ti.knL t (Ti.opE t true)) = GA at *
  generalize Ti.knL t (Ti.opE t true) = VL at *
  generalize Ti.opE t true = E at *
  obtain ⟨d, gain, ts⟩ := t
  obtain ⟨full, read, slip, skew, circ, glo, ghi, wrn, dws⟩ := d
  unfold tiV at *
  dsimp only at *
  go_enter Tryz.func16, Tryz.ntmps16
  go_wp2_with fail
  have bT1 := (BoxS.new w 28 #[.int .i64 full, .int .i64 read, .int .i64 slip, .int .i64 skew, .int .i64 circ, .int .i64 glo, .int .i64 ghi, .int .i64 wrn, .int .i64 gain, .slice A ts.length c])
  have hB1 : Below w.heap.size w (World.alloc w (.cells #[.int .i64 full, .int .i64 read, .int .i64 slip, .int .i64 skew, .int .i64 circ, .int .i64 glo, .int .i64 ghi, .int .i64 wrn, .int .i64 gain, .slice A ts.length c] 28)) := by (repeat' (first | (with_reducible exact Below.refl _ _) | (with_reducible assumption) | (with_reducible refine Below.alloc ?_ ?_ _) | (with_reducible refine Below.drew ?_) | (with_reducible refine Below.setCell ?_ ?_ _) | go_size | (exact (by simp)) | omega))
  generalize World.alloc w _ = w1 at *
  refine (HK.out _ hB1).mono ?_
  rintro e w2 ⟨AL, cL, rfl, hP, hb2⟩
  have bT2 := bT1.below hb2
  have hB2 := hB1.trans (hb2.mono hB1.size)
  clear bT1 hB1
  have kT0 := bT2.cell 0 rfl
  have kT1 := bT2.cell 1 rfl
  have kT2 := bT2.cell 2 rfl
  have kT3 := bT2.cell 3 rfl
  have kT4 := bT2.cell 4 rfl
  have kT5 := bT2.cell 5 rfl
  have kT6 := bT2.cell 6 rfl
  have kT7 := bT2.cell 7 rfl
  have kT8 := bT2.cell 8 rfl
  have kT9 := bT2.cell 9 rfl
  have lT := bT2.lt
  go_wp2_with fail
  clear kT0 kT1 kT2 kT3 kT4 kT5 kT6 kT7 kT8 kT9 lT
  obtain ⟨N0, hN0⟩ : ∃ N, N = w2.heap.size := ⟨_, rfl⟩
  have hN : w.heap.size ≤ N0 := by rw [hN0]; exact hB2.size
  go_loopw [6, 7] (fun x6 x7 wr => ∃ k : Nat, (k : Int) ≤ VL.length ∧ x7 = .int .i64 (k : Int) ∧ Below N0 w2 wr ∧ N0 ≤ wr.heap.size ∧ Hid (wr.ownsRow N0 3 1 x6 (G k).length ((G k).map (Value.int .i64)))) (fun _ x7 _ => (VL.length - intOf x7).toNat)
  case atStart => exact ⟨0, by omega, rfl, Below.refl _ _, by omega, by unfold Hid; rw [HG0.out]; exact ⟨rfl, .inl ⟨rfl, rfl⟩⟩⟩
  case round =>
    obtain ⟨k, hk, rfl, hBw, hz, hO⟩ := hrel
    have hk0 := Int.natCast_nonneg k
    by_cases hlt : (k : Int) < VL.length
    · have hkl : k < VL.length := by omega
      have hwk : IntKind.i64.wrap ((k : Int) + 1) = (k : Int) + 1 := IntWalk.i64_in _ (by omega)
      obtain ⟨bl, ol, rfl, hbl, hcl⟩ := hP.out (by omega)
      have hgk := HAT.out k hkl
      obtain ⟨x0, x1⟩ := hcl k _ hgk
      have c0 := (hBw.cell (p := ⟨bl, _, none⟩) (by rw [hN0]; exact hbl)).trans x0
      have hbl' : bl < N0 := by rw [hN0]; exact hbl
      have HS1 := HGS.out k
      have hGl := HGL.out k (by omega)
      have hIx := Lib.hid (Ints.of_own hO.out)
      obtain ⟨A6, c6, rfl⟩ := ints_form hIx.out
      generalize GA k = gk at *
      obtain ⟨ga, gb⟩ := gk
      dsimp only at *
      clear hcl x0 x1 hgk
      go_wp2_with fail
      refine (HIN.out _ _ ga _ hIx.out hGl).mono ?_
      rintro e wq ⟨rfl, hq⟩
      have hq := hq.symm
      subst hq
      cases hd : decide (ga ∈ G k)
      · rw [hd] at HS1
        have HS2 := Lib.hid HS1
        clear HS1
        go_wp2_with (at_builtin; refine wpList_pushi rfl (.tmp 27) (.tmp 33) rfl ga N0 _ _ _ rfl rfl hO.out hz (by omega) ?_; intro v' w5 hown5 hb5; have HO5 := Lib.hid hown5; clear hown5)
        go_roundw
        case rel => exact ⟨k + 1, by omega, by go_num, hBw.trans hb5, by have := hb5.size; omega, by unfold Hid; rw [HS2.out]; simp only [Bool.false_eq_true, ↓reduceIte]; rw [List.length_append, List.map_append]; exact HO5.out⟩
        case measure => simp [intOf]; omega
      · rw [hd] at HS1
        have HS2 := Lib.hid HS1
        clear HS1
        go_wp2_with fail
        go_roundw
        case rel => exact ⟨k + 1, by omega, by go_num, hBw, hz, by unfold Hid; rw [HS2.out]; simp only [↓reduceIte]; exact hO.out⟩
        case measure => simp [intOf]; omega
    · have ek : k = VL.length := by omega
      subst ek
      go_wp2_with fail
      go_returns
      exact ⟨_, rfl, Ints.of_own hO.out, hB2.trans (hBw.mono hN)⟩
end Go.Proofs.YtkmacpkjobdffaaGreat
namespace Go.Proofs.YtkmacpkjobdffaaGreat
open Go.RowKit
theorem owni9_nil (w : World) (B : Nat) : w.ownsRow B 3 1 (.slice none 0 0) ([] : List Int).length (([] : List Int).map (Value.int .i64)) := ⟨rfl, .inl ⟨rfl, rfl⟩⟩
set_option maxRecDepth 100000 in
set_option maxHeartbeats 8000000 in
theorem Skews9_no (full read slip skew circ glo ghi wrn gain : Int) (ts : List Ti.Tst) (A : Option Addr) (c : Nat) (w : World) (P : List Wh.Tr) (E : Int) (hE : E ≠ 0) (HKN : Hid (∀ W, Below w.heap.size w W → Calls Tryz.prog 56 #[.agg #[.int .i64 full, .int .i64 read, .int .i64 slip, .int .i64 skew, .int .i64 circ, .int .i64 glo, .int .i64 ghi, .int .i64 wrn, .int .i64 gain, .slice A ts.length c], .bool true] W (PrsEPost P E W))) :
    Calls Tryz.prog 18 #[.agg #[.int .i64 full, .int .i64 read, .int .i64 slip, .int .i64 skew, .int .i64 circ, .int .i64 glo, .int .i64 ghi, .int .i64 wrn, .int .i64 gain, .slice A ts.length c]] w (IntsEPost [] E w) := by
  have hcb : (E == 0) = false := by simpa using hE
  unfold PrsEPost at HKN
  clear hE
  · go_enter Tryz.func18, Tryz.ntmps18
    go_wp2_with fail
    have hB1 : Below w.heap.size w (w.alloc (.cells #[.int .i64 full, .int .i64 read, .int .i64 slip, .int .i64 skew, .int .i64 circ, .int .i64 glo, .int .i64 ghi, .int .i64 wrn, .int .i64 gain, .slice A ts.length c] 28)) := by (repeat' (first | (with_reducible exact Below.refl _ _) | (with_reducible assumption) | (with_reducible refine Below.alloc ?_ ?_ _) | (with_reducible refine Below.drew ?_) | (with_reducible refine Below.setCell ?_ ?_ _) | go_size | (exact (by simp)) | omega))
    have bS1 := BoxS.new w 28 #[.int .i64 full, .int .i64 read, .int .i64 slip, .int .i64 skew, .int .i64 circ, .int .i64 glo, .int .i64 ghi, .int .i64 wrn, .int .i64 gain, .slice A ts.length c]
    generalize World.alloc w _ = w1 at *
    refine (HKN.out _ hB1).mono ?_
    rintro e w3 ⟨A3, c3, rfl, hP3, hb3⟩
    have bS3 := bS1.below hb3
    have hB3 := hB1.trans (hb3.mono hB1.size)
    clear bS1 hb3 hB1 HKN
    have s3 := bS3.cell 3 rfl
    have lS := bS3.lt
    go_wp2_with fail
    go_loopw [6, 7] (fun x6 x7 wr => x6 = .slice none 0 0 ∧ (∃ nk, x7 = .int .i64 nk) ∧ wr = w3) (fun _ _ _ => 0)
    case atStart => exact ⟨rfl, ⟨_, rfl⟩, rfl⟩
    case round =>
      obtain ⟨rfl, ⟨nk, rfl⟩, rfl⟩ := hrel
      by_cases hle : nk ≤ skew
      · go_wp2_with fail
        go_returns
        exact ⟨_, rfl, .inl ⟨rfl, rfl⟩, hB3⟩
      · go_wp2_with fail
        go_returns
        exact ⟨_, rfl, .inl ⟨rfl, rfl⟩, hB3⟩
set_option maxRecDepth 100000 in
set_option maxHeartbeats 8000000 in
theorem Skews9_yes (full read slip skew circ glo ghi wrn gain : Int) (ts : List Ti.Tst) (A : Option Addr) (c : Nat) (w : World) (P : List Wh.Tr) (nb : Nat) (SK : Nat → List Int) (hsk : 0 ≤ skew ∧ skew ≤ 1000) (hnb : -skew + (nb : Int) = skew + 1) (hl : P.length ≤ 90000) (HKN : Hid (∀ W, Below w.heap.size w W → Calls Tryz.prog 56 #[.agg #[.int .i64 full, .int .i64 read, .int .i64 slip, .int .i64 skew, .int .i64 circ, .int .i64 glo, .int .i64 ghi, .int .i64 wrn, .int .i64 gain, .slice A ts.length c], .bool true] W (PrsEPost P 0 W))) (HS0 : Hid (SK 0 = [])) (HLN : Hid (∀ j, (SK j).length ≤ j))
    (HSY : Hid (∀ j m, j < nb → m < P.length → (Wh.trAt P m).2 = -skew + (j : Int) → SK (j + 1) = SK j ++ [-skew + (j : Int)])) (HSN : Hid (∀ j, j < nb → (∀ m, m < P.length → (Wh.trAt P m).2 ≠ -skew + (j : Int)) → SK (j + 1) = SK j)) :
    Calls Tryz.prog 18 #[.agg #[.int .i64 full, .int .i64 read, .int .i64 slip, .int .i64 skew, .int .i64 circ, .int .i64 glo, .int .i64 ghi, .int .i64 wrn, .int .i64 gain, .slice A ts.length c]] w (IntsEPost (SK nb) 0 w) := by
  have hwn : IntKind.i64.wrap (-skew) = -skew := IntWalk.i64_in _ (by omega)
  unfold PrsEPost at HKN
  go_enter Tryz.func18, Tryz.ntmps18
  go_wp2_with fail
  have hB1 : Below w.heap.size w (w.alloc (.cells #[.int .i64 full, .int .i64 read, .int .i64 slip, .int .i64 skew, .int .i64 circ, .int .i64 glo, .int .i64 ghi, .int .i64 wrn, .int .i64 gain, .slice A ts.length c] 28)) := by (repeat' (first | (with_reducible exact Below.refl _ _) | (with_reducible assumption) | (with_reducible refine Below.alloc ?_ ?_ _) | (with_reducible refine Below.drew ?_) | (with_reducible refine Below.setCell ?_ ?_ _) | go_size | (exact (by simp)) | omega))
  have bS1 := BoxS.new w 28 #[.int .i64 full, .int .i64 read, .int .i64 slip, .int .i64 skew, .int .i64 circ, .int .i64 glo, .int .i64 ghi, .int .i64 wrn, .int .i64 gain, .slice A ts.length c]
  generalize World.alloc w _ = w1 at *
  refine (HKN.out _ hB1).mono ?_
  rintro e w3 ⟨A3, c3, rfl, hP3, hb3⟩
  have bS3 := bS1.below hb3
  have hB3 := hB1.trans (hb3.mono hB1.size)
  clear bS1 hb3 hB1 HKN
  have s3 := bS3.cell 3 rfl
  have lS := bS3.lt
  go_wp2_with fail
  obtain ⟨wb, hwb⟩ : ∃ wb, wb = w3 := ⟨_, rfl⟩
  have hbb : Below wb.heap.size wb w3 := by rw [hwb]; exact Below.refl _ _
  have hPb : Hid (Prs wb wb.heap.size A3 P) := by rw [hwb]; exact hP3
  have hzb : w.heap.size < wb.heap.size := by rw [hwb]; exact bS3.lt
  have hBb : Below w.heap.size w wb := by rw [hwb]; exact hB3
  have bSb : BoxS wb w.heap.size 28 #[.int .i64 full, .int .i64 read, .int .i64 slip, .int .i64 skew, .int .i64 circ, .int .i64 glo, .int .i64 ghi, .int .i64 wrn, .int .i64 gain, .slice A ts.length c] := by rw [hwb]; exact bS3
  have lb := bSb.lt
  clear hwb hP3 s3 lS
  go_loopg [6, 7, 8] nb (fun g x6 x7 x8 wx => ∃ j : Nat, Hid (j + g = nb) ∧ (j : Int) ≤ nb ∧ x7 = .int .i64 (-skew + (j : Int)) ∧ Below wb.heap.size wb wx ∧ wx.ownsRow wb.heap.size 3 1 x6 (SK j).length ((SK j).map (Value.int .i64)))
  case atStart => exact ⟨0, by simp [Hid], by omega, by simp, hbb, by rw [HS0.out]; exact owni9_nil _ _⟩
  case round =>
    clear hB3 hbb bS3
    obtain ⟨j, hj, hj1, rfl, hbb, hown⟩ := hrel
    have hj0 := Int.natCast_nonneg j
    have bS := bSb.below hbb
    have lS := bS.lt
    have s3 := bS.cell 3 rfl
    by_cases hlt : (j : Int) < nb
    · have hle : -skew + (j : Int) ≤ skew := by omega
      have hjn : j < nb := by omega
      have HO := Lib.hid hown
      have hln := HLN.out j
      have HY1 := Lib.hid (fun m => HSY.out j m hjn)
      have HN1 := Lib.hid (HSN.out j hjn)
      have hw9 : IntKind.i64.wrap (-skew + (j : Int) + 1) = -skew + (j : Int) + 1 := IntWalk.i64_in _ (by omega)
      clear hown hlt HSY HSN
      obtain ⟨x, hx⟩ : ∃ x, x = -skew + (j : Int) := ⟨_, rfl⟩
      rw [← hx] at hle hw9 HY1 HN1 ⊢
      have HX := Lib.hid hx
      clear hx
      go_wp2_with fail
      obtain ⟨gko, rfl⟩ : ∃ gko, gko = gk := ⟨_, rfl⟩
      obtain ⟨wq, rfl⟩ : ∃ wq, wq = wr := ⟨_, rfl⟩
      clear s3
      go_loopg [6, 8] P.length (fun g x6 x8 wx => ∃ i : Nat, Hid (i + g = P.length) ∧ (i : Int) ≤ P.length ∧ x8 = .int .i64 (i : Int) ∧ Hid (∀ m, m < i → (Wh.trAt P m).2 ≠ x) ∧ wx = wq ∧ wx.ownsRow wb.heap.size 3 1 x6 (SK j).length ((SK j).map (Value.int .i64)))
      case atStart => exact ⟨0, by simp [Hid], by omega, rfl, (fun m h => by omega), rfl, HO.out⟩
      case round =>
        clear HO
        obtain ⟨i, hi, hi1, rfl, hno, hwe, hown⟩ := hrel
        subst hwe
        have HO := Lib.hid hown
        clear hown
        have hi0 := Int.natCast_nonneg i
        by_cases hlt : (i : Int) < P.length
        · have hin : i < P.length := by omega
          have hPk : P[i]? = some (Wh.trAt P i) := by unfold Wh.trAt; rw [List.getElem?_eq_getElem hin]; rfl
          obtain ⟨bp, op, rfl, hbp, hcp⟩ := hPb.out (by omega)
          obtain ⟨_, h1⟩ := hcp i _ hPk
          have a1 := (hbb.cell (p := ⟨bp, _, none⟩) hbp).trans h1
          have HY2 := Lib.hid (HY1.out i hin)
          have hw1 : IntKind.i64.wrap ((i : Int) + 1) = (i : Int) + 1 := IntWalk.i64_in _ (by omega)
          have HQ : Hid (∀ m, m < i + 1 → (Wh.trAt P i).2 ≠ x → (Wh.trAt P m).2 ≠ x) := fun m hm h => by
            rcases Nat.lt_or_eq_of_le (Nat.lt_succ_iff.1 hm) with h2 | h2
            · exact hno.out m h2
            · subst h2; exact h
          clear hcp hPk h1 hno
          generalize Wh.trAt P i = q at *
          obtain ⟨q1, q2⟩ := q
          dsimp only at a1 HY2 HQ
          by_cases hq : q2 = x
          · have hqb : (q2 == x) = true := by simpa using hq
            have HY3 := Lib.hid (HY2.out hq)
            clear hq HY2 HQ
            have hlb := hbb.size
            go_wp2_with (at_builtin; refine wpList_pushi rfl (.tmp 42) (.tmp 44) rfl x wb.heap.size _ _ _ rfl rfl HO.out (by omega) (by omega) ?_; intro v' w5 hown5 hb5; have HO5 := Lib.hid hown5; clear hown5)
            obtain ⟨g', hg'⟩ : ∃ g', gko = g' + 1 := ⟨gko - 1, by have := hj.out; omega⟩
            go_roundg g'
            case measure => omega
            case rel =>
              refine ⟨j + 1, by have := hj.out; simp only [Hid]; omega, by omega, by rw [HX.out]; simp; omega, hbb.trans hb5, ?_⟩
              rw [HY3.out, List.length_append, List.map_append]
              exact HO5.out
          · have hqb : (q2 == x) = false := by simpa using hq
            have HQ2 : Hid (∀ m, m < i + 1 → (Wh.trAt P m).2 ≠ x) := fun m hm => HQ.out m hm hq
            clear hq HY2 HQ
            go_wp2_with fail
            obtain ⟨g', hg'⟩ : ∃ g', gk = g' + 1 := ⟨gk - 1, by have := hi.out; omega⟩
            go_roundg g'
            case measure => omega
            case rel => exact ⟨i + 1, by have := hi.out; simp only [Hid]; omega, by omega, by go_num, HQ2, rfl, HO.out⟩
        · have e : i = P.length := by omega
          have HE := Lib.hid (HN1.out (by rw [← e]; exact hno.out))
          clear e hno
          go_wp2_with fail
          obtain ⟨g', hg'⟩ : ∃ g', gko = g' + 1 := ⟨gko - 1, by have := hj.out; omega⟩
          go_roundg g'
          case measure => omega
          case rel => exact ⟨j + 1, by have := hj.out; simp only [Hid]; omega, by omega, by rw [HX.out]; simp; omega, hbb, by rw [HE.out]; exact HO.out⟩
    · have e : j = nb := by omega
      have hle : ¬ -skew + (j : Int) ≤ skew := by omega
      have hI := Lib.hid (Ints.of_own hown)
      rw [e] at hI
      have hBr := hBb.trans (hbb.mono hBb.size)
      clear hown hlt e
      go_wp2_with fail
      go_returns
      exact ⟨_, rfl, hI, hBr⟩
theorem Skews9_any (t : Ti.Tri) (A : Option Addr) (c : Nat) (w : World) (hl : t.ts.length ≤ 1000000000) (hg : Tsts w w.heap.size A t.ts) :
    Calls Tryz.prog 18 #[.agg (tiV t A c)] w (IntsEPost (Ti.allE (fun x => x.2) (Ti.opE t true) t) (Ti.opE t true) w) := by
  have HK : Hid (∀ W, Below w.heap.size w W → Calls Tryz.prog 56 #[.agg (tiV t A c), .bool true] W (PrsEPost (Ti.knL t (Ti.opE t true)) (Ti.opE t true) W)) := fun W hW => known9_any t true A c W hl ((hg.keep hW).wider hW.size)
  by_cases h0 : Ti.opE t true = 0
  · obtain ⟨hg1, hk1, _⟩ := Ti.chk_ok (Ti.op_ok h0).1
    have hN2 : -t.d.skew + ((Ti.nS t : Nat) : Int) = t.d.skew + 1 := by unfold Ti.nS; omega
    have hL : Ti.knL t 0 = Ti.valsK (Ti.truthsL t) := if_pos rfl
    have hln : (Ti.valsK (Ti.truthsL t)).length ≤ 90000 := by
      unfold Ti.valsK Ti.truthsL
      rw [List.length_map]
      refine Nat.le_trans (List.length_filter_le _ _) ?_
      unfold Ti.casesL
      rw [Ti.casesTo_len]
      exact Nat.le_trans (Nat.mul_le_mul (show Ti.nG t ≤ 101 by unfold Ti.nG; omega) (show Ti.nS t ≤ 41 by unfold Ti.nS; omega)) (by decide)
    have hE : Ti.allE (fun x => x.2) 0 t = Wh.skTo (Ti.valsK (Ti.truthsL t)) (-t.d.skew) (Ti.nS t) := by
      unfold Ti.allE
      rw [if_pos rfl]
      refine Ti.all_eq _ _ (Wh.skTo_asc _ _ _) (fun x => ?_)
      rw [Wh.skTo_mem]
      constructor
      · rintro ⟨_, f, hf, e⟩
        unfold Ti.valsK at hf
        obtain ⟨y, hy, rfl⟩ := List.mem_map.1 hf
        exact ⟨y, hy, e⟩
      · rintro ⟨f, hf, e⟩
        have h1 := (Ti.mem_cases hg1 hk1).1 ((Ti.mem_truths hg1 hk1).1 hf).1
        refine ⟨⟨(x + t.d.skew).toNat, by omega, by omega⟩, f.1, ?_, e⟩
        unfold Ti.valsK
        exact List.mem_map.2 ⟨f, hf, rfl⟩
    rw [h0] at HK ⊢
    rw [hL] at HK
    rw [hE]
    exact Skews9_yes t.d.full t.d.read t.d.slip t.d.skew t.d.circ t.d.glo t.d.ghi t.d.wr t.gain t.ts A c w (Ti.valsK (Ti.truthsL t)) (Ti.nS t) (Wh.skTo (Ti.valsK (Ti.truthsL t)) (-t.d.skew)) ⟨hk1.1, by omega⟩ hN2 hln HK rfl (Wh.skTo_len _ _) (fun j m _ hm e => by
      rw [Wh.skTo_succ, if_pos]
      refine (Wh.any_iff _ _).2 ⟨(Ti.valsK (Ti.truthsL t))[m], List.getElem_mem hm, ?_⟩
      unfold Wh.trAt at e
      rw [List.getElem?_eq_getElem hm] at e
      exact e) (fun j _ hno => by
      rw [Wh.skTo_succ, if_neg]
      intro h
      obtain ⟨f, hf, e⟩ := (Wh.any_iff _ _).1 h
      obtain ⟨m, hm, e2⟩ := List.getElem_of_mem hf
      refine hno m hm ?_
      unfold Wh.trAt
      rw [List.getElem?_eq_getElem hm, e2]
      exact e)
  · have hE : Ti.allE (fun x => x.2) (Ti.opE t true) t = [] := by unfold Ti.allE; rw [if_neg h0]
    rw [hE]
    exact Skews9_no t.d.full t.d.read t.d.slip t.d.skew t.d.circ t.d.glo t.d.ghi t.d.wr t.gain t.ts A c w _ _ h0 HK
end Go.Proofs.YtkmacpkjobdffaaGreat
namespace Go.Proofs.YtkmacpkjobdffaaGreat
open Go.RowKit
set_option maxRecDepth 100000 in
set_option maxHeartbeats 16000000 in
theorem same9_yes (t : Ti.Tri) (A A' : Option Addr) (c c' : Nat) (w : World) (hl : t.ts.length ≤ 1000000) (hg : Tsts w w.heap.size A t.ts) (hg' : Tsts w w.heap.size A' t.ts) :
    Calls Tryz.prog 22 #[.agg (tiV t A c), .agg (tiV t A' c')] w fun e w' => e = .returned (.bool true) ∧ Below w.heap.size w w' := by
  have HG := Lib.hid hg
  have HG' := Lib.hid hg'
  clear hg hg'
  obtain ⟨d, gain, ts⟩ := t
  obtain ⟨full, read, slip, skew, circ, glo, ghi, wrn, dws⟩ := d
  unfold tiV at *
  dsimp only at *
  have hmo : Tryz.prog.follows .mixedOrders = true := by kernel_rfl
  go_enter Tryz.func22, Tryz.ntmps22
  go_wp2_with fail
  have bT := (BoxS.new w 28 #[.int .i64 full, .int .i64 read, .int .i64 slip, .int .i64 skew, .int .i64 circ, .int .i64 glo, .int .i64 ghi, .int .i64 wrn, .int .i64 gain, .slice A ts.length c]).alloc (.cells #[.int .i64 full, .int .i64 read, .int .i64 slip, .int .i64 skew, .int .i64 circ, .int .i64 glo, .int .i64 ghi, .int .i64 wrn, .int .i64 gain, .slice A' ts.length c'] 28)
  have bO := BoxS.new (w.alloc (.cells #[.int .i64 full, .int .i64 read, .int .i64 slip, .int .i64 skew, .int .i64 circ, .int .i64 glo, .int .i64 ghi, .int .i64 wrn, .int .i64 gain, .slice A ts.length c] 28)) 28 #[.int .i64 full, .int .i64 read, .int .i64 slip, .int .i64 skew, .int .i64 circ, .int .i64 glo, .int .i64 ghi, .int .i64 wrn, .int .i64 gain, .slice A' ts.length c']
  have hB1 : Below w.heap.size w ((w.alloc (.cells #[.int .i64 full, .int .i64 read, .int .i64 slip, .int .i64 skew, .int .i64 circ, .int .i64 glo, .int .i64 ghi, .int .i64 wrn, .int .i64 gain, .slice A ts.length c] 28)).alloc (.cells #[.int .i64 full, .int .i64 read, .int .i64 slip, .int .i64 skew, .int .i64 circ, .int .i64 glo, .int .i64 ghi, .int .i64 wrn, .int .i64 gain, .slice A' ts.length c'] 28)) := by (repeat' (first | (with_reducible exact Below.refl _ _) | (with_reducible assumption) | (with_reducible refine Below.alloc ?_ ?_ _) | (with_reducible refine Below.drew ?_) | (with_reducible refine Below.setCell ?_ ?_ _) | go_size | (exact (by simp)) | omega))
  simp only [World.size_alloc] at bO
  generalize World.alloc (World.alloc w _) _ = w1 at *
  go_loopg [5, 6] ts.length (fun g x5 x6 wx => ∃ i : Nat, Hid (i + g = ts.length) ∧ (i : Int) ≤ ts.length ∧ x5 = .int .i64 (i : Int) ∧ Below w.heap.size w wx ∧ BoxS wx w.heap.size 28 #[.int .i64 full, .int .i64 read, .int .i64 slip, .int .i64 skew, .int .i64 circ, .int .i64 glo, .int .i64 ghi, .int .i64 wrn, .int .i64 gain, .slice A ts.length c] ∧ BoxS wx (w.heap.size + 1) 28 #[.int .i64 full, .int .i64 read, .int .i64 slip, .int .i64 skew, .int .i64 circ, .int .i64 glo, .int .i64 ghi, .int .i64 wrn, .int .i64 gain, .slice A' ts.length c'])
  case atStart => exact ⟨0, by simp [Hid], by omega, rfl, hB1, bT, bO⟩
  case round =>
    clear hB1 bT bO
    obtain ⟨i, hi, hi1, rfl, hB, bT, bO⟩ := hrel
    have hi0 := Int.natCast_nonneg i
    by_cases hlt : (i : Int) < ts.length
    · have hil : i < ts.length := by omega
      have hwi : IntKind.i64.wrap ((i : Int) + 1) = (i : Int) + 1 := IntWalk.i64_in _ (by omega)
      obtain ⟨bt, ot, rfl, hbt, hct⟩ := HG.out (by omega)
      obtain ⟨bo, oo, rfl, hbo, hco⟩ := HG'.out (by omega)
      obtain ⟨A1, c1, x0, x1, hw1, hl1⟩ := hct i _ (tst_at hil)
      obtain ⟨A2, c2, u0, u1, hw2, hl2⟩ := hco i _ (tst_at hil)
      generalize Ti.tstAt ts i = x at *
      obtain ⟨xa, xw⟩ := x
      dsimp only at *
      have hW1 := Lib.hid hw1
      have hW2 := Lib.hid hw2
      clear hct hco hw1 hw2
      have hbz := hB.size
      have y0 := (hB.cell (p := ⟨bt, _, none⟩) hbt).trans x0
      have y1 := (hB.cell (p := ⟨bt, _, none⟩) hbt).trans x1
      have v0 := (hB.cell (p := ⟨bo, _, none⟩) hbo).trans u0
      have v1 := (hB.cell (p := ⟨bo, _, none⟩) hbo).trans u1
      have kT9 := bT.cell 9 rfl
      have kO9 := bO.cell 9 rfl
      have lT := bT.lt
      have lO := bO.lt
      go_wp2_with fail
      have q0 : Below wr.heap.size wr.drew wr.drew := Below.refl _ _
      have KC : Hid (∀ V', Below wr.heap.size wr.drew V' → (V'.cell? ⟨w.heap.size, 9, none⟩ = some (.slice (some ⟨bt, ot, none⟩) ts.length c) ∧ V'.cell? ⟨w.heap.size + 1, 9, none⟩ = some (.slice (some ⟨bo, oo, none⟩) ts.length c') ∧ V'.cell? ⟨bt, ot + i * 2, none⟩ = some (.int .i64 xa) ∧ V'.cell? ⟨bt, ot + i * 2 + 1, none⟩ = some (.slice A1 xw.length c1) ∧ V'.cell? ⟨bo, oo + i * 2, none⟩ = some (.int .i64 xa) ∧ V'.cell? ⟨bo, oo + i * 2 + 1, none⟩ = some (.slice A2 xw.length c2))) := fun V' h =>
        have hk : ∀ (bb o : Nat) (u : Value), bb < wr.heap.size → wr.cell? ⟨bb, o, none⟩ = some u → V'.cell? ⟨bb, o, none⟩ = some u := fun bb o u h1 h2 => (h.cell (p := ⟨bb, o, none⟩) h1).trans h2
        ⟨hk _ _ _ (lT) (kT9), hk _ _ _ (lO) (kO9), hk _ _ _ (by omega) (y0), hk _ _ _ (by omega) (y1), hk _ _ _ (by omega) (v0), hk _ _ _ (by omega) (v1)⟩
      refine (wpIn_wide (n := 4)).1 ?_
      refine wpIn_mono (Q := noPanic _) ?_ noPanic_le
      refine wpIn_region_held (fun V' => Below wr.heap.size wr.drew V') 60 hmo ?_
      refine wpHeldIn_take (i := 0) (v := ?_) (plain_of (by kernel_rfl)) rfl (by kernel_rfl) (fun _ _ _ h => h) (yieldsSoIn_of (by kernel_rfl) ?_ (fun _ => rfl)) q0 ?_; rotate_left; focus (intro wq hw; clear hw; go_simp; try (with_reducible rfl))
      refine wpHeldIn_take (i := 1) (v := ?_) (plain_of (by kernel_rfl)) rfl (by kernel_rfl) (fun _ _ _ h => h) (yieldsSoIn_of (by kernel_rfl) ?_ (fun _ => rfl)) q0 ?_; rotate_left; focus (intro wq hw; have kq := KC.out wq hw; clear hw; go_simp; try (with_reducible rfl))
      refine wpHeldIn_take (i := 2) (v := ?_) (plain_of (by kernel_rfl)) rfl (by kernel_rfl) (fun _ _ _ h => h) (yieldsSoIn_of (by kernel_rfl) ?_ (fun _ => rfl)) q0 ?_; rotate_left; focus (intro wq hw; clear hw; go_simp; try (with_reducible rfl))
      refine wpHeldIn_take (i := 3) (v := ?_) (plain_of (by kernel_rfl)) rfl (by kernel_rfl) (fun _ _ _ h => h) (yieldsSoIn_of (by kernel_rfl) ?_ (fun _ => rfl)) q0 ?_; rotate_left; focus (intro wq hw; clear hw; go_simp; try (with_reducible rfl))
      refine wpHeldIn_take (i := 4) (v := ?_) (plain_of (by kernel_rfl)) rfl (by kernel_rfl) (fun _ _ _ h => h) (yieldsSoIn_of (by kernel_rfl) ?_ (fun _ => rfl)) q0 ?_; rotate_left; focus (intro wq hw; clear hw; go_simp; try (with_reducible rfl))
      refine wpHeldIn_take (i := 5) (v := ?_) (plain_of (by kernel_rfl)) rfl (by kernel_rfl) (fun _ _ _ h => h) (yieldsSoIn_of (by kernel_rfl) ?_ (fun _ => rfl)) q0 ?_; rotate_left; focus (intro wq hw; have kq := KC.out wq hw; clear hw; go_simp; try (with_reducible rfl))
      refine wpHeldIn_take (i := 6) (v := ?_) (plain_of (by kernel_rfl)) rfl (by kernel_rfl) (fun _ _ _ h => h) (yieldsSoIn_of (by kernel_rfl) ?_ (fun _ => rfl)) q0 ?_; rotate_left; focus (intro wq hw; clear hw; go_simp; try (with_reducible rfl))
      refine wpHeldIn_take (i := 7) (v := ?_) (plain_of (by kernel_rfl)) rfl (by kernel_rfl) (fun _ _ _ h => h) (yieldsSoIn_of (by kernel_rfl) ?_ (fun _ => rfl)) q0 ?_; rotate_left; focus (intro wq hw; have kq := KC.out wq hw; clear hw; go_simp; try (with_reducible rfl))
      refine wpHeldIn_take (i := 8) (v := ?_) (plain_of (by kernel_rfl)) rfl (by kernel_rfl) (fun _ _ _ h => h) (yieldsSoIn_of (by kernel_rfl) ?_ (fun _ => rfl)) q0 ?_; rotate_left; focus (intro wq hw; clear hw; go_simp; try (with_reducible rfl))
      refine wpHeldIn_take (i := 9) (v := ?_) (plain_of (by kernel_rfl)) rfl (by kernel_rfl) (fun _ _ _ h => h) (yieldsSoIn_of (by kernel_rfl) ?_ (fun _ => rfl)) q0 ?_; rotate_left; focus (intro wq hw; clear hw; go_simp; try (with_reducible rfl))
      refine wpHeldIn_take (i := 10) (v := ?_) (plain_of (by kernel_rfl)) rfl (by kernel_rfl) (fun _ _ _ h => h) (yieldsSoIn_of (by kernel_rfl) ?_ (fun _ => rfl)) q0 ?_; rotate_left; focus (intro wq hw; clear hw; go_simp; try (with_reducible rfl))
      refine wpHeldIn_take (i := 11) (v := ?_) (plain_of (by kernel_rfl)) rfl (by kernel_rfl) (fun _ _ _ h => h) (yieldsSoIn_of (by kernel_rfl) ?_ (fun _ => rfl)) q0 ?_; rotate_left; focus (intro wq hw; have kq := KC.out wq hw; clear hw; go_simp; try (with_reducible rfl))
      refine wpHeldIn_take (i := 12) (v := ?_) (plain_of (by kernel_rfl)) rfl (by kernel_rfl) (fun _ _ _ h => h) (yieldsSoIn_of (by kernel_rfl) ?_ (fun _ => rfl)) q0 ?_; rotate_left; focus (intro wq hw; clear hw; go_simp; try (with_reducible rfl))
      refine wpHeldIn_take (i := 13) (v := ?_) (plain_of (by kernel_rfl)) rfl (by kernel_rfl) (fun _ _ _ h => h) (yieldsSoIn_of (by kernel_rfl) ?_ (fun _ => rfl)) q0 ?_; rotate_left; focus (intro wq hw; clear hw; go_simp; try (with_reducible rfl))
      refine wpHeldIn_take (i := 14) (v := ?_) (plain_of (by kernel_rfl)) rfl (by kernel_rfl) (fun _ _ _ h => h) (yieldsSoIn_of (by kernel_rfl) ?_ (fun _ => rfl)) q0 ?_; rotate_left; focus (intro wq hw; clear hw; go_simp; try (with_reducible rfl))
      refine wpHeldIn_take (i := 15) (v := ?_) (plain_of (by kernel_rfl)) rfl (by kernel_rfl) (fun _ _ _ h => h) (yieldsSoIn_of (by kernel_rfl) ?_ (fun _ => rfl)) q0 ?_; rotate_left; focus (intro wq hw; have kq := KC.out wq hw; clear hw; go_simp; try (with_reducible rfl))
      refine wpHeldIn_take (i := 16) (v := ?_) (plain_of (by kernel_rfl)) rfl (by kernel_rfl) (fun _ _ _ h => h) (yieldsSoIn_of (by kernel_rfl) ?_ (fun _ => rfl)) q0 ?_; rotate_left; focus (intro wq hw; clear hw; go_simp; try (with_reducible rfl))
      refine wpHeldIn_take (i := 17) (v := ?_) (plain_of (by kernel_rfl)) rfl (by kernel_rfl) (fun _ _ _ h => h) (yieldsSoIn_of (by kernel_rfl) ?_ (fun _ => rfl)) q0 ?_; rotate_left; focus (intro wq hw; clear hw; go_simp; try (with_reducible rfl))
      refine wpHeldIn_take (i := 18) (v := ?_) (plain_of (by kernel_rfl)) rfl (by kernel_rfl) (fun _ _ _ h => h) (yieldsSoIn_of (by kernel_rfl) ?_ (fun _ => rfl)) q0 ?_; rotate_left; focus (intro wq hw; clear hw; go_simp; try (with_reducible rfl))
      refine wpHeldIn_take (i := 19) (v := ?_) (plain_of (by kernel_rfl)) rfl (by kernel_rfl) (fun _ _ _ h => h) (yieldsSoIn_of (by kernel_rfl) ?_ (fun _ => rfl)) q0 ?_; rotate_left; focus (intro wq hw; have kq := KC.out wq hw; clear hw; go_simp; try (with_reducible rfl))
      refine wpHeldIn_take (i := 20) (v := ?_) (plain_of (by kernel_rfl)) rfl (by kernel_rfl) (fun _ _ _ h => h) (yieldsSoIn_of (by kernel_rfl) ?_ (fun _ => rfl)) q0 ?_; rotate_left; focus (intro wq hw; clear hw; go_simp; try (with_reducible rfl))
      refine wpHeldIn_take (i := 21) (v := ?_) (plain_of (by kernel_rfl)) rfl (by kernel_rfl) (fun _ _ _ h => h) (yieldsSoIn_of (by kernel_rfl) ?_ (fun _ => rfl)) q0 ?_; rotate_left; focus (intro wq hw; clear hw; go_simp; try (with_reducible rfl))
      refine wpHeldIn_take (i := 22) (v := ?_) (plain_of (by kernel_rfl)) rfl (by kernel_rfl) (fun _ _ _ h => h) (yieldsSoIn_of (by kernel_rfl) ?_ (fun _ => rfl)) q0 ?_; rotate_left; focus (intro wq hw; have kq := KC.out wq hw; clear hw; go_simp; try (with_reducible rfl))
      refine wpHeldIn_take (i := 23) (v := ?_) (plain_of (by kernel_rfl)) rfl (by kernel_rfl) (fun _ _ _ h => h) (yieldsSoIn_of (by kernel_rfl) ?_ (fun _ => rfl)) q0 ?_; rotate_left; focus (intro wq hw; clear hw; go_simp; try (with_reducible rfl))
      refine wpHeldIn_take (i := 24) (v := ?_) (plain_of (by kernel_rfl)) rfl (by kernel_rfl) (fun _ _ _ h => h) (yieldsSoIn_of (by kernel_rfl) ?_ (fun _ => rfl)) q0 ?_; rotate_left; focus (intro wq hw; clear hw; go_simp; try (with_reducible rfl))
      refine wpHeldIn_take (i := 25) (v := ?_) (plain_of (by kernel_rfl)) rfl (by kernel_rfl) (fun _ _ _ h => h) (yieldsSoIn_of (by kernel_rfl) ?_ (fun _ => rfl)) q0 ?_; rotate_left; focus (intro wq hw; clear hw; go_simp; try (with_reducible rfl))
      refine wpHeldIn_take (i := 26) (v := ?_) (plain_of (by kernel_rfl)) rfl (by kernel_rfl) (fun _ _ _ h => h) (yieldsSoIn_of (by kernel_rfl) ?_ (fun _ => rfl)) q0 ?_; rotate_left; focus (intro wq hw; have kq := KC.out wq hw; clear hw; go_simp; try (with_reducible rfl))
      refine wpHeldIn_take (i := 27) (v := ?_) (plain_of (by kernel_rfl)) rfl (by kernel_rfl) (fun _ _ _ h => h) (yieldsSoIn_of (by kernel_rfl) ?_ (fun _ => rfl)) q0 ?_; rotate_left; focus (intro wq hw; clear hw; go_simp; try (with_reducible rfl))
      refine wpHeldIn_take (i := 28) (v := ?_) (plain_of (by kernel_rfl)) rfl (by kernel_rfl) (fun _ _ _ h => h) (yieldsSoIn_of (by kernel_rfl) ?_ (fun _ => rfl)) q0 ?_; rotate_left; focus (intro wq hw; clear hw; go_simp; try (with_reducible rfl))
      refine wpHeldIn_take (i := 29) (v := ?_) (plain_of (by kernel_rfl)) rfl (by kernel_rfl) (fun _ _ _ h => h) (yieldsSoIn_of (by kernel_rfl) ?_ (fun _ => rfl)) q0 ?_; rotate_left; focus (intro wq hw; clear hw; go_simp; try (with_reducible rfl))
      refine wpHeldIn_done (by kernel_rfl) ?_ _
      go_simp
      refine noPanic_of ?_
      have hBd : Below w.heap.size w wr.drew := hB.drew
      have bTd : BoxS wr.drew w.heap.size 28 #[.int .i64 full, .int .i64 read, .int .i64 slip, .int .i64 skew, .int .i64 circ, .int .i64 glo, .int .i64 ghi, .int .i64 wrn, .int .i64 gain, .slice (some ⟨bt, ot, none⟩) ts.length c] := bT
      have bOd : BoxS wr.drew (w.heap.size + 1) 28 #[.int .i64 full, .int .i64 read, .int .i64 slip, .int .i64 skew, .int .i64 circ, .int .i64 glo, .int .i64 ghi, .int .i64 wrn, .int .i64 gain, .slice (some ⟨bo, oo, none⟩) ts.length c'] := bO
      clear KC q0 y0 y1 v0 v1 kT9 kO9 lT lO hB bT bO
      generalize wr.drew = wd at *
      have y1 := (hBd.cell (p := ⟨bt, _, none⟩) hbt).trans x1
      have kT9 := bTd.cell 9 rfl
      have lT := bTd.lt
      have hbz2 := hBd.size
      go_wp2_with fail
      clear y1 kT9 lT hbz2
      obtain ⟨gko, rfl⟩ : ∃ gko, gko = gk := ⟨_, rfl⟩
      go_loopg [6] xw.length (fun g x6 wx => ∃ k : Nat, Hid (k + g = xw.length) ∧ (k : Int) ≤ xw.length ∧ x6 = .int .i64 (k : Int) ∧ Below w.heap.size w wx ∧ BoxS wx w.heap.size 28 #[.int .i64 full, .int .i64 read, .int .i64 slip, .int .i64 skew, .int .i64 circ, .int .i64 glo, .int .i64 ghi, .int .i64 wrn, .int .i64 gain, .slice (some ⟨bt, ot, none⟩) ts.length c] ∧ BoxS wx (w.heap.size + 1) 28 #[.int .i64 full, .int .i64 read, .int .i64 slip, .int .i64 skew, .int .i64 circ, .int .i64 glo, .int .i64 ghi, .int .i64 wrn, .int .i64 gain, .slice (some ⟨bo, oo, none⟩) ts.length c'])
      case atStart => exact ⟨0, by simp [Hid], by omega, rfl, hBd, bTd, bOd⟩
      case round =>
        clear hBd bTd bOd
        obtain ⟨k, hk, hk1, rfl, hB, bT, bO⟩ := hrel
        have hk0 := Int.natCast_nonneg k
        have hbz := hB.size
        have y0 := (hB.cell (p := ⟨bt, _, none⟩) hbt).trans x0
        have y1 := (hB.cell (p := ⟨bt, _, none⟩) hbt).trans x1
        have v0 := (hB.cell (p := ⟨bo, _, none⟩) hbo).trans u0
        have v1 := (hB.cell (p := ⟨bo, _, none⟩) hbo).trans u1
        have kT9 := bT.cell 9 rfl
        have kO9 := bO.cell 9 rfl
        have lT := bT.lt
        have lO := bO.lt
        by_cases hlk : (k : Int) < xw.length
        · have hkl : k < xw.length := by omega
          have hwk : IntKind.i64.wrap ((k : Int) + 1) = (k : Int) + 1 := IntWalk.i64_in _ (by omega)
          obtain ⟨b1, o1, rfl, hb1, hc1⟩ := hW1.out (by omega)
          obtain ⟨b2, o2, rfl, hb2, hc2⟩ := hW2.out (by omega)
          obtain ⟨r0, r1, r2, r3, r4⟩ := hc1 k hkl
          obtain ⟨s0, s1, s2, s3, s4⟩ := hc2 k hkl
          generalize Wh.wkAt xw k = q at *
          obtain ⟨qa, qb, qc, qd, qe⟩ := q
          dsimp only at *
          clear hc1 hc2
          have rc0 := (hB.cell (p := ⟨b1, _, none⟩) hb1).trans r0
          have rc1 := (hB.cell (p := ⟨b1, _, none⟩) hb1).trans r1
          have rc2 := (hB.cell (p := ⟨b1, _, none⟩) hb1).trans r2
          have rc3 := (hB.cell (p := ⟨b1, _, none⟩) hb1).trans r3
          have rc4 := (hB.cell (p := ⟨b1, _, none⟩) hb1).trans r4
          have sc0 := (hB.cell (p := ⟨b2, _, none⟩) hb2).trans s0
          have sc1 := (hB.cell (p := ⟨b2, _, none⟩) hb2).trans s1
          have sc2 := (hB.cell (p := ⟨b2, _, none⟩) hb2).trans s2
          have sc3 := (hB.cell (p := ⟨b2, _, none⟩) hb2).trans s3
          have sc4 := (hB.cell (p := ⟨b2, _, none⟩) hb2).trans s4
          clear r0 r1 r2 r3 r4 s0 s1 s2 s3 s4
          go_wp2_with fail
          have q0 : Below wr.heap.size wr.drew wr.drew := Below.refl _ _
          have KC : Hid (∀ V', Below wr.heap.size wr.drew V' → (V'.cell? ⟨w.heap.size, 9, none⟩ = some (.slice (some ⟨bt, ot, none⟩) ts.length c) ∧ V'.cell? ⟨w.heap.size + 1, 9, none⟩ = some (.slice (some ⟨bo, oo, none⟩) ts.length c') ∧ V'.cell? ⟨bt, ot + i * 2, none⟩ = some (.int .i64 xa) ∧ V'.cell? ⟨bt, ot + i * 2 + 1, none⟩ = some (.slice (some ⟨b1, o1, none⟩) xw.length c1) ∧ V'.cell? ⟨bo, oo + i * 2, none⟩ = some (.int .i64 xa) ∧ V'.cell? ⟨bo, oo + i * 2 + 1, none⟩ = some (.slice (some ⟨b2, o2, none⟩) xw.length c2) ∧ V'.cell? ⟨b1, o1 + k * 5, none⟩ = some (.int .i64 qa) ∧ V'.cell? ⟨b1, o1 + k * 5 + 1, none⟩ = some (.int .i64 qb) ∧ V'.cell? ⟨b1, o1 + k * 5 + 2, none⟩ = some (.int .i64 qc) ∧ V'.cell? ⟨b1, o1 + k * 5 + 3, none⟩ = some (.int .i64 qd) ∧ V'.cell? ⟨b1, o1 + k * 5 + 4, none⟩ = some (.int .i64 qe) ∧ V'.cell? ⟨b2, o2 + k * 5, none⟩ = some (.int .i64 qa) ∧ V'.cell? ⟨b2, o2 + k * 5 + 1, none⟩ = some (.int .i64 qb) ∧ V'.cell? ⟨b2, o2 + k * 5 + 2, none⟩ = some (.int .i64 qc) ∧ V'.cell? ⟨b2, o2 + k * 5 + 3, none⟩ = some (.int .i64 qd) ∧ V'.cell? ⟨b2, o2 + k * 5 + 4, none⟩ = some (.int .i64 qe))) := fun V' h =>
            have hk : ∀ (bb o : Nat) (u : Value), bb < wr.heap.size → wr.cell? ⟨bb, o, none⟩ = some u → V'.cell? ⟨bb, o, none⟩ = some u := fun bb o u h1 h2 => (h.cell (p := ⟨bb, o, none⟩) h1).trans h2
            ⟨hk _ _ _ (lT) (kT9), hk _ _ _ (lO) (kO9), hk _ _ _ (by omega) (y0), hk _ _ _ (by omega) (y1), hk _ _ _ (by omega) (v0), hk _ _ _ (by omega) (v1), hk _ _ _ (by omega) (rc0), hk _ _ _ (by omega) (rc1), hk _ _ _ (by omega) (rc2), hk _ _ _ (by omega) (rc3), hk _ _ _ (by omega) (rc4), hk _ _ _ (by omega) (sc0), hk _ _ _ (by omega) (sc1), hk _ _ _ (by omega) (sc2), hk _ _ _ (by omega) (sc3), hk _ _ _ (by omega) (sc4)⟩
          refine (wpIn_wide (n := 4)).1 ?_
          refine wpIn_mono (Q := noPanic _) ?_ noPanic_le
          refine wpIn_region_held (fun V' => Below wr.heap.size wr.drew V') 60 hmo ?_
          refine wpHeldIn_take (i := 0) (v := ?_) (plain_of (by kernel_rfl)) rfl (by kernel_rfl) (fun _ _ _ h => h) (yieldsSoIn_of (by kernel_rfl) ?_ (fun _ => rfl)) q0 ?_; rotate_left; focus (intro wq hw; clear hw; go_simp; try (with_reducible rfl))
          refine wpHeldIn_take (i := 1) (v := ?_) (plain_of (by kernel_rfl)) rfl (by kernel_rfl) (fun _ _ _ h => h) (yieldsSoIn_of (by kernel_rfl) ?_ (fun _ => rfl)) q0 ?_; rotate_left; focus (intro wq hw; have kq := KC.out wq hw; clear hw; go_simp; try (with_reducible rfl))
          refine wpHeldIn_take (i := 2) (v := ?_) (plain_of (by kernel_rfl)) rfl (by kernel_rfl) (fun _ _ _ h => h) (yieldsSoIn_of (by kernel_rfl) ?_ (fun _ => rfl)) q0 ?_; rotate_left; focus (intro wq hw; clear hw; go_simp; try (with_reducible rfl))
          refine wpHeldIn_take (i := 3) (v := ?_) (plain_of (by kernel_rfl)) rfl (by kernel_rfl) (fun _ _ _ h => h) (yieldsSoIn_of (by kernel_rfl) ?_ (fun _ => rfl)) q0 ?_; rotate_left; focus (intro wq hw; clear hw; go_simp; try (with_reducible rfl))
          refine wpHeldIn_take (i := 4) (v := ?_) (plain_of (by kernel_rfl)) rfl (by kernel_rfl) (fun _ _ _ h => h) (yieldsSoIn_of (by kernel_rfl) ?_ (fun _ => rfl)) q0 ?_; rotate_left; focus (intro wq hw; clear hw; go_simp; try (with_reducible rfl))
          refine wpHeldIn_take (i := 5) (v := ?_) (plain_of (by kernel_rfl)) rfl (by kernel_rfl) (fun _ _ _ h => h) (yieldsSoIn_of (by kernel_rfl) ?_ (fun _ => rfl)) q0 ?_; rotate_left; focus (intro wq hw; have kq := KC.out wq hw; clear hw; go_simp; try (with_reducible rfl))
          refine wpHeldIn_take (i := 6) (v := ?_) (plain_of (by kernel_rfl)) rfl (by kernel_rfl) (fun _ _ _ h => h) (yieldsSoIn_of (by kernel_rfl) ?_ (fun _ => rfl)) q0 ?_; rotate_left; focus (intro wq hw; clear hw; go_simp; try (with_reducible rfl))
          refine wpHeldIn_take (i := 7) (v := ?_) (plain_of (by kernel_rfl)) rfl (by kernel_rfl) (fun _ _ _ h => h) (yieldsSoIn_of (by kernel_rfl) ?_ (fun _ => rfl)) q0 ?_; rotate_left; focus (intro wq hw; clear hw; go_simp; try (with_reducible rfl))
          refine wpHeldIn_take (i := 8) (v := ?_) (plain_of (by kernel_rfl)) rfl (by kernel_rfl) (fun _ _ _ h => h) (yieldsSoIn_of (by kernel_rfl) ?_ (fun _ => rfl)) q0 ?_; rotate_left; focus (intro wq hw; have kq := KC.out wq hw; clear hw; go_simp; try (with_reducible rfl))
          refine wpHeldIn_take (i := 9) (v := ?_) (plain_of (by kernel_rfl)) rfl (by kernel_rfl) (fun _ _ _ h => h) (yieldsSoIn_of (by kernel_rfl) ?_ (fun _ => rfl)) q0 ?_; rotate_left; focus (intro wq hw; clear hw; go_simp; try (with_reducible rfl))
          refine wpHeldIn_take (i := 10) (v := ?_) (plain_of (by kernel_rfl)) rfl (by kernel_rfl) (fun _ _ _ h => h) (yieldsSoIn_of (by kernel_rfl) ?_ (fun _ => rfl)) q0 ?_; rotate_left; focus (intro wq hw; have kq := KC.out wq hw; clear hw; go_simp; try (with_reducible rfl))
          refine wpHeldIn_take (i := 11) (v := ?_) (plain_of (by kernel_rfl)) rfl (by kernel_rfl) (fun _ _ _ h => h) (yieldsSoIn_of (by kernel_rfl) ?_ (fun _ => rfl)) q0 ?_; rotate_left; focus (intro wq hw; clear hw; go_simp; try (with_reducible rfl))
          refine wpHeldIn_take (i := 12) (v := ?_) (plain_of (by kernel_rfl)) rfl (by kernel_rfl) (fun _ _ _ h => h) (yieldsSoIn_of (by kernel_rfl) ?_ (fun _ => rfl)) q0 ?_; rotate_left; focus (intro wq hw; clear hw; go_simp; try (with_reducible rfl))
          refine wpHeldIn_take (i := 13) (v := ?_) (plain_of (by kernel_rfl)) rfl (by kernel_rfl) (fun _ _ _ h => h) (yieldsSoIn_of (by kernel_rfl) ?_ (fun _ => rfl)) q0 ?_; rotate_left; focus (intro wq hw; clear hw; go_simp; try (with_reducible rfl))
          refine wpHeldIn_take (i := 14) (v := ?_) (plain_of (by kernel_rfl)) rfl (by kernel_rfl) (fun _ _ _ h => h) (yieldsSoIn_of (by kernel_rfl) ?_ (fun _ => rfl)) q0 ?_; rotate_left; focus (intro wq hw; have kq := KC.out wq hw; clear hw; go_simp; try (with_reducible rfl))
          refine wpHeldIn_take (i := 15) (v := ?_) (plain_of (by kernel_rfl)) rfl (by kernel_rfl) (fun _ _ _ h => h) (yieldsSoIn_of (by kernel_rfl) ?_ (fun _ => rfl)) q0 ?_; rotate_left; focus (intro wq hw; clear hw; go_simp; try (with_reducible rfl))
          refine wpHeldIn_take (i := 16) (v := ?_) (plain_of (by kernel_rfl)) rfl (by kernel_rfl) (fun _ _ _ h => h) (yieldsSoIn_of (by kernel_rfl) ?_ (fun _ => rfl)) q0 ?_; rotate_left; focus (intro wq hw; clear hw; go_simp; try (with_reducible rfl))
          refine wpHeldIn_take (i := 17) (v := ?_) (plain_of (by kernel_rfl)) rfl (by kernel_rfl) (fun _ _ _ h => h) (yieldsSoIn_of (by kernel_rfl) ?_ (fun _ => rfl)) q0 ?_; rotate_left; focus (intro wq hw; have kq := KC.out wq hw; clear hw; go_simp; try (with_reducible rfl))
          refine wpHeldIn_take (i := 18) (v := ?_) (plain_of (by kernel_rfl)) rfl (by kernel_rfl) (fun _ _ _ h => h) (yieldsSoIn_of (by kernel_rfl) ?_ (fun _ => rfl)) q0 ?_; rotate_left; focus (intro wq hw; clear hw; go_simp; try (with_reducible rfl))
          clear rc0 sc0 rc1 sc1 rc2 sc2 rc3 sc3 rc4 sc4
          refine wpHeldIn_done (by kernel_rfl) ?_ _
          go_simp
          refine noPanic_of ?_
          have hBd : Below w.heap.size w wr.drew := hB.drew
          have bTd : BoxS wr.drew w.heap.size 28 #[.int .i64 full, .int .i64 read, .int .i64 slip, .int .i64 skew, .int .i64 circ, .int .i64 glo, .int .i64 ghi, .int .i64 wrn, .int .i64 gain, .slice (some ⟨bt, ot, none⟩) ts.length c] := bT
          have bOd : BoxS wr.drew (w.heap.size + 1) 28 #[.int .i64 full, .int .i64 read, .int .i64 slip, .int .i64 skew, .int .i64 circ, .int .i64 glo, .int .i64 ghi, .int .i64 wrn, .int .i64 gain, .slice (some ⟨bo, oo, none⟩) ts.length c'] := bO
          clear KC q0 y0 y1 v0 v1 kT9 kO9 lT lO hB bT bO
          generalize wr.drew = wd at *
          go_wp2_with fail
          obtain ⟨g', hg'⟩ : ∃ g', gk = g' + 1 := ⟨gk - 1, by have := hk.out; omega⟩
          go_roundg g'
          case measure => omega
          case rel => exact ⟨k + 1, by have := hk.out; simp only [Hid]; omega, by omega, by go_num, hBd, bTd, bOd⟩
        · have e : k = xw.length := by omega
          go_wp2_with fail
          obtain ⟨g', hg'⟩ : ∃ g', gko = g' + 1 := ⟨gko - 1, by have := hi.out; omega⟩
          go_roundg g'
          case measure => omega
          case rel => exact ⟨i + 1, by have := hi.out; simp only [Hid]; omega, by omega, by go_num, hB, bT, bO⟩
    · have kT9 := bT.cell 9 rfl
      have lT := bT.lt
      go_wp2_with fail
      go_returns
      exact ⟨rfl, hB⟩
end Go.Proofs.YtkmacpkjobdffaaGreat
namespace Go.Proofs.YtkmacpkjobdffaaGreat
open Go.RowKit Go.Maps
namespace Ti
def eLo (P : List (Int × Int)) (a : Int) : Nat → Int
  | 0 => errV (gAt P 0) a
  | k + 1 => min (eLo P a k) (errV (gAt P k) a)
def eHi (P : List (Int × Int)) (a : Int) : Nat → Int
  | 0 => errV (gAt P 0) a
  | k + 1 => max (eHi P a k) (errV (gAt P k) a)
theorem eLo_spec (P : List (Int × Int)) (a : Int) (hn : 0 < P.length) : ∀ k, (∃ j, j < P.length ∧ eLo P a k = errV (gAt P j) a) ∨ P.length < k
  | 0 => .inl ⟨0, hn, rfl⟩
  | k + 1 => by
    by_cases h : P.length < k + 1
    · exact .inr h
    · rcases eLo_spec P a hn k with ⟨j, hj, e⟩ | h2
      · left
        show ∃ j, j < P.length ∧ min (eLo P a k) (errV (gAt P k) a) = _
        by_cases h3 : eLo P a k ≤ errV (gAt P k) a
        · exact ⟨j, hj, by rw [Int.min_def, if_pos h3]; exact e⟩
        · exact ⟨k, by omega, by rw [Int.min_def, if_neg h3]⟩
      · omega
theorem eLo_le (P : List (Int × Int)) (a : Int) : ∀ k j, j < k → eLo P a k ≤ errV (gAt P j) a
  | k + 1, j, hj => by
    show min (eLo P a k) (errV (gAt P k) a) ≤ _
    by_cases h : j = k
    · subst h; omega
    · have := eLo_le P a k j (by omega); omega
theorem eHi_spec (P : List (Int × Int)) (a : Int) (hn : 0 < P.length) : ∀ k, (∃ j, j < P.length ∧ eHi P a k = errV (gAt P j) a) ∨ P.length < k
  | 0 => .inl ⟨0, hn, rfl⟩
  | k + 1 => by
    by_cases h : P.length < k + 1
    · exact .inr h
    · rcases eHi_spec P a hn k with ⟨j, hj, e⟩ | h2
      · left
        show ∃ j, j < P.length ∧ max (eHi P a k) (errV (gAt P k) a) = _
        by_cases h3 : eHi P a k ≤ errV (gAt P k) a
        · exact ⟨k, by omega, by rw [Int.max_def, if_pos h3]⟩
        · exact ⟨j, hj, by rw [Int.max_def, if_neg h3]; exact e⟩
      · omega
theorem eHi_le (P : List (Int × Int)) (a : Int) : ∀ k j, j < k → errV (gAt P j) a ≤ eHi P a k
  | k + 1, j, hj => by
    show _ ≤ max (eHi P a k) (errV (gAt P k) a)
    by_cases h : j = k
    · subst h; omega
    · have := eHi_le P a k j (by omega); omega
theorem errs_kn {L : List GkS} {a : Int} (ha : 0 ≤ a ∧ a ≤ 9000) (hn : L ≠ []) : eLo (valsK L) a (valsK L).length = lowL (fun x => errV x a) L ∧ eHi (valsK L) a (valsK L).length = highL (fun x => errV x a) L := by
  have hlen : (valsK L).length = L.length := List.length_map _
  have hpos : 0 < L.length := List.length_pos_iff.2 hn
  have hat : ∀ j (hj : j < L.length), gAt (valsK L) j = (L[j]).1 := fun j hj => by
    unfold gAt valsK
    rw [List.getElem?_map, List.getElem?_eq_getElem hj]
    rfl
  have hb := err_bd ha
  obtain ⟨⟨x, hx, ex⟩, lx⟩ := lowL_spec (fun x => errV x a) L (fun y _ => by have := hb y; omega) hn
  obtain ⟨⟨y, hy, ey⟩, ly⟩ := highL_spec (fun x => errV x a) L (fun y _ => by have := hb y; omega) hn
  constructor
  · rcases eLo_spec (valsK L) a (by omega) (valsK L).length with ⟨j, hj, e⟩ | h
    · obtain ⟨i, hi, e2⟩ := List.getElem_of_mem hx
      have h1 := eLo_le (valsK L) a (valsK L).length i (by omega)
      rw [hat i hi, e2] at h1
      have h2 := lx _ (List.getElem_mem (show j < L.length by omega))
      rw [hat j (by omega)] at e
      omega
    · omega
  · rcases eHi_spec (valsK L) a (by omega) (valsK L).length with ⟨j, hj, e⟩ | h
    · obtain ⟨i, hi, e2⟩ := List.getElem_of_mem hy
      have h1 := eHi_le (valsK L) a (valsK L).length i (by omega)
      rw [hat i hi, e2] at h1
      have h2 := ly _ (List.getElem_mem (show j < L.length by omega))
      rw [hat j (by omega)] at e
      omega
    · omega
end Ti
/-- What holds once some of two errors and a box are there. -/
def erI (w0 : World) (V V2 : Value) (a : Act) (s : Nat → Bool) (a' : Act) (w' : World) : Prop :=
  ((s 9 = true → s 4 = true) ∧ (s 10 = true → s 9 = true)) ∧ ∃ B8 : Nat, a' = putIf (s 10) 32 V2 (putIf (s 9) 31 V (putIf (s 4) 26 V (putIf (s 11) 8 (.pointer (some ⟨B8, 0, none⟩)) a))) ∧ Below w0.heap.size w0 w' ∧ (s 11 = true → w0.heap.size ≤ B8 ∧ BoxS w' B8 23 #[.int .i64 0, .int .i64 0])
section
variable {w0 : World} {V V2 : Value} {a : Act} {s : Nat → Bool} {a' : Act} {w' : World}
theorem erI.world (h : erI w0 V V2 a s a' w') : Below w0.heap.size w0 w' := by obtain ⟨_, _, _, hB, _⟩ := h; exact hB
theorem erI.at (h : erI w0 V V2 a s a' w') {t : Nat} (h1 : t ≠ 32 ∧ t ≠ 31 ∧ t ≠ 26 ∧ t ≠ 8) : a'.eval (.tmp t) = a.eval (.tmp t) := by
  obtain ⟨_, B8, rfl, _⟩ := h
  rw [putIf_ne h1.1, putIf_ne h1.2.1, putIf_ne h1.2.2.1, putIf_ne h1.2.2.2]
theorem erI.one (h : erI w0 V V2 a s a' w') (hs : s 4 = false) {w2 : World} (hb : Below w'.heap.size w' w2) : erI w0 V V2 a (upd s 4) (a'.put (some 26) V) w2 := by
  obtain ⟨⟨h94, h10⟩, B8, rfl, hB, h8⟩ := h
  have hs9 : s 9 = false := by
    cases e : s 9
    · rfl
    · rw [h94 e] at hs; cases hs
  have hs10 : s 10 = false := by
    cases e : s 10
    · rfl
    · rw [h10 e] at hs9; cases hs9
  have e4 : upd s 4 4 = true := by simp [upd]
  have e9 : upd s 4 9 = s 9 := by simp [upd]
  have e10 : upd s 4 10 = s 10 := by simp [upd]
  have e11 : upd s 4 11 = s 11 := by simp [upd]
  refine ⟨⟨fun _ => e4, fun e => by rw [e10, hs10] at e; cases e⟩, B8, ?_, hB.trans (hb.mono hB.size), fun e => ?_⟩
  · rw [e4, e9, e10, e11, hs, hs9, hs10]; rfl
  · rw [e11] at e
    exact ⟨(h8 e).1, (h8 e).2.below hb⟩
theorem erI.two (h : erI w0 V V2 a s a' w') (hs4 : s 4 = true) (hs : s 9 = false) {w2 : World} (hb : Below w'.heap.size w' w2) : erI w0 V V2 a (upd s 9) (a'.put (some 31) V) w2 := by
  obtain ⟨⟨h94, h10⟩, B8, rfl, hB, h8⟩ := h
  have hs10 : s 10 = false := by
    cases e : s 10
    · rfl
    · rw [h10 e] at hs; cases hs
  have e4 : upd s 9 4 = s 4 := by simp [upd]
  have e9 : upd s 9 9 = true := by simp [upd]
  have e10 : upd s 9 10 = s 10 := by simp [upd]
  have e11 : upd s 9 11 = s 11 := by simp [upd]
  refine ⟨⟨fun _ => by rw [e4]; exact hs4, fun e => by rw [e10, hs10] at e; cases e⟩, B8, ?_, hB.trans (hb.mono hB.size), fun e => ?_⟩
  · rw [e4, e9, e10, e11, hs, hs10]; rfl
  · rw [e11] at e
    exact ⟨(h8 e).1, (h8 e).2.below hb⟩
theorem erI.mid (h : erI w0 V V2 a s a' w') (hs9 : s 9 = true) (hs : s 10 = false) : erI w0 V V2 a (upd s 10) (a'.put (some 32) V2) w' := by
  obtain ⟨⟨h94, h10⟩, B8, rfl, hB, h8⟩ := h
  have e4 : upd s 10 4 = s 4 := by simp [upd]
  have e9 : upd s 10 9 = s 9 := by simp [upd]
  have e10 : upd s 10 10 = true := by simp [upd]
  have e11 : upd s 10 11 = s 11 := by simp [upd]
  refine ⟨⟨fun e => by rw [e9] at e; rw [e4]; exact h94 e, fun _ => by rw [e9]; exact hs9⟩, B8, ?_, hB, fun e => ?_⟩
  · rw [e4, e9, e10, e11, hs]; rfl
  · rw [e11] at e
    exact h8 e
theorem erI.vals (h : erI w0 V V2 a s a' w') (hz : 31 < a.tmps.size) (hs9 : s 9 = true) : a'.eval (.tmp 26) = V ∧ a'.eval (.tmp 31) = V := by
  obtain ⟨⟨h94, h10⟩, B8, rfl, hB, h8⟩ := h
  rw [h94 hs9, hs9]
  constructor
  · rw [putIf_ne (by decide), putIf_ne (by decide)]
    exact put_eq (by rw [putIf_size]; omega) V
  · rw [putIf_ne (by decide)]
    exact put_eq (by rw [putIf_size, putIf_size]; omega) V
theorem erI.box (h : erI w0 V V2 a s a' w') (hs : s 11 = false) : erI w0 V V2 a (upd s 11) (a'.put (some 8) (.pointer (some ⟨w'.heap.size, 0, none⟩))) (w'.alloc (.cells #[.int .i64 0, .int .i64 0] 23)) := by
  obtain ⟨⟨h94, h10⟩, B8, rfl, hB, h8⟩ := h
  have hb : Below w'.heap.size w' (w'.alloc (.cells #[.int .i64 0, .int .i64 0] 23)) := (Below.refl _ _).alloc (Nat.le_refl _) _
  have e4 : upd s 11 4 = s 4 := by simp [upd]
  have e9 : upd s 11 9 = s 9 := by simp [upd]
  have e10 : upd s 11 10 = s 10 := by simp [upd]
  have e11 : upd s 11 11 = true := by simp [upd]
  refine ⟨⟨fun e => by rw [e9] at e; rw [e4]; exact h94 e, fun e => by rw [e10] at e; rw [e9]; exact h10 e⟩, w'.heap.size, ?_, hB.trans (hb.mono hB.size), fun _ => ⟨hB.size, BoxS.new _ _ _⟩⟩
  rw [e4, e9, e10, e11, hs, putIf_put (by decide), putIf_put (by decide), putIf_put (by decide)]
  rfl
end
set_option maxRecDepth 100000 in
set_option maxHeartbeats 16000000 in
theorem Errs9_any (t : Ti.Tri) (a : Int) (A : Option Addr) (c : Nat) (w : World) (hl : t.ts.length ≤ 1000000000) (hg : Tsts w w.heap.size A t.ts) :
    Calls Tryz.prog 20 #[.agg (tiV t A c), .int .i64 a] w (SpanPost (Ti.lowE (fun x => Ti.errV x a) (Ti.opE t (inB a 0 9000)) t) (Ti.highE (fun x => Ti.errV x a) (Ti.opE t (inB a 0 9000)) t) (Ti.opE t (inB a 0 9000)) w) := by
  have HIA : Hid (∀ W, Calls Tryz.prog 64 #[.int .i64 a] W fun e w' => e = .returned (.bool (inB a 0 9000)) ∧ w' = W) := fun W => isArea9_any a W
  have HK : Hid (∀ W, Below w.heap.size w W → Calls Tryz.prog 56 #[.agg (tiV t A c), .bool (inB a 0 9000)] W (PrsEPost (Ti.knL t (Ti.opE t (inB a 0 9000))) (Ti.opE t (inB a 0 9000)) W)) := fun W hW => known9_any t (inB a 0 9000) A c W hl ((hg.keep hW).wider hW.size)
  unfold PrsEPost at HK
  have hmo : Tryz.prog.follows .mixedOrders = true := by kernel_rfl
  by_cases h0 : Ti.opE t (inB a 0 9000) = 0
  · have haB : inB a 0 9000 = true := by
      cases hb : inB a 0 9000
      · rw [hb] at h0
        unfold Ti.opE at h0
        rw [if_pos (Ti.op_ok (t := t) (v := false) h0).1, if_neg (by decide)] at h0
        cases h0
      · rfl
    have ha := inB_true.1 haB
    have hne := (Ti.op_ok h0).2.2
    obtain ⟨e1, e2⟩ := Ti.errs_kn ha hne
    have hL : Ti.knL t 0 = Ti.valsK (Ti.truthsL t) := if_pos rfl
    have hl1 : Ti.lowE (fun x => Ti.errV x a) 0 t = Ti.eLo (Ti.valsK (Ti.truthsL t)) a (Ti.valsK (Ti.truthsL t)).length := by unfold Ti.lowE; rw [if_pos rfl]; exact e1.symm
    have hh1 : Ti.highE (fun x => Ti.errV x a) 0 t = Ti.eHi (Ti.valsK (Ti.truthsL t)) a (Ti.valsK (Ti.truthsL t)).length := by unfold Ti.highE; rw [if_pos rfl]; exact e2.symm
    have HER : Hid (∀ k, k < (Ti.valsK (Ti.truthsL t)).length → ∀ W, Calls Tryz.prog 42 #[.agg #[.int .i64 (Ti.gAt (Ti.valsK (Ti.truthsL t)) k).1, .int .i64 (Ti.gAt (Ti.valsK (Ti.truthsL t)) k).2], .int .i64 a] W fun e w' => e = .returned (.int .i64 (Ti.errV (Ti.gAt (Ti.valsK (Ti.truthsL t)) k) a)) ∧ Below W.heap.size W w') := fun k hk W => by
      have hk2 : k < (Ti.truthsL t).length := by unfold Ti.valsK at hk; rw [List.length_map] at hk; exact hk
      have e : Ti.gAt (Ti.valsK (Ti.truthsL t)) k = ((Ti.truthsL t)[k]).1 := by unfold Ti.gAt Ti.valsK; rw [List.getElem?_map, List.getElem?_eq_getElem hk2]; rfl
      have hs := ((Ti.truthsL t)[k]).2
      unfold Ti.gsm at hs
      rw [e]
      exact Error9_any _ a hs.1 hs.2 ha W
    have HAT : Hid (∀ k, k < (Ti.valsK (Ti.truthsL t)).length → (Ti.valsK (Ti.truthsL t))[k]? = some (Ti.gAt (Ti.valsK (Ti.truthsL t)) k)) := fun k hk => Ti.gAt_some hk
    have HL0 : Hid (Ti.eLo (Ti.valsK (Ti.truthsL t)) a 0 = Ti.errV (Ti.gAt (Ti.valsK (Ti.truthsL t)) 0) a) := rfl
    have HH0 : Hid (Ti.eHi (Ti.valsK (Ti.truthsL t)) a 0 = Ti.errV (Ti.gAt (Ti.valsK (Ti.truthsL t)) 0) a) := rfl
    have HLS : Hid (∀ k, Ti.eLo (Ti.valsK (Ti.truthsL t)) a (k + 1) = min (Ti.eLo (Ti.valsK (Ti.truthsL t)) a k) (Ti.errV (Ti.gAt (Ti.valsK (Ti.truthsL t)) k) a)) := fun k => rfl
    have HHS : Hid (∀ k, Ti.eHi (Ti.valsK (Ti.truthsL t)) a (k + 1) = max (Ti.eHi (Ti.valsK (Ti.truthsL t)) a k) (Ti.errV (Ti.gAt (Ti.valsK (Ti.truthsL t)) k) a)) := fun k => rfl
    have hpos : 0 < (Ti.valsK (Ti.truthsL t)).length := by unfold Ti.valsK; rw [List.length_map]; exact List.length_pos_iff.2 hne
    have hln : (Ti.valsK (Ti.truthsL t)).length ≤ 90000 := by
      obtain ⟨hg1, hk1, _⟩ := Ti.chk_ok (Ti.op_ok h0).1
      unfold Ti.valsK Ti.truthsL
      rw [List.length_map]
      refine Nat.le_trans (List.length_filter_le _ _) ?_
      unfold Ti.casesL
      rw [Ti.casesTo_len]
      exact Nat.le_trans (Nat.mul_le_mul (show Ti.nG t ≤ 101 by unfold Ti.nG; omega) (show Ti.nS t ≤ 41 by unfold Ti.nS; omega)) (by decide)
    rw [h0, hL, haB] at HK
    rw [haB] at HIA
    rw [h0, hl1, hh1]
    clear e1 e2 hl1 hh1 hne ha haB hg hL h0
    obtain ⟨EV, hEV⟩ : ∃ EV : Nat → Int, EV = fun k => Ti.errV (Ti.gAt (Ti.valsK (Ti.truthsL t)) k) a := ⟨_, rfl⟩
    have eEV : ∀ k, Ti.errV (Ti.gAt (Ti.valsK (Ti.truthsL t)) k) a = EV k := fun k => by rw [hEV]
    simp only [eEV] at HER HL0 HH0 HLS HHS
    clear eEV hEV
    generalize Ti.eLo (Ti.valsK (Ti.truthsL t)) a = LO at *
    generalize Ti.eHi (Ti.valsK (Ti.truthsL t)) a = HI at *
    generalize Ti.gAt (Ti.valsK (Ti.truthsL t)) = GA at *
    generalize Ti.valsK (Ti.truthsL t) = VL at *
    obtain ⟨d, gain, ts⟩ := t
    obtain ⟨full, read, slip, skew, circ, glo, ghi, wrn, dws⟩ := d
    unfold tiV at *
    dsimp only at *
    unfold SpanPost
    go_enter Tryz.func20, Tryz.ntmps20
    go_wp2_with fail
    have bT1 := ((BoxS.new w 28 #[.int .i64 full, .int .i64 read, .int .i64 slip, .int .i64 skew, .int .i64 circ, .int .i64 glo, .int .i64 ghi, .int .i64 wrn, .int .i64 gain, .slice A ts.length c]).alloc (.cells #[.int .i64 0, .int .i64 0] 23))
    have bR1 := (BoxS.new (World.alloc w (.cells #[.int .i64 full, .int .i64 read, .int .i64 slip, .int .i64 skew, .int .i64 circ, .int .i64 glo, .int .i64 ghi, .int .i64 wrn, .int .i64 gain, .slice A ts.length c] 28)) 23 #[.int .i64 0, .int .i64 0])
    have hB1 : Below w.heap.size w (World.alloc (World.alloc w (.cells #[.int .i64 full, .int .i64 read, .int .i64 slip, .int .i64 skew, .int .i64 circ, .int .i64 glo, .int .i64 ghi, .int .i64 wrn, .int .i64 gain, .slice A ts.length c] 28)) (.cells #[.int .i64 0, .int .i64 0] 23)) := by (repeat' (first | (with_reducible exact Below.refl _ _) | (with_reducible assumption) | (with_reducible refine Below.alloc ?_ ?_ _) | (with_reducible refine Below.drew ?_) | (with_reducible refine Below.setCell ?_ ?_ _) | go_size | (exact (by simp)) | omega))
    simp only [World.size_alloc] at bR1
    generalize World.alloc (World.alloc w _) _ = w1 at *
    have q0 : Below w1.heap.size w1.drew w1.drew := Below.refl _ _
    have KC : Hid (∀ V', Below w1.heap.size w1.drew V' → (V'.cell? ⟨w.heap.size, 0, none⟩ = some (.int .i64 full) ∧ V'.cell? ⟨w.heap.size, 1, none⟩ = some (.int .i64 read) ∧ V'.cell? ⟨w.heap.size, 2, none⟩ = some (.int .i64 slip) ∧ V'.cell? ⟨w.heap.size, 3, none⟩ = some (.int .i64 skew) ∧ V'.cell? ⟨w.heap.size, 4, none⟩ = some (.int .i64 circ) ∧ V'.cell? ⟨w.heap.size, 5, none⟩ = some (.int .i64 glo) ∧ V'.cell? ⟨w.heap.size, 6, none⟩ = some (.int .i64 ghi) ∧ V'.cell? ⟨w.heap.size, 7, none⟩ = some (.int .i64 wrn) ∧ V'.cell? ⟨w.heap.size, 8, none⟩ = some (.int .i64 gain) ∧ V'.cell? ⟨w.heap.size, 9, none⟩ = some (.slice A ts.length c) ∧ V'.cell? ⟨w.heap.size + 1, 0, none⟩ = some (.int .i64 0) ∧ V'.cell? ⟨w.heap.size + 1, 1, none⟩ = some (.int .i64 0))) := fun V' h =>
      have hk : ∀ (bb o : Nat) (u : Value), bb < w1.heap.size → w1.cell? ⟨bb, o, none⟩ = some u → V'.cell? ⟨bb, o, none⟩ = some u := fun bb o u h1 h2 => (h.cell (p := ⟨bb, o, none⟩) h1).trans h2
      ⟨hk _ _ _ bT1.lt (bT1.cell 0 rfl), hk _ _ _ bT1.lt (bT1.cell 1 rfl), hk _ _ _ bT1.lt (bT1.cell 2 rfl), hk _ _ _ bT1.lt (bT1.cell 3 rfl), hk _ _ _ bT1.lt (bT1.cell 4 rfl), hk _ _ _ bT1.lt (bT1.cell 5 rfl), hk _ _ _ bT1.lt (bT1.cell 6 rfl), hk _ _ _ bT1.lt (bT1.cell 7 rfl), hk _ _ _ bT1.lt (bT1.cell 8 rfl), hk _ _ _ bT1.lt (bT1.cell 9 rfl), hk _ _ _ bR1.lt (bR1.cell 0 rfl), hk _ _ _ bR1.lt (bR1.cell 1 rfl)⟩
    refine (wpIn_wide (n := 4)).1 ?_
    refine wpIn_mono (Q := noPanic _) ?_ noPanic_le
    refine wpIn_region_held (fun V' => Below w1.heap.size w1.drew V') 40 hmo ?_
    refine wpHeldIn_take (i := 0) (v := ?_) (plain_of (by kernel_rfl)) rfl (by kernel_rfl) (fun _ _ _ h => h) (yieldsSoIn_of (by kernel_rfl) ?_ (fun _ => rfl)) q0 ?_; rotate_left; focus (intro wq hw; have kq := KC.out wq hw; clear hw; go_simp; try (with_reducible rfl))
    refine wpHeldIn_take (i := 1) (v := ?_) (plain_of (by kernel_rfl)) rfl (by kernel_rfl) (fun _ _ _ h => h) (yieldsSoIn_of (by kernel_rfl) ?_ (fun _ => rfl)) q0 ?_; rotate_left; focus (intro wq hw; clear hw; go_simp; try (with_reducible rfl))
    refine wpHeldIn_take (i := 2) (v := .bool true) (plain_of (by kernel_rfl)) rfl (by kernel_rfl) (fun _ _ _ h => h) (yieldsSoIn_call (by kernel_rfl) ?_ rfl (fun _ => trivial) (fun m wq hw => callsIn_wide.2 ((HIA.out _).mono (fun e w' h => ⟨h.1, h.2⟩)))) q0 ?_; focus (intro wq hw; clear hw; go_simp; try (with_reducible rfl))
    refine wpHeldIn_one (i := 3) (by kernel_rfl) (by kernel_rfl) rfl (by kernel_rfl) (fun K1 hK1 => ?_)
    go_simp
    refine ⟨trivial, (callsIn_wide.2 (HK.out _ hB1.drew)).mono ?_⟩
    rintro e w2 ⟨AL, cL, rfl, hP, hh⟩
    have q1 : Below w1.heap.size w1.drew w2 := hh
    refine hK1 _ _ q1 ?_
    refine wpHeldIn_take (i := 4) (v := ?_) (plain_of (by kernel_rfl)) rfl (by kernel_rfl) (fun _ _ _ h => h) (yieldsSoIn_of (by kernel_rfl) ?_ (fun _ => rfl)) q1 ?_; rotate_left; focus (intro wq hw; clear hw; go_simp; try (with_reducible rfl))
    refine wpHeldIn_take (i := 5) (v := ?_) (plain_of (by kernel_rfl)) rfl (by kernel_rfl) (fun _ _ _ h => h) (yieldsSoIn_of (by kernel_rfl) ?_ (fun _ => rfl)) q1 ?_; rotate_left; focus (intro wq hw; clear hw; go_simp; try (with_reducible rfl))
    refine wpHeldIn_take (i := 6) (v := ?_) (plain_of (by kernel_rfl)) rfl (by kernel_rfl) (fun _ _ _ h => h) (yieldsSoIn_of (by kernel_rfl) ?_ (fun _ => rfl)) q1 ?_; rotate_left; focus (intro wq hw; clear hw; go_simp; try (with_reducible rfl))
    refine wpHeldIn_take (i := 7) (v := ?_) (plain_of (by kernel_rfl)) rfl (by kernel_rfl) (fun _ _ _ h => h) (yieldsSoIn_of (by kernel_rfl) ?_ (fun _ => rfl)) q1 ?_; rotate_left; focus (intro wq hw; clear hw; go_simp; try (with_reducible rfl))
    refine wpHeldIn_take (i := 8) (v := ?_) (plain_of (by kernel_rfl)) rfl (by kernel_rfl) (fun _ _ _ h => h) (yieldsSoIn_of (by kernel_rfl) ?_ (fun _ => rfl)) q1 ?_; rotate_left; focus (intro wq hw; clear hw; go_simp; try (with_reducible rfl))
    refine wpHeldIn_done (by kernel_rfl) ?_ _
    go_simp
    refine noPanic_of ?_
    have hb2 : Below w1.heap.size w1 w2 := (Below.refl _ _).drew.trans q1
    have bT2 := bT1.below hb2
    have bR2 := bR1.below hb2
    have hB2 := hB1.trans (hb2.mono hB1.size)
    clear bT1 bR1 hB1
    clear q0 KC q1 hh
    have kT0 := bT2.cell 0 rfl
    have kT1 := bT2.cell 1 rfl
    have kT2 := bT2.cell 2 rfl
    have kT3 := bT2.cell 3 rfl
    have kT4 := bT2.cell 4 rfl
    have kT5 := bT2.cell 5 rfl
    have kT6 := bT2.cell 6 rfl
    have kT7 := bT2.cell 7 rfl
    have kT8 := bT2.cell 8 rfl
    have kT9 := bT2.cell 9 rfl
    have lT := bT2.lt
    have kR0 := bR2.cell 0 rfl
    have kR1 := bR2.cell 1 rfl
    have lR := bR2.lt
    go_wp2_with fail
    clear kT0 kT1 kT2 kT3 kT4 kT5 kT6 kT7 kT8 kT9 lT kR0 kR1 lR
    obtain ⟨bl, ol, rfl, hbl, hcl⟩ := hP.out hpos
    obtain ⟨x0, x1⟩ := hcl 0 _ (HAT.out 0 hpos)
    have y0 : w2.cell? ⟨bl, ol, none⟩ = some (.int .i64 (GA 0).1) := by simpa using x0
    have y1 : w2.cell? ⟨bl, ol + 1, none⟩ = some (.int .i64 (GA 0).2) := by simpa using x1
    have HE0 := Lib.hid (HER.out 0 hpos)
    have hpi : (0 : Int) < (VL.length : Int) := by omega
    clear x0 x1
    generalize GA 0 = g0 at HE0 y0 y1
    obtain ⟨ga, gb⟩ := g0
    dsimp only at *
    have hP2 := Lib.hid hcl
    clear hP hcl
    have q0 : Below w2.heap.size w2.drew w2.drew := Below.refl _ _
    have KC : Hid (∀ V', Below w2.heap.size w2.drew V' → (V'.cell? ⟨w.heap.size, 0, none⟩ = some (.int .i64 full) ∧ V'.cell? ⟨w.heap.size, 1, none⟩ = some (.int .i64 read) ∧ V'.cell? ⟨w.heap.size, 2, none⟩ = some (.int .i64 slip) ∧ V'.cell? ⟨w.heap.size, 3, none⟩ = some (.int .i64 skew) ∧ V'.cell? ⟨w.heap.size, 4, none⟩ = some (.int .i64 circ) ∧ V'.cell? ⟨w.heap.size, 5, none⟩ = some (.int .i64 glo) ∧ V'.cell? ⟨w.heap.size, 6, none⟩ = some (.int .i64 ghi) ∧ V'.cell? ⟨w.heap.size, 7, none⟩ = some (.int .i64 wrn) ∧ V'.cell? ⟨w.heap.size, 8, none⟩ = some (.int .i64 gain) ∧ V'.cell? ⟨w.heap.size, 9, none⟩ = some (.slice A ts.length c) ∧ V'.cell? ⟨w.heap.size + 1, 0, none⟩ = some (.int .i64 0) ∧ V'.cell? ⟨w.heap.size + 1, 1, none⟩ = some (.int .i64 0) ∧ V'.cell? ⟨bl, ol, none⟩ = some (.int .i64 ga) ∧ V'.cell? ⟨bl, ol + 1, none⟩ = some (.int .i64 gb))) := fun V' h =>
      have hk : ∀ (bb o : Nat) (u : Value), bb < w2.heap.size → w2.cell? ⟨bb, o, none⟩ = some u → V'.cell? ⟨bb, o, none⟩ = some u := fun bb o u h1 h2 => (h.cell (p := ⟨bb, o, none⟩) h1).trans h2
      ⟨hk _ _ _ bT2.lt (bT2.cell 0 rfl), hk _ _ _ bT2.lt (bT2.cell 1 rfl), hk _ _ _ bT2.lt (bT2.cell 2 rfl), hk _ _ _ bT2.lt (bT2.cell 3 rfl), hk _ _ _ bT2.lt (bT2.cell 4 rfl), hk _ _ _ bT2.lt (bT2.cell 5 rfl), hk _ _ _ bT2.lt (bT2.cell 6 rfl), hk _ _ _ bT2.lt (bT2.cell 7 rfl), hk _ _ _ bT2.lt (bT2.cell 8 rfl), hk _ _ _ bT2.lt (bT2.cell 9 rfl), hk _ _ _ bR2.lt (bR2.cell 0 rfl), hk _ _ _ bR2.lt (bR2.cell 1 rfl), hk _ _ _ hbl y0, hk _ _ _ hbl y1⟩
    refine (wpIn_wide (n := 4)).1 ?_
    refine wpIn_mono (Q := noPanic _) ?_ noPanic_le
    refine wpIn_region_held (fun V' => Below w2.heap.size w2.drew V') 12 hmo ?_
    refine wpHeldIn_take (i := 0) (v := ?_) (plain_of (by kernel_rfl)) rfl (by kernel_rfl) (fun _ _ _ h => h) (yieldsSoIn_of (by kernel_rfl) ?_ (fun _ => rfl)) q0 ?_; rotate_left; focus (intro wq hw; clear hw; go_simp; try (with_reducible rfl))
    refine wpHeldIn_take (i := 1) (v := ?_) (plain_of (by kernel_rfl)) rfl (by kernel_rfl) (fun _ _ _ h => h) (yieldsSoIn_of (by kernel_rfl) ?_ (fun _ => rfl)) q0 ?_; rotate_left; focus (intro wq hw; clear hw; go_simp; try (with_reducible rfl))
    refine wpHeldIn_take (i := 2) (v := ?_) (plain_of (by kernel_rfl)) rfl (by kernel_rfl) (fun _ _ _ h => h) (yieldsSoIn_of (by kernel_rfl) ?_ (fun _ => rfl)) q0 ?_; rotate_left; focus (intro wq hw; have kq := KC.out wq hw; clear hw; go_simp; try (with_reducible rfl))
    refine wpHeldIn_take (i := 3) (v := ?_) (plain_of (by kernel_rfl)) rfl (by kernel_rfl) (fun _ _ _ h => h) (yieldsSoIn_of (by kernel_rfl) ?_ (fun _ => rfl)) q0 ?_; rotate_left; focus (intro wq hw; clear hw; go_simp; try (with_reducible rfl))
    refine wpHeldIn_take (i := 5) (v := ?_) (plain_of (by kernel_rfl)) rfl (by kernel_rfl) (fun _ _ _ h => h) (yieldsSoIn_of (by kernel_rfl) ?_ (fun _ => rfl)) q0 ?_; rotate_left; focus (intro wq hw; clear hw; go_simp; try (with_reducible rfl))
    refine wpHeldIn_take (i := 6) (v := ?_) (plain_of (by kernel_rfl)) rfl (by kernel_rfl) (fun _ _ _ h => h) (yieldsSoIn_of (by kernel_rfl) ?_ (fun _ => rfl)) q0 ?_; rotate_left; focus (intro wq hw; clear hw; go_simp; try (with_reducible rfl))
    refine wpHeldIn_take (i := 7) (v := ?_) (plain_of (by kernel_rfl)) rfl (by kernel_rfl) (fun _ _ _ h => h) (yieldsSoIn_of (by kernel_rfl) ?_ (fun _ => rfl)) q0 ?_; rotate_left; focus (intro wq hw; have kq := KC.out wq hw; clear hw; go_simp; try (with_reducible rfl))
    refine wpHeldIn_take (i := 8) (v := ?_) (plain_of (by kernel_rfl)) rfl (by kernel_rfl) (fun _ _ _ h => h) (yieldsSoIn_of (by kernel_rfl) ?_ (fun _ => rfl)) q0 ?_; rotate_left; focus (intro wq hw; clear hw; go_simp; try (with_reducible rfl))
    go_simp
    refine wpHeldIn_anyD [4, 9, 10, 11] [(4, 9), (4, 10), (9, 10)] (erI w2.drew (.int .i64 (EV 0)) (.agg #[.int .i64 (EV 0), .int .i64 (EV 0)])) (f0 := 1) rfl (by decide) (by kernel_rfl) rfl (by kernel_rfl) ?_ ?_ ?_
    · exact ⟨⟨fun e => (by cases e), fun e => (by cases e)⟩, 0, rfl, Below.refl _ _, fun e => (by cases e)⟩
    · intro j o hj ho s ac wc hI hsj hdep K hK
      have h24 : ac.tmps[24]?.getD undef = .agg #[.int .i64 ga, .int .i64 gb] := by rw [← Array.getD_eq_getD_getElem?]; exact hI.at (t := 24) (by decide)
      have h25 : ac.tmps[25]?.getD undef = .int .i64 a := by rw [← Array.getD_eq_getD_getElem?]; exact hI.at (t := 25) (by decide)
      have h29 : ac.tmps[29]?.getD undef = .agg #[.int .i64 ga, .int .i64 gb] := by rw [← Array.getD_eq_getD_getElem?]; exact hI.at (t := 29) (by decide)
      have h30 : ac.tmps[30]?.getD undef = .int .i64 a := by rw [← Array.getD_eq_getD_getElem?]; exact hI.at (t := 30) (by decide)
      have hIw := hI.world
      have hcz : w2.drew.heap.size ≤ wc.heap.size := hIw.size
      clear HER HAT HL0 HH0 HLS HHS HK HIA hP2 y0 y1 KC q0 bT2 bR2 hB2 hb2
      simp only [List.mem_cons, List.not_mem_nil, or_false] at hj
      rcases hj with rfl | rfl | rfl | rfl
      · cases ho
        go_simp
        try rw [h24]
        try rw [h25]
        refine ⟨trivial, (callsIn_wide.2 (HE0.out wc)).mono ?_⟩
        rintro e wq ⟨rfl, hb'⟩
        exact hK _ _ (hIw.trans (hb'.mono hcz)) (hI.one hsj hb')
      · cases ho
        go_simp
        try rw [h29]
        try rw [h30]
        refine ⟨trivial, (callsIn_wide.2 (HE0.out wc)).mono ?_⟩
        rintro e wq ⟨rfl, hb'⟩
        exact hK _ _ (hIw.trans (hb'.mono hcz)) (hI.two (hdep 4 (by simp)) hsj hb')
      · obtain ⟨v1, v2⟩ := hI.vals (by simp) (hdep 9 (by simp))
        have h26 : ac.tmps[26]?.getD undef = .int .i64 (EV 0) := by rw [← Array.getD_eq_getD_getElem?]; exact v1
        have h31 : ac.tmps[31]?.getD undef = .int .i64 (EV 0) := by rw [← Array.getD_eq_getD_getElem?]; exact v2
        clear v1 v2
        cases ho
        go_simp
        exact hK _ _ hIw (hI.mid (hdep 9 (by simp)) hsj)
      · cases ho
        go_simp
        exact hK _ _ (hIw.alloc hcz _) (hI.box hsj)
    · intro s ac wz hall hI
      obtain ⟨-, B8, rfl, hBw, h8⟩ := hI
      have s4 := hall 4 (by simp)
      have s9 := hall 9 (by simp)
      have s10 := hall 10 (by simp)
      have s11 := hall 11 (by simp)
      rw [s4, s9, s10, s11]
      simp only [putIf, ↓reduceIte]
      go_simp
      obtain ⟨hL8, b8⟩ := h8 s11
      have hd2 : w2.drew.heap.size = w2.heap.size := rfl
      rw [hd2] at hL8
      clear h8 s4 s9 s10 s11 hall s KC q0
      have dT := bT2.drew.below hBw
      have dR := bR2.drew.below hBw
      have hBz := hB2.drew.trans (hBw.mono hB2.size)
      have lT := bT2.lt
      have lR := bR2.lt
      have lB := hB2.size
      have f0 := b8.frozen 0
      have f1 := b8.frozen 1
      have z0 := b8.cell 0 rfl
      have z1 := b8.cell 1 rfl
      refine wpHeldIn_last (by kernel_rfl) rfl (by kernel_rfl) (fun K4 hK4 => ?_)
      go_simp
      have e8 := (b8.put9 0 (.int .i64 (EV 0))).put9 1 (.int .i64 (EV 0))
      have eT := (dT.away (B' := B8) (by omega) 0 (.int .i64 (EV 0))).away (B' := B8) (by omega) 1 (.int .i64 (EV 0))
      have eR := (dR.away (B' := B8) (by omega) 0 (.int .i64 (EV 0))).away (B' := B8) (by omega) 1 (.int .i64 (EV 0))
      have eB : Below w.heap.size w ((wz.setCell ⟨B8, 0, none⟩ (.int .i64 (EV 0))).setCell ⟨B8, 1, none⟩ (.int .i64 (EV 0))) := (hBz.setCell (by simp; omega) _).setCell (by simp; omega) _
      have eW : Below w2.heap.size w2 ((wz.setCell ⟨B8, 0, none⟩ (.int .i64 (EV 0))).setCell ⟨B8, 1, none⟩ (.int .i64 (EV 0))) := ((((Below.refl w2.heap.size w2).drew.trans hBw).setCell (by simp; omega) _).setCell (by simp; omega) _)
      refine hK4 _ _ ?_
      clear f0 f1 z0 z1 b8 dT dR hBz hBw hK4 bT2 bR2 hd2
      generalize World.setCell (World.setCell wz _ _) _ _ = w3 at *
      refine wpHeldIn_done (by kernel_rfl) ?_ _
      go_simp
      refine noPanic_of ?_
      have e8 : BoxS w3 B8 23 #[.int .i64 (LO 0), .int .i64 (HI 0)] := by rw [HL0.out, HH0.out]; exact e8
      go_wp2_with fail
      go_loopw [9, 10] (fun x9 _ wr => ∃ k : Nat, (k : Int) ≤ VL.length ∧ x9 = .int .i64 (k : Int) ∧ Below w.heap.size w wr ∧ Below w2.heap.size w2 wr ∧ BoxS wr (w.heap.size + 1) 23 #[.int .i64 0, .int .i64 0] ∧ BoxS wr B8 23 #[.int .i64 (LO k), .int .i64 (HI k)]) (fun x9 _ _ => (VL.length - intOf x9).toNat)
      case atStart => exact ⟨0, by omega, rfl, eB, eW, eR, e8⟩
      case round =>
        clear eB eW eR eT e8
        obtain ⟨k, hk, rfl, hB, hW, bR, b8⟩ := hrel
        have hk0 := Int.natCast_nonneg k
        by_cases hlt : (k : Int) < VL.length
        · have hkl : k < VL.length := by omega
          have hwk : IntKind.i64.wrap ((k : Int) + 1) = (k : Int) + 1 := IntWalk.i64_in _ (by omega)
          obtain ⟨x0, x1⟩ := hP2.out k _ (HAT.out k hkl)
          have y0 := (hW.cell (p := ⟨bl, _, none⟩) hbl).trans x0
          have y1 := (hW.cell (p := ⟨bl, _, none⟩) hbl).trans x1
          have HEk := Lib.hid (HER.out k hkl)
          have h1 := HLS.out k
          have h2 := HHS.out k
          generalize GA k = gk at *
          obtain ⟨ka, kb⟩ := gk
          dsimp only at *
          clear x0 x1
          have hwz := hW.size
          go_wp2_with fail
          refine (HEk.out _).mono ?_
          rintro e w4 ⟨rfl, hb4⟩
          have bR4 := bR.below hb4
          have b84 := b8.below hb4
          have hB4 := hB.trans (hb4.mono hB.size)
          have hW4 := hW.trans (hb4.mono hW.size)
          clear bR b8 hB hW hb4 y0 y1
          have z0 := b84.cell 0 rfl
          have z1 := b84.cell 1 rfl
          have f0 := b84.frozen 0
          have f1 := b84.frozen 1
          have l8 := b84.lt
          go_wp2_with fail
          go_roundw
          case rel => exact ⟨k + 1, by omega, by go_num, (hB4.setCell (by simp; omega) _).setCell (by simp; omega) _, (hW4.setCell (by simp; omega) _).setCell (by simp; omega) _, (bR4.away (by omega) _ _).away (by omega) _ _, by rw [h1, h2]; exact (b84.put9 0 _).put9 1 _⟩
          case measure => simp [intOf]; omega
        · have ek : k = VL.length := by omega
          subst ek
          have z0 := b8.cell 0 rfl
          have z1 := b8.cell 1 rfl
          have r0 := bR.cell 0 rfl
          have r1 := bR.cell 1 rfl
          have f0 := bR.frozen 0
          have f1 := bR.frozen 1
          have lR2 := bR.lt
          have l8 := b8.lt
          go_wp2_with fail
          have eR := (bR.put9 0 (.int .i64 (LO VL.length))).put9 1 (.int .i64 (HI VL.length))
          have eB : Below w.heap.size w ((wr.setCell ⟨w.heap.size + 1, 0, none⟩ (.int .i64 (LO VL.length))).setCell ⟨w.heap.size + 1, 1, none⟩ (.int .i64 (HI VL.length))) := (hB.setCell (by simp) _).setCell (by simp) _
          clear z0 z1 r0 r1 f0 f1
          generalize World.setCell (World.setCell wr _ _) _ _ = w9 at *
          have z0 := eR.cell 0 rfl
          have z1 := eR.cell 1 rfl
          exact bodyPost_ret (v := .tuple #[.agg #[.int .i64 (LO VL.length), .int .i64 (HI VL.length)], .int .i64 0]) (by simp [results, Tryz.results20, go_sem, z0, z1]) rfl ⟨rfl, eB⟩
  · have hl1 : Ti.lowE (fun x => Ti.errV x a) (Ti.opE t (inB a 0 9000)) t = 0 := by unfold Ti.lowE; rw [if_neg h0]
    have hh1 : Ti.highE (fun x => Ti.errV x a) (Ti.opE t (inB a 0 9000)) t = 0 := by unfold Ti.highE; rw [if_neg h0]
    rw [hl1, hh1]
    clear hl1 hh1 hg
    generalize Ti.knL t (Ti.opE t (inB a 0 9000)) = VL at *
    generalize Ti.opE t (inB a 0 9000) = E at *
    generalize inB a 0 9000 = bb at *
    have hEb : (E != 0) = true := by simpa using h0
    clear h0
    obtain ⟨d, gain, ts⟩ := t
    obtain ⟨full, read, slip, skew, circ, glo, ghi, wrn, dws⟩ := d
    unfold tiV at *
    dsimp only at *
    unfold SpanPost
    go_enter Tryz.func20, Tryz.ntmps20
    go_wp2_with fail
    have bT1 := ((BoxS.new w 28 #[.int .i64 full, .int .i64 read, .int .i64 slip, .int .i64 skew, .int .i64 circ, .int .i64 glo, .int .i64 ghi, .int .i64 wrn, .int .i64 gain, .slice A ts.length c]).alloc (.cells #[.int .i64 0, .int .i64 0] 23))
    have bR1 := (BoxS.new (World.alloc w (.cells #[.int .i64 full, .int .i64 read, .int .i64 slip, .int .i64 skew, .int .i64 circ, .int .i64 glo, .int .i64 ghi, .int .i64 wrn, .int .i64 gain, .slice A ts.length c] 28)) 23 #[.int .i64 0, .int .i64 0])
    have hB1 : Below w.heap.size w (World.alloc (World.alloc w (.cells #[.int .i64 full, .int .i64 read, .int .i64 slip, .int .i64 skew, .int .i64 circ, .int .i64 glo, .int .i64 ghi, .int .i64 wrn, .int .i64 gain, .slice A ts.length c] 28)) (.cells #[.int .i64 0, .int .i64 0] 23)) := by (repeat' (first | (with_reducible exact Below.refl _ _) | (with_reducible assumption) | (with_reducible refine Below.alloc ?_ ?_ _) | (with_reducible refine Below.drew ?_) | (with_reducible refine Below.setCell ?_ ?_ _) | go_size | (exact (by simp)) | omega))
    simp only [World.size_alloc] at bR1
    generalize World.alloc (World.alloc w _) _ = w1 at *
    have q0 : Below w1.heap.size w1.drew w1.drew := Below.refl _ _
    have KC : Hid (∀ V', Below w1.heap.size w1.drew V' → (V'.cell? ⟨w.heap.size, 0, none⟩ = some (.int .i64 full) ∧ V'.cell? ⟨w.heap.size, 1, none⟩ = some (.int .i64 read) ∧ V'.cell? ⟨w.heap.size, 2, none⟩ = some (.int .i64 slip) ∧ V'.cell? ⟨w.heap.size, 3, none⟩ = some (.int .i64 skew) ∧ V'.cell? ⟨w.heap.size, 4, none⟩ = some (.int .i64 circ) ∧ V'.cell? ⟨w.heap.size, 5, none⟩ = some (.int .i64 glo) ∧ V'.cell? ⟨w.heap.size, 6, none⟩ = some (.int .i64 ghi) ∧ V'.cell? ⟨w.heap.size, 7, none⟩ = some (.int .i64 wrn) ∧ V'.cell? ⟨w.heap.size, 8, none⟩ = some (.int .i64 gain) ∧ V'.cell? ⟨w.heap.size, 9, none⟩ = some (.slice A ts.length c) ∧ V'.cell? ⟨w.heap.size + 1, 0, none⟩ = some (.int .i64 0) ∧ V'.cell? ⟨w.heap.size + 1, 1, none⟩ = some (.int .i64 0))) := fun V' h =>
      have hk : ∀ (bb o : Nat) (u : Value), bb < w1.heap.size → w1.cell? ⟨bb, o, none⟩ = some u → V'.cell? ⟨bb, o, none⟩ = some u := fun bb o u h1 h2 => (h.cell (p := ⟨bb, o, none⟩) h1).trans h2
      ⟨hk _ _ _ bT1.lt (bT1.cell 0 rfl), hk _ _ _ bT1.lt (bT1.cell 1 rfl), hk _ _ _ bT1.lt (bT1.cell 2 rfl), hk _ _ _ bT1.lt (bT1.cell 3 rfl), hk _ _ _ bT1.lt (bT1.cell 4 rfl), hk _ _ _ bT1.lt (bT1.cell 5 rfl), hk _ _ _ bT1.lt (bT1.cell 6 rfl), hk _ _ _ bT1.lt (bT1.cell 7 rfl), hk _ _ _ bT1.lt (bT1.cell 8 rfl), hk _ _ _ bT1.lt (bT1.cell 9 rfl), hk _ _ _ bR1.lt (bR1.cell 0 rfl), hk _ _ _ bR1.lt (bR1.cell 1 rfl)⟩
    refine (wpIn_wide (n := 4)).1 ?_
    refine wpIn_mono (Q := noPanic _) ?_ noPanic_le
    refine wpIn_region_held (fun V' => Below w1.heap.size w1.drew V') 40 hmo ?_
    refine wpHeldIn_take (i := 0) (v := ?_) (plain_of (by kernel_rfl)) rfl (by kernel_rfl) (fun _ _ _ h => h) (yieldsSoIn_of (by kernel_rfl) ?_ (fun _ => rfl)) q0 ?_; rotate_left; focus (intro wq hw; have kq := KC.out wq hw; clear hw; go_simp; try (with_reducible rfl))
    refine wpHeldIn_take (i := 1) (v := ?_) (plain_of (by kernel_rfl)) rfl (by kernel_rfl) (fun _ _ _ h => h) (yieldsSoIn_of (by kernel_rfl) ?_ (fun _ => rfl)) q0 ?_; rotate_left; focus (intro wq hw; clear hw; go_simp; try (with_reducible rfl))
    refine wpHeldIn_take (i := 2) (v := .bool bb) (plain_of (by kernel_rfl)) rfl (by kernel_rfl) (fun _ _ _ h => h) (yieldsSoIn_call (by kernel_rfl) ?_ rfl (fun _ => trivial) (fun m wq hw => callsIn_wide.2 ((HIA.out _).mono (fun e w' h => ⟨h.1, h.2⟩)))) q0 ?_; focus (intro wq hw; clear hw; go_simp; try (with_reducible rfl))
    refine wpHeldIn_one (i := 3) (by kernel_rfl) (by kernel_rfl) rfl (by kernel_rfl) (fun K1 hK1 => ?_)
    go_simp
    refine ⟨trivial, (callsIn_wide.2 (HK.out _ hB1.drew)).mono ?_⟩
    rintro e w2 ⟨AL, cL, rfl, hP, hh⟩
    have q1 : Below w1.heap.size w1.drew w2 := hh
    refine hK1 _ _ q1 ?_
    refine wpHeldIn_take (i := 4) (v := ?_) (plain_of (by kernel_rfl)) rfl (by kernel_rfl) (fun _ _ _ h => h) (yieldsSoIn_of (by kernel_rfl) ?_ (fun _ => rfl)) q1 ?_; rotate_left; focus (intro wq hw; clear hw; go_simp; try (with_reducible rfl))
    refine wpHeldIn_take (i := 5) (v := ?_) (plain_of (by kernel_rfl)) rfl (by kernel_rfl) (fun _ _ _ h => h) (yieldsSoIn_of (by kernel_rfl) ?_ (fun _ => rfl)) q1 ?_; rotate_left; focus (intro wq hw; clear hw; go_simp; try (with_reducible rfl))
    refine wpHeldIn_take (i := 6) (v := ?_) (plain_of (by kernel_rfl)) rfl (by kernel_rfl) (fun _ _ _ h => h) (yieldsSoIn_of (by kernel_rfl) ?_ (fun _ => rfl)) q1 ?_; rotate_left; focus (intro wq hw; clear hw; go_simp; try (with_reducible rfl))
    refine wpHeldIn_take (i := 7) (v := ?_) (plain_of (by kernel_rfl)) rfl (by kernel_rfl) (fun _ _ _ h => h) (yieldsSoIn_of (by kernel_rfl) ?_ (fun _ => rfl)) q1 ?_; rotate_left; focus (intro wq hw; clear hw; go_simp; try (with_reducible rfl))
    refine wpHeldIn_take (i := 8) (v := ?_) (plain_of (by kernel_rfl)) rfl (by kernel_rfl) (fun _ _ _ h => h) (yieldsSoIn_of (by kernel_rfl) ?_ (fun _ => rfl)) q1 ?_; rotate_left; focus (intro wq hw; clear hw; go_simp; try (with_reducible rfl))
    refine wpHeldIn_done (by kernel_rfl) ?_ _
    go_simp
    refine noPanic_of ?_
    have hb2 : Below w1.heap.size w1 w2 := (Below.refl _ _).drew.trans q1
    have bT2 := bT1.below hb2
    have bR2 := bR1.below hb2
    have hB2 := hB1.trans (hb2.mono hB1.size)
    clear bT1 bR1 hB1
    clear q0 KC q1 hh
    have kT0 := bT2.cell 0 rfl
    have kT1 := bT2.cell 1 rfl
    have kT2 := bT2.cell 2 rfl
    have kT3 := bT2.cell 3 rfl
    have kT4 := bT2.cell 4 rfl
    have kT5 := bT2.cell 5 rfl
    have kT6 := bT2.cell 6 rfl
    have kT7 := bT2.cell 7 rfl
    have kT8 := bT2.cell 8 rfl
    have kT9 := bT2.cell 9 rfl
    have lT := bT2.lt
    have kR0 := bR2.cell 0 rfl
    have kR1 := bR2.cell 1 rfl
    have fR0 := bR2.frozen 0
    have fR1 := bR2.frozen 1
    have lR := bR2.lt
    go_wp2_with fail
    clear kT0 kT1 kT2 kT3 kT4 kT5 kT6 kT7 kT8 kT9 lT kR0 kR1 fR0 fR1 lR
    have eR := bR2.put9 0 (.int .i64 0) |>.put9 1 (.int .i64 0)
    have eB : Below w.heap.size w ((w2.setCell ⟨w.heap.size + 1, 0, none⟩ (.int .i64 0)).setCell ⟨w.heap.size + 1, 1, none⟩ (.int .i64 0)) := (hB2.setCell (by simp) _).setCell (by simp) _
    generalize World.setCell (World.setCell w2 _ _) _ _ = w9 at *
    have z0 := eR.cell 0 rfl
    have z1 := eR.cell 1 rfl
    exact bodyPost_ret (v := .tuple #[.agg #[.int .i64 0, .int .i64 0], .int .i64 E]) (by simp [results, Tryz.results20, go_sem, z0, z1]) rfl ⟨rfl, eB⟩
end Go.Proofs.YtkmacpkjobdffaaGreat
