/- Wheels: the reference's areas and skews, and its truths, as lists. -/
import Derived.Test.YtecmlakcpgkfbaaIsT3
namespace Go.Proofs.Ytecmlakcpgkfbaa
open Go.RowKit
namespace Wh
def vals (L : List TrS) : List Tr := L.map (·.1)
def trAt (L : List Tr) (k : Nat) : Tr := (L[k]?).getD (0, 0)
theorem vals_append (a b : List TrS) : vals (a ++ b) = vals a ++ vals b := List.map_append
theorem vals_len (a : List TrS) : (vals a).length = a.length := List.length_map _
theorem vals_at {L : List TrS} {k : Nat} (hk : k < L.length) : trAt (vals L) k = (L[k]).1 := by unfold trAt vals; rw [List.getElem?_map, List.getElem?_eq_getElem hk]; rfl
theorem row_zero (s : Desk) (i : Nat) : rowTo s i 0 = [] := rfl
theorem all_step {s : Desk} (hs : Ok s) {i j : Nat} (hi : i < na s) (hj : j < nb s) : vals (casesTo s i ++ rowTo s i (j + 1)) = vals (casesTo s i ++ rowTo s i j) ++ [(s.glo + (i : Int), -s.skew + (j : Int))] := by
  have h1 := hs.g1
  have h2 := hs.g3
  have h3 := hs.k1
  have h4 := hs.k2
  unfold na at hi
  unfold nb at hj
  rw [rowTo_succ, ← List.append_assoc, vals_append]
  congr 1
  show [(trOf (s.glo + (i : Int), -s.skew + (j : Int))).1] = _
  rw [trOf_val (by unfold tsm; dsimp only; omega)]
theorem all_len {s : Desk} {i j : Nat} (hi : i < na s) (hj : j ≤ nb s) : (vals (casesTo s i ++ rowTo s i j)).length ≤ (casesL s).length := by
  rw [vals_len]
  exact (part_pre s hi hj).length_le
end Wh
theorem truth_info3 : (Try.prog.info? 47).map (fun i => (i.zero, i.size, i.bytes)) = some (some (.agg #[.int .i64 0, .int .i64 0]), 2, 16) := by kernel_rfl
theorem own_form2 {w : World} {B : Nat} {e : TypeId} {v : Value} {n : Nat} {xs : List Value} (h : w.ownsRow B e 2 v n xs) : ∃ A c, v = .slice A n c := by
  rcases h.2 with ⟨rfl, rfl⟩ | ⟨g, cap, cur, rfl, _⟩
  · exact ⟨none, 0, rfl⟩
  · exact ⟨some ⟨g, 0, none⟩, cap, rfl⟩
theorem info_partsQ {o : Option TypeInfo} {z : Option Value} {n b : Nat} (h : o.map (fun i => (i.zero, i.size, i.bytes)) = some (z, n, b)) : ∃ i, o = some i ∧ i.zero = z ∧ i.size = n ∧ i.bytes = b := by
  cases o with
  | none => cases h
  | some i => simp at h; exact ⟨i, rfl, h.1, h.2.1, h.2.2⟩
theorem reads_q (w : World) (T : TypeId) (g : Int × Int) : Reads (w.alloc (.cells #[.int .i64 g.1, .int .i64 g.2] T)) (w.heap.size + 1) 2 (some ⟨w.heap.size, 0, none⟩) 1 (flat [g]) := by
  refine ⟨rfl, fun _ => ⟨_, rfl, by simp, fun j u hu => ?_⟩⟩
  match j with
  | 0 =>
    have hu' : u = .int .i64 g.1 := by simpa [flat] using hu.symm
    subst hu'
    show (w.alloc _).cell? ⟨w.heap.size, 0, none⟩ = _
    go_cell
  | 1 =>
    have hu' : u = .int .i64 g.2 := by simpa [flat] using hu.symm
    subst hu'
    show (w.alloc _).cell? ⟨w.heap.size, 1, none⟩ = _
    go_cell
  | j + 2 => simp [flat] at hu
/-- 'out = append(out, g)' on a row of the call's own. -/
theorem wpList_pushq {ops : Array Oper} {rest : List Oper} {o : Oper} {a : Act} {Q : Exit → Act → World → Prop} {wr : World} (hgd : o.guard = none) (s y : Operand)
    (ho : o.op = .call { callee := .builtin .append, args := #[s, y], argTypes := #[82, 82] }) (g : Int × Int) (B : Nat) (v : Value) (n : Nat) (xs : List Value) (hs : a.eval s = v)
    (hx : a.eval y = .slice (some ⟨wr.heap.size, 0, none⟩) 1 1) (hown : wr.ownsRow B 47 2 v n xs) (hB : B ≤ wr.heap.size) (hn : n ≤ 100000)
    (h : ∀ v' w', w'.ownsRow B 47 2 v' (n + 1) (xs ++ flat [g]) → Below B wr w' → wpList Try.prog ops Q rest (a.put o.dst v') w') :
    wpList Try.prog ops Q (o :: rest) a (wr.alloc (.cells #[.int .i64 g.1, .int .i64 g.2] 47)) := by
  obtain ⟨i0, hi0, hz0, hz1, hz2⟩ := info_partsQ truth_info3
  refine wpList_append_any _ hgd s y 82 ho B 47 i0 (.agg #[.int .i64 0, .int .i64 0]) 2 16 Try.underlying82 hi0 hz0 hz1 hz2 rfl (by decide) v n xs hs (hown.alloc _) (wr.heap.size + 1) (some ⟨wr.heap.size, 0, none⟩) 1 1 (flat [g]) hx (reads_q wr _ g) (flat_one [g]) (by simp only [maxLen]; omega) (by omega) (by simp; omega) ?_
  intro v' w' hown' hgr _
  exact h v' w' hown' (((Below.refl B wr).alloc hB _).grown hgr (by simp; omega) (fun j hj => (hown.lt j hj).1))
theorem ownq_nil (w : World) (B : Nat) {L : List (Int × Int)} (h : L = []) : w.ownsRow B 47 2 (.slice none 0 0) L.length (flat L) := by subst h; exact ⟨rfl, .inl ⟨rfl, rfl⟩⟩
theorem ownq_below {w w' : World} {B : Nat} {v : Value} {n : Nat} {xs : List Value} (h : w.ownsRow B 47 2 v n xs) (hb : Below w.heap.size w w') : w'.ownsRow B 47 2 v n xs :=
  h.kept (row := none) ⟨hb.os, hb.tape, hb.output, hb.size, fun k hk _ => hb.block k hk⟩ (by cases hv : v.ownBlock <;> simp)
theorem prs_of_own {w : World} {B : Nat} {L : List (Int × Int)} {v : Value} (h : w.ownsRow B 47 2 v L.length (flat L)) : ∃ A c, v = .slice A L.length c ∧ Hid (Prs w w.heap.size A L) := by
  obtain ⟨A, c, rfl⟩ := own_form2 h
  exact ⟨A, c, rfl, Prs.of_reads (Reads.of_own h)⟩
/-- A list of pairs. -/
def PrsPost (L : List (Int × Int)) (w : World) (e : Ending) (w' : World) : Prop := ∃ A c, e = .returned (.slice A L.length c) ∧ Hid (Prs w' w'.heap.size A L) ∧ Below w.heap.size w w'
def PrsEPost (L : List (Int × Int)) (x : Int) (w : World) (e : Ending) (w' : World) : Prop := ∃ A c, e = .returned (.tuple #[.slice A L.length c, .int .i64 x]) ∧ Hid (Prs w' w'.heap.size A L) ∧ Below w.heap.size w w'

set_option maxRecDepth 100000 in
set_option maxHeartbeats 4000000 in
theorem all3_any (s : Wh.Desk) (hs : Wh.Ok s) (hz : (Wh.casesL s).length ≤ 90000) (w : World) :
    Calls Try.prog 54 #[.agg (whV s)] w (PrsPost (Wh.vals (Wh.casesL s)) w) := by
  have g1 := hs.g1
  have g2 := hs.g2
  have g3 := hs.g3
  have k1 := hs.k1
  have k2 := hs.k2
  have hN1 : s.glo + ((Wh.na s : Nat) : Int) = s.ghi + 1 := by unfold Wh.na; omega
  have hN2 : -s.skew + ((Wh.nb s : Nat) : Int) = s.skew + 1 := by unfold Wh.nb; omega
  have HE : Hid (Wh.vals (Wh.casesL s) = Wh.vals (Wh.casesTo s (Wh.na s))) := rfl
  have HR0 : Hid (∀ i, Wh.vals (Wh.casesTo s i ++ Wh.rowTo s i 0) = Wh.vals (Wh.casesTo s i)) := fun i => by rw [Wh.row_zero, List.append_nil]
  have HRE : Hid (∀ i, Wh.vals (Wh.casesTo s i ++ Wh.rowTo s i (Wh.nb s)) = Wh.vals (Wh.casesTo s (i + 1))) := fun i => by rw [Wh.casesTo_succ]
  have HRS : Hid (∀ i j, i < Wh.na s → j < Wh.nb s → Wh.vals (Wh.casesTo s i ++ Wh.rowTo s i (j + 1)) = Wh.vals (Wh.casesTo s i ++ Wh.rowTo s i j) ++ [(s.glo + (i : Int), -s.skew + (j : Int))]) := fun i j hi hj => Wh.all_step hs hi hj
  have HLN : Hid (∀ i j, i < Wh.na s → j ≤ Wh.nb s → (Wh.vals (Wh.casesTo s i ++ Wh.rowTo s i j)).length ≤ 90000) := fun i j hi hj => Nat.le_trans (Wh.all_len hi hj) hz
  have HC0 : Hid (Wh.vals (Wh.casesTo s 0) = []) := rfl
  have hwn : IntKind.i64.wrap (-s.skew) = -s.skew := IntWalk.i64_in _ (by omega)
  clear hz
  generalize Wh.vals (Wh.casesL s) = LL at *
  generalize Wh.na s = n1 at *
  generalize Wh.nb s = n2 at *
  obtain ⟨C, hC⟩ : ∃ C : Nat → List Wh.Tr, ∀ i, C i = Wh.vals (Wh.casesTo s i) := ⟨_, fun _ => rfl⟩
  obtain ⟨R, hR⟩ : ∃ R : Nat → Nat → List Wh.Tr, ∀ i j, R i j = Wh.vals (Wh.casesTo s i ++ Wh.rowTo s i j) := ⟨_, fun _ _ => rfl⟩
  simp only [← hC, ← hR] at HE HR0 HRE HRS HLN HC0
  clear hC hR hs
  obtain ⟨full, read, slip, skew, circ, glo, ghi, wrn, ws⟩ := s
  unfold whV
  dsimp only at *
  go_enter Try.func54, Try.ntmps54
  go_wp2_with fail
  have bS1 := BoxS.new w 25 #[.int .i64 full, .int .i64 read, .int .i64 slip, .int .i64 skew, .int .i64 circ, .int .i64 glo, .int .i64 ghi, .int .i64 wrn]
  have hB1 : Below w.heap.size w (w.alloc (.cells #[.int .i64 full, .int .i64 read, .int .i64 slip, .int .i64 skew, .int .i64 circ, .int .i64 glo, .int .i64 ghi, .int .i64 wrn] 25)) := by (repeat' (first | (with_reducible exact Below.refl _ _) | (with_reducible assumption) | (with_reducible refine Below.alloc ?_ ?_ _) | (with_reducible refine Below.drew ?_) | (with_reducible refine Below.setCell ?_ ?_ _) | go_size | (exact (by simp)) | omega))
  have hz1 : w.heap.size < (w.alloc (.cells #[.int .i64 full, .int .i64 read, .int .i64 slip, .int .i64 skew, .int .i64 circ, .int .i64 glo, .int .i64 ghi, .int .i64 wrn] 25)).heap.size := by simp
  generalize World.alloc w _ = w1 at *
  obtain ⟨⟨⟨s0, s1, s2⟩, s3, s4, s5⟩, s6, s7⟩ := boxS8 bS1
  try go_wp2_with fail
  clear s0 s1 s2 s3 s4 s5 s6 s7
  go_loopg [3, 4, 5] n1 (fun g x3 x4 x5 wx => ∃ i : Nat, Hid (i + g = n1) ∧ (i : Int) ≤ n1 ∧ x4 = .int .i64 (glo + (i : Int)) ∧ Below w.heap.size w wx ∧ w.heap.size < wx.heap.size ∧ BoxS wx w.heap.size 25 #[.int .i64 full, .int .i64 read, .int .i64 slip, .int .i64 skew, .int .i64 circ, .int .i64 glo, .int .i64 ghi, .int .i64 wrn] ∧ wx.ownsRow (w.heap.size + 1) 47 2 x3 (C i).length (flat (C i)))
  case atStart => exact ⟨0, by simp [Hid], by omega, by simp, hB1, hz1, bS1, ownq_nil _ _ HC0.out⟩
  case round =>
    clear hB1 hz1 bS1
    obtain ⟨i, hi, hi1, rfl, hB, hz, bS, hown⟩ := hrel
    have hi0 := Int.natCast_nonneg i
    obtain ⟨⟨⟨s0, s1, s2⟩, s3, s4, s5⟩, s6, s7⟩ := boxS8 bS
    by_cases hlt : (i : Int) < n1
    · have hle : glo + (i : Int) ≤ ghi := by omega
      have hin : i < n1 := by omega
      have HOW : Hid (wr.ownsRow (w.heap.size + 1) 47 2 u3 (R i 0).length (flat (R i 0))) := by rw [HR0.out]; exact hown
      have HRS1 := Lib.hid (fun j => HRS.out i j hin)
      have HLN1 := Lib.hid (fun j => HLN.out i j hin)
      have HRE1 := Lib.hid (HRE.out i)
      clear hown hlt
      go_wp2_with fail
      obtain ⟨gko, rfl⟩ : ∃ gko, gko = gk := ⟨_, rfl⟩
      obtain ⟨wq, rfl⟩ : ∃ wq, wq = wr := ⟨_, rfl⟩
      clear s0 s1 s2 s3 s4 s5 s6 s7
      go_loopg [3, 5] n2 (fun g x3 x5 wx => ∃ j : Nat, Hid (j + g = n2) ∧ (j : Int) ≤ n2 ∧ x5 = .int .i64 (-skew + (j : Int)) ∧ Below w.heap.size w wx ∧ w.heap.size < wx.heap.size ∧ BoxS wx w.heap.size 25 #[.int .i64 full, .int .i64 read, .int .i64 slip, .int .i64 skew, .int .i64 circ, .int .i64 glo, .int .i64 ghi, .int .i64 wrn] ∧ wx.ownsRow (w.heap.size + 1) 47 2 x3 (R i j).length (flat (R i j)))
      case atStart => exact ⟨0, by simp [Hid], by omega, by simp, hB, hz, bS, HOW.out⟩
      case round =>
        clear hB hz bS HOW
        obtain ⟨j, hj, hj1, rfl, hB, hz, bS, hown⟩ := hrel
        have hj0 := Int.natCast_nonneg j
        obtain ⟨⟨⟨s0, s1, s2⟩, s3, s4, s5⟩, s6, s7⟩ := boxS8 bS
        by_cases hlt : (j : Int) < n2
        · have hle2 : -skew + (j : Int) ≤ skew := by omega
          have hjn : j < n2 := by omega
          have hw1 : IntKind.i64.wrap (-skew + (j : Int) + 1) = -skew + (j : Int) + 1 := IntWalk.i64_in _ (by omega)
          have HO := Lib.hid hown
          have hln := HLN1.out j (by omega)
          have HS1 := Lib.hid (HRS1.out j hjn)
          clear hown hlt
          go_wp2_with (at_builtin; refine wpList_pushq rfl (.tmp 25) (.tmp 29) rfl (glo + (i : Int), -skew + (j : Int)) (w.heap.size + 1) _ _ _ rfl rfl HO.out (by omega) (by omega) ?_; intro v' w3 hown3 hb3; have HO3 := Lib.hid hown3; clear hown3)
          obtain ⟨g', hg'⟩ : ∃ g', gk = g' + 1 := ⟨gk - 1, by have := hj.out; omega⟩
          go_roundg g'
          case measure => omega
          case rel =>
            refine ⟨j + 1, by have := hj.out; simp only [Hid]; omega, by omega, by simp; omega, hB.trans (hb3.mono (by omega)), by have := hb3.size; omega, (hb3.block w.heap.size (by omega)).trans bS, ?_⟩
            rw [HS1.out, flat_append, List.length_append]
            exact HO3.out
        · have e : j = n2 := by omega
          have hle2 : ¬ -skew + (j : Int) ≤ skew := by omega
          have HO : Hid (wr.ownsRow (w.heap.size + 1) 47 2 u3 (C (i + 1)).length (flat (C (i + 1)))) := by rw [← HRE1.out, ← e]; exact hown
          have hw1 : IntKind.i64.wrap (glo + (i : Int) + 1) = glo + (i : Int) + 1 := IntWalk.i64_in _ (by omega)
          clear hown hlt e
          go_wp2_with fail
          obtain ⟨g', hg'⟩ : ∃ g', gko = g' + 1 := ⟨gko - 1, by have := hi.out; omega⟩
          go_roundg g'
          case measure => omega
          case rel => exact ⟨i + 1, by have := hi.out; simp only [Hid]; omega, by omega, by simp; omega, hB, hz, bS, HO.out⟩
    · have e : i = n1 := by omega
      have hle : ¬ glo + (i : Int) ≤ ghi := by omega
      rw [e, ← HE.out] at hown
      obtain ⟨A', c', hv, hP⟩ := prs_of_own hown
      have HV := Lib.hid hv
      clear hown hv hlt e
      go_wp2_with fail
      go_returns
      exact ⟨A', c', by rw [HV.out]; rfl, hP, hB⟩
namespace Wh
theorem truth_tr {s : Desk} (hs : Ok s) {f : TrS} (h : f ∈ casesL s) : truthB s f.1 = trB s f := by
  obtain ⟨⟨h1, h2⟩, h3, h4⟩ := of_cases hs h
  unfold truthB trB inB
  simp [h1, h2, h3, h4]
/-- The truths among the first cases. -/
def fltTo (s : Desk) (k : Nat) : List Tr := vals (((casesL s).take k).filter (trB s))
theorem flt_all (s : Desk) : fltTo s (casesL s).length = vals (truthsL s) := by unfold fltTo truthsL; rw [List.take_length]
theorem flt_step {s : Desk} (hs : Ok s) {k : Nat} (hk : k < (casesL s).length) :
    (truthB s (trAt (vals (casesL s)) k) = true → fltTo s (k + 1) = fltTo s k ++ [trAt (vals (casesL s)) k]) ∧ (truthB s (trAt (vals (casesL s)) k) = false → fltTo s (k + 1) = fltTo s k) := by
  have hm : (casesL s)[k] ∈ casesL s := List.getElem_mem hk
  rw [vals_at hk, truth_tr hs hm]
  unfold fltTo
  rw [List.take_succ_eq_append_getElem hk, List.filter_append, vals_append]
  constructor
  · intro h
    congr 1
    simp [h, vals]
  · intro h
    simp [h, vals]
theorem flt_len (s : Desk) (k : Nat) : (fltTo s k).length ≤ (casesL s).length := by
  unfold fltTo
  rw [vals_len]
  refine Nat.le_trans (List.length_filter_le _ _) ?_
  rw [List.length_take]
  omega
def knE (s : Desk) (b : Bool) : Int := if okB s then (if b then (if truthsL s = [] then 3 else 0) else 1) else chkE s
def knL (s : Desk) (b : Bool) : List Tr := if knE s b = 0 then vals (truthsL s) else []
theorem knE_sp (s : Desk) : knE s true = spE s := by unfold knE spE; simp
theorem kn_of {s : Desk} {x : Int} {b : Bool} (h : knE s b = x) (hx : x ≠ 0) : knL s b = [] := by unfold knL; rw [h, if_neg hx]
end Wh
set_option maxRecDepth 100000 in
set_option maxHeartbeats 4000000 in
theorem known3_any (s : Wh.Desk) (A : Option Addr) (c : Nat) (b : Bool) (w : World) (hl : s.ws.length ≤ 1000000000) (hz : Wh.okB s = true → (Wh.casesL s).length ≤ 90000) (hg : Wks w w.heap.size A s.ws) :
    Calls Try.prog 57 #[.agg (whV s), .slice A s.ws.length c, .bool b] w (PrsEPost (Wh.knL s b) (Wh.knE s b) w) := by
  have HC : Hid (∀ W, Below w.heap.size w W → Calls Try.prog 15 #[.agg (whV s), .slice A s.ws.length c] W (ErrPost (Wh.chkE s) W)) := fun W hW => Check3_any s A c W hl ((hg.keep hW).wider hW.size)
  have HE : Hid (Wh.knE s b = if Wh.okB s then (if b then (if Wh.truthsL s = [] then 3 else 0) else 1) else Wh.chkE s) := rfl
  have HL : Hid (∀ x, Wh.knE s b = x → x ≠ 0 → Wh.knL s b = []) := fun x h hx => Wh.kn_of h hx
  have HL0 : Hid (Wh.knE s b = 0 → Wh.knL s b = Wh.vals (Wh.truthsL s)) := fun h => by unfold Hid Wh.knL at *; rw [if_pos h]
  cases hok : Wh.okB s with
  | false =>
    have hne := Wh.chkE_no hok
    have he : Hid (Wh.knE s b = Wh.chkE s) := by unfold Hid; rw [HE.out, hok]; rfl
    have hL := Lib.hid (HL.out _ he.out hne)
    have hcb : (Wh.chkE s != 0) = true := by simpa using hne
    generalize Wh.knE s b = E at *
    generalize Wh.knL s b = L at *
    clear hg hl HE HL HL0 hok hz hne
    generalize Wh.chkE s = CE at *
    obtain ⟨full, read, slip, skew, circ, glo, ghi, wrn, ws⟩ := s
    unfold whV at *
    dsimp only at *
    go_enter Try.func57, Try.ntmps57
    go_wp2_with fail
    have hB1 : Below w.heap.size w (w.alloc (.cells #[.int .i64 full, .int .i64 read, .int .i64 slip, .int .i64 skew, .int .i64 circ, .int .i64 glo, .int .i64 ghi, .int .i64 wrn] 25)) := by (repeat' (first | (with_reducible exact Below.refl _ _) | (with_reducible assumption) | (with_reducible refine Below.alloc ?_ ?_ _) | (with_reducible refine Below.drew ?_) | (with_reducible refine Below.setCell ?_ ?_ _) | go_size | (exact (by simp)) | omega))
    have bS1 := BoxS.new w 25 #[.int .i64 full, .int .i64 read, .int .i64 slip, .int .i64 skew, .int .i64 circ, .int .i64 glo, .int .i64 ghi, .int .i64 wrn]
    generalize World.alloc w _ = w1 at *
    refine (HC.out _ hB1).mono ?_
    rintro e2 w2 ⟨rfl, hb2⟩
    have bS2 := bS1.below hb2
    have hB2 := hB1.trans (hb2.mono hB1.size)
    clear bS1 hb2 hB1 HC
    go_wp2_with fail
    go_returns
    exact ⟨none, 0, by rw [hL.out, he.out]; rfl, by rw [hL.out]; exact fun h => by simp at h, hB2⟩
  | true =>
    rw [Wh.chkE_yes hok] at HC
    cases b with
    | false =>
      have he : Hid (Wh.knE s false = 1) := by unfold Hid; rw [HE.out, hok]; rfl
      have hL := Lib.hid (HL.out 1 he.out (by decide))
      generalize Wh.knE s false = E at *
      generalize Wh.knL s false = L at *
      clear hg hl HE HL HL0 hok hz
      obtain ⟨full, read, slip, skew, circ, glo, ghi, wrn, ws⟩ := s
      unfold whV at *
      dsimp only at *
      go_enter Try.func57, Try.ntmps57
      go_wp2_with fail
      have hB1 : Below w.heap.size w (w.alloc (.cells #[.int .i64 full, .int .i64 read, .int .i64 slip, .int .i64 skew, .int .i64 circ, .int .i64 glo, .int .i64 ghi, .int .i64 wrn] 25)) := by (repeat' (first | (with_reducible exact Below.refl _ _) | (with_reducible assumption) | (with_reducible refine Below.alloc ?_ ?_ _) | (with_reducible refine Below.drew ?_) | (with_reducible refine Below.setCell ?_ ?_ _) | go_size | (exact (by simp)) | omega))
      have bS1 := BoxS.new w 25 #[.int .i64 full, .int .i64 read, .int .i64 slip, .int .i64 skew, .int .i64 circ, .int .i64 glo, .int .i64 ghi, .int .i64 wrn]
      generalize World.alloc w _ = w1 at *
      refine (HC.out _ hB1).mono ?_
      rintro e2 w2 ⟨rfl, hb2⟩
      have bS2 := bS1.below hb2
      have hB2 := hB1.trans (hb2.mono hB1.size)
      clear bS1 hb2 hB1 HC
      go_wp2_with fail
      go_returns
      exact ⟨none, 0, by rw [hL.out, he.out]; rfl, by rw [hL.out]; exact fun h => by simp at h, hB2⟩
    | true =>
      have hs := Wh.ok_of hok
      have hzz := hz hok
      have he : Hid (Wh.knE s true = if Wh.truthsL s = [] then 3 else 0) := by unfold Hid; rw [HE.out, hok]; rfl
      have HP : Hid (∀ W, Calls Try.prog 54 #[.agg (whV s)] W (PrsPost (Wh.vals (Wh.casesL s)) W)) := fun W => all3_any s hs hzz W
      have HIT : Hid (∀ (f : Wh.Tr) W, Below w.heap.size w W → Calls Try.prog 36 #[.agg (whV s), .slice A s.ws.length c, .agg #[.int .i64 f.1, .int .i64 f.2]] W fun e w' => e = .returned (.bool (Wh.truthB s f)) ∧ Below W.heap.size W w') := fun f W hW => IsTruth3_any s hok A c f W ((hg.keep hW).wider hW.size)
      have hvl : (Wh.vals (Wh.casesL s)).length = (Wh.casesL s).length := Wh.vals_len _
      have HFS : Hid (∀ k, k < (Wh.vals (Wh.casesL s)).length → (Wh.truthB s (Wh.trAt (Wh.vals (Wh.casesL s)) k) = true → Wh.fltTo s (k + 1) = Wh.fltTo s k ++ [Wh.trAt (Wh.vals (Wh.casesL s)) k]) ∧ (Wh.truthB s (Wh.trAt (Wh.vals (Wh.casesL s)) k) = false → Wh.fltTo s (k + 1) = Wh.fltTo s k)) := fun k hk => Wh.flt_step hs (by rw [← hvl]; exact hk)
      have HFN : Hid (Wh.fltTo s (Wh.vals (Wh.casesL s)).length = Wh.vals (Wh.truthsL s)) := by rw [hvl]; exact Wh.flt_all s
      have HF0 : Hid (Wh.fltTo s 0 = []) := by unfold Wh.fltTo Wh.vals; simp [Hid]
      have HFL : Hid (∀ k, (Wh.fltTo s k).length ≤ 90000) := fun k => Nat.le_trans (Wh.flt_len s k) hzz
      have hnl : (Wh.vals (Wh.casesL s)).length ≤ 90000 := by rw [hvl]; exact hzz
      have HT0 : Hid (Wh.truthsL s = [] ↔ Wh.vals (Wh.truthsL s) = []) := by unfold Hid Wh.vals; simp
      clear hzz hz
      generalize Wh.vals (Wh.casesL s) = P at *
      generalize Wh.fltTo s = F at *
      generalize Wh.vals (Wh.truthsL s) = TV at *
      generalize Wh.truthB s = TB at *
      generalize Wh.truthsL s = TL at *
      generalize Wh.knE s true = E at *
      generalize Wh.knL s true = L at *
      clear hg hl HE hok hs hvl
      obtain ⟨full, read, slip, skew, circ, glo, ghi, wrn, ws⟩ := s
      unfold whV at *
      dsimp only at *
      go_enter Try.func57, Try.ntmps57
      go_wp2_with fail
      have hB1 : Below w.heap.size w (w.alloc (.cells #[.int .i64 full, .int .i64 read, .int .i64 slip, .int .i64 skew, .int .i64 circ, .int .i64 glo, .int .i64 ghi, .int .i64 wrn] 25)) := by (repeat' (first | (with_reducible exact Below.refl _ _) | (with_reducible assumption) | (with_reducible refine Below.alloc ?_ ?_ _) | (with_reducible refine Below.drew ?_) | (with_reducible refine Below.setCell ?_ ?_ _) | go_size | (exact (by simp)) | omega))
      have bS1 := BoxS.new w 25 #[.int .i64 full, .int .i64 read, .int .i64 slip, .int .i64 skew, .int .i64 circ, .int .i64 glo, .int .i64 ghi, .int .i64 wrn]
      generalize World.alloc w _ = w1 at *
      refine (HC.out _ hB1).mono ?_
      rintro e2 w2 ⟨rfl, hb2⟩
      have bS2 := bS1.below hb2
      have hB2 := hB1.trans (hb2.mono hB1.size)
      clear bS1 hb2 hB1 HC
      obtain ⟨⟨⟨s0, s1, s2⟩, s3, s4, s5⟩, s6, s7⟩ := boxS8 bS2
      have lS := bS2.lt
      go_wp2_with fail
      refine (HP.out _).mono ?_
      rintro e3 w3 ⟨A3, c3, rfl, hP3, hb3⟩
      have bS3 := bS2.below hb3
      have hB3 := hB2.trans (hb3.mono hB2.size)
      have hz3 : w.heap.size < w3.heap.size := bS3.lt
      clear s0 s1 s2 s3 s4 s5 s6 s7 lS bS2 hb3 hB2 HP
      go_wp2_with fail
      obtain ⟨wb, hwb⟩ : ∃ wb, wb = w3 := ⟨_, rfl⟩
      have hbb : Below wb.heap.size wb w3 := by rw [hwb]; exact Below.refl _ _
      have hPb : Hid (Prs wb wb.heap.size A3 P) := by rw [hwb]; exact hP3
      have hzb : w.heap.size < wb.heap.size := by rw [hwb]; exact hz3
      clear hwb hP3 hz3
      go_loopg [9, 11] P.length (fun g x9 x11 wx => ∃ k : Nat, Hid (k + g = P.length) ∧ (k : Int) ≤ P.length ∧ x11 = .int .i64 k ∧ Below w.heap.size w wx ∧ Below wb.heap.size wb wx ∧ BoxS wx w.heap.size 25 #[.int .i64 full, .int .i64 read, .int .i64 slip, .int .i64 skew, .int .i64 circ, .int .i64 glo, .int .i64 ghi, .int .i64 wrn] ∧ wx.ownsRow wb.heap.size 47 2 x9 (F k).length (flat (F k)))
      case atStart => exact ⟨0, by simp [Hid], by omega, rfl, hB3, hbb, bS3, ownq_nil _ _ HF0.out⟩
      case round =>
        clear hB3 hbb bS3
        obtain ⟨k, hk, hk1, rfl, hB, hbb, bS, hown⟩ := hrel
        have hk0 := Int.natCast_nonneg k
        by_cases hlt : (k : Int) < P.length
        · have hkn : k < P.length := by omega
          have hPk : P[k]? = some (Wh.trAt P k) := by unfold Wh.trAt; rw [List.getElem?_eq_getElem hkn]; rfl
          obtain ⟨bp, op, rfl, hbp, hcp⟩ := hPb.out (by omega)
          obtain ⟨h0, h1⟩ := hcp k _ hPk
          have HIT1 := Lib.hid (HIT.out (Wh.trAt P k))
          have HFS1 := Lib.hid (HFS.out k hkn)
          have HO := Lib.hid hown
          have hfl := HFL.out k
          have hlb := hbb.size
          have hw1 : IntKind.i64.wrap ((k : Int) + 1) = (k : Int) + 1 := IntWalk.i64_in _ (by omega)
          have HCC : Hid (∀ W', Below wr.heap.size wr W' → W'.cell? ⟨bp, op + k * 2, none⟩ = some (.int .i64 (Wh.trAt P k).1) ∧ W'.cell? ⟨bp, op + k * 2 + 1, none⟩ = some (.int .i64 (Wh.trAt P k).2)) := fun W' hW => by
            have hBW := hbb.trans (hW.mono hbb.size)
            exact ⟨(hBW.cell (p := ⟨bp, _, none⟩) hbp).trans h0, (hBW.cell (p := ⟨bp, _, none⟩) hbp).trans h1⟩
          clear h0 h1 hcp hPk hown HFS HIT HFL
          generalize TB (Wh.trAt P k) = tb at *
          generalize Wh.trAt P k = q at *
          obtain ⟨q1, q2⟩ := q
          dsimp only at HCC HIT1
          go_wp2_with fail
          refine (wpIn_wide (n := 4)).1 ?_
          have hmo : Try.prog.follows .mixedOrders = true := by kernel_rfl
          have q0 : Below wr.heap.size wr wr.drew := (Below.refl _ _).drew
          have KC : Hid (∀ W', Below wr.heap.size wr W' → (((W'.cell? ⟨w.heap.size, 0, none⟩ = some (.int .i64 full) ∧ W'.cell? ⟨w.heap.size, 1, none⟩ = some (.int .i64 read) ∧ W'.cell? ⟨w.heap.size, 2, none⟩ = some (.int .i64 slip)) ∧ W'.cell? ⟨w.heap.size, 3, none⟩ = some (.int .i64 skew) ∧ W'.cell? ⟨w.heap.size, 4, none⟩ = some (.int .i64 circ) ∧ W'.cell? ⟨w.heap.size, 5, none⟩ = some (.int .i64 glo)) ∧ W'.cell? ⟨w.heap.size, 6, none⟩ = some (.int .i64 ghi) ∧ W'.cell? ⟨w.heap.size, 7, none⟩ = some (.int .i64 wrn)) ∧ W'.cell? ⟨bp, op + k * 2, none⟩ = some (.int .i64 q1) ∧ W'.cell? ⟨bp, op + k * 2 + 1, none⟩ = some (.int .i64 q2)) := fun W' h => ⟨boxS8 (bS.below h), HCC.out W' h⟩
          refine wpIn_region_held (fun W' => Below wr.heap.size wr W') 30 hmo ?_
          refine wpHeldIn_take (i := 0) (v := ?_) (plain_of (by kernel_rfl)) rfl (by kernel_rfl) (fun _ _ _ h => h) (yieldsSoIn_of (by kernel_rfl) ?_ (fun _ => rfl)) q0 ?_; rotate_left; focus (intro wq hw; have kq := KC.out wq hw; clear hw; go_simp; try (with_reducible rfl))
          refine wpHeldIn_take (i := 1) (v := ?_) (plain_of (by kernel_rfl)) rfl (by kernel_rfl) (fun _ _ _ h => h) (yieldsSoIn_of (by kernel_rfl) ?_ (fun _ => rfl)) q0 ?_; rotate_left; focus (intro wq hw; clear hw; go_simp; try (with_reducible rfl))
          refine wpHeldIn_take (i := 2) (v := ?_) (plain_of (by kernel_rfl)) rfl (by kernel_rfl) (fun _ _ _ h => h) (yieldsSoIn_of (by kernel_rfl) ?_ (fun _ => rfl)) q0 ?_; rotate_left; focus (intro wq hw; clear hw; go_simp; try (with_reducible rfl))
          refine wpHeldIn_take (i := 3) (v := ?_) (plain_of (by kernel_rfl)) rfl (by kernel_rfl) (fun _ _ _ h => h) (yieldsSoIn_of (by kernel_rfl) ?_ (fun _ => rfl)) q0 ?_; rotate_left; focus (intro wq hw; clear hw; go_simp; try (with_reducible rfl))
          refine wpHeldIn_take (i := 4) (v := ?_) (plain_of (by kernel_rfl)) rfl (by kernel_rfl) (fun _ _ _ h => h) (yieldsSoIn_of (by kernel_rfl) ?_ (fun _ => rfl)) q0 ?_; rotate_left; focus (intro wq hw; clear hw; go_simp; try (with_reducible rfl))
          refine wpHeldIn_take (i := 5) (v := ?_) (plain_of (by kernel_rfl)) rfl (by kernel_rfl) (fun _ _ _ h => h) (yieldsSoIn_of (by kernel_rfl) ?_ (fun _ => rfl)) q0 ?_; rotate_left; focus (intro wq hw; have kq := KC.out wq hw; clear hw; go_simp; try (with_reducible rfl))
          refine wpHeldIn_one (i := 6) (by kernel_rfl) (by kernel_rfl) rfl (by kernel_rfl) (fun K1 hK1 => ?_)
          go_simp
          refine ⟨trivial, (callsIn_wide.2 (HIT1.out _ (hB.trans (q0.mono hB.size)))).mono ?_⟩
          rintro e4 w4 ⟨rfl, hb4⟩
          have q1' := q0.trans (hb4.mono q0.size)
          refine hK1 _ _ q1' ?_
          refine wpHeldIn_done (by kernel_rfl) ?_ _
          go_simp
          have bS4 := bS.below q1'
          have hB4 := hB.trans (q1'.mono hB.size)
          have hbb4 := hbb.trans (q1'.mono hbb.size)
          have HO4 := Lib.hid (ownq_below HO.out q1')
          obtain ⟨a0, a1⟩ := HCC.out w4 q1'
          have hlb4 := hbb4.size
          have hlb5 : bp < w4.heap.size := by omega
          clear KC q0 hb4 bS hB hbb HO HCC HIT1
          cases tb with
          | true =>
            have HF2 := Lib.hid (HFS1.out.1 rfl)
            go_wp2_with (at_builtin; refine wpList_pushq rfl (.tmp 35) (.tmp 40) rfl (q1, q2) wb.heap.size _ _ _ rfl rfl HO4.out (by omega) (by omega) ?_; intro v' w5 hown5 hb5; have HO5 := Lib.hid hown5; clear hown5)
            obtain ⟨g', hg'⟩ : ∃ g', gk = g' + 1 := ⟨gk - 1, by have := hk.out; omega⟩
            go_roundg g'
            case measure => omega
            case rel =>
              refine ⟨k + 1, by have := hk.out; simp only [Hid]; omega, by omega, by go_num, hB4.trans (hb5.mono (by omega)), hbb4.trans hb5, (hb5.block w.heap.size (by omega)).trans bS4, ?_⟩
              rw [HF2.out, flat_append, List.length_append]
              exact HO5.out
          | false =>
            have HF2 := Lib.hid (HFS1.out.2 rfl)
            go_wp2_with fail
            obtain ⟨g', hg'⟩ : ∃ g', gk = g' + 1 := ⟨gk - 1, by have := hk.out; omega⟩
            go_roundg g'
            case measure => omega
            case rel => exact ⟨k + 1, by have := hk.out; simp only [Hid]; omega, by omega, by go_num, hB4, hbb4, bS4, by rw [HF2.out]; exact HO4.out⟩
        · have ek : k = P.length := by omega
          rw [ek, HFN.out] at hown
          obtain ⟨A', c', hv, hP⟩ := prs_of_own hown
          have HV := Lib.hid hv
          clear hown ek
          subst hv
          by_cases ht : TL = []
          · have hz : TV = [] := HT0.out.1 ht
            have he1 : Hid (E = 3) := by unfold Hid; rw [he.out, if_pos ht]
            have hL := Lib.hid (HL.out 3 he1.out (by decide))
            have hn0 : ((TV.length : Int) == 0) = true := by rw [hz]; rfl
            clear hz ht
            go_wp2_with fail
            go_returns
            exact ⟨none, 0, by rw [hL.out, he1.out]; rfl, by rw [hL.out]; exact fun h => by simp at h, hB⟩
          · have hz : ¬ TV = [] := fun h => ht (HT0.out.2 h)
            have he1 : Hid (E = 0) := by unfold Hid; rw [he.out, if_neg ht]
            have hL := Lib.hid (HL0.out he1.out)
            have hn0 : ((TV.length : Int) == 0) = false := by
              have : TV.length ≠ 0 := fun h => hz (List.eq_nil_of_length_eq_zero h)
              simp; exact hz
            clear hz ht
            go_wp2_with fail
            go_returns
            exact ⟨A', c', by rw [hL.out, he1.out]; rfl, by rw [hL.out]; exact hP, hB⟩
end Go.Proofs.Ytecmlakcpgkfbaa
