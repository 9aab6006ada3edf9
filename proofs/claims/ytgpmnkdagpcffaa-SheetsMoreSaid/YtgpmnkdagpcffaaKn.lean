/- Sheets: the reference's pairs of factors, and its truths, as lists. -/
import Derived.Test.YtgpmnkdagpcffaaShY
import Derived.Test.YtgpmnkdagpcffaaShOA
namespace Go.Proofs.Ytgpmnkdagpcffaa
open Go.RowKit
namespace Sh
def vals (L : List FaS) : List Fa := L.map (·.1)
theorem vals_append (a b : List FaS) : vals (a ++ b) = vals a ++ vals b := List.map_append
theorem vals_len (a : List FaS) : (vals a).length = a.length := List.length_map _
theorem row_zero (s : Sheet) (i : Nat) : rowTo s i 0 = [] := rfl
theorem pairs_step {s : Sheet} (hs : Ok s) {i j : Nat} (hi : i < na s) (hj : j < nb s) : vals (casesTo s i ++ rowTo s i (j + 1)) = vals (casesTo s i ++ rowTo s i j) ++ [(s.al + (i : Int), s.bl + (j : Int))] := by
  have h1 := hs.a1
  have h2 := hs.a3
  have h3 := hs.b1
  have h4 := hs.b3
  unfold na at hi
  unfold nb at hj
  rw [rowTo_succ, ← List.append_assoc, vals_append]
  congr 1
  show [(faOf (s.al + (i : Int), s.bl + (j : Int))).1] = _
  rw [faOf_val (by unfold fsm; dsimp only; omega)]
theorem pairs_len {s : Sheet} (hs : Ok s) {i j : Nat} (hi : i < na s) (hj : j ≤ nb s) : (vals (casesTo s i ++ rowTo s i j)).length ≤ 40401 := by
  rw [vals_len]
  exact Nat.le_trans (part_pre s hi hj).length_le (casesL_len s hs)
end Sh
theorem pair_info4 : (Try.prog.info? 70).map (fun i => (i.zero, i.size, i.bytes)) = some (some (.agg #[.int .i64 0, .int .i64 0]), 2, 16) := by kernel_rfl
theorem own_form2 {w : World} {B : Nat} {e : TypeId} {v : Value} {n : Nat} {xs : List Value} (h : w.ownsRow B e 2 v n xs) : ∃ A c, v = .slice A n c := by
  rcases h.2 with ⟨rfl, rfl⟩ | ⟨g, cap, cur, rfl, _⟩
  · exact ⟨none, 0, rfl⟩
  · exact ⟨some ⟨g, 0, none⟩, cap, rfl⟩
theorem info_partsQ {o : Option TypeInfo} {z : Option Value} {n b : Nat} (h : o.map (fun i => (i.zero, i.size, i.bytes)) = some (z, n, b)) : ∃ i, o = some i ∧ i.zero = z ∧ i.size = n ∧ i.bytes = b := by
  cases o with
  | none => cases h
  | some i => simp at h; exact ⟨i, rfl, h.1, h.2.1, h.2.2⟩
theorem reads_q (w : World) (T : TypeId) (g : Int × Int) : Reads (w.alloc (.cells #[.int .i64 g.1, .int .i64 g.2] T)) (w.heap.size + 1) 2 (some ⟨w.heap.size, 0, none⟩) 1 (flat [g]) := by
  refine ⟨rfl, fun _ => ⟨_, rfl, by simp, fun j u hu => ?_⟩⟩
  match j with
  | 0 =>
    have hu' : u = .int .i64 g.1 := by simpa [flat] using hu.symm
    subst hu'
    show (w.alloc _).cell? ⟨w.heap.size, 0, none⟩ = _
    go_cell
  | 1 =>
    have hu' : u = .int .i64 g.2 := by simpa [flat] using hu.symm
    subst hu'
    show (w.alloc _).cell? ⟨w.heap.size, 1, none⟩ = _
    go_cell
  | j + 2 => simp [flat] at hu
/-- 'out = append(out, g)' on a row of the call's own. -/
theorem wpList_pushq {ops : Array Oper} {rest : List Oper} {o : Oper} {a : Act} {Q : Exit → Act → World → Prop} {wr : World} (hgd : o.guard = none) (s y : Operand)
    (ho : o.op = .call { callee := .builtin .append, args := #[s, y], argTypes := #[114, 114] }) (g : Int × Int) (B : Nat) (v : Value) (n : Nat) (xs : List Value) (hs : a.eval s = v)
    (hx : a.eval y = .slice (some ⟨wr.heap.size, 0, none⟩) 1 1) (hown : wr.ownsRow B 70 2 v n xs) (hB : B ≤ wr.heap.size) (hn : n ≤ 100000)
    (h : ∀ v' w', w'.ownsRow B 70 2 v' (n + 1) (xs ++ flat [g]) → Below B wr w' → wpList Try.prog ops Q rest (a.put o.dst v') w') :
    wpList Try.prog ops Q (o :: rest) a (wr.alloc (.cells #[.int .i64 g.1, .int .i64 g.2] 70)) := by
  obtain ⟨i0, hi0, hz0, hz1, hz2⟩ := info_partsQ pair_info4
  refine wpList_append_any _ hgd s y 114 ho B 70 i0 (.agg #[.int .i64 0, .int .i64 0]) 2 16 Try.underlying114 hi0 hz0 hz1 hz2 rfl (by decide) v n xs hs (hown.alloc _) (wr.heap.size + 1) (some ⟨wr.heap.size, 0, none⟩) 1 1 (flat [g]) hx (reads_q wr _ g) (flat_one [g]) (by simp only [maxLen]; omega) (by omega) (by simp; omega) ?_
  intro v' w' hown' hgr _
  exact h v' w' hown' (((Below.refl B wr).alloc hB _).grown hgr (by simp; omega) (fun j hj => (hown.lt j hj).1))
theorem ownq_nil (w : World) (B : Nat) {L : List (Int × Int)} (h : L = []) : w.ownsRow B 70 2 (.slice none 0 0) L.length (flat L) := by subst h; exact ⟨rfl, .inl ⟨rfl, rfl⟩⟩
theorem ownq_below {w w' : World} {B : Nat} {v : Value} {n : Nat} {xs : List Value} (h : w.ownsRow B 70 2 v n xs) (hb : Below w.heap.size w w') : w'.ownsRow B 70 2 v n xs :=
  h.kept (row := none) ⟨hb.os, hb.tape, hb.output, hb.size, fun k hk _ => hb.block k hk⟩ (by cases hv : v.ownBlock <;> simp)
theorem prs_of_own {w : World} {B : Nat} {L : List (Int × Int)} {v : Value} (h : w.ownsRow B 70 2 v L.length (flat L)) : ∃ A c, v = .slice A L.length c ∧ Hid (Prs w w.heap.size A L) := by
  obtain ⟨A, c, rfl⟩ := own_form2 h
  exact ⟨A, c, rfl, Prs.of_reads (Reads.of_own h)⟩
/-- A list of pairs. -/
def PrsPost (L : List (Int × Int)) (w : World) (e : Ending) (w' : World) : Prop := ∃ A c, e = .returned (.slice A L.length c) ∧ Hid (Prs w' w'.heap.size A L) ∧ Below w.heap.size w w'
def PrsEPost (L : List (Int × Int)) (x : Int) (w : World) (e : Ending) (w' : World) : Prop := ∃ A c, e = .returned (.tuple #[.slice A L.length c, .int .i64 x]) ∧ Hid (Prs w' w'.heap.size A L) ∧ Below w.heap.size w w'

set_option maxRecDepth 100000 in
set_option maxHeartbeats 4000000 in
theorem pairs4_any (s : Sheet) (hs : Sh.Ok s) (A : Option Addr) (c : Nat) (w : World) :
    Calls Try.prog 98 #[.agg (shV s A c)] w (PrsPost (Sh.vals (Sh.casesL s)) w) := by
  have ha1 := hs.a1
  have ha2 := hs.a2
  have ha3 := hs.a3
  have hb1 := hs.b1
  have hb2 := hs.b2
  have hb3 := hs.b3
  have hN1 : s.al + ((Sh.na s : Nat) : Int) = s.ah + 1 := by unfold Sh.na; omega
  have hN2 : s.bl + ((Sh.nb s : Nat) : Int) = s.bh + 1 := by unfold Sh.nb; omega
  have HE : Hid (Sh.vals (Sh.casesL s) = Sh.vals (Sh.casesTo s (Sh.na s))) := rfl
  have HR0 : Hid (∀ i, Sh.vals (Sh.casesTo s i ++ Sh.rowTo s i 0) = Sh.vals (Sh.casesTo s i)) := fun i => by rw [Sh.row_zero, List.append_nil]
  have HRE : Hid (∀ i, Sh.vals (Sh.casesTo s i ++ Sh.rowTo s i (Sh.nb s)) = Sh.vals (Sh.casesTo s (i + 1))) := fun i => by rw [Sh.casesTo_succ]
  have HRS : Hid (∀ i j, i < Sh.na s → j < Sh.nb s → Sh.vals (Sh.casesTo s i ++ Sh.rowTo s i (j + 1)) = Sh.vals (Sh.casesTo s i ++ Sh.rowTo s i j) ++ [(s.al + (i : Int), s.bl + (j : Int))]) := fun i j hi hj => Sh.pairs_step hs hi hj
  have HLN : Hid (∀ i j, i < Sh.na s → j ≤ Sh.nb s → (Sh.vals (Sh.casesTo s i ++ Sh.rowTo s i j)).length ≤ 40401) := fun i j hi hj => Sh.pairs_len hs hi hj
  have HC0 : Hid (Sh.vals (Sh.casesTo s 0) = []) := rfl
  generalize Sh.vals (Sh.casesL s) = LL at *
  generalize Sh.na s = n1 at *
  generalize Sh.nb s = n2 at *
  obtain ⟨C, hC⟩ : ∃ C : Nat → List Sh.Fa, ∀ i, C i = Sh.vals (Sh.casesTo s i) := ⟨_, fun _ => rfl⟩
  obtain ⟨R, hR⟩ : ∃ R : Nat → Nat → List Sh.Fa, ∀ i j, R i j = Sh.vals (Sh.casesTo s i ++ Sh.rowTo s i j) := ⟨_, fun _ _ => rfl⟩
  simp only [← hC, ← hR] at HE HR0 HRE HRS HLN HC0
  clear hC hR hs
  obtain ⟨al, ah, bl, bh, cs, wrn⟩ := s
  unfold shV
  dsimp only at *
  go_enter Try.func98, Try.ntmps98
  go_wp2_with fail
  have bS1 := BoxS.new w 26 #[.int .i64 al, .int .i64 ah, .int .i64 bl, .int .i64 bh, .slice A cs.length c, .int .i64 wrn]
  have hB1 : Below w.heap.size w (w.alloc (.cells #[.int .i64 al, .int .i64 ah, .int .i64 bl, .int .i64 bh, .slice A cs.length c, .int .i64 wrn] 26)) := by (repeat' (first | (with_reducible exact Below.refl _ _) | (with_reducible assumption) | (with_reducible refine Below.alloc ?_ ?_ _) | (with_reducible refine Below.drew ?_) | (with_reducible refine Below.setCell ?_ ?_ _) | go_size | (exact (by simp)) | omega))
  have hz1 : w.heap.size < (w.alloc (.cells #[.int .i64 al, .int .i64 ah, .int .i64 bl, .int .i64 bh, .slice A cs.length c, .int .i64 wrn] 26)).heap.size := by simp
  generalize World.alloc w _ = w1 at *
  go_loopg [3, 4] n1 (fun g x3 x4 wx => ∃ i : Nat, Hid (i + g = n1) ∧ (i : Int) ≤ n1 ∧ x4 = .int .i64 (al + (i : Int)) ∧ Below w.heap.size w wx ∧ w.heap.size < wx.heap.size ∧ BoxS wx w.heap.size 26 #[.int .i64 al, .int .i64 ah, .int .i64 bl, .int .i64 bh, .slice A cs.length c, .int .i64 wrn] ∧ wx.ownsRow (w.heap.size + 1) 70 2 x3 (C i).length (flat (C i)))
  case atStart => exact ⟨0, by simp [Hid], by omega, by simp, hB1, hz1, bS1, ownq_nil _ _ HC0.out⟩
  case round =>
    clear hB1 hz1 bS1
    obtain ⟨i, hi, hi1, rfl, hB, hz, bS, hown⟩ := hrel
    have hi0 := Int.natCast_nonneg i
    obtain ⟨⟨s0, s1, s2⟩, s3, s4, s5⟩ := boxS6 bS
    by_cases hlt : (i : Int) < n1
    · have hle : al + (i : Int) ≤ ah := by omega
      have hin : i < n1 := by omega
      have HOW : Hid (wr.ownsRow (w.heap.size + 1) 70 2 u3 (R i 0).length (flat (R i 0))) := by rw [HR0.out]; exact hown
      have HRS1 := Lib.hid (fun j => HRS.out i j hin)
      have HLN1 := Lib.hid (fun j => HLN.out i j hin)
      have HRE1 := Lib.hid (HRE.out i)
      clear hown hlt
      go_wp2_with fail
      obtain ⟨gko, rfl⟩ : ∃ gko, gko = gk := ⟨_, rfl⟩
      obtain ⟨wq, rfl⟩ : ∃ wq, wq = wr := ⟨_, rfl⟩
      clear s0 s1 s2 s3 s4 s5
      go_loopg [3, 5] n2 (fun g x3 x5 wx => ∃ j : Nat, Hid (j + g = n2) ∧ (j : Int) ≤ n2 ∧ x5 = .int .i64 (bl + (j : Int)) ∧ Below w.heap.size w wx ∧ w.heap.size < wx.heap.size ∧ BoxS wx w.heap.size 26 #[.int .i64 al, .int .i64 ah, .int .i64 bl, .int .i64 bh, .slice A cs.length c, .int .i64 wrn] ∧ wx.ownsRow (w.heap.size + 1) 70 2 x3 (R i j).length (flat (R i j)))
      case atStart => exact ⟨0, by simp [Hid], by omega, by simp, hB, hz, bS, HOW.out⟩
      case round =>
        clear hB hz bS HOW
        obtain ⟨j, hj, hj1, rfl, hB, hz, bS, hown⟩ := hrel
        have hj0 := Int.natCast_nonneg j
        obtain ⟨⟨s0, s1, s2⟩, s3, s4, s5⟩ := boxS6 bS
        by_cases hlt : (j : Int) < n2
        · have hle2 : bl + (j : Int) ≤ bh := by omega
          have hjn : j < n2 := by omega
          have hw1 : IntKind.i64.wrap (bl + (j : Int) + 1) = bl + (j : Int) + 1 := IntWalk.i64_in _ (by omega)
          have HO := Lib.hid hown
          have hln := HLN1.out j (by omega)
          have HS1 := Lib.hid (HRS1.out j hjn)
          clear hown hlt
          go_wp2_with (at_builtin; refine wpList_pushq rfl (.tmp 26) (.tmp 30) rfl (al + (i : Int), bl + (j : Int)) (w.heap.size + 1) _ _ _ rfl rfl HO.out (by omega) (by omega) ?_; intro v' w3 hown3 hb3; have HO3 := Lib.hid hown3; clear hown3)
          obtain ⟨g', hg'⟩ : ∃ g', gk = g' + 1 := ⟨gk - 1, by have := hj.out; omega⟩
          go_roundg g'
          case measure => omega
          case rel =>
            refine ⟨j + 1, by have := hj.out; simp only [Hid]; omega, by omega, by simp; omega, hB.trans (hb3.mono (by omega)), by have := hb3.size; omega, (hb3.block w.heap.size (by omega)).trans bS, ?_⟩
            rw [HS1.out, flat_append, List.length_append]
            exact HO3.out
        · have e : j = n2 := by omega
          have hle2 : ¬ bl + (j : Int) ≤ bh := by omega
          have HO : Hid (wr.ownsRow (w.heap.size + 1) 70 2 u3 (C (i + 1)).length (flat (C (i + 1)))) := by rw [← HRE1.out, ← e]; exact hown
          have hw1 : IntKind.i64.wrap (al + (i : Int) + 1) = al + (i : Int) + 1 := IntWalk.i64_in _ (by omega)
          clear hown hlt e
          go_wp2_with fail
          obtain ⟨g', hg'⟩ : ∃ g', gko = g' + 1 := ⟨gko - 1, by have := hi.out; omega⟩
          go_roundg g'
          case measure => omega
          case rel => exact ⟨i + 1, by have := hi.out; simp only [Hid]; omega, by omega, by simp; omega, hB, hz, bS, HO.out⟩
    · have e : i = n1 := by omega
      have hle : ¬ al + (i : Int) ≤ ah := by omega
      rw [e, ← HE.out] at hown
      obtain ⟨A', c', hv, hP⟩ := prs_of_own hown
      have HV := Lib.hid hv
      clear hown hv hlt e
      go_wp2_with fail
      go_returns
      exact ⟨A', c', by rw [HV.out]; rfl, hP, hB⟩
end Go.Proofs.Ytgpmnkdagpcffaa

namespace Go.Proofs.Ytgpmnkdagpcffaa
open Go.RowKit
namespace Sh
theorem cases_in {s : Sheet} (hs : Ok s) {f : FaS} (h : f ∈ casesL s) : (s.al ≤ f.1.1 ∧ f.1.1 ≤ s.ah) ∧ s.bl ≤ f.1.2 ∧ f.1.2 ≤ s.bh := by
  have h1 := hs.a1
  have h2 := hs.a3
  have h3 := hs.b1
  have h4 := hs.b3
  unfold casesL casesTo rowTo na nb at h
  rw [List.mem_flatMap] at h
  obtain ⟨i, hi, h⟩ := h
  rw [List.mem_map] at h
  obtain ⟨j, hj, rfl⟩ := h
  rw [List.mem_range] at hi hj
  rw [faOf_val (by unfold fsm; dsimp only; omega)]
  dsimp only
  omega
theorem truth_tr {s : Sheet} (hs : Ok s) {f : FaS} (h : f ∈ casesL s) : truthB s f.1 = trB s f := by
  obtain ⟨⟨h1, h2⟩, h3, h4⟩ := cases_in hs h
  unfold truthB trB inB
  simp [h1, h2, h3, h4]
/-- The truths among the first cases. -/
def fltTo (s : Sheet) (k : Nat) : List Fa := vals (((casesL s).take k).filter (trB s))
theorem flt_all (s : Sheet) : fltTo s (casesL s).length = vals (truthsL s) := by unfold fltTo truthsL; rw [List.take_length]
theorem flt_step {s : Sheet} (hs : Ok s) {k : Nat} (hk : k < (casesL s).length) :
    (truthB s (Geo.ptAt (vals (casesL s)) k) = true → fltTo s (k + 1) = fltTo s k ++ [Geo.ptAt (vals (casesL s)) k]) ∧ (truthB s (Geo.ptAt (vals (casesL s)) k) = false → fltTo s (k + 1) = fltTo s k) := by
  have e : Geo.ptAt (vals (casesL s)) k = ((casesL s)[k]).1 := by unfold Geo.ptAt vals; rw [List.getElem?_map, List.getElem?_eq_getElem hk]; rfl
  have hm : (casesL s)[k] ∈ casesL s := List.getElem_mem hk
  rw [e, truth_tr hs hm]
  unfold fltTo
  rw [List.take_succ_eq_append_getElem hk, List.filter_append, vals_append]
  constructor
  · intro h
    congr 1
    simp [h, vals]
  · intro h
    simp [h, vals]
theorem flt_len {s : Sheet} (hs : Ok s) (k : Nat) : (fltTo s k).length ≤ 40401 := by
  unfold fltTo
  rw [vals_len]
  refine Nat.le_trans (List.length_filter_le _ _) (Nat.le_trans ?_ (casesL_len s hs))
  rw [List.length_take]
  omega
def knE (s : Sheet) (e : Int) (b : Bool) : Int := if okB s then (if e = 0 then (if b then (if truthsL s = [] then 3 else 0) else 1) else e) else 40
def knL (s : Sheet) (e : Int) (b : Bool) : List Fa := if knE s e b = 0 then vals (truthsL s) else []
theorem knE_sp (s : Sheet) : knE s 0 true = spE s := by unfold knE spE; simp
theorem kn_of {s : Sheet} {e x : Int} {b : Bool} (h : knE s e b = x) (hx : x ≠ 0) : knL s e b = [] := by unfold knL; rw [h, if_neg hx]
end Sh

set_option maxRecDepth 100000 in
set_option maxHeartbeats 4000000 in
theorem known4_any (s : Sheet) (A : Option Addr) (c : Nat) (e : Int) (b : Bool) (w : World) (hl : s.cs.length ≤ 1000000000) (hg : Cts w w.heap.size A s.cs) :
    Calls Try.prog 87 #[.agg (shV s A c), .int .i64 e, .bool b] w (PrsEPost (Sh.knL s e b) (Sh.knE s e b) w) := by
  have HC : Hid (∀ W, Below w.heap.size w W → Calls Try.prog 27 #[.agg (shV s A c)] W (ErrPost (Sh.chkE s) W)) := fun W hW => refCheck4_any s A c W hl ((hg.keep hW).wider hW.size)
  have HE : Hid (Sh.knE s e b = if Sh.okB s then (if e = 0 then (if b then (if Sh.truthsL s = [] then 3 else 0) else 1) else e) else 40) := rfl
  have HL : Hid (∀ x, Sh.knE s e b = x → x ≠ 0 → Sh.knL s e b = []) := fun x h hx => Sh.kn_of h hx
  have HL0 : Hid (Sh.knE s e b = 0 → Sh.knL s e b = Sh.vals (Sh.truthsL s)) := fun h => by unfold Hid Sh.knL at *; rw [if_pos h]
  cases hok : Sh.okB s with
  | false =>
    rw [Sh.chkE_no hok] at HC
    have he : Hid (Sh.knE s e b = 40) := by unfold Hid; rw [HE.out, hok]; rfl
    have hL := Lib.hid (HL.out 40 he.out (by decide))
    generalize Sh.knE s e b = E at *
    generalize Sh.knL s e b = L at *
    clear hg hl HE HL HL0 hok
    obtain ⟨al, ah, bl, bh, cs, wrn⟩ := s
    unfold shV at HC ⊢
    dsimp only at *
    go_enter Try.func87, Try.ntmps87
    go_wp2_with fail
    have hB1 : Below w.heap.size w (w.alloc (.cells #[.int .i64 al, .int .i64 ah, .int .i64 bl, .int .i64 bh, .slice A cs.length c, .int .i64 wrn] 26)) := by (repeat' (first | (with_reducible exact Below.refl _ _) | (with_reducible assumption) | (with_reducible refine Below.alloc ?_ ?_ _) | (with_reducible refine Below.drew ?_) | (with_reducible refine Below.setCell ?_ ?_ _) | go_size | (exact (by simp)) | omega))
    generalize World.alloc w _ = w1 at *
    refine (HC.out _ hB1).mono ?_
    rintro e2 w2 ⟨rfl, hb2⟩
    have hB2 := hB1.trans (hb2.mono hB1.size)
    go_wp2_with fail
    go_returns
    exact ⟨none, 0, by rw [hL.out, he.out]; rfl, by rw [hL.out]; exact fun h => by simp at h, hB2⟩
  | true =>
    rw [Sh.chkE_yes hok] at HC
    by_cases he0 : e = 0
    · subst he0
      cases b with
      | false =>
        have he : Hid (Sh.knE s 0 false = 1) := by unfold Hid; rw [HE.out, hok]; rfl
        have hL := Lib.hid (HL.out 1 he.out (by decide))
        generalize Sh.knE s 0 false = E at *
        generalize Sh.knL s 0 false = L at *
        clear hg hl HE HL HL0 hok
        obtain ⟨al, ah, bl, bh, cs, wrn⟩ := s
        unfold shV at HC ⊢
        dsimp only at *
        go_enter Try.func87, Try.ntmps87
        go_wp2_with fail
        have hB1 : Below w.heap.size w (w.alloc (.cells #[.int .i64 al, .int .i64 ah, .int .i64 bl, .int .i64 bh, .slice A cs.length c, .int .i64 wrn] 26)) := by (repeat' (first | (with_reducible exact Below.refl _ _) | (with_reducible assumption) | (with_reducible refine Below.alloc ?_ ?_ _) | (with_reducible refine Below.drew ?_) | (with_reducible refine Below.setCell ?_ ?_ _) | go_size | (exact (by simp)) | omega))
        generalize World.alloc w _ = w1 at *
        refine (HC.out _ hB1).mono ?_
        rintro e2 w2 ⟨rfl, hb2⟩
        have hB2 := hB1.trans (hb2.mono hB1.size)
        go_wp2_with fail
        go_returns
        exact ⟨none, 0, by rw [hL.out, he.out]; rfl, by rw [hL.out]; exact fun h => by simp at h, hB2⟩
      | true =>
        have hs := Sh.ok_of hok
        have he : Hid (Sh.knE s 0 true = if Sh.truthsL s = [] then 3 else 0) := by unfold Hid; rw [HE.out, hok]; rfl
        have HP : Hid (∀ W, Calls Try.prog 98 #[.agg (shV s A c)] W (PrsPost (Sh.vals (Sh.casesL s)) W)) := fun W => pairs4_any s hs A c W
        have HIT : Hid (∀ f W, Below w.heap.size w W → Calls Try.prog 37 #[.agg (shV s A c), .agg #[.int .i64 f.1, .int .i64 f.2]] W fun e w' => e = .returned (.bool (Sh.truthB s f)) ∧ Below W.heap.size W w') := fun f W hW => IsTruth4_any s hs A c f W ((hg.keep hW).wider hW.size)
        have hvl : (Sh.vals (Sh.casesL s)).length = (Sh.casesL s).length := Sh.vals_len _
        have HFS : Hid (∀ k, k < (Sh.vals (Sh.casesL s)).length → (Sh.truthB s (Geo.ptAt (Sh.vals (Sh.casesL s)) k) = true → Sh.fltTo s (k + 1) = Sh.fltTo s k ++ [Geo.ptAt (Sh.vals (Sh.casesL s)) k]) ∧ (Sh.truthB s (Geo.ptAt (Sh.vals (Sh.casesL s)) k) = false → Sh.fltTo s (k + 1) = Sh.fltTo s k)) := fun k hk => Sh.flt_step hs (by rw [← hvl]; exact hk)
        have HFN : Hid (Sh.fltTo s (Sh.vals (Sh.casesL s)).length = Sh.vals (Sh.truthsL s)) := by rw [hvl]; exact Sh.flt_all s
        have HF0 : Hid (Sh.fltTo s 0 = []) := by unfold Sh.fltTo Sh.vals; simp [Hid]
        have HFL : Hid (∀ k, (Sh.fltTo s k).length ≤ 40401) := fun k => Sh.flt_len hs k
        have hnl : (Sh.vals (Sh.casesL s)).length ≤ 40401 := by rw [hvl]; exact Sh.casesL_len s hs
        have HT0 : Hid (Sh.truthsL s = [] ↔ Sh.vals (Sh.truthsL s) = []) := by unfold Hid Sh.vals; simp
        generalize Sh.vals (Sh.casesL s) = P at *
        generalize Sh.fltTo s = F at *
        generalize Sh.vals (Sh.truthsL s) = TV at *
        generalize Sh.truthB s = TB at *
        generalize Sh.truthsL s = TL at *
        generalize Sh.knE s 0 true = E at *
        generalize Sh.knL s 0 true = L at *
        clear hg hl HE hok hs hvl
        obtain ⟨al, ah, bl, bh, cs, wrn⟩ := s
        unfold shV at HC HP HIT ⊢
        dsimp only at *
        go_enter Try.func87, Try.ntmps87
        go_wp2_with fail
        have hB1 : Below w.heap.size w (w.alloc (.cells #[.int .i64 al, .int .i64 ah, .int .i64 bl, .int .i64 bh, .slice A cs.length c, .int .i64 wrn] 26)) := by (repeat' (first | (with_reducible exact Below.refl _ _) | (with_reducible assumption) | (with_reducible refine Below.alloc ?_ ?_ _) | (with_reducible refine Below.drew ?_) | (with_reducible refine Below.setCell ?_ ?_ _) | go_size | (exact (by simp)) | omega))
        have bS1 := BoxS.new w 26 #[.int .i64 al, .int .i64 ah, .int .i64 bl, .int .i64 bh, .slice A cs.length c, .int .i64 wrn]
        generalize World.alloc w _ = w1 at *
        refine (HC.out _ hB1).mono ?_
        rintro e2 w2 ⟨rfl, hb2⟩
        have bS2 := bS1.below hb2
        have hB2 := hB1.trans (hb2.mono hB1.size)
        clear bS1 hb2 hB1 HC
        obtain ⟨⟨s0, s1, s2⟩, s3, s4, s5⟩ := boxS6 bS2
        go_wp2_with fail
        refine (HP.out _).mono ?_
        rintro e3 w3 ⟨A3, c3, rfl, hP3, hb3⟩
        have bS3 := bS2.below hb3
        have hB3 := hB2.trans (hb3.mono hB2.size)
        have hz3 : w.heap.size < w3.heap.size := bS3.lt
        clear s0 s1 s2 s3 s4 s5 bS2 hb3 hB2 HP
        go_wp2_with fail
        obtain ⟨wb, hwb⟩ : ∃ wb, wb = w3 := ⟨_, rfl⟩
        have hbb : Below wb.heap.size wb w3 := by rw [hwb]; exact Below.refl _ _
        have hPb : Hid (Prs wb wb.heap.size A3 P) := by rw [hwb]; exact hP3
        have hzb : w.heap.size < wb.heap.size := by rw [hwb]; exact hz3
        clear hwb hP3 hz3
        go_loopg [9, 11] P.length (fun g x9 x11 wx => ∃ k : Nat, Hid (k + g = P.length) ∧ (k : Int) ≤ P.length ∧ x11 = .int .i64 k ∧ Below w.heap.size w wx ∧ Below wb.heap.size wb wx ∧ BoxS wx w.heap.size 26 #[.int .i64 al, .int .i64 ah, .int .i64 bl, .int .i64 bh, .slice A cs.length c, .int .i64 wrn] ∧ wx.ownsRow wb.heap.size 70 2 x9 (F k).length (flat (F k)))
        case atStart => exact ⟨0, by simp [Hid], by omega, rfl, hB3, hbb, bS3, ownq_nil _ _ HF0.out⟩
        case round =>
          clear hB3 hbb bS3
          obtain ⟨k, hk, hk1, rfl, hB, hbb, bS, hown⟩ := hrel
          have hk0 := Int.natCast_nonneg k
          by_cases hlt : (k : Int) < P.length
          · have hkn : k < P.length := by omega
            have hPk : P[k]? = some (Geo.ptAt P k) := by unfold Geo.ptAt; rw [List.getElem?_eq_getElem hkn]; rfl
            obtain ⟨bp, op, rfl, hbp, hcp⟩ := hPb.out (by omega)
            obtain ⟨h0, h1⟩ := hcp k _ hPk
            have HIT1 := Lib.hid (HIT.out (Geo.ptAt P k))
            have HFS1 := Lib.hid (HFS.out k hkn)
            have HO := Lib.hid hown
            have hfl := HFL.out k
            have hlb := hbb.size
            have hw1 : IntKind.i64.wrap ((k : Int) + 1) = (k : Int) + 1 := IntWalk.i64_in _ (by omega)
            have HCC : Hid (∀ W', Below wr.heap.size wr W' → W'.cell? ⟨bp, op + k * 2, none⟩ = some (.int .i64 (Geo.ptAt P k).1) ∧ W'.cell? ⟨bp, op + k * 2 + 1, none⟩ = some (.int .i64 (Geo.ptAt P k).2)) := fun W' hW => by
              have hBW := hbb.trans (hW.mono hbb.size)
              exact ⟨(hBW.cell (p := ⟨bp, _, none⟩) hbp).trans h0, (hBW.cell (p := ⟨bp, _, none⟩) hbp).trans h1⟩
            clear h0 h1 hcp hPk hown HFS HIT HFL
            generalize TB (Geo.ptAt P k) = tb at *
            generalize Geo.ptAt P k = q at *
            obtain ⟨q1, q2⟩ := q
            dsimp only at HCC HIT1
            go_wp2_with fail
            refine (wpIn_wide (n := 4)).1 ?_
            have hmo : Try.prog.follows .mixedOrders = true := by kernel_rfl
            have q0 : Below wr.heap.size wr wr.drew := (Below.refl _ _).drew
            have KC : Hid (∀ W', Below wr.heap.size wr W' → ((W'.cell? ⟨w.heap.size, 0, none⟩ = some (.int .i64 al) ∧ W'.cell? ⟨w.heap.size, 1, none⟩ = some (.int .i64 ah) ∧ W'.cell? ⟨w.heap.size, 2, none⟩ = some (.int .i64 bl)) ∧ W'.cell? ⟨w.heap.size, 3, none⟩ = some (.int .i64 bh) ∧ W'.cell? ⟨w.heap.size, 4, none⟩ = some (.slice A cs.length c) ∧ W'.cell? ⟨w.heap.size, 5, none⟩ = some (.int .i64 wrn)) ∧ W'.cell? ⟨bp, op + k * 2, none⟩ = some (.int .i64 q1) ∧ W'.cell? ⟨bp, op + k * 2 + 1, none⟩ = some (.int .i64 q2)) := fun W' h => ⟨boxS6 (bS.below h), HCC.out W' h⟩
            refine wpIn_region_held (fun W' => Below wr.heap.size wr W') 30 hmo ?_
            refine wpHeldIn_take (i := 0) (v := ?_) (plain_of (by kernel_rfl)) rfl (by kernel_rfl) (fun _ _ _ h => h) (yieldsSoIn_of (by kernel_rfl) ?_ (fun _ => rfl)) q0 ?_; rotate_left; focus (intro wq hw; have kq := KC.out wq hw; clear hw; go_simp; try (with_reducible rfl))
            refine wpHeldIn_take (i := 1) (v := ?_) (plain_of (by kernel_rfl)) rfl (by kernel_rfl) (fun _ _ _ h => h) (yieldsSoIn_of (by kernel_rfl) ?_ (fun _ => rfl)) q0 ?_; rotate_left; focus (intro wq hw; clear hw; go_simp; try (with_reducible rfl))
            refine wpHeldIn_take (i := 2) (v := ?_) (plain_of (by kernel_rfl)) rfl (by kernel_rfl) (fun _ _ _ h => h) (yieldsSoIn_of (by kernel_rfl) ?_ (fun _ => rfl)) q0 ?_; rotate_left; focus (intro wq hw; clear hw; go_simp; try (with_reducible rfl))
            refine wpHeldIn_take (i := 3) (v := ?_) (plain_of (by kernel_rfl)) rfl (by kernel_rfl) (fun _ _ _ h => h) (yieldsSoIn_of (by kernel_rfl) ?_ (fun _ => rfl)) q0 ?_; rotate_left; focus (intro wq hw; clear hw; go_simp; try (with_reducible rfl))
            refine wpHeldIn_take (i := 4) (v := ?_) (plain_of (by kernel_rfl)) rfl (by kernel_rfl) (fun _ _ _ h => h) (yieldsSoIn_of (by kernel_rfl) ?_ (fun _ => rfl)) q0 ?_; rotate_left; focus (intro wq hw; have kq := KC.out wq hw; clear hw; go_simp; try (with_reducible rfl))
            refine wpHeldIn_one (i := 5) (by kernel_rfl) (by kernel_rfl) rfl (by kernel_rfl) (fun K1 hK1 => ?_)
            go_simp
            refine ⟨trivial, (callsIn_wide.2 (HIT1.out _ (hB.trans (q0.mono hB.size)))).mono ?_⟩
            rintro e4 w4 ⟨rfl, hb4⟩
            have q1' := q0.trans (hb4.mono q0.size)
            refine hK1 _ _ q1' ?_
            refine wpHeldIn_done (by kernel_rfl) ?_ _
            go_simp
            have bS4 := bS.below q1'
            have hB4 := hB.trans (q1'.mono hB.size)
            have hbb4 := hbb.trans (q1'.mono hbb.size)
            have HO4 := Lib.hid (ownq_below HO.out q1')
            obtain ⟨a0, a1⟩ := HCC.out w4 q1'
            have hlb4 := hbb4.size
            have hlb5 : bp < w4.heap.size := by omega
            clear KC q0 hb4 bS hB hbb HO HCC HIT1
            cases tb with
            | true =>
              have HF2 := Lib.hid (HFS1.out.1 rfl)
              go_wp2_with (at_builtin; refine wpList_pushq rfl (.tmp 36) (.tmp 41) rfl (q1, q2) wb.heap.size _ _ _ rfl rfl HO4.out (by omega) (by omega) ?_; intro v' w5 hown5 hb5; have HO5 := Lib.hid hown5; clear hown5)
              obtain ⟨g', hg'⟩ : ∃ g', gk = g' + 1 := ⟨gk - 1, by have := hk.out; omega⟩
              go_roundg g'
              case measure => omega
              case rel =>
                refine ⟨k + 1, by have := hk.out; simp only [Hid]; omega, by omega, by go_num, hB4.trans (hb5.mono (by omega)), hbb4.trans hb5, (hb5.block w.heap.size (by omega)).trans bS4, ?_⟩
                rw [HF2.out, flat_append, List.length_append]
                exact HO5.out
            | false =>
              have HF2 := Lib.hid (HFS1.out.2 rfl)
              go_wp2_with fail
              obtain ⟨g', hg'⟩ : ∃ g', gk = g' + 1 := ⟨gk - 1, by have := hk.out; omega⟩
              go_roundg g'
              case measure => omega
              case rel => exact ⟨k + 1, by have := hk.out; simp only [Hid]; omega, by omega, by go_num, hB4, hbb4, bS4, by rw [HF2.out]; exact HO4.out⟩
          · have ek : k = P.length := by omega
            rw [ek, HFN.out] at hown
            obtain ⟨A', c', hv, hP⟩ := prs_of_own hown
            have HV := Lib.hid hv
            clear hown ek
            subst hv
            by_cases ht : TL = []
            · have hz : TV = [] := HT0.out.1 ht
              have he1 : Hid (E = 3) := by unfold Hid; rw [he.out, if_pos ht]
              have hL := Lib.hid (HL.out 3 he1.out (by decide))
              have hn0 : ((TV.length : Int) == 0) = true := by rw [hz]; rfl
              clear hz ht
              go_wp2_with fail
              go_returns
              exact ⟨none, 0, by rw [hL.out, he1.out]; rfl, by rw [hL.out]; exact fun h => by simp at h, hB⟩
            · have hz : ¬ TV = [] := fun h => ht (HT0.out.2 h)
              have he1 : Hid (E = 0) := by unfold Hid; rw [he.out, if_neg ht]
              have hL := Lib.hid (HL0.out he1.out)
              have hn0 : ((TV.length : Int) == 0) = false := by
                have : TV.length ≠ 0 := fun h => hz (List.eq_nil_of_length_eq_zero h)
                simp; exact hz
              clear hz ht
              go_wp2_with fail
              go_returns
              exact ⟨A', c', by rw [hL.out, he1.out]; rfl, by rw [hL.out]; exact hP, hB⟩
    · have he : Hid (Sh.knE s e b = e) := by unfold Hid; rw [HE.out, hok, if_pos rfl, if_neg he0]
      have hL := Lib.hid (HL.out e he.out he0)
      have hne : (e != 0) = true := by simpa using he0
      have HEE := Lib.hid he.out
      generalize Sh.knE s e b = E at *
      generalize Sh.knL s e b = L at *
      clear hg hl HE HL HL0 hok he0 he
      obtain ⟨al, ah, bl, bh, cs, wrn⟩ := s
      unfold shV at HC ⊢
      dsimp only at *
      go_enter Try.func87, Try.ntmps87
      go_wp2_with fail
      have hB1 : Below w.heap.size w (w.alloc (.cells #[.int .i64 al, .int .i64 ah, .int .i64 bl, .int .i64 bh, .slice A cs.length c, .int .i64 wrn] 26)) := by (repeat' (first | (with_reducible exact Below.refl _ _) | (with_reducible assumption) | (with_reducible refine Below.alloc ?_ ?_ _) | (with_reducible refine Below.drew ?_) | (with_reducible refine Below.setCell ?_ ?_ _) | go_size | (exact (by simp)) | omega))
      generalize World.alloc w _ = w1 at *
      refine (HC.out _ hB1).mono ?_
      rintro e2 w2 ⟨rfl, hb2⟩
      have hB2 := hB1.trans (hb2.mono hB1.size)
      go_wp2_with fail
      go_returns
      exact ⟨none, 0, by rw [hL.out, HEE.out]; rfl, by rw [hL.out]; exact fun h => by simp at h, hB2⟩
end Go.Proofs.Ytgpmnkdagpcffaa

namespace Go.Proofs.Ytgpmnkdagpcffaa
open Go.RowKit
namespace Sh
def knR (some many : Int) : Int := if some = many then 1 else if some = 0 then 2 else 3
def cntTo (tb : Nat → Bool) : Nat → Nat
  | 0 => 0
  | k + 1 => cntTo tb k + (if tb k then 1 else 0)
theorem cnt_succ (tb : Nat → Bool) (k : Nat) : cntTo tb (k + 1) = cntTo tb k + (if tb k then 1 else 0) := rfl
theorem cnt_le (tb : Nat → Bool) : ∀ k, cntTo tb k ≤ k
  | 0 => Nat.le_refl _
  | k + 1 => by have := cnt_le tb k; rw [cnt_succ]; split <;> omega
theorem cnt_all (tb : Nat → Bool) : ∀ k, cntTo tb k = k ↔ ∀ j, j < k → tb j = true
  | 0 => by simp [cntTo]
  | k + 1 => by
    have h := cnt_all tb k
    have h2 := cnt_le tb k
    rw [cnt_succ]
    constructor
    · intro e j hj
      cases hb : tb k with
      | false => rw [hb] at e; simp at e; omega
      | true =>
        rw [hb, if_pos rfl] at e
        by_cases hjk : j = k
        · rw [hjk]; exact hb
        · exact h.1 (by omega) j (by omega)
    · intro e
      rw [e k (by omega), if_pos rfl, h.2 (fun j hj => e j (by omega))]
theorem cnt_zero (tb : Nat → Bool) : ∀ k, cntTo tb k = 0 ↔ ∀ j, j < k → tb j = false
  | 0 => by simp [cntTo]
  | k + 1 => by
    have h := cnt_zero tb k
    rw [cnt_succ]
    constructor
    · intro e j hj
      cases hb : tb k with
      | true => rw [hb, if_pos rfl] at e; omega
      | false =>
        by_cases hjk : j = k
        · rw [hjk]; exact hb
        · exact h.1 (by omega) j (by omega)
    · intro e
      rw [e k (by omega), h.2 (fun j hj => e j (by omega))]
      rfl
theorem vals_at {L : List FaS} {k : Nat} (hk : k < L.length) : Geo.ptAt (vals L) k = (L[k]).1 := by unfold Geo.ptAt vals; rw [List.getElem?_map, List.getElem?_eq_getElem hk]; rfl
/-- Counting tells what is known. -/
theorem known_cnt (bq : Fa → Bool) (L : List FaS) (hne : L ≠ []) : knR (cntTo (fun k => bq (Geo.ptAt (vals L) k)) L.length) L.length = knownV (fun f => bq f.1) L := by
  have hlen : 0 < L.length := List.length_pos_iff.2 hne
  have hA : cntTo (fun k => bq (Geo.ptAt (vals L) k)) L.length = L.length ↔ L.all (fun f => bq f.1) = true := by
    rw [cnt_all, List.all_eq_true]
    constructor
    · intro h x hx
      obtain ⟨j, hj, rfl⟩ := List.getElem_of_mem hx
      have := h j hj
      rw [vals_at hj] at this
      exact this
    · intro h j hj
      rw [vals_at hj]
      exact h _ (List.getElem_mem hj)
  have hZ : cntTo (fun k => bq (Geo.ptAt (vals L) k)) L.length = 0 ↔ L.any (fun f => bq f.1) = false := by
    rw [cnt_zero, List.any_eq_false]
    constructor
    · intro h x hx
      obtain ⟨j, hj, rfl⟩ := List.getElem_of_mem hx
      have := h j hj
      rw [vals_at hj] at this
      simp [this]
    · intro h j hj
      rw [vals_at hj]
      have := h _ (List.getElem_mem hj)
      simpa using this
  unfold knR knownV
  generalize cntTo (fun k => bq (Geo.ptAt (vals L) k)) L.length = m at *
  by_cases h1 : L.all (fun f => bq f.1) = true
  · rw [if_pos h1, if_pos (by have := hA.2 h1; omega)]
  · rw [if_neg h1, if_neg (by have h3 : ¬ m = L.length := fun e => h1 (hA.1 e); omega)]
    by_cases h2 : L.any (fun f => bq f.1) = true
    · rw [if_pos h2, if_neg (by intro e; have := hZ.1 (by omega); rw [h2] at this; cases this)]
    · rw [if_neg h2, if_pos (by have := hZ.2 (by simpa using h2); omega)]
def alQ (p : Fa) : Bool := decide (p.1 = p.2)
def agQ (t d o : Int) (p : Fa) : Bool := decide (dist (areaN t) (d * (p.1 * p.2)) ≤ o * (p.1 * p.2))
def alikeV (s : Sheet) : Int := if spE s = 0 then knownV alikeB (truthsL s) else 0
def agE (s : Sheet) (ps : List Geo.Pt) (d o : Int) : Int := knE s (Geo.errV ps) (deedB d o)
def agV (s : Sheet) (ps : List Geo.Pt) (d o : Int) : Int := if agE s ps d o = 0 then knownV (agreeB (Geo.tot Geo.fanV ps) d o) (truthsL s) else 0
theorem kn_ok {s : Sheet} {e : Int} {b : Bool} (h : knE s e b = 0) (_he : e = 0 ∨ e = 20) : okB s = true ∧ e = 0 ∧ b = true ∧ truthsL s ≠ [] ∧ spE s = 0 := by
  unfold knE at h
  cases hok : okB s with
  | false => rw [hok] at h; cases h
  | true =>
    rw [hok, if_pos rfl] at h
    by_cases h0 : e = 0
    · rw [if_pos h0] at h
      cases b with
      | false => cases h
      | true =>
        rw [if_pos rfl] at h
        by_cases h1 : truthsL s = []
        · rw [if_pos h1] at h; cases h
        · exact ⟨rfl, h0, rfl, h1, sp_yes hok h1⟩
    · rw [if_neg h0] at h; exact absurd h h0
theorem err_two (ps : List Geo.Pt) : Geo.errV ps = 0 ∨ Geo.errV ps = 20 := by unfold Geo.errV; split <;> simp
theorem err_zero {ps : List Geo.Pt} (h : Geo.errV ps = 0) : Geo.validB ps = true := by
  cases hv : Geo.validB ps with
  | true => rfl
  | false => rw [Geo.errV_no hv] at h; cases h
theorem fa_sm (f : FaS) : 1 ≤ f.1.1 * f.1.2 ∧ f.1.1 * f.1.2 ≤ 4000000 := areaD_bd f
end Sh

theorem Known4_any (a b : Int) (w : World) : Calls Try.prog 100 #[.int .i64 a, .int .i64 b] w fun e w' => e = .returned (.int .i64 (Sh.knR a b)) ∧ w' = w := by
  unfold Sh.knR
  by_cases h1 : a = b
  · have hb1 : (a == b) = true := by simpa using h1
    rw [if_pos h1]
    go_enter Try.func100, Try.ntmps100
    go_wp2_with fail
    go_returns
    exact ⟨rfl, rfl⟩
  · have hb1 : (a == b) = false := by simpa using h1
    rw [if_neg h1]
    by_cases h2 : a = 0
    · have hb2 : (a == 0) = true := by simpa using h2
      rw [if_pos h2]
      clear h1 h2
      go_enter Try.func100, Try.ntmps100
      go_wp2_with fail
      go_returns
      exact ⟨rfl, rfl⟩
    · have hb2 : (a == 0) = false := by simpa using h2
      rw [if_neg h2]
      clear h1 h2
      go_enter Try.func100, Try.ntmps100
      go_wp2_with fail
      go_returns
      exact ⟨rfl, rfl⟩

set_option maxRecDepth 100000 in
set_option maxHeartbeats 2000000 in
theorem Many4_any (s : Sheet) (A : Option Addr) (c : Nat) (w : World) (hl : s.cs.length ≤ 1000000000) (hg : Cts w w.heap.size A s.cs) :
    Calls Try.prog 43 #[.agg (shV s A c)] w (TwoPost (Sh.manyV s) (Sh.spE s) w) := by
  have HK : Hid (∀ W, Below w.heap.size w W → Calls Try.prog 87 #[.agg (shV s A c), .int .i64 0, .bool true] W (PrsEPost (Sh.knL s 0 true) (Sh.knE s 0 true) W)) := fun W hW => known4_any s A c 0 true W hl ((hg.keep hW).wider hW.size)
  rw [Sh.knE_sp] at HK
  have HM : Hid (Sh.manyV s = ((Sh.knL s 0 true).length : Int)) := by
    unfold Hid Sh.manyV Sh.knL
    rw [Sh.knE_sp]
    by_cases h : Sh.spE s = 0
    · rw [if_pos h, if_pos h, Sh.vals_len]
    · rw [if_neg h, if_neg h]; rfl
  generalize Sh.manyV s = M at *
  generalize Sh.spE s = E at *
  generalize Sh.knL s 0 true = L at *
  clear hg hl
  obtain ⟨al, ah, bl, bh, cs, wrn⟩ := s
  unfold shV at HK ⊢
  dsimp only at *
  go_enter Try.func43, Try.ntmps43
  go_wp2_with fail
  have hB1 : Below w.heap.size w (w.alloc (.cells #[.int .i64 al, .int .i64 ah, .int .i64 bl, .int .i64 bh, .slice A cs.length c, .int .i64 wrn] 26)) := by (repeat' (first | (with_reducible exact Below.refl _ _) | (with_reducible assumption) | (with_reducible refine Below.alloc ?_ ?_ _) | (with_reducible refine Below.drew ?_) | (with_reducible refine Below.setCell ?_ ?_ _) | go_size | (exact (by simp)) | omega))
  generalize World.alloc w _ = w1 at *
  refine (HK.out _ hB1).mono ?_
  rintro e2 w2 ⟨A2, c2, rfl, hP2, hb2⟩
  have hB2 := hB1.trans (hb2.mono hB1.size)
  go_wp2_with fail
  go_returns
  exact ⟨by rw [HM.out]; rfl, hB2⟩

set_option maxRecDepth 100000 in
set_option maxHeartbeats 4000000 in
theorem Alike4_any (s : Sheet) (A : Option Addr) (c : Nat) (w : World) (hl : s.cs.length ≤ 1000000000) (hg : Cts w w.heap.size A s.cs) :
    Calls Try.prog 46 #[.agg (shV s A c)] w (TwoPost (Sh.alikeV s) (Sh.spE s) w) := by
  have HK : Hid (∀ W, Below w.heap.size w W → Calls Try.prog 87 #[.agg (shV s A c), .int .i64 0, .bool true] W (PrsEPost (Sh.knL s 0 true) (Sh.knE s 0 true) W)) := fun W hW => known4_any s A c 0 true W hl ((hg.keep hW).wider hW.size)
  rw [Sh.knE_sp] at HK
  by_cases h0 : Sh.spE s = 0
  · obtain ⟨hok, hne⟩ := Sh.sp_ok h0
    have hs := Sh.ok_of hok
    have hL : Sh.knL s 0 true = Sh.vals (Sh.truthsL s) := by unfold Sh.knL; rw [Sh.knE_sp, if_pos h0]
    have hV : Sh.alikeV s = Sh.knR (Sh.cntTo (fun k => Sh.alQ (Geo.ptAt (Sh.vals (Sh.truthsL s)) k)) (Sh.truthsL s).length) (Sh.truthsL s).length := by
      rw [Sh.known_cnt Sh.alQ _ hne]
      unfold Sh.alikeV
      rw [if_pos h0]
      rfl
    have hlen := Sh.truthsL_len s hs
    rw [hL, h0] at HK
    rw [hV, h0]
    have hvl : (Sh.truthsL s).length = (Sh.vals (Sh.truthsL s)).length := (Sh.vals_len _).symm
    rw [hvl] at hlen ⊢
    generalize Sh.vals (Sh.truthsL s) = P at *
    have HKN : Hid (∀ a b W, Calls Try.prog 100 #[.int .i64 a, .int .i64 b] W fun e w' => e = .returned (.int .i64 (Sh.knR a b)) ∧ w' = W) := Known4_any
    have HTB : Hid (∀ k, Sh.alQ (Geo.ptAt P k) = decide ((Geo.ptAt P k).1 = (Geo.ptAt P k).2)) := fun _ => rfl
    obtain ⟨tb, htb⟩ : ∃ tb : Nat → Bool, tb = fun k => Sh.alQ (Geo.ptAt P k) := ⟨_, rfl⟩
    rw [← htb]
    have HTB2 : Hid (∀ k, tb k = decide ((Geo.ptAt P k).1 = (Geo.ptAt P k).2)) := fun k => by rw [htb]; exact HTB.out k
    clear hg hl hok hs hne h0 hL hV hvl htb HTB
    obtain ⟨al, ah, bl, bh, cs, wrn⟩ := s
    unfold shV at HK ⊢
    dsimp only at *
    go_enter Try.func46, Try.ntmps46
    go_wp2_with fail
    have hB1 : Below w.heap.size w (w.alloc (.cells #[.int .i64 al, .int .i64 ah, .int .i64 bl, .int .i64 bh, .slice A cs.length c, .int .i64 wrn] 26)) := by (repeat' (first | (with_reducible exact Below.refl _ _) | (with_reducible assumption) | (with_reducible refine Below.alloc ?_ ?_ _) | (with_reducible refine Below.drew ?_) | (with_reducible refine Below.setCell ?_ ?_ _) | go_size | (exact (by simp)) | omega))
    generalize World.alloc w _ = w1 at *
    refine (HK.out _ hB1).mono ?_
    rintro e2 w2 ⟨A2, c2, rfl, hP2, hb2⟩
    have hB2 := hB1.trans (hb2.mono hB1.size)
    clear hb2 hB1 HK
    go_wp2_with fail
    go_loopg [6, 7] P.length (fun g x6 x7 wx => ∃ k : Nat, Hid (k + g = P.length) ∧ (k : Int) ≤ P.length ∧ x7 = .int .i64 k ∧ x6 = .int .i64 (Sh.cntTo tb k : Nat) ∧ Below w.heap.size w wx ∧ Below w2.heap.size w2 wx)
    case atStart => exact ⟨0, by simp [Hid], by omega, rfl, rfl, hB2, Below.refl _ _⟩
    case round =>
      clear hB2
      obtain ⟨k, hk, hk1, rfl, rfl, hB, hbb⟩ := hrel
      have hk0 := Int.natCast_nonneg k
      by_cases hlt : (k : Int) < P.length
      · have hkn : k < P.length := by omega
        have hPk : P[k]? = some (Geo.ptAt P k) := by unfold Geo.ptAt; rw [List.getElem?_eq_getElem hkn]; rfl
        obtain ⟨bp, op, rfl, hbp, hcp⟩ := hP2.out (by omega)
        obtain ⟨h0, h1⟩ := hcp k _ hPk
        have a0 := (hbb.cell (p := ⟨bp, _, none⟩) hbp).trans h0
        have a1 := (hbb.cell (p := ⟨bp, _, none⟩) hbp).trans h1
        have hlb : bp < wr.heap.size := by have := hbb.size; omega
        have HT1 := Lib.hid (HTB2.out k)
        have HS := Lib.hid (Sh.cnt_succ tb k)
        have hcl := Sh.cnt_le tb k
        have hw1 : IntKind.i64.wrap ((k : Int) + 1) = (k : Int) + 1 := IntWalk.i64_in _ (by omega)
        have hw2 : IntKind.i64.wrap ((Sh.cntTo tb k : Int) + 1) = ((Sh.cntTo tb k : Nat) : Int) + 1 := IntWalk.i64_in _ (by omega)
        clear h0 h1 hcp hPk HTB2
        generalize Sh.cntTo tb k = m at *
        generalize tb k = b at *
        generalize Geo.ptAt P k = q at *
        obtain ⟨q1, q2⟩ := q
        dsimp only at a0 a1 HT1
        go_wp2_with fail
        go_quiet (fail)
        by_cases hq : q1 = q2
        · have hqb : (q1 == q2) = true := by simpa using hq
          have HS2 : Hid (((Sh.cntTo tb (k + 1) : Nat) : Int) = (m : Int) + 1) := by unfold Hid; rw [HS.out, HT1.out, decide_eq_true hq]; rfl
          clear hq
          go_wp2_with fail
          obtain ⟨g', hg'⟩ : ∃ g', gk = g' + 1 := ⟨gk - 1, by have := hk.out; omega⟩
          go_roundg g'
          case measure => omega
          case rel => exact ⟨k + 1, by have := hk.out; simp only [Hid]; omega, by omega, by go_num, by rw [HS2.out], below_drewN hB _, below_drewN hbb _⟩
        · have hqb : (q1 == q2) = false := by simpa using hq
          have HS2 : Hid (Sh.cntTo tb (k + 1) = m) := by unfold Hid; rw [HS.out, HT1.out, decide_eq_false hq]; rfl
          clear hq
          go_wp2_with fail
          obtain ⟨g', hg'⟩ : ∃ g', gk = g' + 1 := ⟨gk - 1, by have := hk.out; omega⟩
          go_roundg g'
          case measure => omega
          case rel => exact ⟨k + 1, by have := hk.out; simp only [Hid]; omega, by omega, by go_num, by rw [HS2.out], below_drewN hB _, below_drewN hbb _⟩
      · obtain rfl : k = P.length := by omega
        go_wp2_with fail
        refine (HKN.out _ _ _).mono ?_
        rintro e5 w5 ⟨rfl, rfl⟩
        go_wp2_with fail
        go_returns
        exact ⟨rfl, hB⟩
  · have hne : (Sh.spE s != 0) = true := by simpa using h0
    have hV : Sh.alikeV s = 0 := by unfold Sh.alikeV; rw [if_neg h0]
    rw [hV]
    generalize Sh.spE s = E at *
    generalize Sh.knL s 0 true = L at *
    clear hg hl h0 hV
    obtain ⟨al, ah, bl, bh, cs, wrn⟩ := s
    unfold shV at HK ⊢
    dsimp only at *
    go_enter Try.func46, Try.ntmps46
    go_wp2_with fail
    have hB1 : Below w.heap.size w (w.alloc (.cells #[.int .i64 al, .int .i64 ah, .int .i64 bl, .int .i64 bh, .slice A cs.length c, .int .i64 wrn] 26)) := by (repeat' (first | (with_reducible exact Below.refl _ _) | (with_reducible assumption) | (with_reducible refine Below.alloc ?_ ?_ _) | (with_reducible refine Below.drew ?_) | (with_reducible refine Below.setCell ?_ ?_ _) | go_size | (exact (by simp)) | omega))
    generalize World.alloc w _ = w1 at *
    refine (HK.out _ hB1).mono ?_
    rintro e2 w2 ⟨A2, c2, rfl, hP2, hb2⟩
    have hB2 := hB1.trans (hb2.mono hB1.size)
    go_wp2_with fail
    go_returns
    exact ⟨rfl, hB2⟩

set_option maxRecDepth 100000 in
set_option maxHeartbeats 2000000 in
theorem Agree4_any (t d o : Int) (f : Sh.FaS) (w : World) (ht : -80000000 ≤ t ∧ t ≤ 80000000) (hd : 0 ≤ d ∧ d ≤ 999999) (ho : 0 ≤ o ∧ o ≤ 999999) :
    Calls Try.prog 105 #[.int .i64 t, .int .i64 d, .int .i64 o, .agg #[.int .i64 f.1.1, .int .i64 f.1.2]] w fun e w' => e = .returned (.bool (Sh.agQ t d o f.1)) ∧ Below w.heap.size w w' := by
  have hD := Sh.fa_sm f
  have HR : Hid (Sh.agQ t d o f.1 = decide (Sh.dist (Sh.areaN t) (d * (f.1.1 * f.1.2)) ≤ o * (f.1.1 * f.1.2))) := rfl
  generalize Sh.agQ t d o f.1 = R at *
  obtain ⟨⟨f1, f2⟩, hf⟩ := f
  dsimp only at *
  obtain ⟨D, hDD⟩ : ∃ D, D = f1 * f2 := ⟨_, rfl⟩
  rw [← hDD] at hD HR
  have hw1 : IntKind.i64.wrap (f1 * f2) = D := by rw [← hDD]; exact IntWalk.i64_in _ (by omega)
  have m1 := mul_bd (a := d) (b := D) (x := 999999) (y := 4000000) (by omega) (by omega) (by omega) (by omega)
  have m2 := mul_bd (a := o) (b := D) (x := 999999) (y := 4000000) (by omega) (by omega) (by omega) (by omega)
  obtain ⟨X, hX⟩ : ∃ X, X = d * D := ⟨_, rfl⟩
  obtain ⟨Y, hY⟩ : ∃ Y, Y = o * D := ⟨_, rfl⟩
  rw [← hX] at m1 HR
  rw [← hY] at m2 HR
  have hw2 : IntKind.i64.wrap (d * D) = X := by rw [← hX]; exact IntWalk.i64_in _ (by omega)
  have hw3 : IntKind.i64.wrap (o * D) = Y := by rw [← hY]; exact IntWalk.i64_in _ (by omega)
  have HA1 : Hid (∀ W, Calls Try.prog 103 #[.int .i64 t] W fun e w' => e = .returned (.int .i64 (Sh.absV t)) ∧ w' = W) := fun W => absR_any t W (by omega)
  have hat : 0 ≤ Sh.absV t ∧ Sh.absV t ≤ 80000000 := by unfold Sh.absV; omega
  have hw4 : IntKind.i64.wrap (Sh.absV t * 1000000) = Sh.absV t * 1000000 := IntWalk.i64_in _ (by omega)
  have hw5 : IntKind.i64.wrap (Sh.absV t * 1000000 - X) = Sh.absV t * 1000000 - X := IntWalk.i64_in _ (by omega)
  have HA2 : Hid (∀ W, Calls Try.prog 103 #[.int .i64 (Sh.absV t * 1000000 - X)] W fun e w' => e = .returned (.int .i64 (Sh.absV (Sh.absV t * 1000000 - X))) ∧ w' = W) := fun W => absR_any _ W (by omega)
  have HR2 : Hid (R = decide (Sh.absV (Sh.absV t * 1000000 - X) ≤ Y)) := by
    have e : Sh.dist (Sh.areaN t) X = Sh.absV (Sh.absV t * 1000000 - X) := by rw [Sh.area_abs]; unfold Sh.dist; show max _ _ = max _ _; congr 1; omega
    rw [← e]
    exact HR.out
  generalize Sh.absV (Sh.absV t * 1000000 - X) = Z at *
  generalize Sh.absV t = U at *
  clear hX hY hDD m1 m2 hat hD ht hd ho hf HR
  go_enter Try.func105, Try.ntmps105
  go_wp2_with fail
  have hB0 : Below w.heap.size w (w.alloc (.cells #[.int .i64 f1, .int .i64 f2] 70)) := by (repeat' (first | (with_reducible exact Below.refl _ _) | (with_reducible assumption) | (with_reducible refine Below.alloc ?_ ?_ _) | (with_reducible refine Below.drew ?_) | (with_reducible refine Below.setCell ?_ ?_ _) | go_size | (exact (by simp)) | omega))
  refine (HA1.out _).mono ?_
  rintro e1 w1 ⟨rfl, rfl⟩
  go_wp2_with fail
  refine (HA2.out _).mono ?_
  rintro e2 w2 ⟨rfl, rfl⟩
  go_wp2_with fail
  go_returns
  exact ⟨by rw [HR2.out]; rfl, hB0⟩

set_option maxRecDepth 100000 in
set_option maxHeartbeats 4000000 in
theorem Agrees4_any (s : Sheet) (A : Option Addr) (c : Nat) (A2 : Option Addr) (c2 : Nat) (ps : List Geo.Pt) (d o : Int) (w : World) (hl : s.cs.length ≤ 1000000000) (hlp : ps.length ≤ 100) (hg : Cts w w.heap.size A s.cs) (hP : Prs w w.heap.size A2 ps) :
    Calls Try.prog 53 #[.agg (shV s A c), .slice A2 ps.length c2, .int .i64 d, .int .i64 o] w (TwoPost (Sh.agV s ps d o) (Sh.agE s ps d o) w) := by
  have HK : Hid (∀ W, Below w.heap.size w W → Calls Try.prog 87 #[.agg (shV s A c), .int .i64 (Geo.errV ps), .bool (Sh.deedB d o)] W (PrsEPost (Sh.knL s (Geo.errV ps) (Sh.deedB d o)) (Sh.agE s ps d o) W)) := fun W hW => known4_any s A c _ _ W hl ((hg.keep hW).wider hW.size)
  have HCK : Hid (∀ W, Below w.heap.size w W → Calls Try.prog 36 #[.slice A2 ps.length c2] W (ErrPost (Geo.errV ps) W)) := fun W hW => by have := refchk_any A2 c2 ps hlp W (prs_keep hP hW); rw [Geo.refV_errV] at this; exact this
  have HDE : Hid (∀ W, Calls Try.prog 38 #[.int .i64 d, .int .i64 o] W fun e w' => e = .returned (.bool (Sh.deedB d o)) ∧ w' = W) := fun W => IsDeed_any d o W
  have HKN : Hid (∀ a b W, Calls Try.prog 100 #[.int .i64 a, .int .i64 b] W fun e w' => e = .returned (.int .i64 (Sh.knR a b)) ∧ w' = W) := Known4_any
  have HTW : Hid (Geo.validB ps = true → ∀ W, Below w.heap.size w W → Calls Try.prog 32 #[.slice A2 ps.length c2] W fun e w' => e = .returned (.int .i64 (Geo.tot Geo.fanV ps)) ∧ Below W.heap.size W w') := fun hv W hW => by
    have hlen := Geo.valid_len hv
    have := TwiceOf_any A2 c2 ps (Geo.valid_sm hv) (by omega) (by omega) W (prs_keep hP hW)
    rw [← Geo.twice_eq ps (by omega)] at this
    exact this
  by_cases h0 : Sh.agE s ps d o = 0
  · obtain ⟨hok, he, hd, hne, hsp⟩ := Sh.kn_ok h0 (Sh.err_two ps)
    have hv := Sh.err_zero he
    have hs := Sh.ok_of hok
    have hT : -80000000 ≤ Geo.tot Geo.fanV ps ∧ Geo.tot Geo.fanV ps ≤ 80000000 := by
      have := tot_bd (f := Geo.fanV) (M := 8000000) (Geo.valid_sm hv) (fun s h1 h2 => by have := Geo.fan_bd h1 h2; omega)
      have := Geo.valid_len hv
      omega
    have hdd := Bool.and_eq_true_iff.1 hd
    have hd1 := inB_true.1 hdd.1
    have hd2 := inB_true.1 hdd.2
    have HTW2 := Lib.hid (HTW.out hv)
    have hL : Sh.knL s (Geo.errV ps) (Sh.deedB d o) = Sh.vals (Sh.truthsL s) := by unfold Sh.knL; exact if_pos h0
    have HAG : Hid (∀ k, k < (Sh.truthsL s).length → ∀ W, Calls Try.prog 105 #[.int .i64 (Geo.tot Geo.fanV ps), .int .i64 d, .int .i64 o, .agg #[.int .i64 (Geo.ptAt (Sh.vals (Sh.truthsL s)) k).1, .int .i64 (Geo.ptAt (Sh.vals (Sh.truthsL s)) k).2]] W fun e w' => e = .returned (.bool (Sh.agQ (Geo.tot Geo.fanV ps) d o (Geo.ptAt (Sh.vals (Sh.truthsL s)) k))) ∧ Below W.heap.size W w') := fun k hk W => by
      rw [Sh.vals_at hk]
      exact Agree4_any _ d o _ W hT hd1 hd2
    have hV : Sh.agV s ps d o = Sh.knR (Sh.cntTo (fun k => Sh.agQ (Geo.tot Geo.fanV ps) d o (Geo.ptAt (Sh.vals (Sh.truthsL s)) k)) (Sh.truthsL s).length) (Sh.truthsL s).length := by
      rw [Sh.known_cnt (Sh.agQ (Geo.tot Geo.fanV ps) d o) _ hne]
      unfold Sh.agV
      rw [if_pos h0]
      rfl
    have hlen := Sh.truthsL_len s hs
    rw [hL, h0] at HK
    rw [hV, h0]
    have hvl : (Sh.truthsL s).length = (Sh.vals (Sh.truthsL s)).length := (Sh.vals_len _).symm
    rw [hvl] at hlen HAG ⊢
    generalize Sh.vals (Sh.truthsL s) = P at *
    generalize Geo.tot Geo.fanV ps = T at *
    generalize Geo.errV ps = EP at *
    generalize Sh.deedB d o = DB at *
    obtain ⟨tb, htb⟩ : ∃ tb : Nat → Bool, tb = fun k => Sh.agQ T d o (Geo.ptAt P k) := ⟨_, rfl⟩
    rw [← htb]
    have HAG2 : Hid (∀ k, k < P.length → ∀ W, Calls Try.prog 105 #[.int .i64 T, .int .i64 d, .int .i64 o, .agg #[.int .i64 (Geo.ptAt P k).1, .int .i64 (Geo.ptAt P k).2]] W fun e w' => e = .returned (.bool (tb k)) ∧ Below W.heap.size W w') := fun k hk W => by rw [htb]; exact HAG.out k hk W
    generalize ps.length = np at *
    clear hg hl hlp hok hs hne h0 hL hV hvl htb HAG HTW hP hv hT hdd hd1 hd2 he hd hsp
    obtain ⟨al, ah, bl, bh, cs, wrn⟩ := s
    unfold shV at HK ⊢
    dsimp only at *
    go_enter Try.func53, Try.ntmps53
    go_wp2_with fail
    have hB1 : Below w.heap.size w (w.alloc (.cells #[.int .i64 al, .int .i64 ah, .int .i64 bl, .int .i64 bh, .slice A cs.length c, .int .i64 wrn] 26)) := by (repeat' (first | (with_reducible exact Below.refl _ _) | (with_reducible assumption) | (with_reducible refine Below.alloc ?_ ?_ _) | (with_reducible refine Below.drew ?_) | (with_reducible refine Below.setCell ?_ ?_ _) | go_size | (exact (by simp)) | omega))
    have bS1 := BoxS.new w 26 #[.int .i64 al, .int .i64 ah, .int .i64 bl, .int .i64 bh, .slice A cs.length c, .int .i64 wrn]
    generalize World.alloc w _ = w1 at *
    refine (wpIn_wide (n := 4)).1 ?_
    have hmo : Try.prog.follows .mixedOrders = true := by kernel_rfl
    have q0 : Below w1.heap.size w1 w1.drew := (Below.refl _ _).drew
    have KC : Hid (∀ W', Below w1.heap.size w1 W' → ((W'.cell? ⟨w.heap.size, 0, none⟩ = some (.int .i64 al) ∧ W'.cell? ⟨w.heap.size, 1, none⟩ = some (.int .i64 ah) ∧ W'.cell? ⟨w.heap.size, 2, none⟩ = some (.int .i64 bl)) ∧ W'.cell? ⟨w.heap.size, 3, none⟩ = some (.int .i64 bh) ∧ W'.cell? ⟨w.heap.size, 4, none⟩ = some (.slice A cs.length c) ∧ W'.cell? ⟨w.heap.size, 5, none⟩ = some (.int .i64 wrn))) := fun W' h => boxS6 (bS1.below h)
    have HCK2 : Hid (∀ W, Below w1.heap.size w1 W → Calls Try.prog 36 #[.slice A2 np c2] W (ErrPost EP W)) := fun W hW => HCK.out W (hB1.trans (hW.mono hB1.size))
    have HK2 := Lib.hid (fun W (hW : Below w1.heap.size w1 W) => HK.out W (hB1.trans (hW.mono hB1.size)))
    refine wpIn_region_held (fun W' => Below w1.heap.size w1 W') 30 hmo ?_
    refine wpHeldIn_take (i := 0) (v := ?_) (plain_of (by kernel_rfl)) rfl (by kernel_rfl) (fun _ _ _ h => h) (yieldsSoIn_of (by kernel_rfl) ?_ (fun _ => rfl)) q0 ?_; rotate_left; focus (intro wq hw; have kq := KC.out wq hw; clear hw; go_simp; try (with_reducible rfl))
    refine wpHeldIn_take (i := 1) (v := ?_) (plain_of (by kernel_rfl)) rfl (by kernel_rfl) (fun _ _ _ h => h) (yieldsSoIn_of (by kernel_rfl) ?_ (fun _ => rfl)) q0 ?_; rotate_left; focus (intro wq hw; clear hw; go_simp; try (with_reducible rfl))
    refine wpHeldIn_take (i := 3) (v := ?_) (plain_of (by kernel_rfl)) rfl (by kernel_rfl) (fun _ _ _ h => h) (yieldsSoIn_of (by kernel_rfl) ?_ (fun _ => rfl)) q0 ?_; rotate_left; focus (intro wq hw; clear hw; go_simp; try (with_reducible rfl))
    refine wpHeldIn_take (i := 4) (v := ?_) (plain_of (by kernel_rfl)) rfl (by kernel_rfl) (fun _ _ _ h => h) (yieldsSoIn_of (by kernel_rfl) ?_ (fun _ => rfl)) q0 ?_; rotate_left; focus (intro wq hw; clear hw; go_simp; try (with_reducible rfl))
    refine wpHeldIn_one (i := 2) (by kernel_rfl) (by kernel_rfl) rfl (by kernel_rfl) (fun K1 hK1 => ?_)
    go_simp
    refine ⟨trivial, (callsIn_wide.2 (HCK2.out _ q0)).mono ?_⟩
    rintro e2 w2 ⟨rfl, hb2⟩
    have q1 := q0.trans (hb2.mono q0.size)
    refine hK1 _ _ q1 ?_
    refine wpHeldIn_one (i := 5) (by kernel_rfl) (by kernel_rfl) rfl (by kernel_rfl) (fun K2 hK2 => ?_)
    go_simp
    refine ⟨trivial, (callsIn_wide.2 (HDE.out _)).mono ?_⟩
    rintro e3 w3 ⟨rfl, rfl⟩
    refine hK2 _ _ q1 ?_
    refine wpHeldIn_one (i := 6) (by kernel_rfl) (by kernel_rfl) rfl (by kernel_rfl) (fun K3 hK3 => ?_)
    go_simp
    refine ⟨trivial, (callsIn_wide.2 (HK2.out _ q1)).mono ?_⟩
    rintro e4 w4 ⟨A4, c4, rfl, hP4, hb4⟩
    have q2 := q1.trans (hb4.mono q1.size)
    refine hK3 _ _ q2 ?_
    refine wpHeldIn_take (i := 7) (v := ?_) (plain_of (by kernel_rfl)) rfl (by kernel_rfl) (fun _ _ _ h => h) (yieldsSoIn_of (by kernel_rfl) ?_ (fun _ => rfl)) q2 ?_; rotate_left; focus (intro wq hw; clear hw; go_simp; try (with_reducible rfl))
    refine wpHeldIn_take (i := 8) (v := ?_) (plain_of (by kernel_rfl)) rfl (by kernel_rfl) (fun _ _ _ h => h) (yieldsSoIn_of (by kernel_rfl) ?_ (fun _ => rfl)) q2 ?_; rotate_left; focus (intro wq hw; clear hw; go_simp; try (with_reducible rfl))
    refine wpHeldIn_take (i := 9) (v := ?_) (plain_of (by kernel_rfl)) rfl (by kernel_rfl) (fun _ _ _ h => h) (yieldsSoIn_of (by kernel_rfl) ?_ (fun _ => rfl)) q2 ?_; rotate_left; focus (intro wq hw; clear hw; go_simp; try (with_reducible rfl))
    refine wpHeldIn_take (i := 10) (v := ?_) (plain_of (by kernel_rfl)) rfl (by kernel_rfl) (fun _ _ _ h => h) (yieldsSoIn_of (by kernel_rfl) ?_ (fun _ => rfl)) q2 ?_; rotate_left; focus (intro wq hw; clear hw; go_simp; try (with_reducible rfl))
    refine wpHeldIn_take (i := 11) (v := ?_) (plain_of (by kernel_rfl)) rfl (by kernel_rfl) (fun _ _ _ h => h) (yieldsSoIn_of (by kernel_rfl) ?_ (fun _ => rfl)) q2 ?_; rotate_left; focus (intro wq hw; clear hw; go_simp; try (with_reducible rfl))
    refine wpHeldIn_done (by kernel_rfl) ?_ _
    go_simp
    have hB4 := hB1.trans (q2.mono hB1.size)
    clear hb2 hb4 q2
    clear KC q0 q1 HCK2 HK2 HCK HK bS1 hB1
    go_wp2_with fail
    go_loopg [12, 13] P.length (fun g x6 x7 wx => ∃ k : Nat, Hid (k + g = P.length) ∧ (k : Int) ≤ P.length ∧ x7 = .int .i64 k ∧ x6 = .int .i64 (Sh.cntTo tb k : Nat) ∧ Below w.heap.size w wx ∧ Below w4.heap.size w4 wx)
    case atStart => exact ⟨0, by simp [Hid], by omega, rfl, rfl, hB4, Below.refl _ _⟩
    case round =>
      clear hB4
      obtain ⟨k, hk, hk1, rfl, rfl, hB, hbb⟩ := hrel
      have hk0 := Int.natCast_nonneg k
      by_cases hlt : (k : Int) < P.length
      · have hkn : k < P.length := by omega
        have hPk : P[k]? = some (Geo.ptAt P k) := by unfold Geo.ptAt; rw [List.getElem?_eq_getElem hkn]; rfl
        obtain ⟨bp, op, rfl, hbp, hcp⟩ := hP4.out (by omega)
        obtain ⟨h0, h1⟩ := hcp k _ hPk
        have HCC : Hid (∀ W', Below wr.heap.size wr W' → W'.cell? ⟨bp, op + k * 2, none⟩ = some (.int .i64 (Geo.ptAt P k).1) ∧ W'.cell? ⟨bp, op + k * 2 + 1, none⟩ = some (.int .i64 (Geo.ptAt P k).2)) := fun W' hW => by
          have hBW := hbb.trans (hW.mono hbb.size)
          exact ⟨(hBW.cell (p := ⟨bp, _, none⟩) hbp).trans h0, (hBW.cell (p := ⟨bp, _, none⟩) hbp).trans h1⟩
        have HA1 := Lib.hid (HAG2.out k hkn)
        have HS := Lib.hid (Sh.cnt_succ tb k)
        have hcl := Sh.cnt_le tb k
        have hw1 : IntKind.i64.wrap ((k : Int) + 1) = (k : Int) + 1 := IntWalk.i64_in _ (by omega)
        have hw2 : IntKind.i64.wrap ((Sh.cntTo tb k : Int) + 1) = ((Sh.cntTo tb k : Nat) : Int) + 1 := IntWalk.i64_in _ (by omega)
        have HTW3 : Hid (∀ W, Below wr.heap.size wr W → Calls Try.prog 32 #[.slice A2 np c2] W fun e w' => e = .returned (.int .i64 T) ∧ Below W.heap.size W w') := fun W hW => HTW2.out W (hB.trans (hW.mono hB.size))
        clear h0 h1 hcp hPk HAG2
        generalize Sh.cntTo tb k = m at *
        generalize tb k = b at *
        generalize Geo.ptAt P k = q at *
        obtain ⟨q1, q2⟩ := q
        dsimp only at HCC HA1
        go_wp2_with fail
        refine (wpIn_wide (n := 4)).1 ?_
        have hmo : Try.prog.follows .mixedOrders = true := by kernel_rfl
        have q0 : Below wr.heap.size wr wr.drew := (Below.refl _ _).drew
        refine wpIn_region_held (fun W' => Below wr.heap.size wr W') 30 hmo ?_
        refine wpHeldIn_take (i := 0) (v := ?_) (plain_of (by kernel_rfl)) rfl (by kernel_rfl) (fun _ _ _ h => h) (yieldsSoIn_of (by kernel_rfl) ?_ (fun _ => rfl)) q0 ?_; rotate_left; focus (intro wq hw; clear hw; go_simp; try (with_reducible rfl))
        refine wpHeldIn_take (i := 2) (v := ?_) (plain_of (by kernel_rfl)) rfl (by kernel_rfl) (fun _ _ _ h => h) (yieldsSoIn_of (by kernel_rfl) ?_ (fun _ => rfl)) q0 ?_; rotate_left; focus (intro wq hw; clear hw; go_simp; try (with_reducible rfl))
        refine wpHeldIn_take (i := 3) (v := ?_) (plain_of (by kernel_rfl)) rfl (by kernel_rfl) (fun _ _ _ h => h) (yieldsSoIn_of (by kernel_rfl) ?_ (fun _ => rfl)) q0 ?_; rotate_left; focus (intro wq hw; clear hw; go_simp; try (with_reducible rfl))
        refine wpHeldIn_take (i := 4) (v := ?_) (plain_of (by kernel_rfl)) rfl (by kernel_rfl) (fun _ _ _ h => h) (yieldsSoIn_of (by kernel_rfl) ?_ (fun _ => rfl)) q0 ?_; rotate_left; focus (intro wq hw; clear hw; go_simp; try (with_reducible rfl))
        refine wpHeldIn_take (i := 5) (v := ?_) (plain_of (by kernel_rfl)) rfl (by kernel_rfl) (fun _ _ _ h => h) (yieldsSoIn_of (by kernel_rfl) ?_ (fun _ => rfl)) q0 ?_; rotate_left; focus (intro wq hw; clear hw; go_simp; try (with_reducible rfl))
        refine wpHeldIn_take (i := 6) (v := ?_) (plain_of (by kernel_rfl)) rfl (by kernel_rfl) (fun _ _ _ h => h) (yieldsSoIn_of (by kernel_rfl) ?_ (fun _ => rfl)) q0 ?_; rotate_left; focus (intro wq hw; clear hw; go_simp; try (with_reducible rfl))
        refine wpHeldIn_take (i := 7) (v := ?_) (plain_of (by kernel_rfl)) rfl (by kernel_rfl) (fun _ _ _ h => h) (yieldsSoIn_of (by kernel_rfl) ?_ (fun _ => rfl)) q0 ?_; rotate_left; focus (intro wq hw; have kq := HCC.out wq hw; clear hw; go_simp; try (with_reducible rfl))
        refine wpHeldIn_one (i := 1) (by kernel_rfl) (by kernel_rfl) rfl (by kernel_rfl) (fun K1 hK1 => ?_)
        go_simp
        refine ⟨trivial, (callsIn_wide.2 (HTW3.out _ q0)).mono ?_⟩
        rintro e5 w5 ⟨rfl, hb5⟩
        have q1' := q0.trans (hb5.mono q0.size)
        refine hK1 _ _ q1' ?_
        refine wpHeldIn_one (i := 8) (by kernel_rfl) (by kernel_rfl) rfl (by kernel_rfl) (fun K2 hK2 => ?_)
        go_simp
        refine ⟨trivial, (callsIn_wide.2 (HA1.out _)).mono ?_⟩
        rintro e6 w6 ⟨rfl, hb6⟩
        have q2' := q1'.trans (hb6.mono q1'.size)
        refine hK2 _ _ q2' ?_
        refine wpHeldIn_done (by kernel_rfl) ?_ _
        go_simp
        have hB6 := hB.trans (q2'.mono hB.size)
        have hbb6 := hbb.trans (q2'.mono hbb.size)
        clear hb5 hb6 q0 q1' q2' HCC HA1 HTW3
        cases b with
        | true =>
          have HS2 : Hid (((Sh.cntTo tb (k + 1) : Nat) : Int) = (m : Int) + 1) := by unfold Hid; rw [HS.out]; rfl
          go_wp2_with fail
          obtain ⟨g', hg'⟩ : ∃ g', gk = g' + 1 := ⟨gk - 1, by have := hk.out; omega⟩
          go_roundg g'
          case measure => omega
          case rel => exact ⟨k + 1, by have := hk.out; simp only [Hid]; omega, by omega, by go_num, by rw [HS2.out], hB6, hbb6⟩
        | false =>
          have HS2 : Hid (Sh.cntTo tb (k + 1) = m) := by unfold Hid; rw [HS.out]; rfl
          go_wp2_with fail
          obtain ⟨g', hg'⟩ : ∃ g', gk = g' + 1 := ⟨gk - 1, by have := hk.out; omega⟩
          go_roundg g'
          case measure => omega
          case rel => exact ⟨k + 1, by have := hk.out; simp only [Hid]; omega, by omega, by go_num, by rw [HS2.out], hB6, hbb6⟩
      · obtain rfl : k = P.length := by omega
        go_wp2_with fail
        refine (HKN.out _ _ _).mono ?_
        rintro e5 w5 ⟨rfl, rfl⟩
        go_wp2_with fail
        go_returns
        exact ⟨rfl, hB⟩
  · have hne : (Sh.agE s ps d o != 0) = true := by simpa using h0
    have hV : Sh.agV s ps d o = 0 := by unfold Sh.agV; rw [if_neg h0]
    rw [hV]
    generalize Sh.agE s ps d o = E at *
    generalize Sh.knL s (Geo.errV ps) (Sh.deedB d o) = P at *
    generalize Geo.errV ps = EP at *
    generalize Sh.deedB d o = DB at *
    generalize ps.length = np at *
    clear hg hl hlp h0 hV HTW hP
    obtain ⟨al, ah, bl, bh, cs, wrn⟩ := s
    unfold shV at HK ⊢
    dsimp only at *
    go_enter Try.func53, Try.ntmps53
    go_wp2_with fail
    have hB1 : Below w.heap.size w (w.alloc (.cells #[.int .i64 al, .int .i64 ah, .int .i64 bl, .int .i64 bh, .slice A cs.length c, .int .i64 wrn] 26)) := by (repeat' (first | (with_reducible exact Below.refl _ _) | (with_reducible assumption) | (with_reducible refine Below.alloc ?_ ?_ _) | (with_reducible refine Below.drew ?_) | (with_reducible refine Below.setCell ?_ ?_ _) | go_size | (exact (by simp)) | omega))
    have bS1 := BoxS.new w 26 #[.int .i64 al, .int .i64 ah, .int .i64 bl, .int .i64 bh, .slice A cs.length c, .int .i64 wrn]
    generalize World.alloc w _ = w1 at *
    refine (wpIn_wide (n := 4)).1 ?_
    have hmo : Try.prog.follows .mixedOrders = true := by kernel_rfl
    have q0 : Below w1.heap.size w1 w1.drew := (Below.refl _ _).drew
    have KC : Hid (∀ W', Below w1.heap.size w1 W' → ((W'.cell? ⟨w.heap.size, 0, none⟩ = some (.int .i64 al) ∧ W'.cell? ⟨w.heap.size, 1, none⟩ = some (.int .i64 ah) ∧ W'.cell? ⟨w.heap.size, 2, none⟩ = some (.int .i64 bl)) ∧ W'.cell? ⟨w.heap.size, 3, none⟩ = some (.int .i64 bh) ∧ W'.cell? ⟨w.heap.size, 4, none⟩ = some (.slice A cs.length c) ∧ W'.cell? ⟨w.heap.size, 5, none⟩ = some (.int .i64 wrn))) := fun W' h => boxS6 (bS1.below h)
    have HCK2 : Hid (∀ W, Below w1.heap.size w1 W → Calls Try.prog 36 #[.slice A2 np c2] W (ErrPost EP W)) := fun W hW => HCK.out W (hB1.trans (hW.mono hB1.size))
    have HK2 := Lib.hid (fun W (hW : Below w1.heap.size w1 W) => HK.out W (hB1.trans (hW.mono hB1.size)))
    refine wpIn_region_held (fun W' => Below w1.heap.size w1 W') 30 hmo ?_
    refine wpHeldIn_take (i := 0) (v := ?_) (plain_of (by kernel_rfl)) rfl (by kernel_rfl) (fun _ _ _ h => h) (yieldsSoIn_of (by kernel_rfl) ?_ (fun _ => rfl)) q0 ?_; rotate_left; focus (intro wq hw; have kq := KC.out wq hw; clear hw; go_simp; try (with_reducible rfl))
    refine wpHeldIn_take (i := 1) (v := ?_) (plain_of (by kernel_rfl)) rfl (by kernel_rfl) (fun _ _ _ h => h) (yieldsSoIn_of (by kernel_rfl) ?_ (fun _ => rfl)) q0 ?_; rotate_left; focus (intro wq hw; clear hw; go_simp; try (with_reducible rfl))
    refine wpHeldIn_take (i := 3) (v := ?_) (plain_of (by kernel_rfl)) rfl (by kernel_rfl) (fun _ _ _ h => h) (yieldsSoIn_of (by kernel_rfl) ?_ (fun _ => rfl)) q0 ?_; rotate_left; focus (intro wq hw; clear hw; go_simp; try (with_reducible rfl))
    refine wpHeldIn_take (i := 4) (v := ?_) (plain_of (by kernel_rfl)) rfl (by kernel_rfl) (fun _ _ _ h => h) (yieldsSoIn_of (by kernel_rfl) ?_ (fun _ => rfl)) q0 ?_; rotate_left; focus (intro wq hw; clear hw; go_simp; try (with_reducible rfl))
    refine wpHeldIn_one (i := 2) (by kernel_rfl) (by kernel_rfl) rfl (by kernel_rfl) (fun K1 hK1 => ?_)
    go_simp
    refine ⟨trivial, (callsIn_wide.2 (HCK2.out _ q0)).mono ?_⟩
    rintro e2 w2 ⟨rfl, hb2⟩
    have q1 := q0.trans (hb2.mono q0.size)
    refine hK1 _ _ q1 ?_
    refine wpHeldIn_one (i := 5) (by kernel_rfl) (by kernel_rfl) rfl (by kernel_rfl) (fun K2 hK2 => ?_)
    go_simp
    refine ⟨trivial, (callsIn_wide.2 (HDE.out _)).mono ?_⟩
    rintro e3 w3 ⟨rfl, rfl⟩
    refine hK2 _ _ q1 ?_
    refine wpHeldIn_one (i := 6) (by kernel_rfl) (by kernel_rfl) rfl (by kernel_rfl) (fun K3 hK3 => ?_)
    go_simp
    refine ⟨trivial, (callsIn_wide.2 (HK2.out _ q1)).mono ?_⟩
    rintro e4 w4 ⟨A4, c4, rfl, hP4, hb4⟩
    have q2 := q1.trans (hb4.mono q1.size)
    refine hK3 _ _ q2 ?_
    refine wpHeldIn_take (i := 7) (v := ?_) (plain_of (by kernel_rfl)) rfl (by kernel_rfl) (fun _ _ _ h => h) (yieldsSoIn_of (by kernel_rfl) ?_ (fun _ => rfl)) q2 ?_; rotate_left; focus (intro wq hw; clear hw; go_simp; try (with_reducible rfl))
    refine wpHeldIn_take (i := 8) (v := ?_) (plain_of (by kernel_rfl)) rfl (by kernel_rfl) (fun _ _ _ h => h) (yieldsSoIn_of (by kernel_rfl) ?_ (fun _ => rfl)) q2 ?_; rotate_left; focus (intro wq hw; clear hw; go_simp; try (with_reducible rfl))
    refine wpHeldIn_take (i := 9) (v := ?_) (plain_of (by kernel_rfl)) rfl (by kernel_rfl) (fun _ _ _ h => h) (yieldsSoIn_of (by kernel_rfl) ?_ (fun _ => rfl)) q2 ?_; rotate_left; focus (intro wq hw; clear hw; go_simp; try (with_reducible rfl))
    refine wpHeldIn_take (i := 10) (v := ?_) (plain_of (by kernel_rfl)) rfl (by kernel_rfl) (fun _ _ _ h => h) (yieldsSoIn_of (by kernel_rfl) ?_ (fun _ => rfl)) q2 ?_; rotate_left; focus (intro wq hw; clear hw; go_simp; try (with_reducible rfl))
    refine wpHeldIn_take (i := 11) (v := ?_) (plain_of (by kernel_rfl)) rfl (by kernel_rfl) (fun _ _ _ h => h) (yieldsSoIn_of (by kernel_rfl) ?_ (fun _ => rfl)) q2 ?_; rotate_left; focus (intro wq hw; clear hw; go_simp; try (with_reducible rfl))
    refine wpHeldIn_done (by kernel_rfl) ?_ _
    go_simp
    have hB4 := hB1.trans (q2.mono hB1.size)
    clear hb2 hb4 q2
    clear KC q0 q1 HCK2 HK2 HCK HK bS1 hB1
    go_wp2_with fail
    go_returns
    exact ⟨rfl, hB4⟩
end Go.Proofs.Ytgpmnkdagpcffaa
