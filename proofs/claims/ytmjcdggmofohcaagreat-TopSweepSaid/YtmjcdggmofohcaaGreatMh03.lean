/- Texts of this proof, one behind the other: Frame, SeenMap, Differ. Each says its own conditions. -/
import Derived.Test.YtmjcdggmofohcaaGreatMh01
import Derived.Test.YtmjcdggmofohcaaGreatRows
import Derived.WalkKit
import Derived.ProofKit
import Derived.OpenShut
import Derived.Carry
import Derived.Lib.SmallJoins
import Derived.Maps.OwnOps
import Derived.Maps.Views
import Derived.DeepKeys4
import Derived.DeepKeys3
namespace Go.Proofs.YtmjcdggmofohcaaGreat
open Go.ChangeShapes Go.WideShapes Go.ChangeAt Go.RowKit Go.Joins

theorem own : ownKnob Tryz.prog.godebug = none := by kernel_rfl
theorem laid : laidOutB Tryz.prog = true := by kernel_rfl

theorem trodAll_below {H : Type} {enc : TypeId × Value → H} {W W' : World} (hb : Below W.heap.size W W') : ∀ (ts : List TypeId) (vs : List Value) (ds : List (DataW H)) (ps : List MemPlace),
    (∀ t ∈ ts, Tryz.prog.readableRec t = true ∧ t < Tryz.prog.types.size) → DataW.TrodAll enc Tryz.prog W 0 (fun _ => true) true ts vs ds ps → (∀ x ∈ ps, x.block < W.heap.size) →
    DataW.TrodAll enc Tryz.prog W' 0 (fun b => decide (b < W.heap.size)) true ts vs ds ps := by
  intro ts
  induction ts with
  | nil =>
    intro vs ds ps _ h _
    obtain ⟨rfl, rfl, rfl⟩ := trodAll_nil h
    exact trodAll_mk0
  | cons t ts ih =>
    intro vs ds ps hts h hlt
    obtain ⟨v, vs', d, ds', p, q, rfl, rfl, rfl, hd, hr⟩ := trodAll_cons h
    have ht := hts t (by simp)
    exact trodAll_cons_mk (Below.trod laid ht.1 ht.2 hd hb (fun x hx => hlt x (by simp [hx]))) (ih vs' ds' q (fun u hu => hts u (by simp [hu])) hr (fun x hx => hlt x (by simp [hx])))

theorem law_post {H : Type} {enc : TypeId × Value → H} {f : Func} {s : ChangeSpec} {apart : Bool} {W W' : World} {args : Array Value} {ds : List (DataW H)} {before : List MemPlace}
    (hW : DataW.Whole enc Tryz.prog f.params.toList s.vars apart W args.toList ds [] before) (hv : s.vars = []) (hR : f.resultTypes = #[4])
    (hts : ∀ t ∈ f.params.toList, Tryz.prog.readableRec t = true ∧ t < Tryz.prog.types.size)
    (h1 : (s.fn H (ds ++ [])).results = [.lit (.bool true)]) (h2 : (s.fn H (ds ++ [])).args = ds) (h3 : (s.fn H (ds ++ [])).vars = []) (hb : Below W.heap.size W W') :
    s.post enc Tryz.prog f apart true false false W args (.bool true) W' := by
  have hW' := hW
  obtain ⟨p, q, hA, hV, hpq, _, _⟩ := hW'
  have hlt : ∀ x ∈ before, x.block < W.heap.size := fun x hx => hW.lt x hx
  rw [hv] at hV
  obtain ⟨_, hq⟩ := trodVars_none hV
  have e : before = p := by rw [hpq, hq, List.append_nil]
  refine ⟨ds, [], before, [], before, [], hW, ?_, ?_, ?_, ?_, fun h => by cases h⟩
  · rw [h1, hR]
    exact trodAll_cons_mk (shut_bool Tryz.underlying4 _) trodAll_mk0
  · rw [h2]
    exact trodAll_below hb _ _ _ _ hts (by rw [e]; exact hA) hlt
  · rw [h3, hv]
    rfl
  · exact World.keptBut_mono (fun x hx => ⟨hx, .inr (.inl hx)⟩) (hb.frame (· ∈ before))
end Go.Proofs.YtmjcdggmofohcaaGreat
namespace Go.Proofs.YtmjcdggmofohcaaGreat
open Go.RowKit Go.Maps
open Go.WideMaps (KeyLaw)
open Go

theorem rowPt : (53 : TypeId) < Tryz.prog.types.size := of_decide_eq_true (by kernel_rfl)
theorem cellsPt : Tryz.prog.cellsOf 53 = 2 := by kernel_rfl
theorem cellsInt : Tryz.prog.cellsOf 3 = 1 := by kernel_rfl
theorem deepPt : Tryz.prog.keyType 53 = true := by kernel_rfl
theorem widePt : (match Tryz.prog.underlying 53 with | some (.array _ _) | some (.struct _) => true | _ => false) = true := by kernel_rfl
set_option maxRecDepth 100000 in
theorem lawPt : KeyLaw Tryz.prog 53 := deep_law_laid laid (m := 3) (by omega) rowPt (by kernel_rfl) widePt
theorem keyedPt : Keyed Tryz.prog 53 := Keyed.of_law lawPt
/-- What a point reads as among a map's keys. -/
def ptLit (p : Int × Int) : Lit := .string (keyBytes [.int .i64 p.1, .int .i64 p.2])
theorem wf_sm {n : Int} (h : -1000 ≤ n ∧ n ≤ 1000) : (Lit.int .i64 n).wf = true := WalkArith.wf_i64 ⟨by omega, by omega⟩
set_option maxRecDepth 100000 in
theorem keyOf_pt {x y : Int} (h : Geo.sm (x, y)) : keyOf Tryz.prog 53 (.agg #[.int .i64 x, .int .i64 y]) = some (ptLit (x, y)) := by
  have hx := wf_sm h.1
  have hy := wf_sm h.2
  dsimp only at hx hy
  obtain ⟨d, hd⟩ : ∃ d, Tryz.prog.types.size = d + 1 := ⟨Tryz.prog.types.size - 1, (Nat.succ_pred_eq_of_pos (Nat.lt_of_le_of_lt (Nat.zero_le _) rowPt)).symm⟩
  have hf : (Value.agg #[.int .i64 x, .int .i64 y]).formed Tryz.prog 53 = true := by
    simp [Value.formed, Tryz.underlying53, cellsPt]
  unfold keyOf
  rw [Tryz.underlying53]
  simp only [deepPt, hf, Bool.and_self, if_true]
  rw [hd]
  simp [Program.keyLits, Tryz.underlying53, Tryz.underlying3, cellsPt, cellsInt, Value.cells, hx, hy, ptLit]

set_option maxRecDepth 100000 in
theorem ptLit_inj {p q : Int × Int} (hp : Geo.sm p) (hq : Geo.sm q) (h : ptLit p = ptLit q) : p = q := by
  obtain ⟨x, y⟩ := p
  obtain ⟨x', y'⟩ := q
  have a := keyOf_pt hp
  have b := keyOf_pt hq
  rw [← h] at b
  have e := keyedPt.inj a b
  simp at e
  simp [e.1, e.2]
theorem isKey_pt (p : Int × Int) : WideAt.IsKeyLit (ptLit p) := by trivial
set_option maxRecDepth 100000 in
theorem plainBool_inv {H : Type} {v : Value} {z : DataW H × List MemPlace} (h : plainElem Tryz.prog 4 v = some z) : ∃ x, v = .bool x ∧ z = (.lit (.bool x), []) := by
  unfold plainElem at h
  rw [Tryz.underlying4] at h
  cases v <;> simp at h
  exact ⟨_, rfl, h.symm⟩
theorem zeroBool (w : World) : (zeroValue 4).run Tryz.prog w = .ok (.bool false) w := by kernel_rfl
/-- Block b is a map of points, true at just those of a list. -/
def Seen (w : World) (b : Nat) (l : List (Int × Int)) : Prop :=
  ∃ D : DataW Unit, w.ownsMap Tryz.prog 53 (plainElem Tryz.prog 4) b l.length D ∧ IsMap D ∧ ∀ p : Int × Int, Geo.sm p → D.atKey (ptLit p) (.lit (.bool false)) = .lit (.bool (decide (p ∈ l)))
theorem Seen.made (w : World) : Seen (w.alloc (.map #[] 0)) w.heap.size [] :=
  ⟨.map [], World.ownsMap_made _ _ _ _, isMap_empty, fun p _ => by simp [DataW.atKey]⟩
theorem Seen.kept {w w' : World} {row : Option Nat} {b : Nat} {l : List (Int × Int)} (h : Seen w b l) (hg : w.grownBy w' row) (hne : some b ≠ row) : Seen w' b l := by
  obtain ⟨D, h1, h2, h3⟩ := h
  exact ⟨D, h1.kept hg hne, h2, h3⟩
theorem Seen.lt {w : World} {b : Nat} {l : List (Int × Int)} (h : Seen w b l) : b < w.heap.size := by
  obtain ⟨D, h1, _⟩ := h
  exact h1.lt
theorem Seen.below {w w' : World} {b : Nat} {l : List (Int × Int)} (h : Seen w b l) (hb : Below w.heap.size w w') : Seen w' b l :=
  h.kept (row := none) ⟨hb.os, hb.tape, hb.output, hb.size, fun k hk _ => hb.block k hk⟩ (by simp)
set_option maxRecDepth 100000 in
/-- 'seen[c]'. -/
theorem Seen.look {w : World} {b : Nat} {l : List (Int × Int)} (h : Seen w b l) {x y : Int} (hp : Geo.sm (x, y)) :
    (Instr.lookup 127 (.map (some b)) (.agg #[.int .i64 x, .int .i64 y]) false).run Tryz.prog w = .ok (.bool (decide ((x, y) ∈ l))) w := by
  obtain ⟨D, h1, h2, h3⟩ := h
  obtain ⟨v, ps, hrun, hv⟩ := h1.lookup keyedPt Tryz.underlying127 (zeroBool w) (plainElem_bool Tryz.underlying4 false) (keyOf_pt hp)
  obtain ⟨c, rfl, hc⟩ := plainBool_inv hv
  rw [h3 _ hp] at hc
  simp only [Prod.mk.injEq] at hc
  have : decide ((x, y) ∈ l) = c := by
    have := hc.1
    injection this with this
    injection this
  rw [hrun, this]
set_option maxRecDepth 100000 in
/-- 'seen[c] = true'. -/
theorem Seen.put {w : World} {b : Nat} {l : List (Int × Int)} (h : Seen w b l) {x y : Int} (hp : Geo.sm (x, y)) (hl : l.length < 1000) :
    ∃ w', (Instr.mapUpdate 127 (.map (some b)) (.agg #[.int .i64 x, .int .i64 y]) (.bool true)).run Tryz.prog w = .ok () w' ∧ Seen w' b (l ++ [(x, y)]) ∧ w.grownBy w' (some b) := by
  obtain ⟨D, h1, h2, h3⟩ := h
  obtain ⟨w', hrun, hown, hgr⟩ := h1.update keyedPt Tryz.underlying127 (by simp only [maxLen]; omega) (keyOf_pt hp) (plainElem_bool Tryz.underlying4 true)
  refine ⟨w', hrun, ⟨_, by simpa using hown, h2.put _ _, fun p hps => ?_⟩, hgr⟩
  by_cases e : p = (x, y)
  · subst e
    rw [atKey_put_same h2 (isKey_pt _)]
    simp
  · rw [atKey_put_other (fun e' => e (ptLit_inj hps hp e')), h3 p hps]
    simp [e]
end Go.Proofs.YtmjcdggmofohcaaGreat
namespace Go.Proofs.YtmjcdggmofohcaaGreat
open Go.RowKit
namespace Geo
def difP (l : List (Int × Int)) : Prop := (∀ p ∈ l, ptB p = true) ∧ l.Nodup
instance difDec (l : List (Int × Int)) : Decidable (difP l) := by unfold difP; exact inferInstance
def difB (l : List (Int × Int)) : Bool := decide (difP l)
theorem pt_sm {p : Int × Int} (h : ptB p = true) : sm p := by
  unfold ptB at h
  rw [Bool.and_eq_true, inB_true, inB_true] at h
  unfold sm
  omega
theorem difP_take {l : List (Int × Int)} {k : Nat} {p : Int × Int} (hp : l[k]? = some p) (h : difP (l.take k)) (h1 : ptB p = true) (h2 : p ∉ l.take k) : difP (l.take (k + 1)) := by
  rw [List.take_add_one, hp]
  refine ⟨fun q hq => ?_, ?_⟩
  · rcases List.mem_append.1 hq with h3 | h3
    · exact h.1 q h3
    · simp at h3; subst h3; exact h1
  · rw [List.nodup_append]
    refine ⟨h.2, by simp, fun a ha b hb => ?_⟩
    simp at hb
    subst hb
    intro e
    subst e
    exact h2 ha
theorem difB_no {l : List (Int × Int)} {k : Nat} {p : Int × Int} (hp : l[k]? = some p) (h : ptB p = false ∨ p ∈ l.take k) : difB l = false := by
  unfold difB
  rw [decide_eq_false_iff_not]
  rintro ⟨h1, h2⟩
  rcases h with h | h
  · rw [h1 p (List.mem_of_getElem? hp)] at h; cases h
  · have e := List.take_append_drop k l
    rw [← e, List.nodup_append] at h2
    exact h2.2.2 _ h _ (List.mem_of_getElem? (i := 0) (by rw [List.getElem?_drop]; exact hp)) rfl
theorem difB_yes {l : List (Int × Int)} (h : difP l) : difB l = true := by unfold difB; simpa using h
end Geo

set_option maxRecDepth 100000 in
set_option maxHeartbeats 2000000 in
theorem differ_any (A : Option Addr) (c : Nat) (ps : List (Int × Int)) (w : World) (hl : ps.length ≤ 100) (hg : Prs w w.heap.size A ps) :
    Calls Tryz.prog 49 #[.slice A ps.length c] w fun e w' => e = .returned (.bool (Geo.difB ps)) ∧ Below w.heap.size w w' := by
  have HG := Lib.hid hg
  have hmm := @run_makeMap Tryz.prog
  clear hg
  go_enter Tryz.func49, Tryz.ntmps49
  go_wp2_with fail
  clear hmm
  go_loopw [9] (fun x wr => ∃ k : Nat, (k : Int) ≤ ps.length ∧ x = .int .i64 k ∧ Below w.heap.size w wr ∧ Hid (Seen wr w.heap.size (ps.take k)) ∧ Hid (Geo.difP (ps.take k))) (fun x _ => (ps.length - intOf x).toNat)
  case atStart => exact ⟨0, by omega, rfl, by (repeat' (first | (with_reducible exact Below.refl _ _) | (with_reducible assumption) | (with_reducible refine Below.alloc ?_ ?_ _) | (with_reducible refine below_drewN ?_ _) | (with_reducible refine Below.drew ?_) | (with_reducible refine Below.setCell ?_ ?_ _) | go_size)), Seen.made w, ⟨by simp, by simp⟩⟩
  case round =>
    obtain ⟨k, hk, rfl, hB, hS, hD⟩ := hrel
    have hk0 := Int.natCast_nonneg k
    by_cases hlt : (k : Int) < ps.length
    · have hkl : k < ps.length := by omega
      have hgk : ps[k]? = some ps[k] := List.getElem?_eq_getElem hkl
      obtain ⟨b, off, rfl, hb, hc⟩ := HG.out (by omega)
      have d0 := (hB.cell (p := ⟨b, off + k * 2, none⟩) hb).trans (hc k _ hgk).1
      have d1 := (hB.cell (p := ⟨b, off + k * 2 + 1, none⟩) hb).trans (hc k _ hgk).2
      have hbr : b < wr.heap.size := by have := hB.size; omega
      have hzs := hS.out.lt
      have HK := Lib.hid hgk
      clear hc hgk HG hb
      generalize ps[k] = p at *
      obtain ⟨x, y⟩ := p
      dsimp only at d0 d1
      go_wp2_with fail
      refine (inReach_any x y _).mono ?_
      rintro e w1 ⟨rfl, hb1⟩
      have hB1 : Below w.heap.size w w1 := Below.trans (by (repeat' (first | (with_reducible exact Below.refl _ _) | (with_reducible assumption) | (with_reducible refine Below.alloc ?_ ?_ _) | (with_reducible refine below_drewN ?_ _) | (with_reducible refine Below.drew ?_) | (with_reducible refine Below.setCell ?_ ?_ _) | go_size))) (hb1.mono (by first | omega | (simp; done) | (simp; omega)))
      have hz1 := hb1.size
      simp at hz1
      have q0 : w1.cell? ⟨wr.heap.size, 0, none⟩ = some (.int .i64 x) := by rw [(hb1.cell (by first | omega | (simp; done) | (simp; omega)))]; (repeat (rw [World.cell?_alloc_lt _ _ _ (by first | omega | (simp; done) | (simp; omega))])); go_cell
      have q1 : w1.cell? ⟨wr.heap.size, 1, none⟩ = some (.int .i64 y) := by rw [(hb1.cell (by first | omega | (simp; done) | (simp; omega)))]; (repeat (rw [World.cell?_alloc_lt _ _ _ (by first | omega | (simp; done) | (simp; omega))])); go_cell
      have hS1 : Hid (Seen w1 w.heap.size (ps.take k)) := (hS.out.below ((Below.refl _ _).alloc (Nat.le_refl _) _)).below hb1
      clear d0 d1 hb1 hB hS
      cases hpt : Geo.ptB (x, y)
      · have hno := Lib.hid (Geo.difB_no HK.out (.inl hpt))
        clear hpt
        go_wp2_with fail
        go_returns
        exact ⟨ret_b hno.out.symm, hB1⟩
      · have hsm := Geo.pt_sm hpt
        have hlook := hS1.out.look hsm
        by_cases hin : (x, y) ∈ ps.take k
        · have hno := Lib.hid (Geo.difB_no HK.out (.inr hin))
          rw [decide_eq_true hin] at hlook
          clear hin hpt
          go_wp2_with fail
          go_returns
          exact ⟨ret_b hno.out.symm, hB1⟩
        · have hD1 := Lib.hid (Geo.difP_take HK.out hD.out hpt hin)
          have htk : Hid (ps.take (k + 1) = ps.take k ++ [(x, y)]) := by rw [List.take_add_one, HK.out]; rfl
          rw [decide_eq_false hin] at hlook
          obtain ⟨w2, hput, hS2, hg2⟩ := hS1.out.put hsm (by have := List.length_take_le k ps; omega)
          have HS2 := Lib.hid hS2
          have hB2 : Below w.heap.size w w2 := hB1.grown hg2 hB1.size (fun j hj => by injection hj with hj; omega)
          clear hin hpt hS2 hg2
          go_wp2_with fail
          go_roundw
          case rel => exact ⟨k + 1, by omega, by go_num, hB2, by rw [htk.out]; exact HS2, hD1⟩
          case measure => simp [intOf]; omega
    · have hyes := Lib.hid (Geo.difB_yes (l := ps) (by have := hD.out; rwa [List.take_of_length_le (by omega)] at this))
      go_wp2_with fail
      go_returns
      exact ⟨ret_b hyes.out.symm, hB⟩
end Go.Proofs.YtmjcdggmofohcaaGreat
