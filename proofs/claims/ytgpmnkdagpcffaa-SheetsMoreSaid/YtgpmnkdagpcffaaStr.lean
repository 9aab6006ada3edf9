/- Sheets: the strange controls. -/
import Derived.Test.YtgpmnkdagpcffaaShL
import Derived.Test.YtgpmnkdagpcffaaPairs
import Derived.Test.YtgpmnkdagpcffaaShR
import Derived.Test.YtgpmnkdagpcffaaKn
namespace Go.Proofs.Ytgpmnkdagpcffaa
open Go.RowKit
theorem int_info : (Try.prog.info? 3).map (fun i => (i.zero, i.size, i.bytes)) = some (some (.int .i64 0), 1, 8) := by kernel_rfl
theorem own_nil (w : World) (B : Nat) : w.ownsRow B 3 1 (.slice none 0 0) ([] : List Int).length (([] : List Int).map (Value.int .i64)) := ⟨by simp, .inl ⟨rfl, rfl⟩⟩
theorem own_below {w w' : World} {B : Nat} {v : Value} {n : Nat} {xs : List Value} (h : w.ownsRow B 3 1 v n xs) (hb : Below w.heap.size w w') : w'.ownsRow B 3 1 v n xs :=
  h.kept (row := none) ⟨hb.os, hb.tape, hb.output, hb.size, fun k hk _ => hb.block k hk⟩ (by cases hv : v.ownBlock <;> simp)
theorem info_parts1 {o : Option TypeInfo} {z : Option Value} {n b : Nat} (h : o.map (fun i => (i.zero, i.size, i.bytes)) = some (z, n, b)) : ∃ i, o = some i ∧ i.zero = z ∧ i.size = n ∧ i.bytes = b := by
  cases o with
  | none => cases h
  | some i => simp at h; exact ⟨i, rfl, h.1, h.2.1, h.2.2⟩
/-- 'out = append(out, x)' on a row of the call's own. -/
theorem wpList_push {ops : Array Oper} {rest : List Oper} {o : Oper} {a : Act} {Q : Exit → Act → World → Prop} {wr : World} (hgd : o.guard = none) (s y : Operand)
    (ho : o.op = .call { callee := .builtin .append, args := #[s, y], argTypes := #[46, 46] }) (x : Int) (B : Nat) (v : Value) (n : Nat) (xs : List Value) (hs : a.eval s = v)
    (hx : a.eval y = .slice (some ⟨wr.heap.size, 0, none⟩) 1 1) (hown : wr.ownsRow B 3 1 v n xs) (hB : B ≤ wr.heap.size) (hn : n ≤ 100000)
    (h : ∀ v' w', w'.ownsRow B 3 1 v' (n + 1) (xs ++ [.int .i64 x]) → Below B wr w' → wpList Try.prog ops Q rest (a.put o.dst v') w') :
    wpList Try.prog ops Q (o :: rest) a (wr.alloc (.cells #[.int .i64 x] 3)) := by
  obtain ⟨i0, hi0, hz0, hz1, hz2⟩ := info_parts1 int_info
  refine wpList_append_any _ hgd s y 46 ho B 3 i0 (.int .i64 0) 1 8 Try.underlying46 hi0 hz0 hz1 hz2 rfl (by decide) v n xs hs (hown.alloc _) (wr.heap.size + 1) (some ⟨wr.heap.size, 0, none⟩) 1 1 [.int .i64 x] hx ?_ ?_ ?_ ?_ ?_ ?_
  · refine ⟨rfl, fun _ => ⟨_, rfl, by simp, fun j u hu => ?_⟩⟩
    rcases j with _ | j
    · have hu' : u = .int .i64 x := by simpa using hu.symm
      subst hu'
      show (wr.alloc _).cell? ⟨wr.heap.size, 0, none⟩ = _
      go_cell
    · simp at hu
  · intro u hu
    simp at hu
    subst hu
    rfl
  · simp only [maxLen]; omega
  · omega
  · simp; omega
  · intro v' w' hown' hg _
    exact h v' w' hown' (((Below.refl B wr).alloc hB _).grown hg (by simp; omega) (fun j hj => (hown.lt j hj).1))
/-- A slice of numbers, and an error. -/
def IntsEPost (L : List Int) (x : Int) (w : World) (e : Ending) (w' : World) : Prop := ∃ v : Value, e = .returned (.tuple #[v, .int .i64 x]) ∧ Hid (Ints w' w'.heap.size v L) ∧ Below w.heap.size w w'
namespace Sh
def strTo (KV : Nat → Int) : Nat → List Int
  | 0 => []
  | k + 1 => if KV k = 2 then strTo KV k ++ [(k : Int)] else strTo KV k
theorem strTo_yes {KV : Nat → Int} {k : Nat} (h : KV k = 2) : strTo KV (k + 1) = strTo KV k ++ [(k : Int)] := by rw [strTo, if_pos h]
theorem strTo_no {KV : Nat → Int} {k : Nat} (h : ¬ KV k = 2) : strTo KV (k + 1) = strTo KV k := by rw [strTo, if_neg h]
theorem strTo_len (KV : Nat → Int) : ∀ k, (strTo KV k).length ≤ k
  | 0 => by simp [strTo]
  | k + 1 => by
    have := strTo_len KV k
    by_cases h : KV k = 2
    · rw [strTo_yes h]; simp; omega
    · rw [strTo_no h]; omega
theorem strTo_mem (KV : Nat → Int) : ∀ k (x : Int), x ∈ strTo KV k ↔ ∃ j : Nat, j < k ∧ KV j = 2 ∧ x = j
  | 0, x => by simp [strTo]
  | k + 1, x => by
    by_cases h : KV k = 2
    · rw [strTo_yes h, List.mem_append, strTo_mem KV k x]
      constructor
      · rintro (⟨j, h1, h2, h3⟩ | h1)
        · exact ⟨j, by omega, h2, h3⟩
        · exact ⟨k, by omega, h, by simpa using h1⟩
      · rintro ⟨j, h1, h2, h3⟩
        by_cases e : j = k
        · subst e; exact .inr (by simpa using h3)
        · exact .inl ⟨j, by omega, h2, h3⟩
    · rw [strTo_no h, strTo_mem KV k x]
      constructor
      · rintro ⟨j, h1, h2, h3⟩
        exact ⟨j, by omega, h2, h3⟩
      · rintro ⟨j, h1, h2, h3⟩
        by_cases e : j = k
        · subst e; exact absurd h2 h
        · exact ⟨j, by omega, h2, h3⟩
/-- What is known of a control's being right. -/
def rightK (s : Sheet) (k : Nat) : Int := knownV (fun f => fitB f.1 (ctAt s.cs k)) (truthsL s)
def strL (s : Sheet) : List Int := if spE s = 0 then strTo (rightK s) s.cs.length else []
end Sh
set_option maxHeartbeats 1000000 in
theorem strange1_any (f : Sh.FaS) (q : Sh.Ct) (B : Nat) (w : World) (hq : Sh.csm q) (hb : BoxS w B 29 #[.int .i64 q.1, .int .i64 q.2.1, .int .i64 q.2.2.1, .int .i64 q.2.2.2]) :
    Calls Try.prog 74 #[.agg #[.int .i64 f.1.1, .int .i64 f.1.2], .pointer (some ⟨B, 0, none⟩)] w fun e w' => e = .returned (.bool (Sh.fitB f.1 q)) ∧ Below w.heap.size w w' := by
  have HA : Hid (∀ W, Calls Try.prog 75 #[.agg #[.int .i64 f.1.1, .int .i64 f.1.2], .agg #[.int .i64 q.1, .int .i64 q.2.1, .int .i64 q.2.2.1, .int .i64 q.2.2.2]] W fun e w' => e = .returned (.bool (Sh.fitB f.1 q)) ∧ Below W.heap.size W w') := fun W => fit_any f.1 q W f.2 hq
  have l1 := hb.lt
  obtain ⟨b0, b1, b2, b3⟩ := boxS4 hb
  generalize Sh.fitB f.1 q = R at *
  obtain ⟨⟨f1, f2⟩, hf⟩ := f
  obtain ⟨q1, q2, q3, q4⟩ := q
  dsimp only at *
  clear hf hb hq
  go_enter Try.func74, Try.ntmps74
  go_wp2_with fail
  have hB0 : Below w.heap.size w (w.alloc (.cells #[.int .i64 f1, .int .i64 f2] 90)) := by (repeat' (first | (with_reducible exact Below.refl _ _) | (with_reducible assumption) | (with_reducible refine Below.alloc ?_ ?_ _) | (with_reducible refine Below.drew ?_) | (with_reducible refine Below.setCell ?_ ?_ _) | go_size | (exact (by simp)) | omega))
  refine (HA.out _).mono ?_
  rintro e w2 ⟨rfl, hb2⟩
  have hB2 := hB0.trans (hb2.mono hB0.size)
  go_wp2_with fail
  go_returns
  exact ⟨rfl, hB2⟩

set_option maxRecDepth 100000 in
set_option maxHeartbeats 4000000 in
theorem Strange_yes (s : Sheet) (h0 : Sh.spE s = 0) (A : Option Addr) (c : Nat) (w : World) (hg : Cts w w.heap.size A s.cs) :
    Calls Try.prog 25 #[.agg (shV s A c)] w (IntsEPost (Sh.strTo (Sh.rightK s) s.cs.length) 0 w) := by
  obtain ⟨hok, hne⟩ := Sh.sp_ok h0
  have hs := Sh.ok_of hok
  have hl : s.cs.length ≤ 1000000000 := by have := hs.n; omega
  have hl8 := hs.n
  have HS : Hid (∀ W, Below w.heap.size w W → Calls Try.prog 60 #[.agg (shV s A c)] W (SpPost (shV s A c) 0 W)) := fun W hW => by
    have := spread_any s A c W hl ((hg.keep hW).wider hW.size)
    rw [Sh.spV_yes h0, h0] at this
    exact this
  have HKN : Hid (∀ k B W, k < s.cs.length → Below w.heap.size w W → BoxS W B 29 #[.int .i64 (Sh.ctAt s.cs k).1, .int .i64 (Sh.ctAt s.cs k).2.1, .int .i64 (Sh.ctAt s.cs k).2.2.1, .int .i64 (Sh.ctAt s.cs k).2.2.2] →
      Calls Try.prog 73 #[.agg (shV s A c), .func (.func 74) #[] #[.pointer (some ⟨B, 0, none⟩)]] W (ErrPost (Sh.rightK s k) W)) := fun k B W hk hW hx =>
    known_any s hs hne A c 74 #[.pointer (some ⟨B, 0, none⟩)] (fun f => Sh.fitB f.1 (Sh.ctAt s.cs k)) W ((hg.keep hW).wider hW.size)
      (enters_of Try.func74 (by kernel_rfl) rfl) (fun x V hV => strange1_any x (Sh.ctAt s.cs k) B V (Sh.ctB_sm (hs.c k hk)) (hx.below hV))
  have HG := Lib.hid hg
  have HL := Lib.hid (Sh.strTo_len (Sh.rightK s))
  generalize Sh.rightK s = KV at *
  clear hg hok hne hs hl h0
  obtain ⟨al, ah, bl, bh, cs, wrn⟩ := s
  unfold shV at HS HKN ⊢
  dsimp only at *
  go_enter Try.func25, Try.ntmps25
  go_wp2_with fail
  have bS1 := BoxS.new w 26 #[.int .i64 al, .int .i64 ah, .int .i64 bl, .int .i64 bh, .slice A cs.length c, .int .i64 wrn]
  have hB1 : Below w.heap.size w (w.alloc (.cells #[.int .i64 al, .int .i64 ah, .int .i64 bl, .int .i64 bh, .slice A cs.length c, .int .i64 wrn] 26)) := by (repeat' (first | (with_reducible exact Below.refl _ _) | (with_reducible assumption) | (with_reducible refine Below.alloc ?_ ?_ _) | (with_reducible refine Below.drew ?_) | (with_reducible refine Below.setCell ?_ ?_ _) | go_size | (exact (by simp)) | omega))
  generalize World.alloc w _ = w1 at *
  refine (HS.out _ hB1).mono ?_
  rintro e w2 ⟨rfl, hb2⟩
  have bS2 := bS1.below hb2
  have hB2 := hB1.trans (hb2.mono hB1.size)
  clear bS1 hb2 hB1 HS
  have s4 := bS2.cell 4 rfl
  have ls := bS2.lt
  go_wp2_with fail
  obtain ⟨BW, hBW⟩ : ∃ B, B = w2.heap.size := ⟨_, rfl⟩
  have bW3 : BoxS (w2.alloc (.cells #[.int .i64 al, .int .i64 ah, .int .i64 bl, .int .i64 bh, .slice A cs.length c, .int .i64 wrn] 87)) BW 87 #[.int .i64 al, .int .i64 ah, .int .i64 bl, .int .i64 bh, .slice A cs.length c, .int .i64 wrn] := by rw [hBW]; exact BoxS.new w2 _ _
  have hB3 : Below w.heap.size w (w2.alloc (.cells #[.int .i64 al, .int .i64 ah, .int .i64 bl, .int .i64 bh, .slice A cs.length c, .int .i64 wrn] 87)) := hB2.alloc hB2.size _
  have hz3 : BW + 1 ≤ (w2.alloc (.cells #[.int .i64 al, .int .i64 ah, .int .i64 bl, .int .i64 bh, .slice A cs.length c, .int .i64 wrn] 87)).heap.size := by simp; omega
  have hwB : w.heap.size ≤ BW := by have := hB2.size; omega
  rw [← hBW]
  clear s4 ls bS2 hB2 hBW
  generalize World.alloc w2 _ = w3 at *
  go_loopg [6, 20] cs.length (fun g x6 x20 wx => ∃ k : Nat, Hid (k + g = cs.length) ∧ (k : Int) ≤ cs.length ∧ x20 = .int .i64 k ∧ Below w.heap.size w wx ∧ BW + 1 ≤ wx.heap.size ∧ BoxS wx BW 87 #[.int .i64 al, .int .i64 ah, .int .i64 bl, .int .i64 bh, .slice A cs.length c, .int .i64 wrn] ∧ wx.ownsRow (BW + 1) 3 1 x6 (Sh.strTo KV k).length ((Sh.strTo KV k).map (Value.int .i64)))
  case atStart => exact ⟨0, by simp [Hid], by omega, rfl, hB3, hz3, bW3, own_nil _ _⟩
  case round =>
    clear hB3 hz3 bW3
    obtain ⟨k, hk, hk1, rfl, hB, hz, bW, hown⟩ := hrel
    have hk0 := Int.natCast_nonneg k
    by_cases hlt : (k : Int) < cs.length
    · have hkn : k < cs.length := by omega
      obtain ⟨bb, off, rfl, hbb, hc⟩ := HG.out (by omega)
      obtain ⟨h0, h1, h2, h3⟩ := hc k hkn
      have a0 := (hB.cell (p := ⟨bb, _, none⟩) hbb).trans h0
      have a1 := (hB.cell (p := ⟨bb, _, none⟩) hbb).trans h1
      have a2 := (hB.cell (p := ⟨bb, _, none⟩) hbb).trans h2
      have a3 := (hB.cell (p := ⟨bb, _, none⟩) hbb).trans h3
      have HKN1 := Lib.hid (fun B W => HKN.out k B W hkn)
      have w0 := bW.lt
      obtain ⟨⟨s0, s1, s2⟩, s3, s4, s5⟩ := boxS6 bW
      have HLk := HL.out k
      generalize Sh.ctAt cs k = q at *
      obtain ⟨q1, q2, q3, q4⟩ := q
      dsimp only at *
      clear h0 h1 h2 h3 hc HG HKN
      have hK1 : Hid (KV k = 2 → Sh.strTo KV (k + 1) = Sh.strTo KV k ++ [(k : Int)]) := fun h => Sh.strTo_yes h
      have hK2 : Hid (¬ KV k = 2 → Sh.strTo KV (k + 1) = Sh.strTo KV k) := fun h => Sh.strTo_no h
      go_wp2_with fail
      have bC4 := BoxS.new wr 29 #[.int .i64 q1, .int .i64 q2, .int .i64 q3, .int .i64 q4]
      have hB4 : Below w.heap.size w (wr.alloc (.cells #[.int .i64 q1, .int .i64 q2, .int .i64 q3, .int .i64 q4] 29)) := hB.alloc hB.size _
      have hz4 : BW + 1 ≤ (wr.alloc (.cells #[.int .i64 q1, .int .i64 q2, .int .i64 q3, .int .i64 q4] 29)).heap.size := by simp; omega
      have bW4 := bW.alloc (.cells #[.int .i64 q1, .int .i64 q2, .int .i64 q3, .int .i64 q4] 29)
      have hO4 := Lib.hid (hown.alloc (.cells #[.int .i64 q1, .int .i64 q2, .int .i64 q3, .int .i64 q4] 29))
      clear a0 a1 a2 a3 s0 s1 s2 s3 s4 s5 w0 bW hown hB
      generalize World.alloc wr _ = w4 at *
      refine (HKN1.out _ _ hB4 bC4).mono ?_
      rintro e w5 ⟨rfl, hb5⟩
      have hB5 := hB4.trans (hb5.mono hB4.size)
      have bW5 := bW4.below hb5
      have hO5 := Lib.hid (own_below hO4.out hb5)
      have hz5 : BW + 1 ≤ w5.heap.size := by have := hb5.size; omega
      clear hO4 bC4 bW4 hB4 hb5 HKN1
      by_cases hkv : KV k = 2
      · have hbv : (KV k == 2) = true := by rw [hkv]; rfl
        have hK3 := Lib.hid (hK1.out hkv)
        clear hkv hK1 hK2
        go_wp2_with (at_builtin; refine wpList_push rfl (.tmp 29) (.tmp 31) rfl (k : Int) (BW + 1) u6 _ _ rfl rfl hO5.out (by omega) (by omega) ?_; intro v' w6 hown6 hb6; have HO6 := Lib.hid hown6; clear hown6)
        obtain ⟨g', hg'⟩ : ∃ g', gk = g' + 1 := ⟨gk - 1, by have := hk.out; omega⟩
        go_roundg g'
        case measure => omega
        case rel =>
          refine ⟨k + 1, by have := hk.out; simp only [Hid]; omega, by omega, by go_num, hB5.trans (hb6.mono (by omega)), by have := hb6.size; omega, (hb6.block BW (by omega)).trans bW5, ?_⟩
          rw [hK3.out]
          simpa using HO6.out
      · have hbv : (KV k == 2) = false := by simpa using hkv
        have hK3 := Lib.hid (hK2.out hkv)
        clear hkv hK1 hK2
        go_wp2_with fail
        obtain ⟨g', hg'⟩ : ∃ g', gk = g' + 1 := ⟨gk - 1, by have := hk.out; omega⟩
        go_roundg g'
        case measure => omega
        case rel => exact ⟨k + 1, by have := hk.out; simp only [Hid]; omega, by omega, by go_num, hB5, hz5, bW5, by rw [hK3.out]; exact hO5.out⟩
    · have e : k = cs.length := by omega
      subst e
      have HI := Lib.hid (Ints.of_own hown)
      clear hown
      go_wp2_with fail
      go_returns
      exact ⟨u6, rfl, HI, hB⟩
end Go.Proofs.Ytgpmnkdagpcffaa

namespace Go.Proofs.Ytgpmnkdagpcffaa
open Go.RowKit
namespace Sh
theorem known_two (b : FaS → Bool) (L : List FaS) (hne : L ≠ []) : knownV b L = 2 ↔ L.any b = false := by
  unfold knownV
  cases h1 : L.all b with
  | true =>
    cases L with
    | nil => exact absurd rfl hne
    | cons x l =>
      simp at h1
      simp [h1.1]
  | false =>
    cases h2 : L.any b with
    | true => simp
    | false => simp
def rtQ (c : Ct) (p : Fa) : Bool := fitB p c
theorem str_cnt {s : Sheet} (hne : truthsL s ≠ []) (k : Nat) : cntTo (fun j => rtQ (ctAt s.cs k) (Geo.ptAt (vals (truthsL s)) j)) (truthsL s).length = 0 ↔ rightK s k = 2 := by
  unfold rightK
  rw [known_two _ _ hne, cnt_zero, List.any_eq_false]
  constructor
  · intro h x hx
    obtain ⟨j, hj, rfl⟩ := List.getElem_of_mem hx
    have := h j hj
    rw [vals_at hj] at this
    unfold rtQ at this
    simp [this]
  · intro h j hj
    rw [vals_at hj]
    have := h _ (List.getElem_mem hj)
    unfold rtQ
    simpa using this
theorem vals_sm (L : List FaS) {k : Nat} (hk : k < L.length) : fsm (Geo.ptAt (vals L) k) := by rw [vals_at hk]; exact L[k].2
end Sh
set_option maxRecDepth 100000 in
set_option maxHeartbeats 2000000 in
theorem Alike_no (s : Sheet) (A : Option Addr) (c : Nat) (w : World) (hl : s.cs.length ≤ 1000000000) (hg : Cts w w.heap.size A s.cs) (h0 : Sh.spE s ≠ 0) :
    Calls Try.prog 39 #[.agg (shV s A c)] w (TwoPost 0 (Sh.spE s) w) := by
  have HS : Hid (∀ W, Below w.heap.size w W → Calls Try.prog 60 #[.agg (shV s A c)] W (SpPost (Sh.spV s A c) (Sh.spE s) W)) := fun W hW => spread_any s A c W hl ((hg.keep hW).wider hW.size)
  rw [Sh.spV_no h0] at HS
  have hne : (Sh.spE s != 0) = true := by simpa using h0
  generalize Sh.spE s = E at *
  clear hg hl h0
  obtain ⟨al, ah, bl, bh, cs, wrn⟩ := s
  unfold shV at *
  dsimp only at *
  go_enter Try.func39, Try.ntmps39
  go_wp2_with fail
  have hB1 : Below w.heap.size w (w.alloc (.cells #[.int .i64 al, .int .i64 ah, .int .i64 bl, .int .i64 bh, .slice A cs.length c, .int .i64 wrn] 26)) := by (repeat' (first | (with_reducible exact Below.refl _ _) | (with_reducible assumption) | (with_reducible refine Below.alloc ?_ ?_ _) | (with_reducible refine Below.drew ?_) | (with_reducible refine Below.setCell ?_ ?_ _) | go_size | (exact (by simp)) | omega))
  generalize World.alloc w _ = w1 at *
  refine (HS.out _ hB1).mono ?_
  rintro e w2 ⟨rfl, hb2⟩
  have hB2 := hB1.trans (hb2.mono hB1.size)
  go_wp2_with fail
  go_returns
  exact ⟨rfl, hB2.alloc hB2.size _⟩

set_option maxRecDepth 100000 in
set_option maxHeartbeats 2000000 in
theorem Strange_no (s : Sheet) (A : Option Addr) (c : Nat) (w : World) (hl : s.cs.length ≤ 1000000000) (hg : Cts w w.heap.size A s.cs) (h0 : Sh.spE s ≠ 0) :
    Calls Try.prog 25 #[.agg (shV s A c)] w (IntsEPost [] (Sh.spE s) w) := by
  have HS : Hid (∀ W, Below w.heap.size w W → Calls Try.prog 60 #[.agg (shV s A c)] W (SpPost (Sh.spV s A c) (Sh.spE s) W)) := fun W hW => spread_any s A c W hl ((hg.keep hW).wider hW.size)
  rw [Sh.spV_no h0] at HS
  have hne : (Sh.spE s != 0) = true := by simpa using h0
  generalize Sh.spE s = E at *
  clear hg hl h0
  obtain ⟨al, ah, bl, bh, cs, wrn⟩ := s
  unfold shV at *
  dsimp only at *
  go_enter Try.func25, Try.ntmps25
  go_wp2_with fail
  have hB1 : Below w.heap.size w (w.alloc (.cells #[.int .i64 al, .int .i64 ah, .int .i64 bl, .int .i64 bh, .slice A cs.length c, .int .i64 wrn] 26)) := by (repeat' (first | (with_reducible exact Below.refl _ _) | (with_reducible assumption) | (with_reducible refine Below.alloc ?_ ?_ _) | (with_reducible refine Below.drew ?_) | (with_reducible refine Below.setCell ?_ ?_ _) | go_size | (exact (by simp)) | omega))
  generalize World.alloc w _ = w1 at *
  refine (HS.out _ hB1).mono ?_
  rintro e w2 ⟨rfl, hb2⟩
  have hB2 := hB1.trans (hb2.mono hB1.size)
  go_wp2_with fail
  go_returns
  exact ⟨.slice none 0 0, rfl, .inl ⟨rfl, rfl⟩, hB2.alloc hB2.size _⟩

theorem Alike_any (s : Sheet) (A : Option Addr) (c : Nat) (w : World) (hl : s.cs.length ≤ 1000000000) (hg : Cts w w.heap.size A s.cs) :
    Calls Try.prog 39 #[.agg (shV s A c)] w (TwoPost (Sh.alikeV s) (Sh.spE s) w) := by
  unfold Sh.alikeV
  by_cases h : Sh.spE s = 0
  · rw [if_pos h, h]
    exact Alike_yes s h A c w hg
  · rw [if_neg h]
    exact Alike_no s A c w hl hg h
theorem Strange_any (s : Sheet) (A : Option Addr) (c : Nat) (w : World) (hl : s.cs.length ≤ 1000000000) (hg : Cts w w.heap.size A s.cs) :
    Calls Try.prog 25 #[.agg (shV s A c)] w (IntsEPost (Sh.strL s) (Sh.spE s) w) := by
  unfold Sh.strL
  by_cases h : Sh.spE s = 0
  · rw [if_pos h, h]
    exact Strange_yes s h A c w hg
  · rw [if_neg h]
    exact Strange_no s A c w hl hg h

set_option maxRecDepth 100000 in
set_option maxHeartbeats 4000000 in
theorem Strange4_any (s : Sheet) (A : Option Addr) (c : Nat) (w : World) (hl : s.cs.length ≤ 1000000000) (hg : Cts w w.heap.size A s.cs) :
    Calls Try.prog 47 #[.agg (shV s A c)] w (IntsEPost (Sh.strL s) (Sh.spE s) w) := by
  have HK : Hid (∀ W, Below w.heap.size w W → Calls Try.prog 87 #[.agg (shV s A c), .int .i64 0, .bool true] W (PrsEPost (Sh.knL s 0 true) (Sh.knE s 0 true) W)) := fun W hW => known4_any s A c 0 true W hl ((hg.keep hW).wider hW.size)
  rw [Sh.knE_sp] at HK
  by_cases h0 : Sh.spE s = 0
  · obtain ⟨hok, hne⟩ := Sh.sp_ok h0
    have hs := Sh.ok_of hok
    have hL : Sh.knL s 0 true = Sh.vals (Sh.truthsL s) := by unfold Sh.knL; rw [Sh.knE_sp, if_pos h0]
    have hV : Sh.strL s = Sh.strTo (Sh.rightK s) s.cs.length := by unfold Sh.strL; rw [if_pos h0]
    have hlen := Sh.truthsL_len s hs
    have hl8 := hs.n
    rw [hL, h0] at HK
    rw [hV, h0]
    have hvl : (Sh.truthsL s).length = (Sh.vals (Sh.truthsL s)).length := (Sh.vals_len _).symm
    have HCN : Hid (∀ k, Sh.cntTo (fun j => Sh.rtQ (Sh.ctAt s.cs k) (Geo.ptAt (Sh.vals (Sh.truthsL s)) j)) (Sh.truthsL s).length = 0 ↔ Sh.rightK s k = 2) := fun k => Sh.str_cnt hne k
    have HIR : Hid (∀ k j, k < s.cs.length → j < (Sh.truthsL s).length → ∀ W, Calls Try.prog 101 #[.agg #[.int .i64 (Sh.ctAt s.cs k).1, .int .i64 (Sh.ctAt s.cs k).2.1, .int .i64 (Sh.ctAt s.cs k).2.2.1, .int .i64 (Sh.ctAt s.cs k).2.2.2], .agg #[.int .i64 (Geo.ptAt (Sh.vals (Sh.truthsL s)) j).1, .int .i64 (Geo.ptAt (Sh.vals (Sh.truthsL s)) j).2]] W fun e w' => e = .returned (.bool (Sh.rtQ (Sh.ctAt s.cs k) (Geo.ptAt (Sh.vals (Sh.truthsL s)) j))) ∧ Below W.heap.size W w') := fun k j hk hj W => IsRight4_any _ _ W (Sh.vals_sm _ hj) (Sh.ctB_sm (hs.c k hk))
    have HSL := Lib.hid (Sh.strTo_len (Sh.rightK s))
    have HG := Lib.hid hg
    rw [hvl] at hlen HCN HIR
    generalize Sh.vals (Sh.truthsL s) = P at *
    generalize Sh.rightK s = KV at *
    clear hg hl hok hs hne h0 hL hV hvl
    obtain ⟨al, ah, bl, bh, cs, wrn⟩ := s
    unfold shV at HK ⊢
    dsimp only at *
    go_enter Try.func47, Try.ntmps47
    go_wp2_with fail
    have hB1 : Below w.heap.size w (w.alloc (.cells #[.int .i64 al, .int .i64 ah, .int .i64 bl, .int .i64 bh, .slice A cs.length c, .int .i64 wrn] 26)) := by (repeat' (first | (with_reducible exact Below.refl _ _) | (with_reducible assumption) | (with_reducible refine Below.alloc ?_ ?_ _) | (with_reducible refine Below.drew ?_) | (with_reducible refine Below.setCell ?_ ?_ _) | go_size | (exact (by simp)) | omega))
    have bS1 := BoxS.new w 26 #[.int .i64 al, .int .i64 ah, .int .i64 bl, .int .i64 bh, .slice A cs.length c, .int .i64 wrn]
    generalize World.alloc w _ = w1 at *
    refine (HK.out _ hB1).mono ?_
    rintro e2 w2 ⟨A2, c2, rfl, hP2, hb2⟩
    have hB2 := hB1.trans (hb2.mono hB1.size)
    have bS2 := bS1.below hb2
    have hz2 : w.heap.size < w2.heap.size := bS2.lt
    clear hb2 hB1 HK bS1
    go_wp2_with fail
    go_loopg [6, 7] cs.length (fun g x6 x7 wx => ∃ k : Nat, Hid (k + g = cs.length) ∧ (k : Int) ≤ cs.length ∧ x7 = .int .i64 k ∧ Below w.heap.size w wx ∧ Below w2.heap.size w2 wx ∧ BoxS wx w.heap.size 26 #[.int .i64 al, .int .i64 ah, .int .i64 bl, .int .i64 bh, .slice A cs.length c, .int .i64 wrn] ∧ wx.ownsRow w2.heap.size 3 1 x6 (Sh.strTo KV k).length ((Sh.strTo KV k).map (Value.int .i64)))
    case atStart => exact ⟨0, by simp [Hid], by omega, rfl, hB2, Below.refl _ _, bS2, own_nil _ _⟩
    case round =>
      clear hB2 bS2
      obtain ⟨k, hk, hk1, rfl, hB, hbb, bS, hown⟩ := hrel
      have hk0 := Int.natCast_nonneg k
      have s4 := bS.cell 4 rfl
      by_cases hlt : (k : Int) < cs.length
      · have hkn : k < cs.length := by omega
        obtain ⟨bc, oc, rfl, hbc, hcc⟩ := HG.out (by omega)
        have HCT := Lib.hid (hcc k hkn)
        have HIR1 := Lib.hid (fun j => HIR.out k j hkn)
        have HCN1 := Lib.hid (HCN.out k)
        have HO := Lib.hid hown
        have hsl := HSL.out k
        have hY : Hid (KV k = 2 → Sh.strTo KV (k + 1) = Sh.strTo KV k ++ [(k : Int)]) := fun h => Sh.strTo_yes h
        have hN : Hid (¬ KV k = 2 → Sh.strTo KV (k + 1) = Sh.strTo KV k) := fun h => Sh.strTo_no h
        generalize Sh.ctAt cs k = ct at *
        obtain ⟨c0, c1, c2', c3⟩ := ct
        dsimp only at HCT HIR1
        obtain ⟨tb, htb⟩ : ∃ tb : Nat → Bool, tb = fun j => Sh.rtQ (c0, c1, c2', c3) (Geo.ptAt P j) := ⟨_, rfl⟩
        have HTB : Hid (∀ j, Sh.rtQ (c0, c1, c2', c3) (Geo.ptAt P j) = tb j) := fun j => by rw [htb]
        have HCN2 : Hid (Sh.cntTo tb P.length = 0 ↔ KV k = 2) := by rw [htb]; exact HCN1.out
        clear hcc hown HIR HCN HSL htb HCN1 hlt
        go_wp2_with fail
        obtain ⟨gko, rfl⟩ : ∃ gko, gko = gk := ⟨_, rfl⟩
        obtain ⟨wq, rfl⟩ : ∃ wq, wq = wr := ⟨_, rfl⟩
        clear s4
        go_loopg [8, 9] P.length (fun g x8 x9 wx => ∃ j : Nat, Hid (j + g = P.length) ∧ (j : Int) ≤ P.length ∧ x9 = .int .i64 j ∧ x8 = .int .i64 (Sh.cntTo tb j : Nat) ∧ Below w.heap.size w wx ∧ Below w2.heap.size w2 wx ∧ BoxS wx w.heap.size 26 #[.int .i64 al, .int .i64 ah, .int .i64 bl, .int .i64 bh, .slice (some ⟨bc, oc, none⟩) cs.length c, .int .i64 wrn] ∧ wx.ownsRow w2.heap.size 3 1 u6 (Sh.strTo KV k).length ((Sh.strTo KV k).map (Value.int .i64)))
        case atStart => exact ⟨0, by simp [Hid], by omega, rfl, rfl, hB, hbb, bS, HO.out⟩
        case round =>
          clear hB hbb bS HO
          obtain ⟨j, hj, hj1, rfl, rfl, hB, hbb, bS, hown⟩ := hrel
          have hj0 := Int.natCast_nonneg j
          have HO := Lib.hid hown
          have hlb := hbb.size
          clear hown
          by_cases hlt : (j : Int) < P.length
          · have hjn : j < P.length := by omega
            have hPk : P[j]? = some (Geo.ptAt P j) := by unfold Geo.ptAt; rw [List.getElem?_eq_getElem hjn]; rfl
            obtain ⟨bp, op, rfl, hbp, hcp⟩ := hP2.out (by omega)
            obtain ⟨h0, h1⟩ := hcp j _ hPk
            have HCC : Hid (∀ W', Below wr.heap.size wr W' → (W'.cell? ⟨bp, op + j * 2, none⟩ = some (.int .i64 (Geo.ptAt P j).1) ∧ W'.cell? ⟨bp, op + j * 2 + 1, none⟩ = some (.int .i64 (Geo.ptAt P j).2)) ∧ (W'.cell? ⟨bc, oc + k * 4, none⟩ = some (.int .i64 c0) ∧ W'.cell? ⟨bc, oc + k * 4 + 1, none⟩ = some (.int .i64 c1) ∧ W'.cell? ⟨bc, oc + k * 4 + 2, none⟩ = some (.int .i64 c2') ∧ W'.cell? ⟨bc, oc + k * 4 + 3, none⟩ = some (.int .i64 c3)) ∧ W'.cell? ⟨w.heap.size, 4, none⟩ = some (.slice (some ⟨bc, oc, none⟩) cs.length c)) := fun W' hW => by
              have hBW := hbb.trans (hW.mono hbb.size)
              have hBV := hB.trans (hW.mono hB.size)
              obtain ⟨g0, g1, g2, g3⟩ := HCT.out
              exact ⟨⟨(hBW.cell (p := ⟨bp, _, none⟩) hbp).trans h0, (hBW.cell (p := ⟨bp, _, none⟩) hbp).trans h1⟩, ⟨(hBV.cell (p := ⟨bc, _, none⟩) hbc).trans g0, (hBV.cell (p := ⟨bc, _, none⟩) hbc).trans g1, (hBV.cell (p := ⟨bc, _, none⟩) hbc).trans g2, (hBV.cell (p := ⟨bc, _, none⟩) hbc).trans g3⟩, (bS.below hW).cell 4 rfl⟩
            have HA1 := Lib.hid (HIR1.out j hjn)
            rw [HTB.out j] at HA1
            have HS := Lib.hid (Sh.cnt_succ tb j)
            have hcl := Sh.cnt_le tb j
            have hw1 : IntKind.i64.wrap ((j : Int) + 1) = (j : Int) + 1 := IntWalk.i64_in _ (by omega)
            have hw2 : IntKind.i64.wrap ((Sh.cntTo tb j : Int) + 1) = ((Sh.cntTo tb j : Nat) : Int) + 1 := IntWalk.i64_in _ (by omega)
            clear h0 h1 hcp hPk HIR1 HCT HTB hY hN HCN2
            generalize Sh.cntTo tb j = m at *
            generalize tb j = b at *
            generalize Geo.ptAt P j = q at *
            obtain ⟨q1, q2⟩ := q
            dsimp only at HCC HA1
            go_wp2_with fail
            refine (wpIn_wide (n := 4)).1 ?_
            have hmo : Try.prog.follows .mixedOrders = true := by kernel_rfl
            have q0 : Below wr.heap.size wr wr.drew := (Below.refl _ _).drew
            refine wpIn_region_held (fun W' => Below wr.heap.size wr W') 30 hmo ?_
            refine wpHeldIn_take (i := 0) (v := ?_) (plain_of (by kernel_rfl)) rfl (by kernel_rfl) (fun _ _ _ h => h) (yieldsSoIn_of (by kernel_rfl) ?_ (fun _ => rfl)) q0 ?_; rotate_left; focus (intro wq hw; clear hw; go_simp; try (with_reducible rfl))
            refine wpHeldIn_take (i := 1) (v := ?_) (plain_of (by kernel_rfl)) rfl (by kernel_rfl) (fun _ _ _ h => h) (yieldsSoIn_of (by kernel_rfl) ?_ (fun _ => rfl)) q0 ?_; rotate_left; focus (intro wq hw; have kq := HCC.out wq hw; clear hw; go_simp; try (with_reducible rfl))
            refine wpHeldIn_take (i := 2) (v := ?_) (plain_of (by kernel_rfl)) rfl (by kernel_rfl) (fun _ _ _ h => h) (yieldsSoIn_of (by kernel_rfl) ?_ (fun _ => rfl)) q0 ?_; rotate_left; focus (intro wq hw; clear hw; go_simp; try (with_reducible rfl))
            refine wpHeldIn_take (i := 3) (v := ?_) (plain_of (by kernel_rfl)) rfl (by kernel_rfl) (fun _ _ _ h => h) (yieldsSoIn_of (by kernel_rfl) ?_ (fun _ => rfl)) q0 ?_; rotate_left; focus (intro wq hw; clear hw; go_simp; try (with_reducible rfl))
            refine wpHeldIn_take (i := 4) (v := ?_) (plain_of (by kernel_rfl)) rfl (by kernel_rfl) (fun _ _ _ h => h) (yieldsSoIn_of (by kernel_rfl) ?_ (fun _ => rfl)) q0 ?_; rotate_left; focus (intro wq hw; have kq := HCC.out wq hw; clear hw; go_simp; try (with_reducible rfl))
            refine wpHeldIn_take (i := 5) (v := ?_) (plain_of (by kernel_rfl)) rfl (by kernel_rfl) (fun _ _ _ h => h) (yieldsSoIn_of (by kernel_rfl) ?_ (fun _ => rfl)) q0 ?_; rotate_left; focus (intro wq hw; clear hw; go_simp; try (with_reducible rfl))
            refine wpHeldIn_take (i := 6) (v := ?_) (plain_of (by kernel_rfl)) rfl (by kernel_rfl) (fun _ _ _ h => h) (yieldsSoIn_of (by kernel_rfl) ?_ (fun _ => rfl)) q0 ?_; rotate_left; focus (intro wq hw; clear hw; go_simp; try (with_reducible rfl))
            refine wpHeldIn_take (i := 7) (v := ?_) (plain_of (by kernel_rfl)) rfl (by kernel_rfl) (fun _ _ _ h => h) (yieldsSoIn_of (by kernel_rfl) ?_ (fun _ => rfl)) q0 ?_; rotate_left; focus (intro wq hw; clear hw; go_simp; try (with_reducible rfl))
            refine wpHeldIn_take (i := 8) (v := ?_) (plain_of (by kernel_rfl)) rfl (by kernel_rfl) (fun _ _ _ h => h) (yieldsSoIn_of (by kernel_rfl) ?_ (fun _ => rfl)) q0 ?_; rotate_left; focus (intro wq hw; have kq := HCC.out wq hw; clear hw; go_simp; try (with_reducible rfl))
            refine wpHeldIn_one (i := 9) (by kernel_rfl) (by kernel_rfl) rfl (by kernel_rfl) (fun K2 hK2 => ?_)
            go_simp
            refine ⟨trivial, (callsIn_wide.2 (HA1.out _)).mono ?_⟩
            rintro e6 w6 ⟨rfl, hb6⟩
            have q2' := q0.trans (hb6.mono q0.size)
            refine hK2 _ _ q2' ?_
            refine wpHeldIn_done (by kernel_rfl) ?_ _
            go_simp
            have hB6 := hB.trans (q2'.mono hB.size)
            have hbb6 := hbb.trans (q2'.mono hbb.size)
            have bS6 := bS.below q2'
            have HO6 := Lib.hid (own_below HO.out q2')
            clear hb6 q0 q2' HCC HA1 HO
            cases b with
            | true =>
              have HS2 : Hid (((Sh.cntTo tb (j + 1) : Nat) : Int) = (m : Int) + 1) := by unfold Hid; rw [HS.out]; rfl
              go_wp2_with fail
              obtain ⟨g', hg'⟩ : ∃ g', gk = g' + 1 := ⟨gk - 1, by have := hj.out; omega⟩
              go_roundg g'
              case measure => omega
              case rel => exact ⟨j + 1, by have := hj.out; simp only [Hid]; omega, by omega, by go_num, by rw [HS2.out], hB6, hbb6, bS6, HO6.out⟩
            | false =>
              have HS2 : Hid (Sh.cntTo tb (j + 1) = m) := by unfold Hid; rw [HS.out]; rfl
              go_wp2_with fail
              obtain ⟨g', hg'⟩ : ∃ g', gk = g' + 1 := ⟨gk - 1, by have := hj.out; omega⟩
              go_roundg g'
              case measure => omega
              case rel => exact ⟨j + 1, by have := hj.out; simp only [Hid]; omega, by omega, by go_num, by rw [HS2.out], hB6, hbb6, bS6, HO6.out⟩
          · have ej : j = P.length := by omega
            subst ej
            have hw1 : IntKind.i64.wrap ((k : Int) + 1) = (k : Int) + 1 := IntWalk.i64_in _ (by omega)
            clear hlt
            by_cases hc0 : Sh.cntTo tb P.length = 0
            · have hbv : (((Sh.cntTo tb P.length : Nat) : Int) == 0) = true := by rw [hc0]; rfl
              have hY2 := Lib.hid (hY.out (HCN2.out.1 hc0))
              clear hY hN HCN2 HTB HIR1 HCT hc0
              go_wp2_with (at_builtin; refine wpList_push rfl (.tmp 45) (.tmp 47) rfl (k : Int) w2.heap.size u6 _ _ rfl rfl HO.out (by omega) (by omega) ?_; intro v' w6 hown6 hb6; have HO6 := Lib.hid hown6; clear hown6)
              obtain ⟨g', hg'⟩ : ∃ g', gko = g' + 1 := ⟨gko - 1, by have := hk.out; omega⟩
              go_roundg g'
              case measure => omega
              case rel =>
                refine ⟨k + 1, by have := hk.out; simp only [Hid]; omega, by omega, by go_num, hB.trans (hb6.mono (by omega)), hbb.trans hb6, (hb6.block w.heap.size (by omega)).trans bS, ?_⟩
                rw [hY2.out]
                simpa using HO6.out
            · have hbv : (((Sh.cntTo tb P.length : Nat) : Int) == 0) = false := by simp; exact hc0
              have hN2 := Lib.hid (hN.out (fun h => hc0 (HCN2.out.2 h)))
              clear hY hN HCN2 HTB HIR1 HCT hc0
              go_wp2_with fail
              obtain ⟨g', hg'⟩ : ∃ g', gko = g' + 1 := ⟨gko - 1, by have := hk.out; omega⟩
              go_roundg g'
              case measure => omega
              case rel => exact ⟨k + 1, by have := hk.out; simp only [Hid]; omega, by omega, by go_num, hB, hbb, bS, by rw [hN2.out]; exact HO.out⟩
      · obtain rfl : k = cs.length := by omega
        have HI := Lib.hid (Ints.of_own hown)
        clear hown
        go_wp2_with fail
        go_returns
        exact ⟨u6, rfl, HI, hB⟩
  · have hne : (Sh.spE s != 0) = true := by simpa using h0
    have hV : Sh.strL s = [] := by unfold Sh.strL; rw [if_neg h0]
    rw [hV]
    generalize Sh.spE s = E at *
    generalize Sh.knL s 0 true = L at *
    clear hg hl h0 hV
    obtain ⟨al, ah, bl, bh, cs, wrn⟩ := s
    unfold shV at HK ⊢
    dsimp only at *
    go_enter Try.func47, Try.ntmps47
    go_wp2_with fail
    have hB1 : Below w.heap.size w (w.alloc (.cells #[.int .i64 al, .int .i64 ah, .int .i64 bl, .int .i64 bh, .slice A cs.length c, .int .i64 wrn] 26)) := by (repeat' (first | (with_reducible exact Below.refl _ _) | (with_reducible assumption) | (with_reducible refine Below.alloc ?_ ?_ _) | (with_reducible refine Below.drew ?_) | (with_reducible refine Below.setCell ?_ ?_ _) | go_size | (exact (by simp)) | omega))
    generalize World.alloc w _ = w1 at *
    refine (HK.out _ hB1).mono ?_
    rintro e2 w2 ⟨A2, c2, rfl, hP2, hb2⟩
    have hB2 := hB1.trans (hb2.mono hB1.size)
    go_wp2_with fail
    go_returns
    exact ⟨.slice none 0 0, rfl, .inl ⟨rfl, rfl⟩, hB2⟩
end Go.Proofs.Ytgpmnkdagpcffaa

namespace Go.Proofs.Ytgpmnkdagpcffaa
open Go.RowKit
namespace Sh
theorem far_len {s : Sheet} (h : farB s = false) : s.cs.length ≤ 40 := by
  unfold farB at h
  rw [Bool.or_eq_false_iff] at h
  have := of_decide_eq_false h.1
  omega
end Sh
set_option maxRecDepth 100000 in
set_option maxHeartbeats 4000000 in
theorem same4_yes (s : Sheet) (A A' : Option Addr) (c c' : Nat) (hl : s.cs.length ≤ 1000) (w : World) (hg : Cts w w.heap.size A s.cs) (hg' : Cts w w.heap.size A' s.cs) :
    Calls Try.prog 45 #[.agg (shV s A' c'), .agg (shV s A c)] w (TruePost w) := by
  have H1 := Lib.hid hg
  have H2 := Lib.hid hg'
  have hll : (s.cs.length : Int) ≤ 1000 := by omega
  clear hg hg' hl
  obtain ⟨al, ah, bl, bh, cs, wrn⟩ := s
  unfold shV
  dsimp only at *
  go_enter Try.func45, Try.ntmps45
  go_wp2_with fail
  have bO1 := (BoxS.new w 26 #[.int .i64 al, .int .i64 ah, .int .i64 bl, .int .i64 bh, .slice A' cs.length c', .int .i64 wrn]).alloc (.cells #[.int .i64 al, .int .i64 ah, .int .i64 bl, .int .i64 bh, .slice A cs.length c, .int .i64 wrn] 26)
  have bS1 := BoxS.new (w.alloc (.cells #[.int .i64 al, .int .i64 ah, .int .i64 bl, .int .i64 bh, .slice A' cs.length c', .int .i64 wrn] 26)) 26 #[.int .i64 al, .int .i64 ah, .int .i64 bl, .int .i64 bh, .slice A cs.length c, .int .i64 wrn]
  rw [World.size_alloc] at bS1
  have hB1 : Below w.heap.size w ((w.alloc (.cells #[.int .i64 al, .int .i64 ah, .int .i64 bl, .int .i64 bh, .slice A' cs.length c', .int .i64 wrn] 26)).alloc (.cells #[.int .i64 al, .int .i64 ah, .int .i64 bl, .int .i64 bh, .slice A cs.length c, .int .i64 wrn] 26)) := by (repeat' (first | (with_reducible exact Below.refl _ _) | (with_reducible assumption) | (with_reducible refine Below.alloc ?_ ?_ _) | (with_reducible refine Below.drew ?_) | (with_reducible refine Below.setCell ?_ ?_ _) | go_size | (exact (by simp)) | omega))
  generalize World.alloc (World.alloc w _) _ = w1 at *
  go_loopw [5] (fun x wr => ∃ k : Nat, (k : Int) ≤ cs.length ∧ x = .int .i64 k ∧ Below w.heap.size w wr ∧ BoxS wr w.heap.size 26 #[.int .i64 al, .int .i64 ah, .int .i64 bl, .int .i64 bh, .slice A' cs.length c', .int .i64 wrn] ∧ BoxS wr (w.heap.size + 1) 26 #[.int .i64 al, .int .i64 ah, .int .i64 bl, .int .i64 bh, .slice A cs.length c, .int .i64 wrn]) (fun x _ => (cs.length - intOf x).toNat)
  case atStart => exact ⟨0, by omega, rfl, hB1, bO1, bS1⟩
  case round =>
    clear hB1 bO1 bS1
    obtain ⟨k, hk, rfl, hB, bO, bS⟩ := hrel
    have hk0 := Int.natCast_nonneg k
    have o4 := bO.cell 4 rfl
    have s4 := bS.cell 4 rfl
    have lb := bS.lt
    by_cases hlt : (k : Int) < cs.length
    · have hkl : k < cs.length := by omega
      obtain ⟨b, off, rfl, hb, hc⟩ := H1.out (by omega)
      obtain ⟨b2, off2, rfl, hb2, hc2⟩ := H2.out (by omega)
      obtain ⟨g0, g1, g2, g3⟩ := hc k hkl
      obtain ⟨f0, f1, f2, f3⟩ := hc2 k hkl
      have d0 := (hB.cell (p := ⟨b, _, none⟩) hb).trans g0
      have d1 := (hB.cell (p := ⟨b, _, none⟩) hb).trans g1
      have d2 := (hB.cell (p := ⟨b, _, none⟩) hb).trans g2
      have d3 := (hB.cell (p := ⟨b, _, none⟩) hb).trans g3
      have e0 := (hB.cell (p := ⟨b2, _, none⟩) hb2).trans f0
      have e1 := (hB.cell (p := ⟨b2, _, none⟩) hb2).trans f1
      have e2 := (hB.cell (p := ⟨b2, _, none⟩) hb2).trans f2
      have e3 := (hB.cell (p := ⟨b2, _, none⟩) hb2).trans f3
      have hw1 : IntKind.i64.wrap ((k : Int) + 1) = (k : Int) + 1 := IntWalk.i64_in _ (by omega)
      clear hc hc2 g0 g1 g2 g3 f0 f1 f2 f3 H1 H2
      generalize Sh.ctAt cs k = q at *
      obtain ⟨x, y, z, u⟩ := q
      dsimp only at d0 d1 d2 d3 e0 e1 e2 e3
      go_wp2_with fail
      go_quiet (fail)
      go_wp2_with fail
      go_roundw
      case rel => exact ⟨k + 1, by omega, by go_num, below_drewN hB _, bO, bS⟩
      case measure => simp [intOf]; omega
    · go_wp2_with fail
      go_returns
      exact ⟨rfl, hB⟩
end Go.Proofs.Ytgpmnkdagpcffaa
