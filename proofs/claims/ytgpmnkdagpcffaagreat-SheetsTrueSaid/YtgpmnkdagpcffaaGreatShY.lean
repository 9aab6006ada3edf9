/- Sheets: Alike. -/
import Derived.Test.YtgpmnkdagpcffaaGreatShW
import Derived.Test.YtgpmnkdagpcffaaGreatPairs
namespace Go.Proofs.YtgpmnkdagpcffaaGreat
open Go.RowKit Go.Shelf
attribute [local go_sem] Oper.semAt_some
namespace Sh
def alikeB (f : FaS) : Bool := decide (f.1.1 = f.1.2)
end Sh
set_option maxHeartbeats 1000000 in
theorem alike1_any (f : Sh.FaS) (w : World) :
    Calls Tryz.prog 49 #[.agg #[.int .i64 f.1.1, .int .i64 f.1.2]] w fun e w' => e = .returned (.bool (Sh.alikeB f)) ∧ Below w.heap.size w w' := by
  have HR : Hid (Sh.alikeB f = decide (f.1.1 = f.1.2)) := rfl
  generalize Sh.alikeB f = R at *
  obtain ⟨⟨f1, f2⟩, hf⟩ := f
  dsimp only at *
  go_enter Tryz.func49, Tryz.ntmps49
  go_wp2
  all_goals
    go_ret
    refine ⟨ret_b ?_, (Below.refl _ _).alloc (Nat.le_refl _) _⟩
    rw [HR.out, Bool.eq_iff_iff]
    simp
set_option maxRecDepth 100000 in
set_option maxHeartbeats 4000000 in
theorem Alike_yes (s : Sheet) (h0 : Sh.spE s = 0) (A : Option Addr) (c : Nat) (w : World) (hg : Cts w w.heap.size A s.cs) :
    Calls Tryz.prog 13 #[.agg (shV s A c)] w (TwoPost (Sh.knownV Sh.alikeB (Sh.truthsL s)) 0 w) := by
  obtain ⟨hok, hne⟩ := Sh.sp_ok h0
  have hs := Sh.ok_of hok
  have hl : s.cs.length ≤ 1000000000 := by have := hs.n; omega
  have HS : Hid (∀ W, Below w.heap.size w W → Calls Tryz.prog 36 #[.agg (shV s A c)] W (SpPost (shV s A c) 0 W)) := fun W hW => by
    have := spread_any s A c W hl ((hg.keep hW).wider hW.size)
    rw [Sh.spV_yes h0, h0] at this
    exact this
  have HBD : Hid (∀ W, Below w.heap.size w W → Calls Tryz.prog 48 #[.agg (shV s A c), .func (.func 49) #[] #[]] W (ErrPost (Sh.knownV Sh.alikeB (Sh.truthsL s)) W)) := fun W hW =>
    known_any s hs hne A c 49 #[] Sh.alikeB W ((hg.keep hW).wider hW.size)
      (enters_of Tryz.func49 (by kernel_rfl) rfl) (fun x V hV => alike1_any x V)
  generalize Sh.knownV Sh.alikeB (Sh.truthsL s) = KV at *
  clear hg hok hne hs hl h0
  obtain ⟨al, ah, bl, bh, cs, wrn⟩ := s
  unfold shV at HS HBD ⊢
  dsimp only at *
  go_enter Tryz.func13, Tryz.ntmps13
  go_wp2_with fail
  have hB1 : Below w.heap.size w (w.alloc (.cells #[.int .i64 al, .int .i64 ah, .int .i64 bl, .int .i64 bh, .slice A cs.length c, .int .i64 wrn] 26)) := by (repeat' (first | (with_reducible exact Below.refl _ _) | (with_reducible assumption) | (with_reducible refine Below.alloc ?_ ?_ _) | (with_reducible refine Below.drew ?_) | (with_reducible refine Below.setCell ?_ ?_ _) | go_size | (exact (by simp)) | omega))
  generalize World.alloc w _ = w1 at *
  refine (HS.out _ hB1).mono ?_
  rintro e w5 ⟨rfl, hb5⟩
  have hB5 := hB1.trans (hb5.mono hB1.size)
  clear hb5 hB1 HS
  go_wp2_with fail
  have hB6 : Below w.heap.size w (w5.alloc (.cells #[.int .i64 al, .int .i64 ah, .int .i64 bl, .int .i64 bh, .slice A cs.length c, .int .i64 wrn] 73)) := hB5.alloc hB5.size _
  generalize World.alloc w5 _ = w6 at *
  refine (HBD.out _ hB6).mono ?_
  rintro e w7 ⟨rfl, hb7⟩
  have hB7 := hB6.trans (hb7.mono hB6.size)
  go_wp2_with fail
  go_returns
  exact ⟨rfl, hB7⟩
end Go.Proofs.YtgpmnkdagpcffaaGreat

namespace Go.Proofs.YtgpmnkdagpcffaaGreat
open Go.RowKit
/-- The cells of a list of controls, one behind the other. -/
def flat4 (cs : List Sh.Ct) : List Value := cs.flatMap fun c => [.int .i64 c.1, .int .i64 c.2.1, .int .i64 c.2.2.1, .int .i64 c.2.2.2]
theorem flat4_len (cs : List Sh.Ct) : (flat4 cs).length = cs.length * 4 := by
  induction cs with
  | nil => rfl
  | cons g cs ih => unfold flat4 at *; simp [ih]; omega
theorem flat4_get (cs : List Sh.Ct) : ∀ k, (flat4 cs)[k * 4]? = (cs[k]?).map (fun g => Value.int .i64 g.1) ∧ (flat4 cs)[k * 4 + 1]? = (cs[k]?).map (fun g => Value.int .i64 g.2.1) ∧ (flat4 cs)[k * 4 + 2]? = (cs[k]?).map (fun g => Value.int .i64 g.2.2.1) ∧ (flat4 cs)[k * 4 + 3]? = (cs[k]?).map (fun g => Value.int .i64 g.2.2.2) := by
  induction cs with
  | nil => intro k; simp [flat4]
  | cons g cs ih =>
    intro k
    match k with
    | 0 => simp [flat4]
    | k + 1 =>
      have e : flat4 (g :: cs) = .int .i64 g.1 :: .int .i64 g.2.1 :: .int .i64 g.2.2.1 :: .int .i64 g.2.2.2 :: flat4 cs := by simp [flat4]
      rw [e, show (k + 1) * 4 = k * 4 + 4 from by omega]
      exact ih k
theorem flat4_one (cs : List Sh.Ct) : ∀ u ∈ flat4 cs, u.oneCell' = true := by
  intro u hu
  unfold flat4 at hu
  rw [List.mem_flatMap] at hu
  obtain ⟨c, _, h⟩ := hu
  simp at h
  rcases h with h | h | h | h <;> subst h <;> rfl
theorem addr_add (b off j : Nat) : (⟨b, off, none⟩ : Addr).add j = ⟨b, off + j, none⟩ := by
  unfold Addr.add
  by_cases h0 : j = 0 <;> simp [h0]
theorem Cts.reads {w : World} {B : Nat} {A : Option Addr} {cs : List Sh.Ct} (h : Cts w B A cs) : Reads w B 4 A cs.length (flat4 cs) := by
  refine ⟨flat4_len cs, fun hn => ?_⟩
  obtain ⟨b, off, e, hB, hc⟩ := h hn
  refine ⟨_, e, hB, fun j u hu => ?_⟩
  rw [addr_add]
  obtain ⟨q, hq⟩ : ∃ q, q = j / 4 := ⟨_, rfl⟩
  have hj4 : q < cs.length := by
    have := (List.getElem?_eq_some_iff.1 hu).1
    rw [flat4_len] at this
    omega
  obtain ⟨g0, g1, g2, g3⟩ := flat4_get cs q
  obtain ⟨h0, h1, h2, h3⟩ := hc _ hj4
  have hk : cs[q]? = some (Sh.ctAt cs q) := by unfold Sh.ctAt; rw [List.getElem?_eq_getElem hj4]; rfl
  rw [hk] at g0 g1 g2 g3
  rcases (by omega : j = q * 4 ∨ j = q * 4 + 1 ∨ j = q * 4 + 2 ∨ j = q * 4 + 3) with hj | hj | hj | hj
  · rw [hj, g0] at hu
    cases hu
    rw [hj]
    exact h0
  · rw [hj, g1] at hu
    cases hu
    rw [hj]
    exact h1
  · rw [hj, g2] at hu
    cases hu
    rw [hj]
    exact h2
  · rw [hj, g3] at hu
    cases hu
    rw [hj]
    exact h3
theorem Cts.of_reads {w : World} {B : Nat} {A : Option Addr} {cs : List Sh.Ct} (h : Reads w B 4 A cs.length (flat4 cs)) : Cts w B A cs := fun hn => by
  obtain ⟨ad, e, hB, hc⟩ := h.2 hn
  have hk : ∀ k, k < cs.length → cs[k]? = some (Sh.ctAt cs k) := fun k hk => by unfold Sh.ctAt; rw [List.getElem?_eq_getElem hk]; rfl
  have h0 := hc 0 _ ((flat4_get cs 0).1.trans (by rw [hk 0 hn]; rfl))
  have hs := World.cell?_spot h0
  obtain ⟨b, off, spot⟩ := ad
  have hs' : spot = none := by simpa [Addr.add] using hs
  subst hs'
  refine ⟨b, off, e, hB, fun k hkn => ?_⟩
  obtain ⟨g0, g1, g2, g3⟩ := flat4_get cs k
  have a0 := hc _ _ (g0.trans (by rw [hk k hkn]; rfl))
  have a1 := hc _ _ (g1.trans (by rw [hk k hkn]; rfl))
  have a2 := hc _ _ (g2.trans (by rw [hk k hkn]; rfl))
  have a3 := hc _ _ (g3.trans (by rw [hk k hkn]; rfl))
  rw [addr_add] at a0 a1 a2 a3
  exact ⟨a0, a1, a2, a3⟩
theorem control_info : (Tryz.prog.info? 61).map (fun i => (i.zero, i.size, i.bytes)) = some (some (.agg #[.int .i64 0, .int .i64 0, .int .i64 0, .int .i64 0]), 4, 32) := by kernel_rfl
theorem own_form4 {w : World} {B : Nat} {e : TypeId} {v : Value} {n : Nat} {xs : List Value} (h : w.ownsRow B e 4 v n xs) : ∃ A c, v = .slice A n c := by
  rcases h.2 with ⟨rfl, rfl⟩ | ⟨g, cap, cur, rfl, _⟩
  · exact ⟨none, 0, rfl⟩
  · exact ⟨some ⟨g, 0, none⟩, cap, rfl⟩
theorem info_parts4 {o : Option TypeInfo} {z : Option Value} {n b : Nat} (h : o.map (fun i => (i.zero, i.size, i.bytes)) = some (z, n, b)) : ∃ i, o = some i ∧ i.zero = z ∧ i.size = n ∧ i.bytes = b := by
  cases o with
  | none => cases h
  | some i => simp at h; exact ⟨i, rfl, h.1, h.2.1, h.2.2⟩
/-- 'append([]Control{}, l...)': a copy in new memory. -/
theorem wpList_copy4 {ops : Array Oper} {rest : List Oper} {o : Oper} {a : Act} {Q : Exit → Act → World → Prop} {wr : World} (hgd : o.guard = none) (s y : Operand)
    (ho : o.op = .call { callee := .builtin .append, args := #[s, y], argTypes := #[24, 24] }) (A : Option Addr) (c : Nat) (cs : List Sh.Ct) (g : Nat) (hsz : g = wr.heap.size)
    (hs : a.eval s = .slice (some ⟨g, 0, none⟩) 0 0) (hx : a.eval y = .slice A cs.length c) (hg : Cts wr wr.heap.size A cs) (hn : cs.length ≤ 1000000000)
    (h : ∀ A' c' w', w'.ownsRow wr.heap.size 61 4 (.slice A' cs.length c') cs.length (flat4 cs) → Below wr.heap.size wr w' → wpList Tryz.prog ops Q rest (a.put o.dst (.slice A' cs.length c')) w') :
    wpList Tryz.prog ops Q (o :: rest) a (wr.alloc (.cells #[] 61)) := by
  subst hsz
  obtain ⟨i0, hi0, hz0, hz1, hz2⟩ := info_parts4 control_info
  have hb0 : Below wr.heap.size wr (wr.alloc (.cells #[] 61)) := (Below.refl _ _).alloc (Nat.le_refl _) _
  refine wpList_append_any _ hgd s y 24 ho wr.heap.size 61 i0 (.agg #[.int .i64 0, .int .i64 0, .int .i64 0, .int .i64 0]) 4 32 Tryz.underlying24 hi0 hz0 hz1 hz2 rfl (by decide) (.slice (some ⟨wr.heap.size, 0, none⟩) 0 0) 0 [] hs
    (World.ownsRow_made wr #[] 0 (Nat.le_refl _) (by simp [maxLen]) rfl) wr.heap.size A cs.length c (flat4 cs) hx (hg.keep hb0).reads (flat4_one cs) (by simp only [maxLen]; omega) (by omega) (by simp) ?_
  intro v' w' hown hgr hat
  rw [Nat.zero_add, List.nil_append] at hown
  obtain ⟨A', c', rfl⟩ := own_form4 hown
  exact h A' c' w' hown (hb0.grown hgr (by simp) (fun j hj => by
    have : j = wr.heap.size := by simpa [Value.ownBlock] using hj.symm
    omega))
theorem ownsRow_set {w : World} {base : Nat} {e : TypeId} {size : Nat} {v : Value} {n : Nat} {xs : List Value} (h : w.ownsRow base e size v n xs) {b : Nat} (i : Nat) (u : Value) (hb : b < base) : (w.setCell ⟨b, i, none⟩ u).ownsRow base e size v n xs := by
  obtain ⟨h1, h2⟩ := h
  refine ⟨h1, ?_⟩
  rcases h2 with h2 | ⟨g, cap, cur, a1, a2, a3, a4⟩
  · exact .inl h2
  · exact .inr ⟨g, cap, cur, a1, a2, (BoxS.away (t := e) (vs := cur) a3 (B' := b) (by omega) i u), a4⟩
def Copy4Post (s : Sheet) (w : World) (e : Ending) (w' : World) : Prop := ∃ A c, e = .returned (.agg (shV s A c)) ∧ Cts w' w'.heap.size A s.cs ∧ Below w.heap.size w w'
end Go.Proofs.YtgpmnkdagpcffaaGreat
