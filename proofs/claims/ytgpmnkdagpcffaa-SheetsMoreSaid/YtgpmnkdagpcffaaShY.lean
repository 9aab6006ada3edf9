/- Sheets: Alike. -/
import Derived.Test.YtgpmnkdagpcffaaShW
import Derived.Test.YtgpmnkdagpcffaaPairs
namespace Go.Proofs.Ytgpmnkdagpcffaa
open Go.RowKit Go.Shelf
attribute [local go_sem] Oper.semAt_some
namespace Sh
def alikeB (f : FaS) : Bool := decide (f.1.1 = f.1.2)
end Sh
set_option maxHeartbeats 1000000 in
theorem alike1_any (f : Sh.FaS) (w : World) :
    Calls Try.prog 95 #[.agg #[.int .i64 f.1.1, .int .i64 f.1.2]] w fun e w' => e = .returned (.bool (Sh.alikeB f)) ∧ Below w.heap.size w w' := by
  have HR : Hid (Sh.alikeB f = decide (f.1.1 = f.1.2)) := rfl
  generalize Sh.alikeB f = R at *
  obtain ⟨⟨f1, f2⟩, hf⟩ := f
  dsimp only at *
  go_enter Try.func95, Try.ntmps95
  go_wp2
  all_goals
    go_ret
    refine ⟨ret_b ?_, (Below.refl _ _).alloc (Nat.le_refl _) _⟩
    rw [HR.out, Bool.eq_iff_iff]
    simp
set_option maxRecDepth 100000 in
set_option maxHeartbeats 4000000 in
theorem Alike_yes (s : Sheet) (h0 : Sh.spE s = 0) (A : Option Addr) (c : Nat) (w : World) (hg : Cts w w.heap.size A s.cs) :
    Calls Try.prog 39 #[.agg (shV s A c)] w (TwoPost (Sh.knownV Sh.alikeB (Sh.truthsL s)) 0 w) := by
  obtain ⟨hok, hne⟩ := Sh.sp_ok h0
  have hs := Sh.ok_of hok
  have hl : s.cs.length ≤ 1000000000 := by have := hs.n; omega
  have HS : Hid (∀ W, Below w.heap.size w W → Calls Try.prog 60 #[.agg (shV s A c)] W (SpPost (shV s A c) 0 W)) := fun W hW => by
    have := spread_any s A c W hl ((hg.keep hW).wider hW.size)
    rw [Sh.spV_yes h0, h0] at this
    exact this
  have HBD : Hid (∀ W, Below w.heap.size w W → Calls Try.prog 73 #[.agg (shV s A c), .func (.func 95) #[] #[]] W (ErrPost (Sh.knownV Sh.alikeB (Sh.truthsL s)) W)) := fun W hW =>
    known_any s hs hne A c 95 #[] Sh.alikeB W ((hg.keep hW).wider hW.size)
      (enters_of Try.func95 (by kernel_rfl) rfl) (fun x V hV => alike1_any x V)
  generalize Sh.knownV Sh.alikeB (Sh.truthsL s) = KV at *
  clear hg hok hne hs hl h0
  obtain ⟨al, ah, bl, bh, cs, wrn⟩ := s
  unfold shV at HS HBD ⊢
  dsimp only at *
  go_enter Try.func39, Try.ntmps39
  go_wp2_with fail
  have hB1 : Below w.heap.size w (w.alloc (.cells #[.int .i64 al, .int .i64 ah, .int .i64 bl, .int .i64 bh, .slice A cs.length c, .int .i64 wrn] 26)) := by (repeat' (first | (with_reducible exact Below.refl _ _) | (with_reducible assumption) | (with_reducible refine Below.alloc ?_ ?_ _) | (with_reducible refine Below.drew ?_) | (with_reducible refine Below.setCell ?_ ?_ _) | go_size | (exact (by simp)) | omega))
  generalize World.alloc w _ = w1 at *
  refine (HS.out _ hB1).mono ?_
  rintro e w5 ⟨rfl, hb5⟩
  have hB5 := hB1.trans (hb5.mono hB1.size)
  clear hb5 hB1 HS
  go_wp2_with fail
  have hB6 : Below w.heap.size w (w5.alloc (.cells #[.int .i64 al, .int .i64 ah, .int .i64 bl, .int .i64 bh, .slice A cs.length c, .int .i64 wrn] 87)) := hB5.alloc hB5.size _
  generalize World.alloc w5 _ = w6 at *
  refine (HBD.out _ hB6).mono ?_
  rintro e w7 ⟨rfl, hb7⟩
  have hB7 := hB6.trans (hb7.mono hB6.size)
  go_wp2_with fail
  go_returns
  exact ⟨rfl, hB7⟩
end Go.Proofs.Ytgpmnkdagpcffaa

namespace Go.Proofs.Ytgpmnkdagpcffaa
open Go.RowKit
/-- The cells of a list of controls, one behind the other. -/
def flat4 (cs : List Sh.Ct) : List Value := cs.flatMap fun c => [.int .i64 c.1, .int .i64 c.2.1, .int .i64 c.2.2.1, .int .i64 c.2.2.2]
theorem flat4_len (cs : List Sh.Ct) : (flat4 cs).length = cs.length * 4 := by
  induction cs with
  | nil => rfl
  | cons g cs ih => unfold flat4 at *; simp [ih]; omega
theorem flat4_get (cs : List Sh.Ct) : ∀ k, (flat4 cs)[k * 4]? = (cs[k]?).map (fun g => Value.int .i64 g.1) ∧ (flat4 cs)[k * 4 + 1]? = (cs[k]?).map (fun g => Value.int .i64 g.2.1) ∧ (flat4 cs)[k * 4 + 2]? = (cs[k]?).map (fun g => Value.int .i64 g.2.2.1) ∧ (flat4 cs)[k * 4 + 3]? = (cs[k]?).map (fun g => Value.int .i64 g.2.2.2) := by
  induction cs with
  | nil => intro k; simp [flat4]
  | cons g cs ih =>
    intro k
    match k with
    | 0 => simp [flat4]
    | k + 1 =>
      have e : flat4 (g :: cs) = .int .i64 g.1 :: .int .i64 g.2.1 :: .int .i64 g.2.2.1 :: .int .i64 g.2.2.2 :: flat4 cs := by simp [flat4]
      rw [e, show (k + 1) * 4 = k * 4 + 4 from by omega]
      exact ih k
theorem flat4_one (cs : List Sh.Ct) : ∀ u ∈ flat4 cs, u.oneCell' = true := by
  intro u hu
  unfold flat4 at hu
  rw [List.mem_flatMap] at hu
  obtain ⟨c, _, h⟩ := hu
  simp at h
  rcases h with h | h | h | h <;> subst h <;> rfl
theorem addr_add (b off j : Nat) : (⟨b, off, none⟩ : Addr).add j = ⟨b, off + j, none⟩ := by
  unfold Addr.add
  by_cases h0 : j = 0 <;> simp [h0]
theorem Cts.reads {w : World} {B : Nat} {A : Option Addr} {cs : List Sh.Ct} (h : Cts w B A cs) : Reads w B 4 A cs.length (flat4 cs) := by
  refine ⟨flat4_len cs, fun hn => ?_⟩
  obtain ⟨b, off, e, hB, hc⟩ := h hn
  refine ⟨_, e, hB, fun j u hu => ?_⟩
  rw [addr_add]
  obtain ⟨q, hq⟩ : ∃ q, q = j / 4 := ⟨_, rfl⟩
  have hj4 : q < cs.length := by
    have := (List.getElem?_eq_some_iff.1 hu).1
    rw [flat4_len] at this
    omega
  obtain ⟨g0, g1, g2, g3⟩ := flat4_get cs q
  obtain ⟨h0, h1, h2, h3⟩ := hc _ hj4
  have hk : cs[q]? = some (Sh.ctAt cs q) := by unfold Sh.ctAt; rw [List.getElem?_eq_getElem hj4]; rfl
  rw [hk] at g0 g1 g2 g3
  rcases (by omega : j = q * 4 ∨ j = q * 4 + 1 ∨ j = q * 4 + 2 ∨ j = q * 4 + 3) with hj | hj | hj | hj
  · rw [hj, g0] at hu
    cases hu
    rw [hj]
    exact h0
  · rw [hj, g1] at hu
    cases hu
    rw [hj]
    exact h1
  · rw [hj, g2] at hu
    cases hu
    rw [hj]
    exact h2
  · rw [hj, g3] at hu
    cases hu
    rw [hj]
    exact h3
theorem Cts.of_reads {w : World} {B : Nat} {A : Option Addr} {cs : List Sh.Ct} (h : Reads w B 4 A cs.length (flat4 cs)) : Cts w B A cs := fun hn => by
  obtain ⟨ad, e, hB, hc⟩ := h.2 hn
  have hk : ∀ k, k < cs.length → cs[k]? = some (Sh.ctAt cs k) := fun k hk => by unfold Sh.ctAt; rw [List.getElem?_eq_getElem hk]; rfl
  have h0 := hc 0 _ ((flat4_get cs 0).1.trans (by rw [hk 0 hn]; rfl))
  have hs := World.cell?_spot h0
  obtain ⟨b, off, spot⟩ := ad
  have hs' : spot = none := by simpa [Addr.add] using hs
  subst hs'
  refine ⟨b, off, e, hB, fun k hkn => ?_⟩
  obtain ⟨g0, g1, g2, g3⟩ := flat4_get cs k
  have a0 := hc _ _ (g0.trans (by rw [hk k hkn]; rfl))
  have a1 := hc _ _ (g1.trans (by rw [hk k hkn]; rfl))
  have a2 := hc _ _ (g2.trans (by rw [hk k hkn]; rfl))
  have a3 := hc _ _ (g3.trans (by rw [hk k hkn]; rfl))
  rw [addr_add] at a0 a1 a2 a3
  exact ⟨a0, a1, a2, a3⟩
theorem control_info : (Try.prog.info? 29).map (fun i => (i.zero, i.size, i.bytes)) = some (some (.agg #[.int .i64 0, .int .i64 0, .int .i64 0, .int .i64 0]), 4, 32) := by kernel_rfl
theorem own_form4 {w : World} {B : Nat} {e : TypeId} {v : Value} {n : Nat} {xs : List Value} (h : w.ownsRow B e 4 v n xs) : ∃ A c, v = .slice A n c := by
  rcases h.2 with ⟨rfl, rfl⟩ | ⟨g, cap, cur, rfl, _⟩
  · exact ⟨none, 0, rfl⟩
  · exact ⟨some ⟨g, 0, none⟩, cap, rfl⟩
theorem info_parts4 {o : Option TypeInfo} {z : Option Value} {n b : Nat} (h : o.map (fun i => (i.zero, i.size, i.bytes)) = some (z, n, b)) : ∃ i, o = some i ∧ i.zero = z ∧ i.size = n ∧ i.bytes = b := by
  cases o with
  | none => cases h
  | some i => simp at h; exact ⟨i, rfl, h.1, h.2.1, h.2.2⟩
/-- 'append([]Control{}, l...)': a copy in new memory. -/
theorem wpList_copy4 {ops : Array Oper} {rest : List Oper} {o : Oper} {a : Act} {Q : Exit → Act → World → Prop} {wr : World} (hgd : o.guard = none) (s y : Operand)
    (ho : o.op = .call { callee := .builtin .append, args := #[s, y], argTypes := #[24, 24] }) (A : Option Addr) (c : Nat) (cs : List Sh.Ct) (g : Nat) (hsz : g = wr.heap.size)
    (hs : a.eval s = .slice (some ⟨g, 0, none⟩) 0 0) (hx : a.eval y = .slice A cs.length c) (hg : Cts wr wr.heap.size A cs) (hn : cs.length ≤ 1000000000)
    (h : ∀ A' c' w', w'.ownsRow wr.heap.size 29 4 (.slice A' cs.length c') cs.length (flat4 cs) → Below wr.heap.size wr w' → wpList Try.prog ops Q rest (a.put o.dst (.slice A' cs.length c')) w') :
    wpList Try.prog ops Q (o :: rest) a (wr.alloc (.cells #[] 29)) := by
  subst hsz
  obtain ⟨i0, hi0, hz0, hz1, hz2⟩ := info_parts4 control_info
  have hb0 : Below wr.heap.size wr (wr.alloc (.cells #[] 29)) := (Below.refl _ _).alloc (Nat.le_refl _) _
  refine wpList_append_any _ hgd s y 24 ho wr.heap.size 29 i0 (.agg #[.int .i64 0, .int .i64 0, .int .i64 0, .int .i64 0]) 4 32 Try.underlying24 hi0 hz0 hz1 hz2 rfl (by decide) (.slice (some ⟨wr.heap.size, 0, none⟩) 0 0) 0 [] hs
    (World.ownsRow_made wr #[] 0 (Nat.le_refl _) (by simp [maxLen]) rfl) wr.heap.size A cs.length c (flat4 cs) hx (hg.keep hb0).reads (flat4_one cs) (by simp only [maxLen]; omega) (by omega) (by simp) ?_
  intro v' w' hown hgr hat
  rw [Nat.zero_add, List.nil_append] at hown
  obtain ⟨A', c', rfl⟩ := own_form4 hown
  exact h A' c' w' hown (hb0.grown hgr (by simp) (fun j hj => by
    have : j = wr.heap.size := by simpa [Value.ownBlock] using hj.symm
    omega))
theorem ownsRow_set {w : World} {base : Nat} {e : TypeId} {size : Nat} {v : Value} {n : Nat} {xs : List Value} (h : w.ownsRow base e size v n xs) {b : Nat} (i : Nat) (u : Value) (hb : b < base) : (w.setCell ⟨b, i, none⟩ u).ownsRow base e size v n xs := by
  obtain ⟨h1, h2⟩ := h
  refine ⟨h1, ?_⟩
  rcases h2 with h2 | ⟨g, cap, cur, a1, a2, a3, a4⟩
  · exact .inl h2
  · exact .inr ⟨g, cap, cur, a1, a2, (BoxS.away (t := e) (vs := cur) a3 (B' := b) (by omega) i u), a4⟩
theorem ownsRow_base {w : World} {b b' : Nat} {e : TypeId} {size : Nat} {v : Value} {n : Nat} {xs : List Value} (h : w.ownsRow b e size v n xs) (hb : b' ≤ b) : w.ownsRow b' e size v n xs := by
  obtain ⟨h1, h2⟩ := h
  refine ⟨h1, ?_⟩
  rcases h2 with h2 | ⟨g, cap, cur, a1, a2, a3⟩
  · exact .inl h2
  · exact .inr ⟨g, cap, cur, a1, Nat.le_trans hb a2, a3⟩
def Copy4OPost (s : Sheet) (w : World) (e : Ending) (w' : World) : Prop := ∃ A c, e = .returned (.agg (shV s A c)) ∧ Hid (w'.ownsRow w.heap.size 29 4 (.slice A s.cs.length c) s.cs.length (flat4 s.cs)) ∧ Below w.heap.size w w'
def Copy4Post (s : Sheet) (w : World) (e : Ending) (w' : World) : Prop := ∃ A c, e = .returned (.agg (shV s A c)) ∧ Cts w' w'.heap.size A s.cs ∧ Below w.heap.size w w'
set_option maxRecDepth 100000 in
set_option maxHeartbeats 2000000 in
theorem Copy4_own (s : Sheet) (A : Option Addr) (c : Nat) (hl : s.cs.length ≤ 1000000000) (w : World) (hg : Cts w w.heap.size A s.cs) :
    Calls Try.prog 19 #[.agg (shV s A c)] w (Copy4OPost s w) := by
  unfold Copy4OPost
  obtain ⟨al, ah, bl, bh, cs, wrn⟩ := s
  unfold shV
  dsimp only at *
  have HG := Lib.hid hg
  clear hg
  go_enter Try.func19, Try.ntmps19
  go_wp2_with (at_builtin; go_must (refine wpList_copy4 rfl (.tmp 5) (.tmp 7) rfl A c cs (w.heap.size + 1 + 1 + 1) (by simp) rfl rfl ((HG.out.keep (by (repeat' (first | (with_reducible exact Below.refl _ _) | (with_reducible assumption) | (with_reducible refine Below.alloc ?_ ?_ _) | (with_reducible refine Below.drew ?_) | (with_reducible refine Below.setCell ?_ ?_ _) | go_size | (exact (by simp)) | omega)))).wider (by simp; omega)) hl ?_; intro A' c' w1 hown1 hb1; have HC1 : Hid (w1.ownsRow (w.heap.size + 3) 29 4 (.slice A' cs.length c') cs.length (flat4 cs)) := (by have := hown1; simp only [World.size_alloc] at this; exact this); have hB1 : Below w.heap.size w w1 := (show Below w.heap.size w (((w.alloc (.cells #[.int .i64 al, .int .i64 ah, .int .i64 bl, .int .i64 bh, .slice A cs.length c, .int .i64 wrn] 26)).alloc (.cells #[.int .i64 0, .int .i64 0, .int .i64 0, .int .i64 0, .slice none 0 0, .int .i64 0] 26)).alloc (.cells #[.int .i64 al, .int .i64 ah, .int .i64 bl, .int .i64 bh, .slice A cs.length c, .int .i64 wrn] 26)) from by (repeat' (first | (with_reducible exact Below.refl _ _) | (with_reducible assumption) | (with_reducible refine Below.alloc ?_ ?_ _) | (with_reducible refine Below.drew ?_) | (with_reducible refine Below.setCell ?_ ?_ _) | go_size | (exact (by simp)) | omega))).trans (hb1.mono (by simp; omega)); have bT : BoxS w1 (w.heap.size + 1 + 1) 26 #[.int .i64 al, .int .i64 ah, .int .i64 bl, .int .i64 bh, .slice A cs.length c, .int .i64 wrn] := (by have := BoxS.new ((w.alloc (.cells #[.int .i64 al, .int .i64 ah, .int .i64 bl, .int .i64 bh, .slice A cs.length c, .int .i64 wrn] 26)).alloc (.cells #[.int .i64 0, .int .i64 0, .int .i64 0, .int .i64 0, .slice none 0 0, .int .i64 0] 26)) 26 #[.int .i64 al, .int .i64 ah, .int .i64 bl, .int .i64 bh, .slice A cs.length c, .int .i64 wrn]; simp only [World.size_alloc] at this; exact this.below hb1); have bO : BoxS w1 (w.heap.size + 1) 26 #[.int .i64 0, .int .i64 0, .int .i64 0, .int .i64 0, .slice none 0 0, .int .i64 0] := (by have := (BoxS.new (w.alloc (.cells #[.int .i64 al, .int .i64 ah, .int .i64 bl, .int .i64 bh, .slice A cs.length c, .int .i64 wrn] 26)) 26 #[.int .i64 0, .int .i64 0, .int .i64 0, .int .i64 0, .slice none 0 0, .int .i64 0]).alloc (.cells #[.int .i64 al, .int .i64 ah, .int .i64 bl, .int .i64 bh, .slice A cs.length c, .int .i64 wrn] 26); simp only [World.size_alloc] at this; exact this.below hb1); clear hown1 hb1 HG; have t0 := (boxS6 bT).1.1; have t1 := (boxS6 bT).1.2.1; have t2 := (boxS6 bT).1.2.2; have t3 := (boxS6 bT).2.1; have t4 := (boxS6 bT).2.2.1; have t5 := (boxS6 bT).2.2.2; have o0 := (boxS6 bO).1.1; have o1 := (boxS6 bO).1.2.1; have o2 := (boxS6 bO).1.2.2; have o3 := (boxS6 bO).2.1; have o4 := (boxS6 bO).2.2.1; have o5 := (boxS6 bO).2.2.2; have ft := bT.frozen 4; have f0 := bO.frozen 0; have f1 := bO.frozen 1; have f2 := bO.frozen 2; have f3 := bO.frozen 3; have f4 := bO.frozen 4; have f5 := bO.frozen 5))
  clear t0 t1 t2 t3 t4 t5 o0 o1 o2 o3 o4 o5 ft f0 f1 f2 f3 f4 f5
  have hO := ownsRow_set HC1.out (b := w.heap.size + 1 + 1) 4 (.slice A' cs.length c') (by omega)
  have hO1 := ownsRow_set hO (b := w.heap.size + 1) 0 (.int .i64 al) (by omega)
  have hO2 := ownsRow_set hO1 (b := w.heap.size + 1) 1 (.int .i64 ah) (by omega)
  have hO3 := ownsRow_set hO2 (b := w.heap.size + 1) 2 (.int .i64 bl) (by omega)
  have hO4 := ownsRow_set hO3 (b := w.heap.size + 1) 3 (.int .i64 bh) (by omega)
  have hO5 := ownsRow_set hO4 (b := w.heap.size + 1) 4 (.slice A' cs.length c') (by omega)
  have hO6 := ownsRow_set hO5 (b := w.heap.size + 1) 5 (.int .i64 wrn) (by omega)
  have bR := six_put (bO.away (B' := w.heap.size + 1 + 1) (by omega) 4 (.slice A' cs.length c')) (.int .i64 al) (.int .i64 ah) (.int .i64 bl) (.int .i64 bh) (.slice A' cs.length c') (.int .i64 wrn)
  have hB2 : Below w.heap.size w (((((((w1.setCell ⟨w.heap.size + 1 + 1, 4, none⟩ (.slice A' cs.length c')).setCell ⟨w.heap.size + 1, 0, none⟩ (.int .i64 al)).setCell ⟨w.heap.size + 1, 1, none⟩ (.int .i64 ah)).setCell ⟨w.heap.size + 1, 2, none⟩ (.int .i64 bl)).setCell ⟨w.heap.size + 1, 3, none⟩ (.int .i64 bh)).setCell ⟨w.heap.size + 1, 4, none⟩ (.slice A' cs.length c')).setCell ⟨w.heap.size + 1, 5, none⟩ (.int .i64 wrn)) := by (repeat' (first | (with_reducible exact Below.refl _ _) | (with_reducible assumption) | (with_reducible refine Below.alloc ?_ ?_ _) | (with_reducible refine Below.drew ?_) | (with_reducible refine Below.setCell ?_ ?_ _) | go_size | (exact (by simp)) | omega))
  clear hO hO1 hO2 hO3 hO4 hO5 bT bO HC1 hB1
  generalize World.setCell (World.setCell (World.setCell (World.setCell (World.setCell (World.setCell (World.setCell w1 _ _) _ _) _ _) _ _) _ _) _ _) _ _ = w2 at *
  have q0 := (boxS6 bR).1.1
  have q1 := (boxS6 bR).1.2.1
  have q2 := (boxS6 bR).1.2.2
  have q3 := (boxS6 bR).2.1
  have q4 := (boxS6 bR).2.2.1
  have q5 := (boxS6 bR).2.2.2
  exact bodyPost_ret (v := .agg #[.int .i64 al, .int .i64 ah, .int .i64 bl, .int .i64 bh, .slice A' cs.length c', .int .i64 wrn]) (by simp [results, Try.results19, go_sem, q0, q1, q2, q3, q4, q5]) rfl ⟨A', c', rfl, ownsRow_base hO6 (by omega), hB2⟩
theorem Copy4_any (s : Sheet) (A : Option Addr) (c : Nat) (hl : s.cs.length ≤ 1000000000) (w : World) (hg : Cts w w.heap.size A s.cs) :
    Calls Try.prog 19 #[.agg (shV s A c)] w (Copy4Post s w) :=
  (Copy4_own s A c hl w hg).mono fun _ _ ⟨A', c', he, ho, hb⟩ => ⟨A', c', he, Cts.of_reads (Reads.of_own ho.out), hb⟩
end Go.Proofs.Ytgpmnkdagpcffaa
