/- Walks: more elbows with a longer arm or track, plain; whether rolls are some of others, and the two answers that hold. -/
import Derived.Test.YtmjcdggmofohcaaWlM
import Derived.Test.YtmjcdggmofohcaaWlR
import Derived.Test.YtmjcdggmofohcaaWlW
import Derived.Test.YtmjcdggmofohcaaWlZ
import Derived.Test.YtmjcdggmofohcaaSt5
namespace Go.Proofs.Ytmjcdggmofohcaa
open Go.RowKit
set_option maxRecDepth 100000 in
set_option maxHeartbeats 8000000 in
theorem isKnown5_any (e : Int) (w : World) : Calls Try.prog 38 #[.int .i64 e] w fun x w' => x = .returned (.bool (decide (e = 0) || decide (e = 3))) ∧ w' = w := by
  by_cases h : e = 0
  · subst h
    go_enter Try.func38, Try.ntmps38
    go_wp2
    go_ret
    exact ⟨rfl, rfl⟩
  · have hb : (e == 0) = false := by simpa using h
    by_cases h3 : e = 3
    · subst h3
      go_enter Try.func38, Try.ntmps38
      go_wp2
      go_ret
      exact ⟨rfl, rfl⟩
    · have hb3 : (e == 3) = false := by simpa using h3
      have hd : (decide (e = 0) || decide (e = 3)) = false := by simp [h, h3]
      rw [hd]
      clear hd h h3
      go_enter Try.func38, Try.ntmps38
      go_wp2
      go_ret
      exact ⟨rfl, rfl⟩
end Go.Proofs.Ytmjcdggmofohcaa
namespace Go.Proofs.Ytmjcdggmofohcaa
namespace Wl
def sumTo (f : Nat → Int) : Nat → Int
  | 0 => 0
  | k + 1 => sumTo f k + f k
theorem sumTo_eq {f g : Nat → Int} : ∀ {n : Nat}, (∀ k, k < n → f k = g k) → sumTo f n = sumTo g n
  | 0, _ => rfl
  | n + 1, h => by
    show sumTo f n + f n = sumTo g n + g n
    rw [sumTo_eq (fun k hk => h k (by omega)), h n (by omega)]
theorem sumTo_neg (f : Nat → Int) : ∀ n, sumTo (fun k => -f k) n = -sumTo f n
  | 0 => rfl
  | n + 1 => by
    show sumTo (fun k => -f k) n + -f n = -(sumTo f n + f n)
    rw [sumTo_neg f n]; omega
theorem sumTo_add (f : Nat → Int) (a : Nat) : ∀ b, sumTo f (a + b) = sumTo f a + sumTo (fun k => f (a + k)) b
  | 0 => by simp [sumTo]
  | b + 1 => by
    show sumTo f (a + b) + f (a + b) = sumTo f a + (sumTo (fun k => f (a + k)) b + f (a + b))
    rw [sumTo_add f a b]; omega
theorem sumTo_rot (g : Nat → Int) {n b : Nat} (hb : b < n) : sumTo (fun k => g ((k + b) % n)) n = sumTo g n := by
  have e1 : n = (n - b) + b := by omega
  have a1 : sumTo (fun k => g ((k + b) % n)) n = sumTo (fun k => g ((k + b) % n)) (n - b) + sumTo (fun k => g (((n - b + k) + b) % n)) b := by
    have := sumTo_add (fun k => g ((k + b) % n)) (n - b) b
    rw [show n - b + b = n by omega] at this
    exact this
  have a2 : sumTo g n = sumTo g b + sumTo (fun k => g (b + k)) (n - b) := by
    have := sumTo_add g b (n - b)
    rw [show b + (n - b) = n by omega] at this
    exact this
  rw [a1, a2]
  have b1 : sumTo (fun k => g ((k + b) % n)) (n - b) = sumTo (fun k => g (b + k)) (n - b) := sumTo_eq (fun k hk => by
    show g ((k + b) % n) = g (b + k)
    rw [Nat.mod_eq_of_lt (by omega), Nat.add_comm])
  have b2 : sumTo (fun k => g (((n - b + k) + b) % n)) b = sumTo g b := sumTo_eq (fun k hk => by
    show g (((n - b + k) + b) % n) = g k
    rw [show (n - b + k) + b = k + n by omega, Nat.add_mod_right, Nat.mod_eq_of_lt (by omega)])
  rw [b1, b2]; omega
theorem sumTo_rev (g : Nat → Int) : ∀ n, sumTo (fun k => g (n - 1 - k)) n = sumTo g n
  | 0 => rfl
  | n + 1 => by
    have := sumTo_add (fun k => g (n + 1 - 1 - k)) 1 n
    rw [Nat.add_comm 1 n] at this
    rw [this]
    have e : sumTo (fun k => g (n + 1 - 1 - (1 + k))) n = sumTo (fun k => g (n - 1 - k)) n := sumTo_eq (fun k hk => by
      show g (n + 1 - 1 - (1 + k)) = g (n - 1 - k)
      rw [show n + 1 - 1 - (1 + k) = n - 1 - k by omega])
    rw [e, sumTo_rev g n]
    show 0 + g (n + 1 - 1 - 0) + sumTo g n = sumTo g n + g n
    rw [show n + 1 - 1 - 0 = n by omega]; omega
/-- A sum around, begun at another place. -/
theorem cyc_rot (F : Nat → Nat → Int) {n : Nat} (h0 : 0 < n) (b : Nat) : sumTo (fun k => F ((k + b) % n) (((k + 1) % n + b) % n)) n = sumTo (fun k => F k ((k + 1) % n)) n := by
  have hb : b % n < n := Nat.mod_lt _ h0
  rw [← sumTo_rot (fun k => F k ((k + 1) % n)) hb]
  refine sumTo_eq (fun k hk => ?_)
  show F ((k + b) % n) (((k + 1) % n + b) % n) = F ((k + b % n) % n) (((k + b % n) % n + 1) % n)
  rw [Nat.add_mod_mod, Nat.mod_add_mod, Nat.mod_add_mod, show k + b + 1 = k + 1 + b by omega]
/-- A sum around, backwards. -/
theorem cyc_rev (F : Nat → Nat → Int) : ∀ n, sumTo (fun k => F (n - 1 - k) (n - 1 - (k + 1) % n)) n = sumTo (fun k => F ((k + 1) % n) k) n
  | 0 => rfl
  | n + 1 => by
    have a : sumTo (fun k => F (n + 1 - 1 - k) (n + 1 - 1 - (k + 1) % (n + 1))) n = sumTo (fun k => (fun m => F ((m + 1) % (n + 1)) m) (n - 1 - k)) n := sumTo_eq (fun k hk => by
      show F (n + 1 - 1 - k) (n + 1 - 1 - (k + 1) % (n + 1)) = F ((n - 1 - k + 1) % (n + 1)) (n - 1 - k)
      rw [Nat.mod_eq_of_lt (show k + 1 < n + 1 by omega), Nat.mod_eq_of_lt (show n - 1 - k + 1 < n + 1 by omega), show n + 1 - 1 - k = n - 1 - k + 1 by omega, show n + 1 - 1 - (k + 1) = n - 1 - k by omega])
    show sumTo (fun k => F (n + 1 - 1 - k) (n + 1 - 1 - (k + 1) % (n + 1))) n + F (n + 1 - 1 - n) (n + 1 - 1 - (n + 1) % (n + 1)) = sumTo (fun k => F ((k + 1) % (n + 1)) k) n + F ((n + 1) % (n + 1)) n
    rw [a, sumTo_rev (fun m => F ((m + 1) % (n + 1)) m) n, Nat.mod_self, show n + 1 - 1 - n = 0 by omega, show n + 1 - 1 - 0 = n by omega]
theorem dblTo_sum (ps : List Pt) : ∀ k, dblTo ps k = sumTo (fun i => cr (ptAt ps i) (ptAt ps ((i + 1) % ps.length))) k
  | 0 => rfl
  | k + 1 => by
    show dblTo ps k + _ = sumTo _ k + _
    rw [dblTo_sum ps k]
theorem stTo_sum (t : Trk) (es : List Int) : ∀ k, k ≤ es.length → stTo t es k = sumTo (fun i => stepV t (esAt es i) (esAt es ((i + 1) % es.length))) k
  | 0, _ => rfl
  | k + 1, h => by
    show stTo t es k + stepV t (eAt es k) (eAt es (k + 1)) = sumTo _ k + _
    rw [stTo_sum t es k (by omega), eAt_esAt (by omega), eAt_mod]
theorem mvTo_sum (es : List Int) : ∀ k, mvTo es k = sumTo (fun i => if esAt es i = esAt es ((i + 1) % es.length) then 0 else 1) k
  | 0 => rfl
  | k + 1 => by
    show mvTo es k + _ = sumTo _ k + _
    rw [mvTo_sum es k]
theorem stepV_neg {t : Trk} (hc : t.cl = 1 → 3 ≤ t.ps.length) (a b : Int) : stepV t b a = -stepV t a b := by
  unfold stepV
  by_cases h : t.cl = 1
  · have h3 := hc h
    simp only [h, true_and]
    by_cases h1 : b - a = (t.ps.length : Int) - 1
    · rw [if_pos h1, if_neg (by omega), if_pos (by omega)]; rfl
    · rw [if_neg h1]
      by_cases h2 : b - a = -((t.ps.length : Int) - 1)
      · rw [if_pos h2, if_pos (by omega)]
      · rw [if_neg h2, if_neg (by omega), if_neg (by omega)]; omega
  · simp only [h, false_and, if_false]; omega
theorem nearB_sym {t : Trk} (hc : t.cl = 1 → 3 ≤ t.ps.length) (a b : Int) : nearB t b a = nearB t a b := by
  unfold nearB
  rw [stepV_neg hc a b, Bool.and_comm]
  congr 1 <;> exact decide_eq_decide.2 (by omega)
/-- A list whose elements are told by their places. -/
theorem list_ext {α : Type} {a b : List α} (d : α) (hl : a.length = b.length) (h : ∀ k, k < a.length → (a[k]?).getD d = (b[k]?).getD d) : a = b := by
  refine List.ext_getElem hl (fun k h1 h2 => ?_)
  have := h k h1
  rw [List.getElem?_eq_getElem h1, List.getElem?_eq_getElem h2] at this
  exact this
def rotTo {α : Type} (d : α) (l : List α) (b : Nat) : Nat → List α
  | 0 => []
  | k + 1 => rotTo d l b k ++ [(l[(k + b) % l.length]?).getD d]
theorem rotTo_len {α : Type} (d : α) (l : List α) (b : Nat) : ∀ k, (rotTo d l b k).length = k
  | 0 => rfl
  | k + 1 => by
    show (rotTo d l b k ++ [_]).length = k + 1
    rw [List.length_append, rotTo_len d l b k, List.length_singleton]
theorem rotTo_at {α : Type} (d : α) (l : List α) (b : Nat) : ∀ k i, i < k → ((rotTo d l b k)[i]?).getD d = (l[(i + b) % l.length]?).getD d
  | k + 1, i, h => by
    show ((rotTo d l b k ++ [(l[(k + b) % l.length]?).getD d])[i]?).getD d = _
    have hl := rotTo_len d l b k
    by_cases e : i = k
    · subst e
      rw [List.getElem?_append_right (by omega), hl, Nat.sub_self]
      rfl
    · rw [List.getElem?_append_left (by omega)]
      exact rotTo_at d l b k i (by omega)
def rotL {α : Type} (d : α) (l : List α) (b : Nat) : List α := rotTo d l b l.length
theorem rotL_len {α : Type} (d : α) (l : List α) (b : Nat) : (rotL d l b).length = l.length := rotTo_len d l b _
theorem rotL_at {α : Type} (d : α) (l : List α) (b : Nat) {i : Nat} (h : i < l.length) : ((rotL d l b)[i]?).getD d = (l[(i + b) % l.length]?).getD d := rotTo_at d l b _ i h
theorem rotL_inv {α : Type} (d : α) (l : List α) (b : Nat) (h0 : 0 < l.length) : rotL d (rotL d l b) (l.length - b % l.length) = l := by
  refine list_ext d (by rw [rotL_len, rotL_len]) (fun k hk => ?_)
  rw [rotL_len, rotL_len] at hk
  rw [rotL_at _ _ _ (by rw [rotL_len]; exact hk), rotL_len, rotL_at _ _ _ (Nat.mod_lt _ h0), Nat.mod_add_mod]
  have hb : b % l.length < l.length := Nat.mod_lt _ h0
  have e : (k + (l.length - b % l.length) + b) % l.length = k := by
    rw [← Nat.add_mod_mod, show k + (l.length - b % l.length) + b % l.length = k + l.length by omega, Nat.add_mod_right, Nat.mod_eq_of_lt hk]
  rw [e]
theorem rev_at {α : Type} (d : α) (l : List α) {i : Nat} (h : i < l.length) : (l.reverse[i]?).getD d = (l[l.length - 1 - i]?).getD d := by
  rw [List.getElem?_reverse h]
abbrev rotE (es : List Int) (b : Nat) : List Int := rotL 0 es b
abbrev rotW (ws : List Pt) (b : Nat) : List Pt := rotL (0, 0) ws b
theorem ptAt_rot {ws : List Pt} {b i : Nat} (h : i < ws.length) : ptAt (rotW ws b) i = ptAt ws ((i + b) % ws.length) := rotL_at _ _ _ h
theorem esAt_rot {es : List Int} {b i : Nat} (h : i < es.length) : esAt (rotE es b) i = esAt es ((i + b) % es.length) := rotL_at _ _ _ h
theorem ptAt_rev {ws : List Pt} {i : Nat} (h : i < ws.length) : ptAt ws.reverse i = ptAt ws (ws.length - 1 - i) := rev_at _ _ h
theorem esAt_rev {es : List Int} {i : Nat} (h : i < es.length) : esAt es.reverse i = esAt es (es.length - 1 - i) := rev_at _ _ h
theorem dbl_rot {ws : List Pt} (h0 : 0 < ws.length) (b : Nat) : dbl (rotW ws b) = dbl ws := by
  unfold dbl
  rw [dblTo_sum, dblTo_sum, rotL_len, ← cyc_rot (fun i j => cr (ptAt ws i) (ptAt ws j)) h0 b]
  exact sumTo_eq (fun k hk => by
    show cr (ptAt (rotW ws b) k) (ptAt (rotW ws b) ((k + 1) % ws.length)) = cr (ptAt ws ((k + b) % ws.length)) (ptAt ws (((k + 1) % ws.length + b) % ws.length))
    rw [ptAt_rot hk, ptAt_rot (Nat.mod_lt _ h0)])
theorem dbl_rev {ws : List Pt} (h0 : 0 < ws.length) : dbl ws.reverse = -dbl ws := by
  unfold dbl
  rw [dblTo_sum, dblTo_sum, List.length_reverse, ← sumTo_neg]
  rw [show sumTo (fun k => -cr (ptAt ws k) (ptAt ws ((k + 1) % ws.length))) ws.length = sumTo (fun k => (fun i j => cr (ptAt ws i) (ptAt ws j)) ((k + 1) % ws.length) k) ws.length from sumTo_eq (fun k hk => by
    show -cr (ptAt ws k) (ptAt ws ((k + 1) % ws.length)) = cr (ptAt ws ((k + 1) % ws.length)) (ptAt ws k)
    rw [cr_neg (ptAt ws ((k + 1) % ws.length)) (ptAt ws k)])]
  rw [← cyc_rev (fun i j => cr (ptAt ws i) (ptAt ws j)) ws.length]
  exact sumTo_eq (fun k hk => by
    show cr (ptAt ws.reverse k) (ptAt ws.reverse ((k + 1) % ws.length)) = cr (ptAt ws (ws.length - 1 - k)) (ptAt ws (ws.length - 1 - (k + 1) % ws.length))
    rw [ptAt_rev hk, ptAt_rev (Nat.mod_lt _ h0)])
theorem turns_rot {t : Trk} {es : List Int} (h0 : 0 < es.length) (b : Nat) : turnsV t (rotE es b) = turnsV t es := by
  unfold turnsV
  rw [stTo_sum _ _ _ (Nat.le_refl _), stTo_sum _ _ _ (Nat.le_refl _), rotL_len, ← cyc_rot (fun i j => stepV t (esAt es i) (esAt es j)) h0 b]
  congr 1
  exact sumTo_eq (fun k hk => by
    show stepV t (esAt (rotE es b) k) (esAt (rotE es b) ((k + 1) % es.length)) = stepV t (esAt es ((k + b) % es.length)) (esAt es (((k + 1) % es.length + b) % es.length))
    rw [esAt_rot hk, esAt_rot (Nat.mod_lt _ h0)])
theorem turns_rev {t : Trk} {es : List Int} (hc : t.cl = 1 → 3 ≤ t.ps.length) (h0 : 0 < es.length) : turnsV t es.reverse = -turnsV t es := by
  unfold turnsV
  rw [stTo_sum _ _ _ (Nat.le_refl _), stTo_sum _ _ _ (Nat.le_refl _), List.length_reverse, ← Int.neg_tdiv, ← sumTo_neg]
  congr 1
  rw [show sumTo (fun k => -stepV t (esAt es k) (esAt es ((k + 1) % es.length))) es.length = sumTo (fun k => (fun i j => stepV t (esAt es i) (esAt es j)) ((k + 1) % es.length) k) es.length from sumTo_eq (fun k hk => by
    show -stepV t (esAt es k) (esAt es ((k + 1) % es.length)) = stepV t (esAt es ((k + 1) % es.length)) (esAt es k)
    rw [stepV_neg hc (esAt es k) (esAt es ((k + 1) % es.length))])]
  rw [← cyc_rev (fun i j => stepV t (esAt es i) (esAt es j)) es.length]
  exact sumTo_eq (fun k hk => by
    show stepV t (esAt es.reverse k) (esAt es.reverse ((k + 1) % es.length)) = stepV t (esAt es (es.length - 1 - k)) (esAt es (es.length - 1 - (k + 1) % es.length))
    rw [esAt_rev hk, esAt_rev (Nat.mod_lt _ h0)])
theorem moves_rot {es : List Int} (h0 : 0 < es.length) (b : Nat) : movesV (rotE es b) = movesV es := by
  unfold movesV
  rw [mvTo_sum, mvTo_sum, rotL_len, ← cyc_rot (fun i j => if esAt es i = esAt es j then 0 else 1) h0 b]
  exact sumTo_eq (fun k hk => by
    show (if esAt (rotE es b) k = esAt (rotE es b) ((k + 1) % es.length) then (0 : Int) else 1) = (if esAt es ((k + b) % es.length) = esAt es (((k + 1) % es.length + b) % es.length) then 0 else 1)
    rw [esAt_rot hk, esAt_rot (Nat.mod_lt _ h0)])
theorem moves_rev {es : List Int} (h0 : 0 < es.length) : movesV es.reverse = movesV es := by
  unfold movesV
  rw [mvTo_sum, mvTo_sum, List.length_reverse]
  rw [show sumTo (fun k => if esAt es k = esAt es ((k + 1) % es.length) then (0 : Int) else 1) es.length = sumTo (fun k => (fun i j => if esAt es i = esAt es j then (0 : Int) else 1) ((k + 1) % es.length) k) es.length from sumTo_eq (fun k hk => by
    show (if esAt es k = esAt es ((k + 1) % es.length) then (0 : Int) else 1) = (if esAt es ((k + 1) % es.length) = esAt es k then 0 else 1)
    by_cases h : esAt es k = esAt es ((k + 1) % es.length)
    · rw [if_pos h, if_pos h.symm]
    · rw [if_neg h, if_neg (fun e => h e.symm)])]
  rw [← cyc_rev (fun i j => if esAt es i = esAt es j then (0 : Int) else 1) es.length]
  exact sumTo_eq (fun k hk => by
    show (if esAt es.reverse k = esAt es.reverse ((k + 1) % es.length) then (0 : Int) else 1) = (if esAt es (es.length - 1 - k) = esAt es (es.length - 1 - (k + 1) % es.length) then 0 else 1)
    rw [esAt_rev hk, esAt_rev (Nat.mod_lt _ h0)])
theorem fitB_of {t : Trk} {ws vs : List Pt} {es fs : List Int} {i j : Nat} (h1 : esAt fs i = esAt es j) (h2 : ptAt vs i = ptAt ws j) (h : fitB t ws es j = true) : fitB t vs fs i = true := by
  rw [fitB_mem] at h ⊢
  rw [h1, h2]
  exact h
theorem elbV_rot {t : Trk} {ws : List Pt} {es : List Int} (h0 : 0 < ws.length) (b : Nat) (h : elbV t ws es = true) : elbV t (rotW ws b) (rotE es b) = true := by
  obtain ⟨hl, hf, hn⟩ := elbV_iff.1 h
  have h0' : 0 < es.length := by omega
  refine elbV_iff.2 ⟨by rw [rotL_len, rotL_len]; exact hl, fun k hk => ?_, fun k hk => ?_⟩
  · rw [rotL_len] at hk
    exact fitB_of (esAt_rot hk) (by rw [ptAt_rot (by omega), hl]) (hf _ (Nat.mod_lt _ h0'))
  · rw [rotL_len] at hk ⊢
    rw [esAt_rot hk, esAt_rot (Nat.mod_lt _ h0')]
    have := hn _ (Nat.mod_lt (k + b) h0')
    rw [Nat.mod_add_mod] at this ⊢
    rw [show k + 1 + b = k + b + 1 by omega]
    exact this
theorem elbV_rev {t : Trk} {ws : List Pt} {es : List Int} (hc : t.cl = 1 → 3 ≤ t.ps.length) (h0 : 0 < ws.length) (h : elbV t ws es = true) : elbV t ws.reverse es.reverse = true := by
  obtain ⟨hl, hf, hn⟩ := elbV_iff.1 h
  have h0' : 0 < es.length := by omega
  refine elbV_iff.2 ⟨by rw [List.length_reverse, List.length_reverse]; exact hl, fun k hk => ?_, fun k hk => ?_⟩
  · rw [List.length_reverse] at hk
    exact fitB_of (esAt_rev hk) (by rw [ptAt_rev (by omega), hl]) (hf _ (by omega))
  · rw [List.length_reverse] at hk ⊢
    rw [esAt_rev hk, esAt_rev (Nat.mod_lt _ h0'), nearB_sym hc]
    by_cases hk1 : k + 1 = es.length
    · rw [hk1, Nat.mod_self, show es.length - 1 - 0 = es.length - 1 by omega, show es.length - 1 - k = 0 by omega]
      have := hn (es.length - 1) (by omega)
      rw [show es.length - 1 + 1 = es.length by omega, Nat.mod_self] at this
      exact this
    · rw [Nat.mod_eq_of_lt (show k + 1 < es.length by omega)]
      have := hn (es.length - 1 - (k + 1)) (by omega)
      rw [show es.length - 1 - (k + 1) + 1 = es.length - 1 - k by omega, Nat.mod_eq_of_lt (by omega)] at this
      exact this
theorem sub_len {α : Type} [DecidableEq α] : ∀ {a b : List α}, a.Nodup → (∀ x ∈ a, x ∈ b) → a.length ≤ b.length
  | [], _, _, _ => Nat.zero_le _
  | x :: a, b, h, hs => by
    have hp := List.pairwise_cons.1 h
    have hx := hs x List.mem_cons_self
    have := sub_len (a := a) (b := b.erase x) hp.2 (fun y hy => by
      have hne : y ≠ x := fun e => hp.1 y hy e.symm
      exact (List.mem_erase_of_ne hne).2 (hs y (List.mem_cons_of_mem _ hy)))
    rw [List.length_erase_of_mem hx] at this
    have hb : 0 < b.length := List.length_pos_of_mem hx
    rw [List.length_cons]
    omega
theorem map_len {a b : List (List Int)} (f : List Int → List Int) (ha : a.Nodup) (hi : ∀ x ∈ a, ∀ y ∈ a, f x = f y → x = y) (hs : ∀ x ∈ a, f x ∈ b) : a.length ≤ b.length := by
  rw [← List.length_map (f := f)]
  refine sub_len ?_ (fun y hy => ?_)
  · unfold List.Nodup
    rw [List.pairwise_map]
    have aux : ∀ {l : List (List Int)}, l.Nodup → (∀ x ∈ l, ∀ y ∈ l, f x = f y → x = y) → l.Pairwise (fun x y => f x ≠ f y) := by
      intro l
      induction l with
      | nil => intro _ _; exact List.Pairwise.nil
      | cons x l ih =>
        intro h hi
        have hp := List.pairwise_cons.1 h
        refine List.pairwise_cons.2 ⟨fun y hy e => hp.1 y hy (hi x List.mem_cons_self y (List.mem_cons_of_mem _ hy) e), ih hp.2 (fun u hu v hv => hi u (List.mem_cons_of_mem _ hu) v (List.mem_cons_of_mem _ hv))⟩
    exact aux ha hi
  · obtain ⟨x, hx, rfl⟩ := List.mem_map.1 hy
    exact hs x hx
theorem rotE_inj {a b : List Int} {k : Nat} (hl : a.length = b.length) (h0 : 0 < a.length) (h : rotE a k = rotE b k) : a = b := by
  have h1 := rotL_inv (0 : Int) a k h0
  have h2 := rotL_inv (0 : Int) b k (by omega)
  rw [← h1, ← h2, ← hl]
  have h' : rotL 0 a k = rotL 0 b k := h
  rw [h']
theorem rotW_back {ws : List Pt} {b : Nat} (h0 : 0 < ws.length) : rotW (rotW ws b) (ws.length - b % ws.length) = ws := rotL_inv _ ws b h0
theorem many_rot_le {t : Trk} {ws : List Pt} (h0 : 0 < ws.length) (b : Nat) : (elbsL t ws).length ≤ (elbsL t (rotW ws b)).length := by
  refine map_len (fun es => rotE es b) (elbsL_nodup t ws) (fun x hx y hy e => ?_) (fun x hx => ?_)
  · have lx := (elbV_iff.1 ((mem_elbsL h0).1 hx)).1
    have ly := (elbV_iff.1 ((mem_elbsL h0).1 hy)).1
    exact rotE_inj (by omega) (by omega) e
  · exact (mem_elbsL (by rw [rotL_len]; exact h0)).2 (elbV_rot h0 b ((mem_elbsL h0).1 hx))
theorem many_rot {t : Trk} {ws : List Pt} (h0 : 0 < ws.length) (b : Nat) : (elbsL t (rotW ws b)).length = (elbsL t ws).length := by
  have h1 := many_rot_le (t := t) h0 b
  have h2 := many_rot_le (t := t) (ws := rotW ws b) (by rw [rotL_len]; exact h0) (ws.length - b % ws.length)
  rw [rotW_back h0] at h2
  omega
theorem many_rev_le {t : Trk} {ws : List Pt} (hc : t.cl = 1 → 3 ≤ t.ps.length) (h0 : 0 < ws.length) : (elbsL t ws).length ≤ (elbsL t ws.reverse).length := by
  refine map_len List.reverse (elbsL_nodup t ws) (fun x hx y hy e => ?_) (fun x hx => ?_)
  · exact List.reverse_inj.1 e
  · exact (mem_elbsL (by rw [List.length_reverse]; exact h0)).2 (elbV_rev hc h0 ((mem_elbsL h0).1 hx))
theorem many_rev {t : Trk} {ws : List Pt} (hc : t.cl = 1 → 3 ≤ t.ps.length) (h0 : 0 < ws.length) : (elbsL t ws.reverse).length = (elbsL t ws).length := by
  have h1 := many_rev_le (t := t) hc h0
  have h2 := many_rev_le (t := t) (ws := ws.reverse) hc (by rw [List.length_reverse]; exact h0)
  rw [List.reverse_reverse] at h2
  omega
theorem least_le {t : Trk} {ws vs : List Pt} (h0 : 0 < ws.length) (h0' : 0 < vs.length) (f : List Int → List Int) (hf : ∀ es, elbV t ws es = true → elbV t vs (f es) = true ∧ movesV (f es) = movesV es) (hne : elbsL t ws ≠ []) : movesV (calmV (elbsL t vs)) ≤ movesV (calmV (elbsL t ws)) := by
  obtain ⟨c1, c2⟩ := calmV_spec hne
  obtain ⟨g1, g2⟩ := hf _ ((mem_elbsL h0).1 c1)
  have m := (mem_elbsL h0').2 g1
  obtain ⟨d1, d2⟩ := calmV_spec (l := elbsL t vs) (List.ne_nil_of_mem m)
  have := d2 _ m
  omega
theorem ne_of_len {α : Type} {a : List α} {β : Type} {b : List β} (h : a.length = b.length) (hb : b ≠ []) : a ≠ [] := fun e => by
  subst e
  exact hb (List.length_eq_zero_iff.1 h.symm)
theorem least_rot {t : Trk} {ws : List Pt} (h0 : 0 < ws.length) (b : Nat) (hne : elbsL t ws ≠ []) : movesV (calmV (elbsL t (rotW ws b))) = movesV (calmV (elbsL t ws)) := by
  have hr : 0 < (rotW ws b).length := by rw [rotL_len]; exact h0
  have h1 := least_le h0 hr (fun es => rotE es b) (fun es he => ⟨elbV_rot h0 b he, moves_rot (by have := (elbV_iff.1 he).1; omega) b⟩) hne
  have hne2 : elbsL t (rotW ws b) ≠ [] := ne_of_len (many_rot h0 b) hne
  have h2 := least_le (t := t) (vs := ws) hr h0 (fun es => rotE es (ws.length - b % ws.length)) (fun es he => by
    have := elbV_rot hr (ws.length - b % ws.length) he
    rw [rotW_back h0] at this
    exact ⟨this, moves_rot (by have := (elbV_iff.1 he).1; omega) _⟩) hne2
  omega
theorem least_rev {t : Trk} {ws : List Pt} (hc : t.cl = 1 → 3 ≤ t.ps.length) (h0 : 0 < ws.length) (hne : elbsL t ws ≠ []) : movesV (calmV (elbsL t ws.reverse)) = movesV (calmV (elbsL t ws)) := by
  have hr : 0 < ws.reverse.length := by rw [List.length_reverse]; exact h0
  have h1 := least_le h0 hr List.reverse (fun es he => ⟨elbV_rev hc h0 he, moves_rev (by have := (elbV_iff.1 he).1; omega)⟩) hne
  have hne2 : elbsL t ws.reverse ≠ [] := ne_of_len (many_rev hc h0) hne
  have h2 := least_le (t := t) (vs := ws) hr h0 List.reverse (fun es he => by
    have := elbV_rev hc hr he
    rw [List.reverse_reverse] at this
    exact ⟨this, moves_rev (by have := (elbV_iff.1 he).1; omega)⟩) hne2
  omega
theorem sweep_rot {t : Trk} {ws : List Pt} {es : List Int} (ht : trkB t = true) (h0 : 0 < ws.length) (b : Nat) (h : elbV t ws es = true) : sweepV t (rotW ws b) (rotE es b) = sweepV t ws es := by
  have hl := (elbV_iff.1 h).1
  rw [(meterV ht h0 h).1, (meterV ht (by rw [rotL_len]; exact h0) (elbV_rot h0 b h)).1, dbl_rot h0, turns_rot (by omega)]
theorem sweep_rev {t : Trk} {ws : List Pt} {es : List Int} (ht : trkB t = true) (h0 : 0 < ws.length) (h : elbV t ws es = true) : sweepV t ws.reverse es.reverse = -sweepV t ws es := by
  have hl := (elbV_iff.1 h).1
  have hc := (trk_parts ht).2.1
  rw [(meterV ht h0 h).1, (meterV ht (by rw [List.length_reverse]; exact h0) (elbV_rev hc h0 h)).1, dbl_rev h0, turns_rev hc (by omega), Int.neg_mul]
  omega
theorem rolls_rot {t : Trk} {ws : List Pt} (ht : trkB t = true) (h0 : 0 < ws.length) (b : Nat) : rollsL t (rotW ws b) = rollsL t ws := by
  have hr : 0 < (rotW ws b).length := by rw [rotL_len]; exact h0
  refine asc_one (asc_ascOf _) (asc_ascOf _) (fun x => ?_)
  rw [mem_rollsL hr, mem_rollsL h0]
  constructor
  · rintro ⟨es, he, rfl⟩
    have h1 := elbV_rot hr (ws.length - b % ws.length) he
    have h2 := sweep_rot ht hr (ws.length - b % ws.length) he
    rw [rotW_back h0] at h1 h2
    exact ⟨_, h1, h2⟩
  · rintro ⟨es, he, rfl⟩
    exact ⟨_, elbV_rot h0 b he, sweep_rot ht h0 b he⟩
theorem rolls_rev {t : Trk} {ws : List Pt} (ht : trkB t = true) (h0 : 0 < ws.length) : rollsL t ws.reverse = ((rollsL t ws).map (fun x => -x)).reverse := by
  have hc := (trk_parts ht).2.1
  have hr : 0 < ws.reverse.length := by rw [List.length_reverse]; exact h0
  have ha : asc (rollsL t ws) := asc_ascOf _
  refine asc_one (asc_ascOf _) ?_ (fun x => ?_)
  · unfold asc
    rw [List.pairwise_reverse, List.pairwise_map]
    exact ha.imp (fun h => by omega)
  · rw [mem_rollsL hr, List.mem_reverse, List.mem_map]
    constructor
    · rintro ⟨es, he, rfl⟩
      have h1 := elbV_rev hc hr he
      have h2 := sweep_rev ht hr he
      rw [List.reverse_reverse] at h1 h2
      exact ⟨_, (mem_rollsL h0).2 ⟨_, h1, rfl⟩, by rw [h2]; omega⟩
    · rintro ⟨y, hy, rfl⟩
      obtain ⟨es, he, rfl⟩ := (mem_rollsL h0).1 hy
      exact ⟨_, elbV_rev hc h0 he, sweep_rev ht h0 he⟩
end Wl
end Go.Proofs.Ytmjcdggmofohcaa
namespace Go.Proofs.Ytmjcdggmofohcaa
open Go.RowKit
namespace Wl
/-- All elbows of the one are elbows of the other, with the same sweep. -/
def Incl (t o : Trk) (ws : List Pt) : Prop := ∀ es, elbV t ws es = true → elbV o ws es = true ∧ sweepV o ws es = sweepV t ws es
theorem incl_many {t o : Trk} {ws : List Pt} (h0 : 0 < ws.length) (h : Incl t o ws) : (elbsL t ws).length ≤ (elbsL o ws).length :=
  sub_len (elbsL_nodup t ws) (fun es he => (mem_elbsL h0).2 (h es ((mem_elbsL h0).1 he)).1)
theorem incl_rolls {t o : Trk} {ws : List Pt} (h0 : 0 < ws.length) (h : Incl t o ws) : ∀ x ∈ rollsL t ws, x ∈ rollsL o ws := fun x hx => by
  obtain ⟨es, he, rfl⟩ := (mem_rollsL h0).1 hx
  obtain ⟨h1, h2⟩ := h es he
  exact (mem_rollsL h0).2 ⟨es, h1, h2⟩
theorem incl_rolls_len {t o : Trk} {ws : List Pt} (h0 : 0 < ws.length) (h : Incl t o ws) : (rollsL t ws).length ≤ (rollsL o ws).length :=
  sub_len (List.Pairwise.imp (fun hlt => by omega) (asc_ascOf ((elbsL t ws).map (sweepV t ws)))) (incl_rolls h0 h)
theorem incl_least {t o : Trk} {ws : List Pt} (h0 : 0 < ws.length) (h : Incl t o ws) (hne : elbsL t ws ≠ []) : movesV (calmV (elbsL o ws)) ≤ movesV (calmV (elbsL t ws)) := by
  obtain ⟨c1, c2⟩ := calmV_spec hne
  have m := (mem_elbsL h0).2 (h _ ((mem_elbsL h0).1 c1)).1
  exact (calmV_spec (l := elbsL o ws) (List.ne_nil_of_mem m)).2 _ m
theorem incl_ne {t o : Trk} {ws : List Pt} (h0 : 0 < ws.length) (h : Incl t o ws) (hne : elbsL t ws ≠ []) : elbsL o ws ≠ [] := by
  obtain ⟨c1, c2⟩ := calmV_spec hne
  exact List.ne_nil_of_mem ((mem_elbsL h0).2 (h _ ((mem_elbsL h0).1 c1)).1)
theorem ascOf_len (l : List Int) : (ascOf l).length ≤ l.length := by
  have : ∀ (l a : List Int), (l.foldl (fun a n => insA n a) a).length ≤ a.length + l.length := by
    intro l
    induction l with
    | nil => intro a; simp
    | cons x l ih =>
      intro a
      have h1 := ih (insA x a)
      have h2 : (insA x a).length ≤ a.length + 1 := by
        clear ih h1
        induction a with
        | nil => simp [insA]
        | cons y a iha =>
          show (if x < y then x :: y :: a else if x = y then y :: a else y :: insA x a).length ≤ _
          split
          · simp
          · split
            · simp
            · simp only [List.length_cons] at *; omega
      simp only [List.foldl_cons, List.length_cons]
      omega
  have := this l []
  simpa [ascOf] using this
theorem goL_lenm {t : Trk} {ws : List Pt} {m : Nat} (hm : t.ps.length ≤ m) : ∀ (k : Nat) (pl : List Int), (goL t ws k pl).length ≤ m ^ k
  | 0, pl => by
    show (if nearB t (lastV pl) (esAt pl 0) = true then [pl] else []).length ≤ 1
    split <;> simp
  | k + 1, pl => by
    show ((reachL t (ptAt ws pl.length)).flatMap fun p => if 0 < pl.length ∧ nearB t (lastV pl) p = false then [] else goL t ws k (pl ++ [p])).length ≤ m ^ (k + 1)
    have aux : ∀ (l : List Int), (l.flatMap fun p => if 0 < pl.length ∧ nearB t (lastV pl) p = false then [] else goL t ws k (pl ++ [p])).length ≤ l.length * m ^ k := by
      intro l
      induction l with
      | nil => simp
      | cons x l ih =>
        rw [List.flatMap_cons, List.length_append, List.length_cons, Nat.succ_mul]
        have h1 : (if 0 < pl.length ∧ nearB t (lastV pl) x = false then [] else goL t ws k (pl ++ [x])).length ≤ m ^ k := by
          split
          · simp
          · exact goL_lenm hm k _
        omega
    have h1 := aux (reachL t (ptAt ws pl.length))
    have h2 := reachL_len t (ptAt ws pl.length)
    have h3 : (reachL t (ptAt ws pl.length)).length * m ^ k ≤ m * m ^ k := Nat.mul_le_mul_right _ (by omega)
    rw [Nat.pow_succ, Nat.mul_comm (m ^ k) m]
    omega
theorem rolls_lt {t : Trk} {ws : List Pt} (h1 : t.ps.length ≤ 5) (h2 : ws.length ≤ 5) : (rollsL t ws).length < 10000 := by
  have h3 := ascOf_len ((elbsL t ws).map (sweepV t ws))
  rw [List.length_map] at h3
  have h4 := goL_lenm (ws := ws) h1 ws.length []
  have h5 : (5 : Nat) ^ ws.length ≤ 5 ^ 5 := Nat.pow_le_pow_right (by decide) h2
  have h6 : (5 : Nat) ^ 5 = 3125 := by decide
  show (ascOf _).length < 10000
  have h7 : (elbsL t ws).length ≤ 5 ^ ws.length := h4
  omega
theorem swTo_same {t o : Trk} {ws : List Pt} {es : List Int} (h : ∀ k, k ≤ es.length → ptAt o.ps (eAt es k).toNat = ptAt t.ps (eAt es k).toNat) : ∀ k, k ≤ es.length → swTo o ws es k = swTo t ws es k
  | 0, _ => rfl
  | k + 1, hk => by
    show swTo o ws es k + quad _ _ _ _ = swTo t ws es k + quad _ _ _ _
    rw [swTo_same h k (by omega), h k (by omega), h (k + 1) hk]
theorem incl_wide {t : Trk} {ws : List Pt} {lo hi : Int} (h1 : lo ≤ t.lo) (h2 : t.hi ≤ hi) : Incl t ⟨t.ps, t.cl, lo, hi⟩ ws := fun es he => by
  obtain ⟨e1, e2, e3⟩ := elbV_iff.1 he
  refine ⟨elbV_iff.2 ⟨e1, fun k hk => ?_, e3⟩, ?_⟩
  · have := fitB_mem.1 (e2 k hk)
    rw [mem_reachL] at this
    rw [fitB_mem, mem_reachL]
    refine ⟨this.1, ?_⟩
    have h3 := this.2
    unfold reachB at h3 ⊢
    simp only [Bool.and_eq_true, decide_eq_true_eq] at h3 ⊢
    have e : sqV ⟨t.ps, t.cl, lo, hi⟩ (esAt es k) (ptAt ws k) = sqV t (esAt es k) (ptAt ws k) := rfl
    rw [e]
    omega
  · exact swTo_same (t := t) (o := ⟨t.ps, t.cl, lo, hi⟩) (ws := ws) (fun k _ => rfl) es.length (Nat.le_refl _)
theorem ptAt_app {ps : List Pt} {p : Pt} {k : Nat} (h : k < ps.length) : ptAt (ps ++ [p]) k = ptAt ps k := by
  unfold ptAt
  rw [List.getElem?_append_left h]
theorem incl_long {t : Trk} {ws : List Pt} {p : Pt} (h0 : 0 < ws.length) (hc : t.cl ≠ 1) : Incl t ⟨t.ps ++ [p], t.cl, t.lo, t.hi⟩ ws := fun es he => by
  obtain ⟨e1, e2, e3⟩ := elbV_iff.1 he
  have hin : ∀ k, k < es.length → 0 ≤ esAt es k ∧ esAt es k < t.ps.length := fun k hk => (mem_reachL.1 (fitB_mem.1 (e2 k hk))).1
  refine ⟨elbV_iff.2 ⟨e1, fun k hk => ?_, fun k hk => ?_⟩, ?_⟩
  · have := fitB_mem.1 (e2 k hk)
    rw [mem_reachL] at this
    rw [fitB_mem, mem_reachL]
    refine ⟨⟨this.1.1, ?_⟩, ?_⟩
    · show esAt es k < ((t.ps ++ [p]).length : Int)
      rw [List.length_append, List.length_singleton]
      omega
    have h3 := this.2
    unfold reachB at h3 ⊢
    have e : sqV ⟨t.ps ++ [p], t.cl, t.lo, t.hi⟩ (esAt es k) (ptAt ws k) = sqV t (esAt es k) (ptAt ws k) := by
      unfold sqV
      rw [show (⟨t.ps ++ [p], t.cl, t.lo, t.hi⟩ : Trk).ps = t.ps ++ [p] from rfl, ptAt_app (by omega)]
    rw [e]
    exact h3
  · have := e3 k hk
    unfold nearB stepV at this ⊢
    simp only [hc, false_and, if_false] at this ⊢
    exact this
  · refine swTo_same (fun k _ => ?_) _ (Nat.le_refl _)
    have hk := hin (k % es.length) (Nat.mod_lt _ (by omega))
    rw [eAt_mod]
    exact ptAt_app (by omega)
theorem stk_none {t : Trk} {ws : List Pt} (h : elbsL t ws ≠ []) (h0 : 0 < ws.length) : ∀ k, k ≤ ws.length → stkTo t ws k = []
  | 0, _ => rfl
  | k + 1, hk => by
    obtain ⟨es, hes⟩ := List.exists_mem_of_ne_nil _ h
    obtain ⟨e1, e2, _⟩ := elbV_iff.1 ((mem_elbsL h0).1 hes)
    have hm := fitB_mem.1 (e2 k (by omega))
    have hl : (reachL t (ptAt ws k)).length ≠ 0 := by
      have := List.length_pos_of_mem hm
      omega
    show (if (reachL t (ptAt ws k)).length = 0 then stkTo t ws k ++ [(k : Int)] else stkTo t ws k) = []
    rw [if_neg hl]
    exact stk_none h h0 k (by omega)
end Wl
namespace Wl
theorem pts_posM {ws : List Pt} (h : ptsB ws = true) : 0 < ws.length := by
  unfold ptsB inB at h
  simp only [Bool.and_eq_true, decide_eq_true_eq] at h
  omega
end Wl
set_option maxRecDepth 100000 in
set_option maxHeartbeats 4000000 in
theorem subset5_yes (v : Value) (xs : List Int) (u : Value) (ys : List Int) (w : World) (hv : Ints w w.heap.size v xs) (hu : Ints w w.heap.size u ys) (hl : xs.length ≤ 1000000000) (hl2 : ys.length ≤ 1000000000) (hs : ∀ x ∈ xs, x ∈ ys) (hn : xs.length ≤ ys.length) :
    Calls Try.prog 79 #[v, u] w fun e w' => e = .returned (.bool true) ∧ Below w.heap.size w w' := by
  have hform : ∃ A c, v = .slice A xs.length c := by
    rcases hv with ⟨rfl, rfl⟩ | ⟨b, off, cap, rfl, _⟩
    · exact ⟨none, 0, rfl⟩
    · exact ⟨_, _, rfl⟩
  obtain ⟨A, c, hva⟩ := hform
  have hform2 : ∃ A c, u = .slice A ys.length c := by
    rcases hu with ⟨rfl, rfl⟩ | ⟨b, off, cap, rfl, _⟩
    · exact ⟨none, 0, rfl⟩
    · exact ⟨_, _, rfl⟩
  obtain ⟨A2, c2, hua⟩ := hform2
  have HIN : Hid (∀ (x : Int) W, x ∈ xs → Below w.heap.size w W → Calls Try.prog 45 #[.slice A2 ys.length c2, .int .i64 x] W fun e w' => e = .returned (.bool true) ∧ Below W.heap.size W w') := fun x W hx hW =>
    (In_any (.slice A2 ys.length c2) ys x W (Ints.more (Ints.keep (by rw [hua] at hu; exact hu : Ints w w.heap.size (.slice A2 ys.length c2) ys) hW) hW.size) hl2).mono (fun e w' h => ⟨by rw [h.1, decide_eq_true (hs x hx)], by rw [h.2]; exact Below.refl _ _⟩)
  have HX := Lib.hid hv
  have hll : (xs.length : Int) ≤ 1000000000 := by omega
  have hll2 : (ys.length : Int) ≤ 1000000000 := by omega
  have hnn : (xs.length : Int) ≤ ys.length := by omega
  clear hv hu hs
  subst hva hua
  go_enter Try.func79, Try.ntmps79
  go_wp2_with fail
  go_loopw [5] (fun x wr => ∃ k : Nat, (k : Int) ≤ xs.length ∧ x = .int .i64 k ∧ Below w.heap.size w wr) (fun x _ => xs.length - (intOf x).toNat)
  case atStart => exact ⟨0, by omega, rfl, Below.refl _ _⟩
  case round =>
    obtain ⟨k, hk, rfl, hB⟩ := hrel
    have hkn := Int.natCast_nonneg k
    by_cases hlt : (k : Int) < xs.length
    · have hkx : k < xs.length := by omega
      rcases HX.out with ⟨_, e⟩ | ⟨b, off, cap, e, hb, hc⟩
      · subst e; simp at hkx
      · have hxk : xs[k]? = some xs[k] := List.getElem?_eq_getElem hkx
        have c0 := (hB.cell (p := ⟨b, off + k, none⟩) hb).trans (hc k _ hxk)
        have HI := Lib.hid (HIN.out xs[k] wr (List.getElem_mem hkx) hB)
        injection e with eA _ ec
        subst eA ec
        have hw1 : IntKind.i64.wrap ((k : Int) + 1) = (k : Int) + 1 := IntWalk.i64_in _ (by omega)
        clear hc hxk HIN
        generalize xs[k] = x at *
        go_wp2_with fail
        refine HI.out.mono ?_
        rintro e9 w9 ⟨rfl, hb9⟩
        have hB9 := hB.trans (hb9.mono hB.size)
        go_wp2_with fail
        go_roundw
        case rel => exact ⟨k + 1, by omega, by go_num, hB9⟩
        case measure => simp [intOf]; omega
    · go_wp2_with fail
      go_returns
      exact ⟨rfl, hB⟩
set_option maxRecDepth 100000 in
set_option maxHeartbeats 16000000 in
theorem holds5_any (t o : Wl.Trk) (ws : List Wl.Pt) (A B Aw : Option Addr) (c d cw : Nat) (hl1 : t.ps.length ≤ 5) (hl2 : o.ps.length ≤ 5) (hl3 : ws.length ≤ 5) (h1 : Wl.setE t ws = 0) (h2 : Wl.setE o ws = 0) (hi : Wl.Incl t o ws) (w : World) (hP : Prs w w.heap.size A t.ps) (hO : Prs w w.heap.size B o.ps) (hQ : Prs w w.heap.size Aw ws) :
    Calls Try.prog 46 #[.agg (trV t A c), .agg (trV o B d), .slice Aw ws.length cw] w fun e w' => e = .returned (.bool true) ∧ Below w.heap.size w w' := by
  obtain ⟨g1, g2⟩ := Wl.setE_yes h1
  have hw0 := Wl.pts_posM g1.2
  have HM1 : Hid (∀ W, Below w.heap.size w W → Calls Try.prog 29 #[.agg (trV t A c), .slice Aw ws.length cw] W (TwoPost ((Wl.elbsL t ws).length : Int) 0 W)) := fun W hW => by
    have := ManyW_any t ws A Aw c cw (by omega) (by omega) W (prs_keep hP hW) (prs_keep hQ hW)
    rw [h1] at this
    exact this
  have HR1 : Hid (∀ W, Below w.heap.size w W → Calls Try.prog 31 #[.agg (trV t A c), .slice Aw ws.length cw] W (IntsEPost (Wl.rollsL t ws) 0 W)) := fun W hW => by
    have := RollsW_any t ws A Aw c cw (by omega) (by omega) W (prs_keep hP hW) (prs_keep hQ hW)
    rw [h1] at this
    exact this
  have HL1 : Hid (∀ W, Below w.heap.size w W → Calls Try.prog 33 #[.agg (trV t A c), .slice Aw ws.length cw] W (TwoPost (Wl.movesV (Wl.calmV (Wl.elbsL t ws))) 0 W)) := fun W hW => by
    have := LeastW_any t ws A Aw c cw (by omega) (by omega) W (prs_keep hP hW) (prs_keep hQ hW)
    rw [h1] at this
    exact this
  have HM2 : Hid (∀ W, Below w.heap.size w W → Calls Try.prog 29 #[.agg (trV o B d), .slice Aw ws.length cw] W (TwoPost ((Wl.elbsL o ws).length : Int) 0 W)) := fun W hW => by
    have := ManyW_any o ws B Aw d cw (by omega) (by omega) W (prs_keep hO hW) (prs_keep hQ hW)
    rw [h2] at this
    exact this
  have HR2 : Hid (∀ W, Below w.heap.size w W → Calls Try.prog 31 #[.agg (trV o B d), .slice Aw ws.length cw] W (IntsEPost (Wl.rollsL o ws) 0 W)) := fun W hW => by
    have := RollsW_any o ws B Aw d cw (by omega) (by omega) W (prs_keep hO hW) (prs_keep hQ hW)
    rw [h2] at this
    exact this
  have HL2 : Hid (∀ W, Below w.heap.size w W → Calls Try.prog 33 #[.agg (trV o B d), .slice Aw ws.length cw] W (TwoPost (Wl.movesV (Wl.calmV (Wl.elbsL o ws))) 0 W)) := fun W hW => by
    have := LeastW_any o ws B Aw d cw (by omega) (by omega) W (prs_keep hO hW) (prs_keep hQ hW)
    rw [h2] at this
    exact this
  have k1 := Wl.incl_many hw0 hi
  have k2 := Wl.incl_rolls hw0 hi
  have k3 := Wl.incl_rolls_len hw0 hi
  have k4 := Wl.incl_least hw0 hi g2
  have k5 := Wl.rolls_lt hl2 hl3
  have k6 : 0 < (Wl.elbsL t ws).length := by
    cases h : Wl.elbsL t ws with
    | nil => exact absurd h g2
    | cons x l => simp
  have k7 := Wl.rolls_lt hl1 hl3
  have HSU : Hid (∀ (u v : Value) (W : World), Ints W W.heap.size u (Wl.rollsL t ws) → Ints W W.heap.size v (Wl.rollsL o ws) → Calls Try.prog 79 #[u, v] W fun e w' => e = .returned (.bool true) ∧ Below W.heap.size W w') := fun u v W h h' => subset5_yes u _ v _ W h h' (by omega) (by omega) k2 k3
  clear hP hO hQ g1 g2 hi h1 h2 k2 k3 k7
  unfold TwoPost at HM1 HM2 HL1 HL2
  unfold IntsEPost at HR1 HR2
  obtain ⟨MT, hMT⟩ : ∃ MT : Int, MT = ((Wl.elbsL t ws).length : Int) := ⟨_, rfl⟩
  obtain ⟨MO, hMO⟩ : ∃ MO : Int, MO = ((Wl.elbsL o ws).length : Int) := ⟨_, rfl⟩
  rw [← hMT] at HM1
  rw [← hMO] at HM2
  have m1 : decide (MT ≤ MO) = true := decide_eq_true (by omega)
  have m2 : decide (0 < MT) = true := decide_eq_true (by omega)
  have m3 : decide (Wl.movesV (Wl.calmV (Wl.elbsL o ws)) ≤ Wl.movesV (Wl.calmV (Wl.elbsL t ws))) = true := decide_eq_true k4
  clear hMT hMO k1 k4 k6
  generalize Wl.movesV (Wl.calmV (Wl.elbsL o ws)) = LO at *
  generalize Wl.movesV (Wl.calmV (Wl.elbsL t ws)) = LT at *
  generalize Wl.rollsL t ws = RT at *
  generalize Wl.rollsL o ws = RO at *
  have m4 : decide ((RO.length : Int) < 10000) = true := decide_eq_true (by omega)
  have m5 : decide (RO.length < 10000) = true := decide_eq_true (by omega)
  obtain ⟨ps, cl, lo, hi⟩ := t
  obtain ⟨qs, dl, lp, hp⟩ := o
  unfold trV at *
  dsimp only at *
  clear hl1 hl2 hl3 hw0 k5
  go_enter Try.func46, Try.ntmps46
  go_wp2_with fail
  have bT1 := (BoxS.new w 26 #[.slice A ps.length c, .int .i64 cl, .int .i64 lo, .int .i64 hi]).alloc (.cells #[.slice B qs.length d, .int .i64 dl, .int .i64 lp, .int .i64 hp] 26)
  have bO1 := BoxS.new (w.alloc (.cells #[.slice A ps.length c, .int .i64 cl, .int .i64 lo, .int .i64 hi] 26)) 26 #[.slice B qs.length d, .int .i64 dl, .int .i64 lp, .int .i64 hp]
  rw [World.size_alloc] at bO1
  have hB1 : Below w.heap.size w ((w.alloc (.cells #[.slice A ps.length c, .int .i64 cl, .int .i64 lo, .int .i64 hi] 26)).alloc (.cells #[.slice B qs.length d, .int .i64 dl, .int .i64 lp, .int .i64 hp] 26)) := by (repeat' (first | (with_reducible exact Below.refl _ _) | (with_reducible assumption) | (with_reducible refine Below.alloc ?_ ?_ _) | (with_reducible refine Below.drew ?_) | (with_reducible refine Below.setCell ?_ ?_ _) | go_size | (exact (by simp)) | omega))
  generalize World.alloc (World.alloc w _) _ = w1 at *
  have ct0 : w1.cell? ⟨w.heap.size, 0, none⟩ = some (.slice A ps.length c) := bT1.cell 0 rfl
  have ct1 : w1.cell? ⟨w.heap.size, 1, none⟩ = some (.int .i64 cl) := bT1.cell 1 rfl
  have ct2 : w1.cell? ⟨w.heap.size, 2, none⟩ = some (.int .i64 lo) := bT1.cell 2 rfl
  have ct3 : w1.cell? ⟨w.heap.size, 3, none⟩ = some (.int .i64 hi) := bT1.cell 3 rfl
  have lT1 := bT1.lt
  have co0 : w1.cell? ⟨w.heap.size + 1, 0, none⟩ = some (.slice B qs.length d) := bO1.cell 0 rfl
  have co1 : w1.cell? ⟨w.heap.size + 1, 1, none⟩ = some (.int .i64 dl) := bO1.cell 1 rfl
  have co2 : w1.cell? ⟨w.heap.size + 1, 2, none⟩ = some (.int .i64 lp) := bO1.cell 2 rfl
  have co3 : w1.cell? ⟨w.heap.size + 1, 3, none⟩ = some (.int .i64 hp) := bO1.cell 3 rfl
  have lO1 := bO1.lt
  try go_wp2_with fail
  refine (HM1.out _ hB1).mono ?_
  rintro e w2 ⟨rfl, hb2⟩
  have bT2 := bT1.below hb2
  have bO2 := bO1.below hb2
  have hB2 := hB1.trans (hb2.mono hB1.size)
  clear ct0 ct1 ct2 ct3 lT1 co0 co1 co2 co3 lO1 bT1 bO1 hB1 hb2
  have ct0 : w2.cell? ⟨w.heap.size, 0, none⟩ = some (.slice A ps.length c) := bT2.cell 0 rfl
  have ct1 : w2.cell? ⟨w.heap.size, 1, none⟩ = some (.int .i64 cl) := bT2.cell 1 rfl
  have ct2 : w2.cell? ⟨w.heap.size, 2, none⟩ = some (.int .i64 lo) := bT2.cell 2 rfl
  have ct3 : w2.cell? ⟨w.heap.size, 3, none⟩ = some (.int .i64 hi) := bT2.cell 3 rfl
  have lT2 := bT2.lt
  have co0 : w2.cell? ⟨w.heap.size + 1, 0, none⟩ = some (.slice B qs.length d) := bO2.cell 0 rfl
  have co1 : w2.cell? ⟨w.heap.size + 1, 1, none⟩ = some (.int .i64 dl) := bO2.cell 1 rfl
  have co2 : w2.cell? ⟨w.heap.size + 1, 2, none⟩ = some (.int .i64 lp) := bO2.cell 2 rfl
  have co3 : w2.cell? ⟨w.heap.size + 1, 3, none⟩ = some (.int .i64 hp) := bO2.cell 3 rfl
  have lO2 := bO2.lt
  go_wp2_with fail
  refine (HM2.out _ hB2).mono ?_
  rintro e w3 ⟨rfl, hb3⟩
  have bT3 := bT2.below hb3
  have bO3 := bO2.below hb3
  have hB3 := hB2.trans (hb3.mono hB2.size)
  clear ct0 ct1 ct2 ct3 lT2 co0 co1 co2 co3 lO2 bT2 bO2 hB2 hb3
  have ct0 : w3.cell? ⟨w.heap.size, 0, none⟩ = some (.slice A ps.length c) := bT3.cell 0 rfl
  have ct1 : w3.cell? ⟨w.heap.size, 1, none⟩ = some (.int .i64 cl) := bT3.cell 1 rfl
  have ct2 : w3.cell? ⟨w.heap.size, 2, none⟩ = some (.int .i64 lo) := bT3.cell 2 rfl
  have ct3 : w3.cell? ⟨w.heap.size, 3, none⟩ = some (.int .i64 hi) := bT3.cell 3 rfl
  have lT3 := bT3.lt
  have co0 : w3.cell? ⟨w.heap.size + 1, 0, none⟩ = some (.slice B qs.length d) := bO3.cell 0 rfl
  have co1 : w3.cell? ⟨w.heap.size + 1, 1, none⟩ = some (.int .i64 dl) := bO3.cell 1 rfl
  have co2 : w3.cell? ⟨w.heap.size + 1, 2, none⟩ = some (.int .i64 lp) := bO3.cell 2 rfl
  have co3 : w3.cell? ⟨w.heap.size + 1, 3, none⟩ = some (.int .i64 hp) := bO3.cell 3 rfl
  have lO3 := bO3.lt
  go_wp2_with fail
  refine (HR1.out _ hB3).mono ?_
  rintro e w4 ⟨v4, rfl, hv4, hb4⟩
  obtain ⟨Ara, cra, rfl⟩ := ints_form hv4.out
  have bT4 := bT3.below hb4
  have bO4 := bO3.below hb4
  have hB4 := hB3.trans (hb4.mono hB3.size)
  clear ct0 ct1 ct2 ct3 lT3 co0 co1 co2 co3 lO3 bT3 bO3 hB3 hb4
  have ra4 : Hid (Ints w4 w4.heap.size (.slice Ara RT.length cra) RT) := hv4
  clear hv4
  have ct0 : w4.cell? ⟨w.heap.size, 0, none⟩ = some (.slice A ps.length c) := bT4.cell 0 rfl
  have ct1 : w4.cell? ⟨w.heap.size, 1, none⟩ = some (.int .i64 cl) := bT4.cell 1 rfl
  have ct2 : w4.cell? ⟨w.heap.size, 2, none⟩ = some (.int .i64 lo) := bT4.cell 2 rfl
  have ct3 : w4.cell? ⟨w.heap.size, 3, none⟩ = some (.int .i64 hi) := bT4.cell 3 rfl
  have lT4 := bT4.lt
  have co0 : w4.cell? ⟨w.heap.size + 1, 0, none⟩ = some (.slice B qs.length d) := bO4.cell 0 rfl
  have co1 : w4.cell? ⟨w.heap.size + 1, 1, none⟩ = some (.int .i64 dl) := bO4.cell 1 rfl
  have co2 : w4.cell? ⟨w.heap.size + 1, 2, none⟩ = some (.int .i64 lp) := bO4.cell 2 rfl
  have co3 : w4.cell? ⟨w.heap.size + 1, 3, none⟩ = some (.int .i64 hp) := bO4.cell 3 rfl
  have lO4 := bO4.lt
  go_wp2_with fail
  refine (HR2.out _ hB4).mono ?_
  rintro e w5 ⟨v5, rfl, hv5, hb5⟩
  obtain ⟨Arb, crb, rfl⟩ := ints_form hv5.out
  have bT5 := bT4.below hb5
  have bO5 := bO4.below hb5
  have hB5 := hB4.trans (hb5.mono hB4.size)
  have ra5 : Hid (Ints w5 w5.heap.size (.slice Ara RT.length cra) RT) := (ra4.out.keep hb5).more hb5.size
  clear ct0 ct1 ct2 ct3 lT4 co0 co1 co2 co3 lO4 bT4 bO4 ra4 hB4 hb5
  have rb5 : Hid (Ints w5 w5.heap.size (.slice Arb RO.length crb) RO) := hv5
  clear hv5
  have ct0 : w5.cell? ⟨w.heap.size, 0, none⟩ = some (.slice A ps.length c) := bT5.cell 0 rfl
  have ct1 : w5.cell? ⟨w.heap.size, 1, none⟩ = some (.int .i64 cl) := bT5.cell 1 rfl
  have ct2 : w5.cell? ⟨w.heap.size, 2, none⟩ = some (.int .i64 lo) := bT5.cell 2 rfl
  have ct3 : w5.cell? ⟨w.heap.size, 3, none⟩ = some (.int .i64 hi) := bT5.cell 3 rfl
  have lT5 := bT5.lt
  have co0 : w5.cell? ⟨w.heap.size + 1, 0, none⟩ = some (.slice B qs.length d) := bO5.cell 0 rfl
  have co1 : w5.cell? ⟨w.heap.size + 1, 1, none⟩ = some (.int .i64 dl) := bO5.cell 1 rfl
  have co2 : w5.cell? ⟨w.heap.size + 1, 2, none⟩ = some (.int .i64 lp) := bO5.cell 2 rfl
  have co3 : w5.cell? ⟨w.heap.size + 1, 3, none⟩ = some (.int .i64 hp) := bO5.cell 3 rfl
  have lO5 := bO5.lt
  go_wp2_with fail
  refine (HL1.out _ hB5).mono ?_
  rintro e w6 ⟨rfl, hb6⟩
  have bT6 := bT5.below hb6
  have bO6 := bO5.below hb6
  have hB6 := hB5.trans (hb6.mono hB5.size)
  have ra6 : Hid (Ints w6 w6.heap.size (.slice Ara RT.length cra) RT) := (ra5.out.keep hb6).more hb6.size
  have rb6 : Hid (Ints w6 w6.heap.size (.slice Arb RO.length crb) RO) := (rb5.out.keep hb6).more hb6.size
  clear ct0 ct1 ct2 ct3 lT5 co0 co1 co2 co3 lO5 bT5 bO5 ra5 rb5 hB5 hb6
  have ct0 : w6.cell? ⟨w.heap.size, 0, none⟩ = some (.slice A ps.length c) := bT6.cell 0 rfl
  have ct1 : w6.cell? ⟨w.heap.size, 1, none⟩ = some (.int .i64 cl) := bT6.cell 1 rfl
  have ct2 : w6.cell? ⟨w.heap.size, 2, none⟩ = some (.int .i64 lo) := bT6.cell 2 rfl
  have ct3 : w6.cell? ⟨w.heap.size, 3, none⟩ = some (.int .i64 hi) := bT6.cell 3 rfl
  have lT6 := bT6.lt
  have co0 : w6.cell? ⟨w.heap.size + 1, 0, none⟩ = some (.slice B qs.length d) := bO6.cell 0 rfl
  have co1 : w6.cell? ⟨w.heap.size + 1, 1, none⟩ = some (.int .i64 dl) := bO6.cell 1 rfl
  have co2 : w6.cell? ⟨w.heap.size + 1, 2, none⟩ = some (.int .i64 lp) := bO6.cell 2 rfl
  have co3 : w6.cell? ⟨w.heap.size + 1, 3, none⟩ = some (.int .i64 hp) := bO6.cell 3 rfl
  have lO6 := bO6.lt
  go_wp2_with fail
  refine (HL2.out _ hB6).mono ?_
  rintro e w7 ⟨rfl, hb7⟩
  have bT7 := bT6.below hb7
  have bO7 := bO6.below hb7
  have hB7 := hB6.trans (hb7.mono hB6.size)
  have ra7 : Hid (Ints w7 w7.heap.size (.slice Ara RT.length cra) RT) := (ra6.out.keep hb7).more hb7.size
  have rb7 : Hid (Ints w7 w7.heap.size (.slice Arb RO.length crb) RO) := (rb6.out.keep hb7).more hb7.size
  clear ct0 ct1 ct2 ct3 lT6 co0 co1 co2 co3 lO6 bT6 bO6 ra6 rb6 hB6 hb7
  have ct0 : w7.cell? ⟨w.heap.size, 0, none⟩ = some (.slice A ps.length c) := bT7.cell 0 rfl
  have ct1 : w7.cell? ⟨w.heap.size, 1, none⟩ = some (.int .i64 cl) := bT7.cell 1 rfl
  have ct2 : w7.cell? ⟨w.heap.size, 2, none⟩ = some (.int .i64 lo) := bT7.cell 2 rfl
  have ct3 : w7.cell? ⟨w.heap.size, 3, none⟩ = some (.int .i64 hi) := bT7.cell 3 rfl
  have lT7 := bT7.lt
  have co0 : w7.cell? ⟨w.heap.size + 1, 0, none⟩ = some (.slice B qs.length d) := bO7.cell 0 rfl
  have co1 : w7.cell? ⟨w.heap.size + 1, 1, none⟩ = some (.int .i64 dl) := bO7.cell 1 rfl
  have co2 : w7.cell? ⟨w.heap.size + 1, 2, none⟩ = some (.int .i64 lp) := bO7.cell 2 rfl
  have co3 : w7.cell? ⟨w.heap.size + 1, 3, none⟩ = some (.int .i64 hp) := bO7.cell 3 rfl
  have lO7 := bO7.lt
  go_wp2_with fail
  refine (HSU.out _ _ _ ra7.out rb7.out).mono ?_
  rintro e w8 ⟨rfl, hb8⟩
  have bT8 := bT7.below hb8
  have bO8 := bO7.below hb8
  have hB8 := hB7.trans (hb8.mono hB7.size)
  have ra8 : Hid (Ints w8 w8.heap.size (.slice Ara RT.length cra) RT) := (ra7.out.keep hb8).more hb8.size
  have rb8 : Hid (Ints w8 w8.heap.size (.slice Arb RO.length crb) RO) := (rb7.out.keep hb8).more hb8.size
  clear ct0 ct1 ct2 ct3 lT7 co0 co1 co2 co3 lO7 bT7 bO7 ra7 rb7 hB7 hb8
  have ct0 : w8.cell? ⟨w.heap.size, 0, none⟩ = some (.slice A ps.length c) := bT8.cell 0 rfl
  have ct1 : w8.cell? ⟨w.heap.size, 1, none⟩ = some (.int .i64 cl) := bT8.cell 1 rfl
  have ct2 : w8.cell? ⟨w.heap.size, 2, none⟩ = some (.int .i64 lo) := bT8.cell 2 rfl
  have ct3 : w8.cell? ⟨w.heap.size, 3, none⟩ = some (.int .i64 hi) := bT8.cell 3 rfl
  have lT8 := bT8.lt
  have co0 : w8.cell? ⟨w.heap.size + 1, 0, none⟩ = some (.slice B qs.length d) := bO8.cell 0 rfl
  have co1 : w8.cell? ⟨w.heap.size + 1, 1, none⟩ = some (.int .i64 dl) := bO8.cell 1 rfl
  have co2 : w8.cell? ⟨w.heap.size + 1, 2, none⟩ = some (.int .i64 lp) := bO8.cell 2 rfl
  have co3 : w8.cell? ⟨w.heap.size + 1, 3, none⟩ = some (.int .i64 hp) := bO8.cell 3 rfl
  have lO8 := bO8.lt
  go_wp2_with fail
  go_returns
  exact ⟨rfl, hB8⟩
end Go.Proofs.Ytmjcdggmofohcaa
