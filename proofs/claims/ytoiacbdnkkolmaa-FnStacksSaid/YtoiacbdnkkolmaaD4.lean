/-
  The drawing's plain mathematics: what it draws is sound, and it ends.
-/
import Derived.Test.YtoiacbdnkkolmaaD2
import Derived.Test.YtoiacbdnkkolmaaR1
namespace Go.Proofs.Ytoiacbdnkkolmaa

/-- A moment as it is drawn: its variables' slice and what lies in it. -/
structure Mo where
  kind : Int
  task : Int
  fn : Int
  line : Int
  text : ByteArray
  vv : Value
  l : List V

def V.nul : V := ⟨ByteArray.empty, ByteArray.empty⟩
def Mo.m (x : Mo) : M := ⟨x.kind, x.task, x.fn, x.line, x.text, x.l.length, fun i => x.l.getD i V.nul⟩
def Mo.nul : Mo := ⟨0, 0, 0, 0, ByteArray.empty, .slice none 0 0, []⟩
def momOf (ms : List Mo) (i : Nat) : M := (ms.getD i Mo.nul).m

theorem after_congr {f g : Nat → M} : ∀ k, (∀ i, i < k → f i = g i) → St.after f k = St.after g k
  | 0, _ => rfl
  | k + 1, h => by
    have ih := after_congr k (fun i hi => h i (by omega))
    show (St.after f k).step _ _ _ _ _ = (St.after g k).step _ _ _ _ _
    rw [ih, h k (by omega)]

theorem momOf_left (ms : List Mo) (m : Mo) (i : Nat) (hi : i < ms.length) : momOf (ms ++ [m]) i = momOf ms i := by
  unfold momOf
  rw [List.getD_eq_getElem?_getD, List.getD_eq_getElem?_getD, List.getElem?_append_left hi]

theorem momOf_last (ms : List Mo) (m : Mo) : momOf (ms ++ [m]) ms.length = m.m := by
  unfold momOf
  rw [List.getD_eq_getElem?_getD, List.getElem?_append_right (Nat.le_refl _), Nat.sub_self]
  rfl

/-- The moments so far make s, each well formed and none refused. -/
def Path (ms : List Mo) (s : St) : Prop := St.after (momOf ms) ms.length = s ∧ ∀ i, i < ms.length → MomentOk 4 (momOf ms i) ∧ codeAt (momOf ms) i = 0

theorem Path.sound {ms : List Mo} {s : St} (h : Path ms s) : St.after (momOf ms) ms.length = s ∧ ∀ i, i < ms.length → MomentOk 4 (momOf ms i) ∧ codeAt (momOf ms) i = 0 := h

theorem Path.nil : Path [] St.init := ⟨rfl, fun _ hi => absurd hi (Nat.not_lt_zero _)⟩

theorem Path.snoc {ms : List Mo} {s : St} (m : Mo) (h : Path ms s) (hm : MomentOk 4 m.m) (hc : code s m.kind m.task m.fn = 0) : Path (ms ++ [m]) (s.step m.kind m.task m.fn m.line ms.length) := by
  obtain ⟨ih1, ih2⟩ := h
  have hcg : ∀ k, k ≤ ms.length → St.after (momOf (ms ++ [m])) k = St.after (momOf ms) k := fun k hk => after_congr k (fun i hi => momOf_left ms m i (by omega))
  refine ⟨?_, fun i hi => ?_⟩
  · rw [List.length_append, List.length_singleton]
    show (St.after (momOf (ms ++ [m])) ms.length).step _ _ _ _ _ = _
    rw [hcg _ (Nat.le_refl _), ih1, momOf_last]
    rfl
  · rw [List.length_append, List.length_singleton] at hi
    by_cases e : i = ms.length
    · subst e
      unfold codeAt
      rw [momOf_last, hcg _ (Nat.le_refl _), ih1]
      exact ⟨hm, hc⟩
    · unfold codeAt
      rw [momOf_left ms m i (by omega), hcg i (by omega)]
      exact ih2 i (by omega)

/-- What stands behind n moments drawn. -/
structure Okay (s : St) (n : Nat) : Prop where
  cur9 : s.cur < 9
  deep : ∀ t, (s.tasks t).length ≤ n + 1
  fns : ∀ t (fr : Fr), fr ∈ s.tasks t → 0 ≤ fr.fn ∧ fr.fn < 4

theorem Okay.init : Okay St.init 0 := by
  refine ⟨by decide, fun t => ?_, fun t fr hf => ?_⟩
  · simp only [St.init]; split <;> simp
  · simp only [St.init] at hf
    split at hf
    · rw [List.mem_singleton.1 hf]; decide
    · cases hf

theorem Okay.topFn {s : St} {n : Nat} (h : Okay s n) (t : Nat) : 0 ≤ topFn (s.tasks t) ∧ topFn (s.tasks t) < 4 := by
  cases e : s.tasks t with
  | nil => exact ⟨Int.le_refl _, by decide⟩
  | cons f r => exact h.fns t f (by rw [e]; exact List.mem_cons_self ..)

/-- The moments that the drawing keeps. -/
def Good (s : St) (k t fn l : Int) : Prop :=
  0 ≤ l ∧ l ≤ 4 ∧ ((k = 7 ∧ 0 ≤ t ∧ t < 9 ∧ fn = 0) ∨ (t = s.cur ∧ ((k = 2 ∧ 0 ≤ fn ∧ fn < 4) ∨ (k = 1 ∧ fn = topFn (s.tasks s.cur) ∧ (s.tasks s.cur).length ≠ 0 ∧ 1 ≤ l) ∨ (k = 3 ∧ fn = topFn (s.tasks s.cur) ∧ 0 ≤ topFrom (s.tasks s.cur)) ∨ (4 ≤ k ∧ k ≤ 6 ∧ fn = topFn (s.tasks s.cur)))))

theorem Good.ok {s : St} {n : Nat} {x : Mo} (h : Good s x.kind x.task x.fn x.line) (ho : Okay s n) (hn : n < 190) (ht : x.text.size ≤ 1) (hl : x.l.length ≤ 3) (hv : ∀ v, v ∈ x.l → v.name.size = 1 ∧ v.text.size = 1) :
    MomentOk 4 x.m ∧ code s x.kind x.task x.fn = 0 := by
  have h9 := ho.cur9
  have hd := ho.deep s.cur
  obtain ⟨f1, f2⟩ := ho.topFn s.cur
  obtain ⟨l1, l2, hk⟩ := h
  refine ⟨⟨?_, ?_, fun i hi => ?_⟩, ?_⟩
  · show HeadOk 4 x.kind x.task x.fn x.line x.text.size
    unfold HeadOk
    rcases hk with ⟨a, b, c, d⟩ | ⟨a, ⟨b, c, d⟩ | ⟨b, c, d, e⟩ | ⟨b, c, d⟩ | ⟨b, c, d⟩⟩
    all_goals omega
  · show x.l.length ≤ 200
    omega
  · have hm : x.l.getD i V.nul ∈ x.l := by
      have hi' : i < x.l.length := hi
      rw [List.getD_eq_getElem?_getD, List.getElem?_eq_getElem hi']
      exact List.getElem_mem hi'
    obtain ⟨e1, e2⟩ := hv _ hm
    show (x.l.getD i V.nul).name.size ≠ 0 ∧ (x.l.getD i V.nul).name.size ≤ 40 ∧ (x.l.getD i V.nul).text.size ≤ 4000
    omega
  · unfold code
    rcases hk with ⟨a, b, c, d⟩ | ⟨a, ⟨b, c, d⟩ | ⟨b, c, d, e⟩ | ⟨b, c, d⟩ | ⟨b, c, d⟩⟩
    · rw [if_pos a]
    · rw [if_neg (by omega), if_neg (by omega), if_pos b, if_neg (by omega)]
    · rw [if_neg (by omega), if_neg (by omega), if_neg (by omega), if_neg (by omega), if_pos b, if_neg d]
    · rw [if_neg (by omega), if_neg (by omega), if_neg (by omega), if_neg (by omega), if_neg (by omega), if_pos b, if_neg (by omega)]
    · rw [if_neg (by omega), if_neg (by omega), if_neg (by omega), if_neg (by omega), if_neg (by omega), if_neg (by omega)]

theorem Okay.put {s : St} {n : Nat} (h : Okay s n) (l : List Fr) (h1 : l.length ≤ n + 2) (h2 : ∀ fr, fr ∈ l → 0 ≤ fr.fn ∧ fr.fn < 4) : Okay (s.put l) (n + 1) := by
  refine ⟨h.cur9, fun t => ?_, fun t fr hf => ?_⟩
  · simp only [St.put]
    split
    · omega
    · have := h.deep t; omega
  · simp only [St.put] at hf
    split at hf
    · exact h2 fr hf
    · exact h.fns t fr hf

theorem Good.step {s : St} {n : Nat} {k t fn l : Int} (h : Good s k t fn l) (ho : Okay s n) (i : Int) : Okay (s.step k t fn l i) (n + 1) := by
  obtain ⟨l1, l2, hk⟩ := h
  have hd := ho.deep s.cur
  unfold St.step
  rcases hk with ⟨a, b, c, d⟩ | ⟨a, ⟨b, c, d⟩ | ⟨b, c, d, e⟩ | ⟨b, c, d⟩ | ⟨b, c, d⟩⟩
  · rw [if_pos a]
    exact ⟨by show t.toNat < 9; omega, fun t => by have := ho.deep t; show (s.tasks t).length ≤ _; omega, ho.fns⟩
  · rw [if_neg (by omega), if_pos b]
    refine ho.put _ (by simp; omega) (fun fr hf => ?_)
    rcases List.mem_cons.1 hf with e | e
    · rw [e]; exact ⟨c, d⟩
    · exact ho.fns _ _ e
  · rw [if_neg (by omega), if_neg (by omega), if_pos b]
    cases e2 : s.tasks s.cur with
    | nil => exact absurd (by rw [e2]; rfl) d
    | cons f r =>
      refine ho.put _ (by have := hd; rw [e2] at this; simp [setLine] at this ⊢; omega) (fun fr hf => ?_)
      have hf' : fr = ⟨f.fn, l, f.frm⟩ ∨ fr ∈ r := by simpa [setLine] using hf
      rcases hf' with e | e
      · rw [e]; exact ho.fns s.cur f (by rw [e2]; exact List.mem_cons_self ..)
      · exact ho.fns s.cur fr (by rw [e2]; exact List.mem_cons_of_mem _ e)
  · rw [if_neg (by omega), if_neg (by omega), if_neg (by omega), if_pos b]
    refine ho.put _ (by simp; omega) (fun fr hf => ho.fns s.cur fr (List.mem_of_mem_tail hf))
  · rw [if_neg (by omega), if_neg (by omega), if_neg (by omega), if_neg (by omega)]
    exact ⟨ho.cur9, fun t => by have := ho.deep t; omega, ho.fns⟩

/-! ### It ends -/

theorem itr_mod48 (t s : Nat) : itr t (s % 281474976710656) % 281474976710656 = itr t s % 281474976710656 := by
  induction t generalizing s with
  | zero => simp [itr]
  | succ t ih =>
    simp only [itr]
    rw [← ih (lcg (s % 281474976710656)), ← ih (lcg s)]
    have e : lcg (s % 281474976710656) % 281474976710656 = lcg s % 281474976710656 := by
      unfold lcg
      rw [Nat.add_mod, Nat.mul_mod, Nat.mod_mod, ← Nat.mul_mod, ← Nat.add_mod]
    rw [e]

theorem window (j : Nat) (h1 : 1 ≤ j) (h2 : j ≤ 12) : itr j 10 % 281474976710656 / 1099511627776 % 14 ≠ 8 ∧ itr j 10 % 281474976710656 / 1099511627776 % 14 ≠ 9 := by
  have : ∀ j, j < 13 → 1 ≤ j → itr j 10 % 281474976710656 / 1099511627776 % 14 ≠ 8 ∧ itr j 10 % 281474976710656 / 1099511627776 % 14 ≠ 9 := by decide
  exact this j (by omega) h1

/-- So many draws behind the code's end, the last of them x: either seed 10 lies still ahead, or x is no leaving's. -/
theorem far_draw (t d s z x : Nat) (ht : itr t s % 281474976710656 = 10) (hz : z % 18446744073709551616 = itr d s % 18446744073709551616) (hx : x = z / 1099511627776 % 256) (hd : d ≤ 12) (h8 : x % 14 = 8 ∨ x % 14 = 9) : d ≤ t := by
  refine Nat.le_of_not_lt (fun hlt => ?_)
  obtain ⟨j, rfl⟩ : ∃ j, d = t + j := ⟨d - t, by omega⟩
  have e1 : itr (t + j) s % 281474976710656 = itr j 10 % 281474976710656 := by
    rw [itr_add, ← itr_mod48, ht]
  have e2 : z % 281474976710656 = itr j 10 % 281474976710656 := by
    rw [← e1]; omega
  have hw := window j (by omega) (by omega)
  rw [← e2] at hw
  have e3 : z % 281474976710656 / 1099511627776 = z / 1099511627776 % 256 := by omega
  rw [e3, ← hx] at hw
  omega

theorem seed_ahead (s : Nat) : ∃ t, t < 281474976710656 ∧ itr t s % 281474976710656 = 10 := by
  obtain ⟨t, h1, h2⟩ := itr_any 48 s 10
  exact ⟨t, by simpa using h1, by simpa using h2⟩

theorem seed_less (t d s z : Nat) (ht : itr t s % 281474976710656 = 10) (hz : z % 18446744073709551616 = itr d s % 18446744073709551616) (hd : d ≤ t) : itr (t - d) z % 281474976710656 = 10 := by
  rw [← itr_mod48, show z % 281474976710656 = itr d s % 281474976710656 by omega, itr_mod48, ← itr_add, show d + (t - d) = t by omega]
  exact ht
end Go.Proofs.Ytoiacbdnkkolmaa
