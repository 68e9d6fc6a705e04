/-
  Joined: RMsg, RdrB, Rdr.
-/
import Derived.Test.YtkfnpijljpbiaaaDoorJ20
import Derived.Test.YtkfnpijljpbiaaaDoorJ2
import Derived.Test.YtkfnpijljpbiaaaDoorJ4
import Derived.Test.YtkfnpijljpbiaaaDoorJ19
/-
  A message is read just where its bytes lie.
-/
namespace Go.Proofs.YtkfnpijljpbiaaaDoor
open Go.RowKit

def M.ok (m : M) : Bool := mOk m.k m.i m.u m.c m.n m.cs m.ns
def M.b (m : M) : List Int := msgB m.k m.i m.u m.c m.n m.cs m.ns

theorem mOk_parts {k i u c n : Int} {cs : List (Int × Bool × Int)} {ns : List (Int × Int)} (h : mOk k i u c n cs ns = true) :
    (1 ≤ k ∧ k ≤ 10) ∧ (1 ≤ i ∧ i ≤ 1000000) ∧ (0 ≤ u ∧ u ≤ 1000000) ∧ (0 ≤ c ∧ c ≤ 255) ∧ (0 ≤ n ∧ n ≤ 16777215) ∧ cOk cs = true ∧ nOk ns = true := by
  rw [← mOk_spec] at h
  unfold mSpec at h
  simp only [Bool.and_eq_true] at h
  obtain ⟨⟨⟨⟨hk, hi⟩, hc⟩, hn⟩, ⟨⟨⟨hw, hl⟩, hv⟩, _⟩, _⟩ := h
  refine ⟨inB_yes hk, inB_yes hi, ?_, ?_, ?_, hc, hn⟩
  · unfold whoB at hw
    cases hf : flg k 1 with
    | true => rw [hf] at hw; have := inB_yes (show inB u 1 1000000 = true from hw); omega
    | false => rw [hf] at hw; have : u = 0 := by simpa using hw
               omega
  · unfold clsB at hl
    rw [in_zero c 255 (by omega)] at hl
    cases hf : flg k 2 with
    | true => rw [hf] at hl; exact inB_yes (show inB c 0 255 = true from hl)
    | false => rw [hf] at hl; have : c = 0 := by simpa using hl
               omega
  · unfold verB at hv
    rw [in_zero n 16777215 (by omega)] at hv
    cases hf : flg k 4 with
    | true => rw [hf] at hv; exact inB_yes (show inB n 0 16777215 = true from hv)
    | false => rw [hf] at hv; have : n = 0 := by simpa using hv
               omega
theorem cOk_each {cs : List (Int × Bool × Int)} (h : cOk cs = true) : ∀ x ∈ cs, inB x.1 0 7 = true ∧ vOk x.2.1 x.2.2 = true := by
  intro x hx
  obtain ⟨j, hj, rfl⟩ := List.getElem_of_mem hx
  unfold cOk at h
  simp only [Bool.and_eq_true, List.all_eq_true, List.mem_range] at h
  have := h.2 j hj
  unfold goodC at this
  simp only [Bool.and_eq_true] at this
  have e : cs.getD j (0, false, 0) = cs[j] := by simp [hj]
  rw [e] at this
  exact ⟨this.1.1, this.1.2⟩
theorem nOk_each {ns : List (Int × Int)} (h : nOk ns = true) : ∀ x ∈ ns, inB x.1 1 1000000 = true ∧ inB x.2 1 16777215 = true := by
  intro x hx
  obtain ⟨j, hj, rfl⟩ := List.getElem_of_mem hx
  unfold nOk at h
  simp only [Bool.and_eq_true, List.all_eq_true, List.mem_range] at h
  have := h.2 j hj
  unfold goodN at this
  simp only [Bool.and_eq_true] at this
  have e : ns.getD j (0, 0) = ns[j] := by simp [hj]
  rw [e] at this
  exact ⟨this.1.1, this.1.2⟩

theorem msg_put {zs : List Int} {m : M} (hm : m.ok = true) (h : Pre zs 0 m.b) : rMsg zs 0 = some (m, m.b.length) := by
  obtain ⟨k, i, u, c, n, cs, ns⟩ := m
  unfold M.ok at hm
  unfold M.b at h ⊢
  simp only at hm h ⊢
  obtain ⟨h1, h2, h3, h4, h5, hc, hn⟩ := mOk_parts hm
  obtain ⟨l5, l6⟩ := mOk_lens hm
  unfold msgB headB at h ⊢
  obtain ⟨h, p9⟩ := Pre.app.1 h
  obtain ⟨h, p8⟩ := Pre.app.1 h
  obtain ⟨h, p7⟩ := Pre.app.1 h
  obtain ⟨h, p6⟩ := Pre.app.1 h
  obtain ⟨h, p5⟩ := Pre.app.1 h
  obtain ⟨h, p4⟩ := Pre.app.1 h
  obtain ⟨h, p3⟩ := Pre.app.1 h
  obtain ⟨p1, p2⟩ := Pre.app.1 h
  simp only [List.length_append, ← Nat.add_assoc] at p3 p4 p5 p6 p7 p8 p9
  unfold rMsg
  rw [num_put (by omega) (by omega) p1]
  simp only [Option.bind_some]
  rw [num_put (by omega) (by omega) p2]
  simp only [Option.bind_some]
  rw [num_put (by omega) (by omega) p3]
  simp only [Option.bind_some]
  rw [num_put (by omega) (by omega) p4]
  simp only [Option.bind_some]
  rw [num_put (by omega) (by omega) p5]
  simp only [Option.bind_some]
  unfold rMany
  rw [num_put (by omega) (by omega) p6]
  simp only [Option.bind_some]
  rw [if_neg (by omega), Int.toNat_natCast, list_put cs _ (fun x hx k hk => cell_put (cOk_each hc x hx).1 (cOk_each hc x hx).2 hk) p7]
  simp only [Option.bind_some]
  rw [num_put (by omega) (by omega) p8]
  simp only [Option.bind_some]
  rw [if_neg (by omega), Int.toNat_natCast, list_put ns _ (fun x hx k hk => note_put (nOk_each hn x hx).1 (nOk_each hn x hx).2 hk) p9]
  simp [Nat.add_assoc]

theorem many_back {α : Type} {zs : List Int} (hB : Byt zs) {f : Nat → Option (α × Nat)} {B : α → List Int} (hf : ∀ k nx x, f k = some (x, nx) → Pre zs k (B x) ∧ nx = k + (B x).length ∧ nx ≤ zs.length) {most : Int} {k e : Nat} {xs : List α}
    (h : rMany zs f most k = some (xs, e)) : Pre zs k (pn xs.length ++ xs.flatMap B) ∧ e = k + (pn xs.length ++ xs.flatMap B).length := by
  unfold rMany at h
  obtain ⟨⟨n, kn⟩, hn, h⟩ := Option.bind_eq_some_iff.1 h
  obtain ⟨n0, n1, n2, n3, n4⟩ := num_back hB hn
  simp only at h
  by_cases hm : most < n
  · rw [if_pos hm] at h; cases h
  · rw [if_neg hm] at h
    obtain ⟨h1, h2, h3⟩ := list_back hf _ _ _ _ h
    have e1 : (xs.length : Int) = n := by omega
    rw [e1]
    subst n3
    exact ⟨Pre.app.2 ⟨n2, h2⟩, by rw [h3]; simp [Nat.add_assoc]⟩

theorem msg_back {zs : List Int} (hB : Byt zs) {m : M} {e : Nat} (h : rMsg zs 0 = some (m, e)) : Pre zs 0 m.b ∧ e = m.b.length := by
  unfold rMsg at h
  obtain ⟨⟨k, kk⟩, hk, h⟩ := Option.bind_eq_some_iff.1 h
  obtain ⟨⟨i, ki⟩, hi, h⟩ := Option.bind_eq_some_iff.1 h
  obtain ⟨⟨u, ku⟩, hu, h⟩ := Option.bind_eq_some_iff.1 h
  obtain ⟨⟨c, kc⟩, hc, h⟩ := Option.bind_eq_some_iff.1 h
  obtain ⟨⟨n, kn⟩, hn, h⟩ := Option.bind_eq_some_iff.1 h
  obtain ⟨⟨cs, k5⟩, h5, h⟩ := Option.bind_eq_some_iff.1 h
  obtain ⟨⟨ns, k6⟩, h6, h⟩ := Option.bind_eq_some_iff.1 h
  simp only [Option.some.injEq, Prod.mk.injEq] at h
  obtain ⟨rfl, rfl⟩ := h
  obtain ⟨_, _, a2, a3, _⟩ := num_back hB hk
  obtain ⟨_, _, b2, b3, _⟩ := num_back hB hi
  obtain ⟨_, _, c2, c3, _⟩ := num_back hB hu
  obtain ⟨_, _, d2, d3, _⟩ := num_back hB hc
  obtain ⟨_, _, e2, e3, _⟩ := num_back hB hn
  obtain ⟨f2, f3⟩ := many_back hB (fun k nx x => cell_back hB) h5
  obtain ⟨g2, g3⟩ := many_back hB (fun k nx x => note_back hB) h6
  simp only at b2 b3 c2 c3 d2 d3 e2 e3 f2 f3 g2 g3
  subst a3 b3 c3 d3 e3 f3 g3
  unfold M.b msgB headB
  simp only
  obtain ⟨f2, f2'⟩ := Pre.app.1 f2
  obtain ⟨g2, g2'⟩ := Pre.app.1 g2
  refine ⟨Pre.app.2 ⟨Pre.app.2 ⟨Pre.app.2 ⟨Pre.app.2 ⟨Pre.app.2 ⟨Pre.app.2 ⟨Pre.app.2 ⟨Pre.app.2 ⟨a2, b2⟩, ?_⟩, ?_⟩, ?_⟩, ?_⟩, ?_⟩, ?_⟩, ?_⟩, by simp [Nat.add_assoc]⟩
  all_goals
    simp only [List.length_append, ← Nat.add_assoc] at f2 f2' g2 g2' ⊢
    assumption

/-- What MsgOf answers. -/
def mOf (zs : List Int) : Option M := (rMsg zs 0).bind fun r => if r.2 = zs.length ∧ r.1.ok = true then some r.1 else none
theorem mOf_iff {zs : List Int} (hB : Byt zs) (m : M) : mOf zs = some m ↔ m.ok = true ∧ zs = m.b := by
  unfold mOf
  constructor
  · intro h
    obtain ⟨⟨m', e⟩, h1, h2⟩ := Option.bind_eq_some_iff.1 h
    simp only at h2
    by_cases hc : e = zs.length ∧ m'.ok = true
    · rw [if_pos hc] at h2
      cases h2
      obtain ⟨hp, he⟩ := msg_back hB h1
      exact ⟨hc.2, hp.all (by omega)⟩
    · rw [if_neg hc] at h2; cases h2
  · rintro ⟨h1, h2⟩
    rw [msg_put h1 ⟨[], by rw [List.drop_zero, List.append_nil]; exact h2⟩]
    simp only [Option.bind_some]
    rw [if_pos ⟨by rw [← h2], h1⟩]
end Go.Proofs.YtkfnpijljpbiaaaDoor
/-
  Readers: their bytes, their place, and what they take.
-/
namespace Go.Proofs.YtkfnpijljpbiaaaDoor
open Go.RowKit

/-- A reader's bytes, its place, and what it panics with. -/
structure Rdr (w : World) (B : Nat) (a : Option Addr) (len : Nat) (zs : List Int) (p k : Nat) (t : TypeId) (v : Value) : Prop where
  inp : In w B a len zs
  hB : B ≤ p
  hp0 : 0 < p
  err : Err w t v
  pl : w.heap[p]? = some (.cells #[.int .i64 (k : Int)] 3 (0, 0))

theorem Rdr.lt {w : World} {B : Nat} {a : Option Addr} {len : Nat} {zs : List Int} {p k : Nat} {t : TypeId} {v : Value} (h : Rdr w B a len zs p k t v) : p < w.heap.size := (Array.getElem?_eq_some_iff.1 h.pl).1
theorem Rdr.next {w w' : World} {B : Nat} {a : Option Addr} {len : Nat} {zs : List Int} {p k k' : Nat} {t : TypeId} {v : Value} (h : Rdr w B a len zs p k t v) (hg : w.grownBy w' (some p)) (hp : w'.heap[p]? = some (.cells #[.int .i64 (k' : Int)] 3 (0, 0))) : Rdr w' B a len zs p k' t v :=
  ⟨h.inp.out hg h.hB h.lt, h.hB, h.hp0, h.err.out hg h.hp0, hp⟩
theorem Rdr.far {w w' : World} {B : Nat} {a : Option Addr} {len : Nat} {zs : List Int} {p k : Nat} {t : TypeId} {v : Value} {row : Option Nat} (h : Rdr w B a len zs p k t v) (hg : w.grownBy w' row) (hne : ∀ q, row = some q → p < q) : Rdr w' B a len zs p k t v := by
  have hl := h.lt
  have hB := h.hB
  have h0 := h.hp0
  refine ⟨h.inp.kept (fun q hq => hg.block q (by omega) (fun e => by have := hne q e.symm; omega)), hB, h0, ?_, (hg.block p hl (fun e => by have := hne p e.symm; omega)).trans h.pl⟩
  exact hg.cell h.err (fun e => by have := hne 0 e.symm; omega)
theorem Rdr.alloc {w : World} {B : Nat} {a : Option Addr} {len : Nat} {zs : List Int} {p k : Nat} {t : TypeId} {v : Value} (h : Rdr w B a len zs p k t v) (o : Obj) : Rdr (w.alloc o) B a len zs p k t v :=
  h.far (World.grownBy_alloc w o none) (fun q e => by cases e)
theorem Rdr.set {w : World} {B : Nat} {a : Option Addr} {len : Nat} {zs : List Int} {p k : Nat} {t : TypeId} {v : Value} (h : Rdr w B a len zs p k t v) {g : Nat} (hg : p < g) (o : Nat) (u : Value) : Rdr (w.setCell ⟨g, o, none⟩ u) B a len zs p k t v :=
  h.far (grown_set (World.grownBy.refl w _) o u) (fun q e => by cases e; exact hg)

/-- What is taken. -/
def tookG {α : Type} (Val : α → Value) (w : World) (p : Nat) (t : TypeId) (v : Value) (r : Option (α × Nat)) (e : Ending) (w' : World) : Prop :=
  ((∃ x nx, r = some (x, nx) ∧ e = .returned (Val x) ∧ w'.heap[p]? = some (.cells #[.int .i64 ((nx : Nat) : Int)] 3 (0, 0))) ∨
   (r = none ∧ e = .panicked [{ v := .iface t v, recovered := false }])) ∧ w.grownBy w' (some p)

theorem byt_of_in {w : World} {B len : Nat} {a : Option Addr} {zs : List Int} (h : In w B a len zs) : Byt zs := by
  intro z hz
  obtain ⟨j, hj, rfl⟩ := List.getElem_of_mem hz
  have hl := h.1
  have := h.2.2.1 j (by omega)
  simpa [hj] using this

/-- What is taken, in new memory. -/
def tookL {α : Type} (Row : World → Value → α → Prop) (w : World) (p : Nat) (t : TypeId) (v : Value) (r : Option (α × Nat)) (e : Ending) (w' : World) : Prop :=
  ((∃ x nx u, r = some (x, nx) ∧ e = .returned u ∧ Row w' u x ∧ w'.heap[p]? = some (.cells #[.int .i64 ((nx : Nat) : Int)] 3 (0, 0))) ∨
   (r = none ∧ e = .panicked [{ v := .iface t v, recovered := false }])) ∧ w.grownBy w' (some p)

end Go.Proofs.YtkfnpijljpbiaaaDoor
/-
  Readers: their bytes, their place, and what they take.
-/
namespace Go.Proofs.YtkfnpijljpbiaaaDoor
open Go.RowKit

theorem rdNum {w : World} {B : Nat} {a : Option Addr} {len : Nat} {zs : List Int} {p k : Nat} {t : TypeId} {v : Value} (cap : Nat) (h : Rdr w B a len zs p k t v) :
    Calls Tryd.prog 69 #[.slice a len cap, .pointer (some ⟨p, 0, none⟩)] w (took w p t v (gnF zs 4 k 0 1)) :=
  takeNum w a len cap zs B p k t v h.inp h.hB h.hp0 h.err h.pl
theorem rdWord {w : World} {B : Nat} {a : Option Addr} {len : Nat} {zs : List Int} {p k : Nat} {t : TypeId} {v : Value} (cap : Nat) (h : Rdr w B a len zs p k t v) :
    Calls Tryd.prog 91 #[.slice a len cap, .pointer (some ⟨p, 0, none⟩)] w (took w p t v (gw zs (k : Int))) :=
  takeWord w a len cap zs B p k t v h.inp h.hB h.hp0 h.err h.pl

end Go.Proofs.YtkfnpijljpbiaaaDoor
