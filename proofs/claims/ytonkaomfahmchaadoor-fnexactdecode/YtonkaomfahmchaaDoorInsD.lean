/-
  Places of code: what they are as data, and how they come in.
-/
import Derived.Test.YtonkaomfahmchaaDoorDeepB
namespace Go.Proofs.YtonkaomfahmchaaDoor
open Go.ChangeShapes Go.WideShapes Go.RowKit

structure Isn where
  o : Int
  n : Int
instance : Inhabited Isn := ⟨⟨0, 0⟩⟩
def inD (x : Isn) : List Dt := [.val (.int .i64 x.o), .val (.int .i64 x.n)]
def inC (x : Isn) : List Value := [.int .i64 x.o, .int .i64 x.n]
def inV (x : Isn) : Value := .agg #[.int .i64 x.o, .int .i64 x.n]
def inss (xs : List Isn) : Dt := .row 33 2 xs.length (xs.flatMap inD)
theorem ins_at {w : World} {B : Nat} {v : Value} {xs : List Isn} (h : Reads w B (inss xs) v) :
    ∃ a cap, v = .slice a xs.length cap ∧ xs.length ≤ cap ∧ (a = none → cap = 0) ∧ (0 < xs.length → ∃ b o, a = some ⟨b, o, none⟩ ∧ b < B ∧ ∀ j, j < xs.length → w.cell? ⟨b, o + j * 2, none⟩ = some (.int .i64 (xs.getD j default).o) ∧ w.cell? ⟨b, o + j * 2 + 1, none⟩ = some (.int .i64 (xs.getD j default).n)) := by
  obtain ⟨a, cap, rfl, h1, h2, h3⟩ := row_at (f := inD) (k := 2) (fun _ => rfl) rfl h
  refine ⟨a, cap, rfl, h1, h2, fun hp => ?_⟩
  obtain ⟨b, o, rfl, hb, hc⟩ := h3 hp
  refine ⟨b, o, rfl, hb, fun j hj => ?_⟩
  obtain ⟨vs, h4, h5⟩ := hc j hj
  obtain ⟨u0, vs0, rfl, q0, h4⟩ := readsL_cons h4
  obtain ⟨u1, vs1, rfl, q1, h4⟩ := readsL_cons h4
  obtain rfl := readsL_nil h4
  obtain rfl := reads_val q0
  obtain rfl := reads_val q1
  have c0 := h5 0 (by omega)
  have c1 := h5 1 (by omega)
  rw [Nat.add_zero] at c0
  exact ⟨c0, c1⟩
theorem in_reads {w : World} {B : Nat} (x : Isn) : ReadsL w B (inD x) (inC x) := readsL_mk reads_val' (readsL_mk reads_val' readsL_none)
/-- Numbers of 64 bits. -/
def InR (x : Isn) : Prop := (-9223372036854775808 ≤ x.o ∧ x.o ≤ 9223372036854775807) ∧ (-9223372036854775808 ≤ x.n ∧ x.n ≤ 9223372036854775807)
end Go.Proofs.YtonkaomfahmchaaDoor
