/- A parser and a string that came in, opened: what the walk is told of them, and what the bound on the bulk gives. -/
import Derived.Test.YticjkfhhpilkmaaStops
import Derived.ProofKit
import Derived.OpenShut
import Derived.ShutString
import Derived.ChangeOld
import Derived.Below
import Derived.JoinedCond
import Derived.Lib.SmallJoins
namespace Go.Proofs.Yticjkfhhpilkmaa
open Go.ChangeShapes Go.WideShapes Go.ChangeAt Go.RowKit Go.Joins
open Go.ChangeMaps (open_string shut_string)

theorem own : ownKnob Try.prog.godebug = none := by kernel_rfl
theorem laidOut : laidOutB Try.prog = true := by kernel_rfl
theorem cells24 : Try.prog.cellsOf 24 = 4 := by kernel_rfl
theorem cells3 : Try.prog.cellsOf 3 = 1 := by kernel_rfl

theorem bulk_length {H : Type} (l : List (DataW H)) : l.length ≤ Rows.uptoBulkAll l := by
  induction l with
  | nil => simp [Rows.uptoBulkAll]
  | cons x r ih =>
    have : 1 ≤ Rows.uptoBulk x := by
      cases x with
      | lit l => cases l <;> simp [Rows.uptoBulk]
      | _ => simp [Rows.uptoBulk]
    simp only [Rows.uptoBulkAll, List.length_cons]; omega

theorem open_parser {H : Type} {enc : TypeId × Value → H} {W : World} {base : Nat} {v : Value} {d : DataW H} {p : List MemPlace} (hv : Value.okWide Try.prog W .any base 24 v) (h : DataW.Trod enc Try.prog W 0 (fun _ => true) true 24 v d p) :
    ∃ (s0 : PS) (ao : Option Addr) (cap : Nat), v = .agg #[.int .i64 s0.place, .slice ao s0.ps.length cap, .string s0.pl, .bool s0.lg] ∧ Rd W ao s0.ps ∧ (ao = none → s0.ps.length = 0 ∧ cap = 0) ∧ s0.ps.length ≤ Rows.uptoBulk d ∧ s0.pl.size ≤ Rows.uptoBulk d := by
  obtain ⟨c0, c1, c2, c3, y0, y1, y2, y3, m, rfl, rfl, rfl, hy0, hy1, hy2, hy3⟩ := open_agg4 Try.underlying24 (by kernel_rfl) cells24 hv h
  obtain ⟨a, e0, rfl, _⟩ := DataW.trod_int Try.underlying3 hy0
  obtain ⟨pl, e2, rfl, _⟩ := DataW.trod_string Try.underlying9 hy2
  obtain ⟨lg, e3, rfl⟩ := DataW.trod_bool Try.underlying4 hy3
  simp only [List.cons.injEq, and_true] at e0 e2 e3
  subst e0 e2 e3
  have hpl : ∀ x : DataW H, pl.size ≤ Rows.uptoBulk (H := H) (.agg [.lit (.int .i64 a), x, .lit (.string pl.data.toList), .lit (.bool lg)]) := by
    intro x
    have e : pl.data.toList.length = pl.size := by rw [Array.length_toList]; rfl
    simp only [Rows.uptoBulk, Rows.uptoBulkAll]
    omega
  rcases open_ints Try.underlying22 Try.underlying3 cells3 hy1 with ⟨hcs, hx⟩ | ⟨x, l, c, zs, hcs, _, hl, hm, hz, hx, hcell, _⟩
  · simp only [List.cons.injEq, and_true] at hcs
    subst hcs
    exact ⟨⟨a, [], pl, lg⟩, none, 0, rfl, .inl rfl, fun _ => ⟨rfl, rfl⟩, Nat.zero_le _, hpl _⟩
  · simp only [List.cons.injEq, and_true] at hcs
    subst hcs
    have hz' : zs.length = c := by simpa using hz
    have hlen : (zs.take l).length = l := by simp; omega
    refine ⟨⟨a, zs.take l, pl, lg⟩, some x, c, by rw [hlen], ?_, fun h => (by cases h), ?_, hpl _⟩
    · by_cases h0 : l = 0
      · left; simp [h0]
      · right
        obtain ⟨b, off, rfl, hcl⟩ := ints_at hcell (by omega)
        refine ⟨b, off, rfl, fun j hj => ?_⟩
        simp only [hlen] at hj
        rw [hcl j (by omega)]
        simp [hj]
    · subst hx
      have h1 := bulk_length (lits (H := H) .i64 (zs.take l))
      have h2 : (lits (H := H) .i64 (zs.take l)).length = l := by simp [lits]; omega
      simp only [Rows.uptoBulk, Rows.uptoBulkAll, hlen]
      omega

theorem short {H : Type} {d : DataW H} {l : List (DataW H)} (hk : Rows.uptoSmall H l = true) (hd : d ∈ l) : Rows.uptoBulk d ≤ 1048576 := by
  have h : Rows.uptoBulkAll l ≤ 1048576 := of_decide_eq_true hk
  refine Nat.le_trans ?_ h
  clear h hk
  induction l with
  | nil => cases hd
  | cons x r ih =>
    simp only [Rows.uptoBulkAll]
    rcases List.mem_cons.1 hd with e | e
    · subst e; omega
    · have := ih e; omega

theorem string_bulk {H : Type} (s : ByteArray) : s.size ≤ Rows.uptoBulk (DataW.lit (H := H) (.string s.data.toList)) := by
  have e : s.data.toList.length = s.size := by rw [Array.length_toList]; rfl
  simp only [Rows.uptoBulk]
  omega

end Go.Proofs.Yticjkfhhpilkmaa
