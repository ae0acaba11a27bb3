/- 'reads' answers true, whenever it is asked: the parser does answer. -/
import Derived.Test.YticjkfhhpilkmaaSame
namespace Go.Proofs.Yticjkfhhpilkmaa
open Go.RowKit

def probe : ByteArray := { data := #[97, 27, 91, 51, 59, 52, 72, 27] }
theorem probe_s : feedS ground probe.data.toList = ⟨1, [], ⟨#[]⟩, false⟩ := by rfl
theorem probe_e : feedE ground probe.data.toList = [⟨1, 97, [], ⟨#[]⟩⟩, ⟨3, 72, [3, 4], ⟨#[]⟩⟩] := by rfl
theorem ground_good : goodB ground = true := (goodB_iff ground).2 good_ground

/-- What the walk of 'reads' asks of the events. -/
theorem told_two {base : Nat} {w : World} {tq : Option Addr} {tc : Nat} {evs : List Item} (h : Told base w tq tc evs) (he : evs.map (·.1) = [⟨1, 97, [], ⟨#[]⟩⟩, ⟨3, 72, [3, 4], ⟨#[]⟩⟩]) :
    evs.length = 2 ∧ ∃ g po pc, tq = some ⟨g, 0, none⟩ ∧ w.cell? ⟨g, 4, none⟩ = some (.int .i64 3) ∧ w.cell? ⟨g, 5, none⟩ = some (.int .i64 72) ∧ w.cell? ⟨g, 6, none⟩ = some (.slice po 2 pc) := by
  have hl : evs.length = 2 := by have := congrArg List.length he; simpa using this
  match evs, hl with
  | [x, y], _ =>
    simp only [List.map_cons, List.map_nil, List.cons.injEq, and_true] at he
    refine ⟨rfl, ?_⟩
    rcases h.row.2 with ⟨_, h0⟩ | ⟨g, cap, cur, hv, _⟩
    · simp at h0
    · simp only [Value.slice.injEq] at hv
      have hr := h.row
      rw [hv.1] at hr
      refine ⟨g, y.2.1, y.2.2, hv.1, ?_, ?_, ?_⟩
      · rw [World.ownsRow.cellAt hr 4 (by simp)]; simp [allCells, cellsOf, he.2]
      · rw [World.ownsRow.cellAt hr 5 (by simp)]; simp [allCells, cellsOf, he.2]
      · rw [World.ownsRow.cellAt hr 6 (by simp)]; simp [allCells, cellsOf, he.2]

set_option maxHeartbeats 400000 in
theorem reads_any (w : World) : Calls Try.prog 15 #[] w fun e w' => e = .returned (.bool true) ∧ Below w.heap.size w w' := by
  go_enter Try.func15, Try.ntmps15
  go_wp2_with fail
  refine (feed_any ground none 0 probe _ (.inl rfl) (fun _ => ⟨rfl, rfl⟩) (by decide) (by decide)).mono ?_
  rintro e w1 ⟨hb, _, hgood⟩
  obtain ⟨ao, cap, tq, tc, evs, rfl, _, ht, hsay⟩ := hgood ground_good
  rw [probe_s]
  rw [probe_e] at hsay
  obtain ⟨hl, g, po, pc, rfl, q4, q5, q6⟩ := told_two ht hsay
  rw [hl]
  have HB : Hid (Below w.heap.size w w1) := hb
  have hg := World.block_lt_of_cell? w1 _ q4
  clear hgood ht hsay hb hl
  simp only at hg
  go_wp2
  go_ret
  exact ⟨rfl, HB.out.alloc HB.out.size _⟩

end Go.Proofs.Yticjkfhhpilkmaa
