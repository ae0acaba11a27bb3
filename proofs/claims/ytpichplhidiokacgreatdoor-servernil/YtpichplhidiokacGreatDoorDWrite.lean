/- The pen writes a text. -/
import Derived.Test.YtpichplhidiokacGreatDoorDPen
namespace Go.Proofs.YtpichplhidiokacGreatDoor
open Go.RowKit

theorem PenIn.wrote {w w1 : World} {pb b cap : Nat} {oo oo' : Option Addr} {oc oc' : Nat} {p : Pen} {s : ByteArray} (h : PenIn w pb b cap oo oc p)
    (k : w1.ownsRow 0 5 1 (.slice oo' (p.out.length + s.size) oc') (p.out.length + s.size) (bytesV p.out ++ Lib.strCells s) ∧ w.grownBy w1 (blkD oo) ∧ (blkD oo' = blkD oo ∨ ∃ k, blkD oo' = some k ∧ w.heap.size ≤ k)) :
    PenTo w pb b cap oo ⟨p.out ++ s.data.toList, p.g⟩ (w1.setCell ⟨pb, 0, none⟩ (.slice oo' (p.out.length + s.size) oc')) := by
  obtain ⟨k1, k2, k3⟩ := k
  have hlen : (p.out ++ s.data.toList).length = p.out.length + s.size := by simp
  have hbox : w1.heap[pb]? = some (pbox p.out.length oo oc p.g b cap) := grown_block k2 h.box (fun e => h.n2 e.symm)
  have hn : blkD oo' ≠ some pb := by
    rcases k3 with e | ⟨j, e, hj⟩
    · rw [e]; exact h.n2
    · rw [e]; have := h.lt; simp; omega
  refine ⟨oo', oc', ⟨?_, ?_, ?_⟩, ⟨k2.os, k2.tape, k2.output, by have := k2.size; simpa using this, fun j hj h1 h2 h3 => ?_, k3⟩⟩
  · rw [set_cells hbox]
    show _ = some (Obj.cells (pcells (p.out ++ s.data.toList).length oo' oc' p.g b cap) _ _)
    rw [hlen]
    rfl
  · show World.ownsRow _ 0 5 1 (.slice oo' (p.out ++ s.data.toList).length oc') (p.out ++ s.data.toList).length (bytesV (p.out ++ s.data.toList))
    rw [hlen, bytesV_append, ← bytesV_str]
    refine ⟨k1.1, ?_⟩
    rcases k1.2 with hv | ⟨g, c, cur, hv, hb, hg, rest⟩
    · exact .inl hv
    · refine .inr ⟨g, c, cur, hv, hb, ?_, rest⟩
      rw [Below.heap_setCell _ _ _ _ (fun e => hn (by simp only [Value.slice.injEq] at hv; rw [hv.1]; simp [blkD, e]))]
      exact hg
  · exact (h.scr.grown k2 (fun e => h.n3 e.symm)).set (fun e => h.n1 e) _
  · rw [Below.heap_setCell _ _ _ _ h1]
    exact k2.block j hj (fun e => h3 e.symm)

set_option maxHeartbeats 1000000 in
theorem write_any (pb b cap : Nat) (oo : Option Addr) (oc : Nat) (p : Pen) (s : ByteArray) (w : World) (h : PenIn w pb b cap oo oc p) (hb : p.out.length + s.size ≤ 1048576) :
    Calls Tryz.prog 140 #[.pointer (some ⟨pb, 0, none⟩), .string s] w fun e w' => e = .returned (.tuple #[]) ∧ PenTo w pb b cap oo ⟨p.out ++ s.data.toList, p.g⟩ w' := by
  have HP : Hid (PenIn w pb b cap oo oc p) := h
  have HO : Hid (w.ownsRow 0 5 1 (.slice oo p.out.length oc) p.out.length (bytesV p.out)) := h.own
  obtain ⟨⟨c0, c1, c2, c3, c4, c5, c6, c7, c8, c9⟩, cf⟩ := ten h.box
  have HN : Hid (∀ w1, w.grownBy w1 (blkD oo) → w1.heap[pb]? = some (pbox p.out.length oo oc p.g b cap)) := fun w1 hg => grown_block hg h.box (fun e => h.n2 e.symm)
  clear h
  go_enter Tryz.func140, Tryz.ntmps140
  go_wp2_with (first | (at_builtin; refine wpList_append_str rfl _ _ rfl oo p.out.length oc (bytesV p.out) rfl HO.out s rfl hb ?_) | go_in)
  intro oo' oc' w1 HK
  obtain ⟨⟨d0, _⟩, df⟩ := ten (HN.out w1 HK.out.2.1)
  have HE := HP.out.wrote HK.out
  have HE' : Hid (PenTo w pb b cap oo ⟨p.out ++ s.data.toList, p.g⟩ (w1.setCell ⟨pb, 0, none⟩ (.slice oo' (p.out.length + s.size) oc'))) := HE
  clear HE HK HN
  go_wp2
  go_end0
  exact ⟨rfl, HE'.out⟩

end Go.Proofs.YtpichplhidiokacGreatDoor
