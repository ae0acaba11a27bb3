/- What 'Client' answers; a drain. -/
import Derived.Test.YtpichplhidiokacGreatDoorSFun
import Derived.Deep.RegionHeld3
import Derived.Deep.QuietTactic
import Derived.BigQuiet
namespace Go.Proofs.YtpichplhidiokacGreatDoor.Sv
open Go.RowKit
set_option maxRecDepth 100000

/-- What a client's block shows. -/
theorem eleven {w : World} {b : Nat} {c : Cl} {ao : Option Addr} {cap : Nat} (h : w.heap[b]? = some (clbox c ao cap)) :
    (w.cell? ⟨b, 0, none⟩ = some (.string (bs c.q)) ∧ w.cell? ⟨b, 1, none⟩ = some (.bool c.lost) ∧ w.cell? ⟨b, 2, none⟩ = some (.int .i64 c.g.wide) ∧ w.cell? ⟨b, 3, none⟩ = some (.int .i64 c.g.high) ∧ w.cell? ⟨b, 4, none⟩ = some (.slice ao c.g.n cap) ∧ w.cell? ⟨b, 5, none⟩ = some (.int .i64 c.g.row) ∧ w.cell? ⟨b, 6, none⟩ = some (.int .i64 c.g.col) ∧ w.cell? ⟨b, 7, none⟩ = some (.int .i64 c.g.ink) ∧ w.cell? ⟨b, 8, none⟩ = some (.bool c.g.bold) ∧ w.cell? ⟨b, 9, none⟩ = some (.int .i64 c.g.top) ∧ w.cell? ⟨b, 10, none⟩ = some (.int .i64 c.g.bottom)) ∧
    (∀ j, w.frozen? ⟨b, j, none⟩ = false) :=
  ⟨⟨cell_of_row w b 0 _ _ _ h, cell_of_row w b 1 _ _ _ h, cell_of_row w b 2 _ _ _ h, cell_of_row w b 3 _ _ _ h, cell_of_row w b 4 _ _ _ h, cell_of_row w b 5 _ _ _ h, cell_of_row w b 6 _ _ _ h, cell_of_row w b 7 _ _ _ h, cell_of_row w b 8 _ _ _ h, cell_of_row w b 9 _ _ _ h, cell_of_row w b 10 _ _ _ h⟩, fun j => frozen_of_row w b j _ _ h⟩

theorem here_cases (S : Srv) (L : Lay) (i : Int) : (hereS S i = none ∧ fad S L i = none) ∨ ∃ c, hereS S i = some c ∧ isCl i = true ∧ S.cl i.toNat = some c ∧ fad S L i = some ⟨L.cb i.toNat, 0, none⟩ := by
  unfold hereS fad cad
  cases hi : isCl i
  · left; simp
  · cases hc : S.cl i.toNat with
    | none => left; simp
    | some c => right; exact ⟨c, by simp⟩

theorem client_nil (i : Int) (w : World) : Calls Tryz.prog 15 #[.pointer none, .int .i64 i] w fun e w' => e = .returned (.tuple #[.string ⟨#[]⟩, .bool false, .bool false]) ∧ w' = w := by
  go_enter Tryz.func15, Tryz.ntmps15
  go_wp2_with (go_at_call 38; refine (find_nil i _).mono ?_; rintro e w1 ⟨rfl, hw1⟩; subst w1)
  go_ret3
  exact ⟨rfl, rfl⟩

/-- The three answers. -/
def clR (x : Option Cl) : Array Value := match x with
  | none => #[.string ⟨#[]⟩, .bool false, .bool false]
  | some c => #[.string (bs c.q), .bool c.lost, .bool true]

theorem client_any (i : Int) (w : World) (S : Srv) (L : Lay) (h : SrvIn w S L) : Calls Tryz.prog 15 #[.pointer (some ⟨L.sb, 0, none⟩), .int .i64 i] w fun e w' => e = .returned (.tuple (clR (hereS S i))) ∧ ∃ n, w' = w.drewN n := by
  have HF : Hid (Calls Tryz.prog 38 #[.pointer (some ⟨L.sb, 0, none⟩), .int .i64 i] w fun e w' => e = .returned (.pointer (fad S L i)) ∧ w' = w) := find_any i w S L h
  rcases here_cases S L i with ⟨h1, h2⟩ | ⟨c, h1, hi, h2, h3⟩
  · rw [h2] at HF
    rw [h1]
    clear h h1 h2
    go_enter Tryz.func15, Tryz.ntmps15
    go_wp2_with (go_at_call 38; refine HF.out.mono ?_; rintro e w1 ⟨rfl, hw1⟩; subst w1)
    go_ret3
    exact ⟨rfl, 0, rfl⟩
  · rw [h3] at HF
    rw [h1]
    simp only [isCl, decide_eq_true_eq] at hi
    have hb := (h.cl i.toNat (by omega) c h2).1
    obtain ⟨⟨c0, c1, _⟩, cf⟩ := eleven hb
    have hlt := (Array.getElem?_eq_some_iff.1 hb).1
    generalize L.cb i.toNat = B at *
    clear h h1 h2 h3 hb
    go_enter Tryz.func15, Tryz.ntmps15
    go_wp2_with (go_at_call 38; refine HF.out.mono ?_; rintro e w1 ⟨rfl, hw1⟩; subst w1)
    go_region
    go_wp2
    go_ret3
    exact ⟨rfl, 1, rfl⟩

end Go.Proofs.YtpichplhidiokacGreatDoor.Sv
