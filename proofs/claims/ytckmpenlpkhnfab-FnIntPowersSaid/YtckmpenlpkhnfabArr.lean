/- The program's own array of digits and its integer: loads and stores of them whole. -/
import Derived.Test.YtckmpenlpkhnfabRows
import Derived.Test.YtckmpenlpkhnfabMath
import Derived.Test.YtckmpenlpkhnfabLib
namespace Go.Proofs.Ytckmpenlpkhnfab
open Go.RowKit
theorem zero80 : Try.zeroCells41 = row80 0 := by kernel_rfl
theorem info80 : (Try.prog.info? 41).map (·.size) = some 80 := by kernel_rfl
theorem info81 : (Try.prog.info? 43).map (·.size) = some 81 := by kernel_rfl
/-- The cells of an integer: its size and its sign. -/
def irow (n : Nat) (neg : Bool) : Array Value := row80 n ++ #[.bool neg]
theorem irow_size (n : Nat) (neg : Bool) : (irow n neg).size = 81 := by simp [irow, row80_size]
theorem irow_one (n : Nat) (neg : Bool) : (irow n neg).all (·.oneCell') = true := by
  unfold irow; rw [Array.all_append, row80_one]; simp [Value.oneCell']
theorem irow_sign (n : Nat) (neg : Bool) : (irow n neg)[80]? = some (.bool neg) := by
  unfold irow; rw [Array.getElem?_append, row80_size]; rfl
theorem irow_digit (n : Nat) (neg : Bool) (i : Nat) (h : i < 80) : (irow n neg)[i]? = some (.int .u8 (dg n i : Int)) := by
  unfold irow; rw [Array.getElem?_append, row80_size, if_pos h, row80_get _ _ h]
section
variable {ops : Array Oper} {rest : List Oper} {o : Oper} {a : Act} {w w' : World} {Q : Exit → Act → World → Prop} {C : World → Prop} {q : Act → Prop} {n : Nat} {neg : Bool}
theorem puts_load80 (x : Operand) (ho : o.op = .load 41 x) (g off : Nat) (hx : a.eval x = .pointer (some ⟨g, off, none⟩)) (hl : Lies w g off (row80 n)) : Puts Try.prog o a w (.agg (row80 n)) :=
  puts_load 41 x ho g off (row80 n) hx hl _ Try.underlying41 rfl (by rw [row80_size]; exact info80)
theorem puts_load81 (x : Operand) (ho : o.op = .load 43 x) (g off : Nat) (hx : a.eval x = .pointer (some ⟨g, off, none⟩)) (hl : Lies w g off (irow n neg)) : Puts Try.prog o a w (.agg (irow n neg)) :=
  puts_load 43 x ho g off (irow n neg) hx hl _ Try.underlying43 rfl (by rw [irow_size]; exact info81)
theorem gives_load80 (x : Operand) (ho : o.op = .load 41 x) (g off : Nat) (hx : a.eval x = .pointer (some ⟨g, off, none⟩)) (hl : Lies w g off (row80 n)) : Gives Try.prog o a w (.agg (row80 n)) w :=
  (puts_load80 x ho g off hx hl).gives
theorem gives_load81 (x : Operand) (ho : o.op = .load 43 x) (g off : Nat) (hx : a.eval x = .pointer (some ⟨g, off, none⟩)) (hl : Lies w g off (irow n neg)) : Gives Try.prog o a w (.agg (irow n neg)) w :=
  (puts_load81 x ho g off hx hl).gives
theorem gives_store80 (x y : Operand) (ho : o.op = .store 41 x y) (g : Nat) (hx : a.eval x = .pointer (some ⟨g, 0, none⟩)) (hy : a.eval y = .agg (row80 n)) {t : TypeId} {old : Array Value} (hg : Blk w g t old) (hs : old.size = 80) : Gives Try.prog o a w undef (w.setRow g (row80 n)) :=
  gives_store 41 x y ho g (row80 n) old hx hy t hg (by rw [row80_size]; exact info80) (by rw [row80_size]; exact hs) (row80_one n)
theorem gives_store81 (x y : Operand) (ho : o.op = .store 43 x y) (g : Nat) (hx : a.eval x = .pointer (some ⟨g, 0, none⟩)) (hy : a.eval y = .agg (irow n neg)) {t : TypeId} {old : Array Value} (hg : Blk w g t old) (hs : old.size = 81) : Gives Try.prog o a w undef (w.setRow g (irow n neg)) :=
  gives_store 43 x y ho g (irow n neg) old hx hy t hg (by rw [irow_size]; exact info81) (by rw [irow_size]; exact hs) (irow_one n neg)
theorem ld80 (hg : o.guard = none) (x : Operand) (ho : o.op = .load 41 x) (g off : Nat) (hx : a.eval x = .pointer (some ⟨g, off, none⟩)) (hl : Lies w g off (row80 n)) (k : wpList Try.prog ops Q rest (a.put o.dst (.agg (row80 n))) w) : wpList Try.prog ops Q (o :: rest) a w :=
  (gives_load80 x ho g off hx hl).plain hg k
theorem ld81 (hg : o.guard = none) (x : Operand) (ho : o.op = .load 43 x) (g off : Nat) (hx : a.eval x = .pointer (some ⟨g, off, none⟩)) (hl : Lies w g off (irow n neg)) (k : wpList Try.prog ops Q rest (a.put o.dst (.agg (irow n neg))) w) : wpList Try.prog ops Q (o :: rest) a w :=
  (gives_load81 x ho g off hx hl).plain hg k
theorem st80 (hgd : o.guard = none) (x y : Operand) (ho : o.op = .store 41 x y) (g : Nat) (hx : a.eval x = .pointer (some ⟨g, 0, none⟩)) (hy : a.eval y = .agg (row80 n)) {t : TypeId} {old : Array Value} (hg : Blk w g t old) (hs : old.size = 80) (k : wpList Try.prog ops Q rest (a.put o.dst undef) (w.setRow g (row80 n))) : wpList Try.prog ops Q (o :: rest) a w :=
  (gives_store80 x y ho g hx hy hg hs).plain hgd k
theorem st81 (hgd : o.guard = none) (x y : Operand) (ho : o.op = .store 43 x y) (g : Nat) (hx : a.eval x = .pointer (some ⟨g, 0, none⟩)) (hy : a.eval y = .agg (irow n neg)) {t : TypeId} {old : Array Value} (hg : Blk w g t old) (hs : old.size = 81) (k : wpList Try.prog ops Q rest (a.put o.dst undef) (w.setRow g (irow n neg))) : wpList Try.prog ops Q (o :: rest) a w :=
  (gives_store81 x y ho g hx hy hg hs).plain hgd k
/-- The result of a function that lies in one cell row. -/
theorem res80 {fn : Func} {p : Tmp} (h : fn.results = #[.cell p 41]) (tmps : Array Value) (w : World) (g : Nat) {t : TypeId} (hp : tmps.getD p undef = .pointer (some ⟨g, 0, none⟩)) (hg : Blk w g t (row80 n)) :
    (results fn tmps).run Try.prog w = .ok (.agg (row80 n)) w :=
  results_cell_row h tmps w g t (row80 n) (0, 0) _ hp hg Try.underlying41 rfl (by rw [row80_size]; exact info80)
theorem var80 {g : Nat} {t : TypeId} (hg : Blk w g t (row80 n)) : (loadVar 41 ⟨g, 0, none⟩).run Try.prog w = .ok (.agg (row80 n)) w :=
  run_loadVar_row w g t 41 (row80 n) (0, 0) _ hg Try.underlying41 rfl (by rw [row80_size]; exact info80)
theorem var81 {g : Nat} {t : TypeId} (hg : Blk w g t (irow n neg)) : (loadVar 43 ⟨g, 0, none⟩).run Try.prog w = .ok (.agg (irow n neg)) w :=
  run_loadVar_row w g t 43 (irow n neg) (0, 0) _ hg Try.underlying43 rfl (by rw [irow_size]; exact info81)
theorem res81 {fn : Func} {p : Tmp} (h : fn.results = #[.cell p 43]) (tmps : Array Value) (w : World) (g : Nat) {t : TypeId} (hp : tmps.getD p undef = .pointer (some ⟨g, 0, none⟩)) (hg : Blk w g t (irow n neg)) :
    (results fn tmps).run Try.prog w = .ok (.agg (irow n neg)) w :=
  results_cell_row h tmps w g t (irow n neg) (0, 0) _ hp hg Try.underlying43 rfl (by rw [irow_size]; exact info81)
end
end Go.Proofs.Ytckmpenlpkhnfab
