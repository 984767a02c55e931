/-
  '==' and '!=' OF TWO GOALS, and of two subjects.
-/
import Derived.Test.YtfgjeflhhfjgeaaGOw
namespace Go.Proofs.Ytfgjeflhhfjgeaa
open Go.RowKit Go.Sort

theorem fieldsG : Try.prog.underlying 44 = some (.struct (Try.prog.fieldsOf 44)) := by kernel_rfl

set_option maxHeartbeats 1000000 in
theorem eqGl (x y : Gl) (w : World) : (Op.equalIn 10000 44 (valG x) (valG y)).run Try.prog w = .ok (decide (x = y)) w := by
  have hS := fieldsG
  have hp : Try.prog.stoodInHeld 44 = false := by kernel_rfl
  obtain ⟨a, b, c⟩ := x
  obtain ⟨a', b', c'⟩ := y
  simp only [valG]
  rw [show (10000 : Nat) = 9999 + 1 from rfl, run_equalIn_struct w 9999 44 _ _ hS hp]
  simp only [Program.fieldsOf, Try.underlying44]
  have tl : ∀ u v : ByteArray, u.toList = v.toList ↔ u = v := fun u v => ⟨toList_inj, fun h => by rw [h]⟩
  go_simp
  repeat' split
  all_goals simp_all
theorem exec_eqlG {o : Oper} {a : Act} {l r : Operand} {ty : TypeId} {x y : Gl} (ho : o.op = .binOp .eql 44 l r ty) (hl : a.eval l = valG x) (hr : a.eval r = valG y) (w : World) :
    (execOp a.eval o).run Try.prog w = .ok (.value (.bool (decide (x = y)))) w := by
  have hg := fun op p q => run_eqGuard_agg (P := Try.prog) w op 44 p q #[.string x.a, .string x.b, .string x.c] #[.string y.a, .string y.b, .string y.c] (by kernel_rfl)
  have he := eqGl x y w
  unfold execOp
  simp only [ho, hl, hr]
  simp only [valG] at he ⊢
  simp only [Sem.run_bind, hg, Result.andThen_ok, run_eql_struct, he, Sem.run_pure]
theorem exec_neqG {o : Oper} {a : Act} {l r : Operand} {ty : TypeId} {x y : Gl} (ho : o.op = .binOp .neq 44 l r ty) (hl : a.eval l = valG x) (hr : a.eval r = valG y) (w : World) :
    (execOp a.eval o).run Try.prog w = .ok (.value (.bool (!decide (x = y)))) w := by
  have hg := fun op p q => run_eqGuard_agg (P := Try.prog) w op 44 p q #[.string x.a, .string x.b, .string x.c] #[.string y.a, .string y.b, .string y.c] (by kernel_rfl)
  have he := eqGl x y w
  unfold execOp
  simp only [ho, hl, hr]
  simp only [valG] at he ⊢
  simp only [Sem.run_bind, hg, Result.andThen_ok, run_neq_struct, he, Sem.run_pure]

theorem quiet_eqlG {ops : Array Oper} {C : World → Prop} {Q : Act → Prop} {o : Oper} {rest : List Oper} {a : Act} {l r : Operand} {ty : TypeId} (x y : Gl) (b : Bool) (hb : decide (x = y) = b) (hg : o.guard = none)
    (ho : o.op = .binOp .eql 44 l r ty) (hl : a.eval l = valG x) (hr : a.eval r = valG y) (h : wpQuiet Try.prog ops C Q rest (a.put o.dst (.bool b))) : wpQuiet Try.prog ops C Q (o :: rest) a :=
  quiet_put hg (fun w => by rw [exec_eqlG ho hl hr, hb]) h
theorem quiet_neqG {ops : Array Oper} {C : World → Prop} {Q : Act → Prop} {o : Oper} {rest : List Oper} {a : Act} {l r : Operand} {ty : TypeId} (x y : Gl) (b : Bool) (hb : decide (x = y) = b) (hg : o.guard = none)
    (ho : o.op = .binOp .neq 44 l r ty) (hl : a.eval l = valG x) (hr : a.eval r = valG y) (h : wpQuiet Try.prog ops C Q rest (a.put o.dst (.bool (!b)))) : wpQuiet Try.prog ops C Q (o :: rest) a :=
  quiet_put hg (fun w => by rw [exec_neqG ho hl hr, hb]) h
theorem fieldsU : Try.prog.underlying 45 = some (.struct (Try.prog.fieldsOf 45)) := by kernel_rfl

set_option maxHeartbeats 1000000 in
theorem eqUl (x y : Gl) (w : World) : (Op.equalIn 10000 45 (valG x) (valG y)).run Try.prog w = .ok (decide (x = y)) w := by
  have hS := fieldsU
  have hp : Try.prog.stoodInHeld 45 = false := by kernel_rfl
  obtain ⟨a, b, c⟩ := x
  obtain ⟨a', b', c'⟩ := y
  simp only [valG]
  rw [show (10000 : Nat) = 9999 + 1 from rfl, run_equalIn_struct w 9999 45 _ _ hS hp]
  simp only [Program.fieldsOf, Try.underlying45]
  have tl : ∀ u v : ByteArray, u.toList = v.toList ↔ u = v := fun u v => ⟨toList_inj, fun h => by rw [h]⟩
  go_simp
  repeat' split
  all_goals simp_all
theorem exec_eqlU {o : Oper} {a : Act} {l r : Operand} {ty : TypeId} {x y : Gl} (ho : o.op = .binOp .eql 45 l r ty) (hl : a.eval l = valG x) (hr : a.eval r = valG y) (w : World) :
    (execOp a.eval o).run Try.prog w = .ok (.value (.bool (decide (x = y)))) w := by
  have hg := fun op p q => run_eqGuard_agg (P := Try.prog) w op 45 p q #[.string x.a, .string x.b, .string x.c] #[.string y.a, .string y.b, .string y.c] (by kernel_rfl)
  have he := eqUl x y w
  unfold execOp
  simp only [ho, hl, hr]
  simp only [valG] at he ⊢
  simp only [Sem.run_bind, hg, Result.andThen_ok, run_eql_struct, he, Sem.run_pure]
theorem exec_neqU {o : Oper} {a : Act} {l r : Operand} {ty : TypeId} {x y : Gl} (ho : o.op = .binOp .neq 45 l r ty) (hl : a.eval l = valG x) (hr : a.eval r = valG y) (w : World) :
    (execOp a.eval o).run Try.prog w = .ok (.value (.bool (!decide (x = y)))) w := by
  have hg := fun op p q => run_eqGuard_agg (P := Try.prog) w op 45 p q #[.string x.a, .string x.b, .string x.c] #[.string y.a, .string y.b, .string y.c] (by kernel_rfl)
  have he := eqUl x y w
  unfold execOp
  simp only [ho, hl, hr]
  simp only [valG] at he ⊢
  simp only [Sem.run_bind, hg, Result.andThen_ok, run_neq_struct, he, Sem.run_pure]

theorem quiet_eqlU {ops : Array Oper} {C : World → Prop} {Q : Act → Prop} {o : Oper} {rest : List Oper} {a : Act} {l r : Operand} {ty : TypeId} (x y : Gl) (b : Bool) (hb : decide (x = y) = b) (hg : o.guard = none)
    (ho : o.op = .binOp .eql 45 l r ty) (hl : a.eval l = valG x) (hr : a.eval r = valG y) (h : wpQuiet Try.prog ops C Q rest (a.put o.dst (.bool b))) : wpQuiet Try.prog ops C Q (o :: rest) a :=
  quiet_put hg (fun w => by rw [exec_eqlU ho hl hr, hb]) h
theorem quiet_neqU {ops : Array Oper} {C : World → Prop} {Q : Act → Prop} {o : Oper} {rest : List Oper} {a : Act} {l r : Operand} {ty : TypeId} (x y : Gl) (b : Bool) (hb : decide (x = y) = b) (hg : o.guard = none)
    (ho : o.op = .binOp .neq 45 l r ty) (hl : a.eval l = valG x) (hr : a.eval r = valG y) (h : wpQuiet Try.prog ops C Q rest (a.put o.dst (.bool (!b)))) : wpQuiet Try.prog ops C Q (o :: rest) a :=
  quiet_put hg (fun w => by rw [exec_neqU ho hl hr, hb]) h
theorem run_neqG (x y : Gl) (z : Bool) (h : decide (x = y) = z) (w : World) : (Go.binOp BinOp.neq 44 (.agg #[.string x.a, .string x.b, .string x.c]) (.agg #[.string y.a, .string y.b, .string y.c])).run Try.prog w = .ok (.bool (!z)) w := by
  have he := eqGl x y w
  rw [h] at he
  simp only [valG] at he
  rw [run_neq_struct, he]; rfl
theorem run_eqlG (x y : Gl) (z : Bool) (h : decide (x = y) = z) (w : World) : (Go.binOp BinOp.eql 44 (.agg #[.string x.a, .string x.b, .string x.c]) (.agg #[.string y.a, .string y.b, .string y.c])).run Try.prog w = .ok (.bool z) w := by
  have he := eqGl x y w
  rw [h] at he
  simp only [valG] at he
  rw [run_eql_struct, he]; rfl
theorem run_neqU (x y : Gl) (z : Bool) (h : decide (x = y) = z) (w : World) : (Go.binOp BinOp.neq 45 (.agg #[.string x.a, .string x.b, .string x.c]) (.agg #[.string y.a, .string y.b, .string y.c])).run Try.prog w = .ok (.bool (!z)) w := by
  have he := eqUl x y w
  rw [h] at he
  simp only [valG] at he
  rw [run_neq_struct, he]; rfl
theorem run_eqlU (x y : Gl) (z : Bool) (h : decide (x = y) = z) (w : World) : (Go.binOp BinOp.eql 45 (.agg #[.string x.a, .string x.b, .string x.c]) (.agg #[.string y.a, .string y.b, .string y.c])).run Try.prog w = .ok (.bool z) w := by
  have he := eqUl x y w
  rw [h] at he
  simp only [valG] at he
  rw [run_eql_struct, he]; rfl
end Go.Proofs.Ytfgjeflhhfjgeaa
