/- The program's purchaseFrom, ShelvesOk, CostOf, StockWorth, AfterBasket, at every slice of goods and of ints. -/
import Derived.Test.YtfoohenmlagfjaaDoorShv3
namespace Go.Proofs.YtfoohenmlagfjaaDoor
open Go.RowKit



/-- What a basket of a list costs; -1 where one of the two is none. -/
def costV (gs : List Gd) (xs : List Int) : Int := if (okS gs && bOk (shOf gs) xs) = true then cost (shOf gs) (q3 xs) else -1
/-- What all pieces of a list cost. -/
def worthV (gs : List Gd) : Int := if okS gs = true then cost (shOf gs) ⟨(shOf gs).a.s, (shOf gs).b.s, (shOf gs).c.s⟩ else -1
theorem Sh.In.all {S : Sh} (h : S.In) : S.Has ⟨S.a.s, S.b.s, S.c.s⟩ := ⟨h.a2, Int.le_refl _, h.b2, Int.le_refl _, h.c2, Int.le_refl _⟩
def Sh.minus (S : Sh) (q : Q3) : Sh := ⟨⟨S.a.p, S.a.s - q.x⟩, ⟨S.b.p, S.b.s - q.y⟩, ⟨S.c.p, S.c.s - q.z⟩, S.m⟩




end Go.Proofs.YtfoohenmlagfjaaDoor
