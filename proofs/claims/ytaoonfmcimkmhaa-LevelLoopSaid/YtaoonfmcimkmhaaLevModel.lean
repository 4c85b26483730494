/- Surveys as plain data, and what level.Check asks of them, in Lean's words. No condition. -/
import Derived.RowKit
namespace Go.Proofs.Ytaoonfmcimkmhaa

/-- A shot or a thread: from, to, and a span. -/
structure Sh where
  f : Int
  t : Int
  lo : Int
  hi : Int
/-- A mark: a point, and a span. -/
structure Mk where
  p : Int
  lo : Int
  hi : Int
structure Sv where
  n : Int
  shots : List Sh
  marks : List Mk
  threads : List Sh
def shV (x : Sh) : List Value := [.int .i64 x.f, .int .i64 x.t, .int .i64 x.lo, .int .i64 x.hi]
def mkV (x : Mk) : List Value := [.int .i64 x.p, .int .i64 x.lo, .int .i64 x.hi]

/-- n is from lo to hi. -/
def inR (lo hi n : Int) : Bool := decide (lo ≤ n) && decide (n ≤ hi)
def inB (p i : Int) : Bool := decide (0 ≤ i) && decide (i < p)
def diffB (p i j : Int) : Bool := inB p i && inB p j && (i != j)
def spanB (a b lo hi : Int) : Bool := decide (lo ≤ a) && decide (a ≤ b) && decide (b ≤ hi)
def shOk (p : Int) (m M : Int) (x : Sh) : Bool := diffB p x.f x.t && spanB x.lo x.hi m M
def mkOk (p : Int) (x : Mk) : Bool := inB p x.p && spanB x.lo x.hi (-10000000) 10000000
def svOk (s : Sv) : Bool := decide (1 ≤ s.n) && decide (s.n ≤ 20) && decide (s.shots.length ≤ 60) && decide (s.marks.length ≤ 20) && decide (s.threads.length ≤ 30) &&
  s.shots.all (shOk s.n (-20000000) 20000000) && s.marks.all (mkOk s.n) && s.threads.all (shOk s.n 1 100000000)
/-- What level.Check and the reference's Check answer. -/
def svErr (s : Sv) : Int := if svOk s then 0 else 10

end Go.Proofs.Ytaoonfmcimkmhaa
