package tree

import (
	"math"
	"pantomime/api"
	"regexp"
	"strings"
	"testing"
)

// goodTrees are well-formed trees, some for each row of the document's table.
func goodTrees() []string {
	return strings.Split(strings.TrimSpace(`
(Program)
(Program 1 s s g b)
(Program (Var d) g b s (Expr e) (If e s) (For s s s s) (ForIn x e s) (ForOf x e s) (While e s) (Do s e) (Break) (Continue) (Return) (Throw e) (Try b s b) (Switch e) (Label =l s))
(Var d)
(Var 1 d (Decl a e) (Decl o))
(Var 2 d)
(Decl x)
(Decl x e)
(Decl a f)
(Decl (Dot =k x) e)
(Decl (Index e e))
f
g
(Func 0 =g p b)
(Func 1 =g p b)
(Func 5 =g p b)
(Func 69 =g p b)
(Func 65 =g p b)
(Func 4 p b)
(Func 4 =$1 p b)
(Func 68 =_ p b)
(Func 2 p b)
(Func 66 p b)
(Func 130 p e)
(Func 194 p f)
(Func 130 p x)
(Func 8 p b)
(Func 12 p b)
(Func 76 p b)
(Func 16 p b)
(Func 16 (Params x x) b)
(Func 80 p b)
(Func 32 p b)
(Func 32 (Params r) b)
(Func 96 (Params x x) b)
(Params)
(Params x a o q r)
(Params r)
(Params (Dot =k x) (Index x e))
(Block)
(Block s b g)
(Empty)
(Expr e)
(Throw e)
(If e s)
(If e s b)
(If x (If e s) s)
(For s s s s)
(For (Var d) e e b)
(For (Var 2 d (Decl x e)) s e b)
(For (Expr e) e s (For s s s s))
(ForIn x e s)
(ForOf x e s)
(ForIn a e b)
(ForOf o x b)
(ForIn (Dot =k e) e s)
(ForOf (Index e e) e s)
(ForIn (Var d) e s)
(ForOf (Var 1 d) e s)
(ForOf (Var 2 (Decl a)) e s)
(While e s)
(Do s e)
(Break)
(Break =l)
(Continue)
(Continue =l)
(Return)
(Return e)
(Try b s b)
(Try b (Catch s b) s)
(Try b (Catch x b) b)
(Catch s b)
(Catch x b)
(Catch a b)
(Catch o (Block s))
(Catch (Dot =k x) b)
(Switch e)
(Switch e (Case e) (Case 1) (Case e s b) (Case 1 s s))
(Case e)
(Case e s b g)
(Case 1)
(Case 1 s b (Var d))
(Label =l s)
(Label =l (Label =l b))
(Label =l g)
(Num)
(Num 9007199254740992)
(Text)
(Text =a%20b%00%FF)
(Bool)
(Bool 1)
(Null)
(This)
(Hole)
(Name =x)
(Name =_$aZ09)
(Name =$)
(Name =if)
(Template t)
(Template (Text))
(Template t e t)
(Template t e t x (Text) f t)
(Template t t t)
(Array)
(Array e h w x h f)
(Array h)
(Array w w)
(Object)
(Object (Prop t e) (Prop 3 t) (Prop 4 e))
(Prop t e)
(Prop e e)
(Prop (Text =a%20b) f)
(Prop M1 x e)
(Prop M1 t e)
(Prop M1 f (Func 2 p b))
(Prop 1 t (Func 16 p b))
(Prop 1 e (Func 80 p b))
(Prop 1 M1 x (Func 16 p (Block s)))
(Prop 2 t (Func 32 (Params x) b))
(Prop 2 M1 (This) (Func 96 (Params a) b))
(Prop 2 e (Func 32 (Params q) b))
(Prop 5 t (Func 8 p b))
(Prop 5 e (Func 12 (Params x x r) b))
(Prop 5 M1 x (Func 76 p b))
(Prop 3 t)
(Prop 3 (Text =$a1))
(Prop 4 e)
(Prop 4 f)
(Spread e)
(Unary =delete e)
(Unary =void e)
(Unary =typeof x)
(Unary =%2B e)
(Unary =%2D e)
(Unary =%21 e)
(Unary =%7E e)
(Update =%2B%2B x)
(Update 1 =%2D%2D x)
(Update =%2D%2D (Dot =k e))
(Update 1 =%2B%2B (Index e e))
(Binary =instanceof e e)
(Binary =in e e)
(Logic =%26%26 e e)
(Logic =%7C%7C e e)
(Logic =%3F%3F e e)
(Assign =%3D x e)
(Assign =%3D a e)
(Assign =%3D o e)
(Assign =%3D (Dot =k e) e)
(Assign =%3D (Index e e) e)
(Assign =%2B%3D x e)
(Assign =%3F%3F%3D (Dot =k e) e)
(Assign =%3C%3C%3D (Index e e) e)
(Cond e e e)
(Seq e e)
(Seq e e e f x)
(Call e)
(Call x e w e)
(New e)
(New f w e)
(Dot =k e)
(Dot =if e)
(Index e x)
(Chain (Dot 1 =k e))
(Chain (Index 1 e e))
(Chain (Call 1 e e w))
(Chain (Dot =k (Dot 1 =k e)))
(Chain (Call (Index (Dot 1 =k e) e) e))
(Chain (Dot 1 =k (Call 1 (Index 1 e e) e)))
(Chain (Dot 1 =k (New (Dot =k e))))
(Chain (Dot 1 =k (Chain (Dot 1 =k e))))
(Chain (Index 1 e (Chain (Call 1 e))))
(Dot =k (Chain (Dot 1 =k e)))
(Unary =delete (Chain (Dot 1 =k e)))
(Yield)
(Yield e)
(Yield 1 e)
(ArrPat)
(ArrPat x h q a o r)
(ArrPat h h)
(ArrPat r)
(ArrPat (Dot =k x) (Rest a))
(ObjPat)
(ObjPat (PatProp t x) (PatProp M1 e q) r)
(ObjPat r)
(PatProp t x)
(PatProp e q)
(PatProp M1 x a)
(PatProp M1 t (Dot =k e))
(Default x e)
(Default a e)
(Default o f)
(Default (Index e e) x)
(Rest x)
(Rest a)
(Rest o)
(Rest (Dot =k e))
`), "\n")
}

// badTrees are trees of which one thing is wrong each.
func badTrees() []string {
	return strings.Split(strings.TrimSpace(`
(?0)
(?24)
(?29)
(?55)
(?59)
(?65)
(?-1)
(?100)
(?101)
(Block (?0))
(Program 2)
(Program -1)
(Program M1)
(Program =a)
(Program e)
(Program f)
(Program (Func 8 p b))
(Program (Func 16 p b))
(Program (Program))
(Program d)
(Program (Catch s b))
(Program (Case 1))
(Program h)
(Program a)
(Program p)
(Var)
(Var 3 d)
(Var -1 d)
(Var M1 d)
(Var =a d)
(Var x)
(Var d x)
(Var d e)
(Decl)
(Decl e)
(Decl f)
(Decl x s)
(Decl x a)
(Decl x e e)
(Decl q)
(Decl x h)
(Decl x w)
(Decl (Call x))
(Decl (Array))
(Decl 1 x)
(Decl M1 x)
(Decl =a x)
(Func p)
(Func b)
(Func b p)
(Func p b b)
(Func p s)
(Func p e)
(Func p (Program))
(Func (Array) b)
(Func x b)
(Func p b e)
(Func 256 p b)
(Func -1 p b)
(Func M1 p b)
(Func =1 p b)
(Func =a%20b p b)
(Func =%2B p b)
(Func 1 p b)
(Func 5 p b)
(Func 3 =g p b)
(Func 9 =g p b)
(Func 17 =g p b)
(Func 33 =g p b)
(Func 10 p b)
(Func 18 p b)
(Func 34 p b)
(Func 24 p b)
(Func 40 p b)
(Func 48 p b)
(Func 56 p b)
(Func 6 p b)
(Func 20 p b)
(Func 36 p b)
(Func 128 p e)
(Func 128 p b)
(Func 129 =g p e)
(Func 129 =g p b)
(Func 132 p e)
(Func 136 p e)
(Func 144 p e)
(Func 160 p e)
(Func 130 p b)
(Func 130 p s)
(Func 130 p a)
(Func 130 p w)
(Func 134 p e)
(Func 255 p e)
(Func 2 =g p b)
(Func 8 =g p b)
(Func 16 =g p b)
(Func 32 =g p b)
(Params e)
(Params h)
(Params w)
(Params r x)
(Params r r)
(Params (Array))
(Params (Assign =%3D x e))
(Params d)
(Params 1)
(Params M1)
(Params =a)
(Block e)
(Block 1)
(Block M1)
(Block =a)
(Empty s)
(Empty 1)
(Empty M1)
(Empty =a)
(Expr)
(Expr s)
(Expr g)
(Expr e e)
(Expr a)
(Expr h)
(Expr w)
(Expr (Prop t e))
(Expr (Func 8 p b))
(Expr (Func 16 p b))
(Expr (Func 32 (Params x) b))
(Expr 1 e)
(Expr M1 e)
(Expr =a e)
(Throw)
(Throw s)
(Throw e e)
(Throw 1 e)
(If)
(If e)
(If s s)
(If e e)
(If e s e)
(If e s s s)
(If e f)
(If 1 e s)
(If M1 e s)
(If =a e s)
(For)
(For s s s)
(For s s s s s)
(For e s s s)
(For s s s e)
(For b s s s)
(For s (Expr e) s s)
(For s s b s)
(For x s s s)
(For a s s s)
(For s (Var d) s s)
(For d s s s)
(For 1 s s s s)
(For =a s s s s)
(ForIn x e)
(ForIn x e s s)
(ForIn e e s)
(ForIn s e s)
(ForOf x s s)
(ForOf x e e)
(ForIn (Var d d) e s)
(ForIn (Var (Decl x e)) e s)
(ForOf (Var 1 d d) e s)
(ForOf (Var 2 (Decl a e)) e s)
(ForOf (Var) e s)
(ForIn d e s)
(ForOf q e s)
(ForOf (Expr x) e s)
(ForIn (Call x) e s)
(ForIn (Array) e s)
(ForIn 1 x e s)
(ForOf M1 x e s)
(ForOf =a x e s)
(While s)
(While e)
(While s e)
(While s s)
(While e e)
(While e s s)
(While 1 e s)
(Do s)
(Do e)
(Do e s)
(Do s s)
(Do s e e)
(Do =a s e)
(Break s)
(Break 1)
(Break M1)
(Break =1)
(Break =a%2D)
(Continue e)
(Continue 1)
(Continue M1)
(Continue =%20)
(Return s)
(Return e e)
(Return a)
(Return 1)
(Return =a)
(Try b s s)
(Try)
(Try b)
(Try b b)
(Try s b)
(Try (Catch s b) b)
(Try b b s b)
(Try b b b)
(Try b (Catch s b))
(Try b (Catch s b) b b)
(Try s s b)
(Try b s (Catch s b))
(Try b (Catch s b) (Catch s b))
(Try b x b)
(Try 1 b s b)
(Catch b)
(Catch b b)
(Catch s s)
(Catch e b)
(Catch q b)
(Catch x b b)
(Catch x)
(Catch 1 x b)
(Catch =a x b)
(Switch)
(Switch s)
(Switch (Case e))
(Switch e e)
(Switch e s)
(Switch e (Case e) s)
(Switch 1 e)
(Case)
(Case s)
(Case e e)
(Case a)
(Case 1 e)
(Case 1 e s)
(Case 2)
(Case 2 e)
(Case -1 e)
(Case M1 e)
(Case =a e)
(Label =l)
(Label s)
(Label =l e)
(Label =l f)
(Label =l s s)
(Label =9 s)
(Label 1 =l s)
(Num -1)
(Num 9007199254740993)
(Num M1)
(Num =1)
(Num e)
(Text 1)
(Text M1)
(Text t)
(Bool 2)
(Bool -1)
(Bool e)
(Null 1)
(Null =null)
(Null e)
(This 1)
(This =this)
(This e)
(Hole 1)
(Hole =a)
(Hole e)
(Name)
(Name =1a)
(Name =a%2Db)
(Name =%20a)
(Name =a%20)
(Name =%C3%A9)
(Name =a%00)
(Name 1 =x)
(Name M1 =x)
(Name =x e)
(Template)
(Template e)
(Template t e)
(Template t t)
(Template e t)
(Template t e e)
(Template t e t e)
(Template t s t)
(Template t h t)
(Template t w t)
(Template t a t)
(Template 1 t)
(Template =a t)
(Array s)
(Array a)
(Array g)
(Array r)
(Array q)
(Array (ArrPat))
(Array 1)
(Array =a)
(Object e)
(Object w)
(Object (PatProp t x))
(Object 1)
(Object =a)
(Prop)
(Prop t)
(Prop e)
(Prop x e)
(Prop f e)
(Prop t s)
(Prop t g)
(Prop t (Func 8 p b))
(Prop t e e)
(Prop M1 s e)
(Prop M1 h e)
(Prop M1 w e)
(Prop M1 a e)
(Prop M2 x e)
(Prop M-1 x e)
(Prop 6 t e)
(Prop -1 t e)
(Prop =a t e)
(Prop 1 t e)
(Prop 1 t f)
(Prop 1 t g)
(Prop 1 t (Func 32 (Params x) b))
(Prop 1 t (Func 32 p b))
(Prop 1 t (Func 8 p b))
(Prop 1 t (Func 16 (Params x) b))
(Prop 1 t (Func 16 (Params r) b))
(Prop 1 x (Func 16 p b))
(Prop 1 (Func 16 p b))
(Prop 1 M1 t (Func 16 (Params q) b))
(Prop 1 t (Func 16))
(Prop 1 t (Func 16 p))
(Prop 2 t (Func 32 p b))
(Prop 2 t (Func 32 (Params x x) b))
(Prop 2 t (Func 32 (Params r) b))
(Prop 2 t (Func 16 p b))
(Prop 2 t (Func 16 (Params x) b))
(Prop 2 t f)
(Prop 2 t (Func 32))
(Prop 2 M1 s (Func 32 (Params x) b))
(Prop 5 t f)
(Prop 5 t g)
(Prop 5 t (Func 16 p b))
(Prop 5 t (Func 2 p b))
(Prop 5 t (Func 4 p b))
(Prop 5 t)
(Prop 5 t (Func 8 p b) e)
(Prop 3 e)
(Prop 3 x)
(Prop 3 (Text))
(Prop 3 (Text =1))
(Prop 3 (Text =a%20b))
(Prop 3 t e)
(Prop 3 M1 t)
(Prop 3)
(Prop 4)
(Prop 4 s)
(Prop 4 w)
(Prop 4 h)
(Prop 4 t e)
(Prop 4 M1 e)
(Spread)
(Spread s)
(Spread e e)
(Spread a)
(Spread w)
(Spread 1 e)
(Unary e)
(Unary =%2B)
(Unary =%2B s)
(Unary =%2B e e)
(Unary =%2B%2B e)
(Unary =new e)
(Unary =await e)
(Unary =%2A e)
(Unary =%2B a)
(Unary 1 =%2B e)
(Unary M1 =%2B e)
(Update x)
(Update =%2B%2B)
(Update =%2B%2B e)
(Update =%2B%2B a)
(Update =%2B%2B o)
(Update =%2B%2B (Call x))
(Update =%2B%2B (Dot 1 =k x))
(Update =%2B%2B (Chain (Dot 1 =k x)))
(Update =%2B x)
(Update =%2B%2B x x)
(Update 2 =%2B%2B x)
(Update -1 =%2B%2B x)
(Binary e e)
(Binary =%2B e)
(Binary =%2B e e e)
(Binary =%2B s e)
(Binary =%2B e s)
(Binary =%2B e a)
(Binary =%2B h e)
(Binary =%26%26 e e)
(Binary =%3E%3E%3E e e)
(Binary =%2A%2A e e)
(Binary =%3D e e)
(Binary =of e e)
(Binary =%2C e e)
(Binary 1 =%2B e e)
(Logic e e)
(Logic =%26 e e)
(Logic =%7C e e)
(Logic =%21 e e)
(Logic =%3F e e)
(Logic =%3F%3F e)
(Logic =%3F%3F e e e)
(Logic 1 =%3F%3F e e)
(Assign x e)
(Assign =%3D x)
(Assign =%3D x e e)
(Assign =%3D e e)
(Assign =%3D f e)
(Assign =%3D x s)
(Assign =%3D x a)
(Assign =%3D q e)
(Assign =%3D (Array) e)
(Assign =%3D (Call x) e)
(Assign =%3D (Dot 1 =k x) e)
(Assign =%3D (Chain (Dot 1 =k x)) e)
(Assign =%2B%3D a e)
(Assign =%7C%7C%3D o e)
(Assign =%2B%3D e e)
(Assign =%3D%3D x e)
(Assign =%2A%2A%3D x e)
(Assign =%3E%3E%3E%3D x e)
(Assign =%2B x e)
(Assign 1 =%3D x e)
(Assign M1 =%3D x e)
(Cond e e)
(Cond e e e e)
(Cond s e e)
(Cond e a e)
(Cond e e h)
(Cond 1 e e e)
(Seq)
(Seq e)
(Seq e s)
(Seq a e)
(Seq e e w)
(Seq 1 e e)
(Call)
(Call w)
(Call s)
(Call e s)
(Call e h)
(Call e a)
(Call 1 e)
(Call 2 e)
(Call -1 e)
(Call M1 e)
(Call =a e)
(New)
(New w)
(New e h)
(New 1 e)
(New =a e)
(Dot =k)
(Dot e)
(Dot =1 e)
(Dot =k s)
(Dot =k e e)
(Dot 1 =k e)
(Dot 2 =k e)
(Dot M1 =k e)
(Index)
(Index e)
(Index e e e)
(Index e s)
(Index w e)
(Index e w)
(Index 1 e e)
(Index =a e e)
(Chain)
(Chain e)
(Chain x)
(Chain (Dot =k e))
(Chain (Call e))
(Chain (Index e e))
(Chain (Dot =k (Call (Index e e))))
(Chain (Chain (Dot 1 =k e)))
(Chain (New (Dot 1 =k e)))
(Chain (Unary =%21 (Dot 1 =k e)))
(Chain (Dot 1 =k e) e)
(Chain 1 (Dot 1 =k e))
(Chain =a (Dot 1 =k e))
(Chain (Dot 2 =k e))
(Chain (Dot =k (New (Dot 1 =k e))))
(Chain (Dot 1 =k (New (Dot 1 =k e))))
(Chain (Dot 1 =k (Unary =%21 (Dot 1 =k e))))
(Chain (Index e (Dot 1 =k e)))
(Chain (Index 1 e (Dot 1 =k e)))
(Chain (Call 1 e (Call 1 e)))
(Chain (Call e (Dot 1 =k e)))
(Chain (Dot =k (Chain (Dot 1 =k e))))
(Chain (Dot 1 =k (Chain (Dot =k e))))
(Chain (Dot 1 =k))
(Expr (Dot 1 =k e))
(Expr (Index 1 e e))
(Expr (Call 1 e))
(Dot =k (Dot 1 =k e))
(Yield s)
(Yield a)
(Yield w)
(Yield e e)
(Yield 1)
(Yield 1 s)
(Yield 1 e e)
(Yield 2 e)
(Yield -1)
(Yield M1 e)
(Yield =a e)
(ArrPat e)
(ArrPat w)
(ArrPat r x)
(ArrPat r r)
(ArrPat r h)
(ArrPat (Array))
(ArrPat (Dot 1 =k x))
(ArrPat (PatProp t x))
(ArrPat 1)
(ArrPat =a)
(ObjPat x)
(ObjPat (Prop t x))
(ObjPat r (PatProp t x))
(ObjPat r r)
(ObjPat q)
(ObjPat 1)
(ObjPat M1)
(PatProp t)
(PatProp x)
(PatProp x x)
(PatProp t e)
(PatProp t h)
(PatProp t r)
(PatProp t x x)
(PatProp M1 s x)
(PatProp M1 a x)
(PatProp M2 x x)
(PatProp M-1 x x)
(PatProp 1 t x)
(PatProp 3 t x)
(PatProp =a t x)
(Default)
(Default x)
(Default e e)
(Default x s)
(Default x a)
(Default q e)
(Default x e e)
(Default r e)
(Default 1 x e)
(Default =%3D x e)
(Rest)
(Rest e)
(Rest h)
(Rest q)
(Rest r)
(Rest x x)
(Rest (Array))
(Rest 1 x)
(Rest =a x)
`), "\n")
}

func TestRight(t *testing.T) { // P4.1
	for _, s := range goodTrees() {
		if !Right(made(t, s)) {
			t.Errorf("well-formed: %s", s)
		}
	}
}

func TestNotRight(t *testing.T) { // P4.1
	for _, s := range badTrees() {
		if Right(made(t, s)) {
			t.Errorf("not well-formed: %s", s)
		}
	}
}

func TestRightOfOperators(t *testing.T) { // P4.1
	const all = "delete void typeof + - ! ~ ++ -- | ^ & == != === !== < > <= >= instanceof in << >> * / % && || ?? = += -= *= /= %= &= |= ^= <<= >>= &&= ||= ??= ** >>> >>>= **= => ? : , . ?. ... new of yield await this x"
	for _, x := range []struct {
		op, kids int
		own      string
	}{
		{api.NUnary, 1, "delete void typeof + - ! ~"}, {api.NUpdate, 1, "++ --"}, {api.NLogic, 2, "&& || ??"},
		{api.NBinary, 2, "| ^ & == != === !== < > <= >= instanceof in << >> + - * / %"}, {api.NAssign, 2, "= += -= *= /= %= &= |= ^= <<= >>= &&= ||= ??="},
	} {
		for _, s := range append(strings.Split(all, " "), "", " ", "+ ", "delete void") {
			n := api.Node{Op: x.op, S: s}
			for range x.kids {
				n.Kids = append(n.Kids, made(t, "x"))
			}
			own := s != "" && strings.Contains(" "+x.own+" ", " "+s+" ") && s != "delete void"
			if Right(n) != own {
				t.Errorf("%s %q: %v", Name(x.op), s, !own)
			}
		}
	}
}

func TestRightOfFunctionBits(t *testing.T) { // P4.1
	for bits := -2; bits < 300; bits++ {
		count := 0
		for _, f := range []int{api.FDecl, api.FArrow, api.FMethod, api.FGet, api.FSet} {
			if bits&f != 0 {
				count++
			}
		}
		has := func(f int) bool { return bits&f != 0 }
		together := 0 <= bits && bits <= 255 && count <= 1 && !(has(api.FGen) && (has(api.FArrow) || has(api.FGet) || has(api.FSet))) && (!has(api.FShort) || has(api.FArrow))
		for _, name := range []string{"", "f"} {
			named := together && !(name == "" && has(api.FDecl)) && !(name != "" && (has(api.FArrow) || has(api.FMethod) || has(api.FGet) || has(api.FSet)))
			for _, body := range []string{"b", "e", "s"} {
				want := named && body == map[bool]string{true: "e", false: "b"}[has(api.FShort)]
				n := api.Node{Op: api.NFunc, N: bits, S: name, Kids: []api.Node{made(t, "p"), made(t, body)}}
				if Right(n) != want {
					t.Errorf("%s: %v", Dump(n), !want)
				}
			}
		}
	}
}

func TestRightOfEachNode(t *testing.T) { // P4.1: what is wrong in one node of a tree is wrong in the whole
	strange := map[string]func(*api.Node){
		"At":   func(n *api.Node) { n.At = -1 },
		"At2":  func(n *api.Node) { n.At = math.MinInt },
		"kind": func(n *api.Node) { n.Op = 29 },
		"N":    func(n *api.Node) { n.N = math.MinInt },
		"N2":   func(n *api.Node) { n.N = math.MaxInt },
		"M":    func(n *api.Node) { n.M = 2 },
		"M2":   func(n *api.Node) { n.M = -1 },
	}
	for _, s := range goodTrees() {
		for i := range places(&[]api.Node{made(t, s)}[0]) {
			for what, change := range strange {
				n := made(t, s)
				change(places(&n)[i])
				if Right(n) {
					t.Errorf("%s: well-formed with another %s of node %d", s, what, i)
				}
			}
			n := made(t, s)
			places(&n)[i].At = math.MaxInt
			if !Right(n) {
				t.Errorf("%s: not well-formed with an At", s)
			}
		}
	}
}

func TestRightOfDepth(t *testing.T) { // P4.1
	if !Right(deep(api.MaxDepth)) || Right(deep(api.MaxDepth+1)) {
		t.Error("a deep expression")
	}
	block := func(depth int) api.Node {
		n := api.Node{Op: api.NBlock}
		for range depth - 1 {
			n = api.Node{Op: api.NBlock, Kids: []api.Node{{Op: api.NEmpty}, n, {Op: api.NEmpty}}}
		}
		return n
	}
	if !Right(block(api.MaxDepth)) || Right(block(api.MaxDepth+1)) {
		t.Error("deep blocks")
	}
	chain := func(depth int) api.Node {
		n := api.Node{Op: api.NDot, S: "k", N: 1, Kids: []api.Node{{Op: api.NThis}}}
		for range depth - 3 {
			n = api.Node{Op: api.NIndex, Kids: []api.Node{n, {Op: api.NThis}}}
		}
		return api.Node{Op: api.NChain, Kids: []api.Node{n}}
	}
	if !Right(chain(api.MaxDepth)) || Right(chain(api.MaxDepth+1)) {
		t.Error("a deep chain")
	}
}

// rules is the document's table once more: for each kind, ways in which the codes of its children may stand; <word> stands for codes of classes.
func rules() map[int]string {
	return map[int]string{
		api.NProgram: "<stmt>*", api.NVar: "<Decl><Decl>*", api.NDecl: "<target><expr>?", api.NParams: "(<target>|<Default>)*<Rest>?", api.NBlock: "<stmt>*",
		api.NEmpty: "", api.NExpr: "<expr>", api.NThrow: "<expr>", api.NIf: "<expr><stmt><stmt>?", api.NFor: "(<Var>|<Expr>|<Empty>)(<expr>|<Empty>)(<expr>|<Empty>)<stmt>",
		api.NForIn: "(<target>|<Var>)<expr><stmt>", api.NForOf: "(<target>|<Var>)<expr><stmt>", api.NWhile: "<expr><stmt>", api.NDo: "<stmt><expr>", api.NBreak: "", api.NContinue: "",
		api.NReturn: "<expr>?", api.NTry: "<Block>(<Catch><Block>|<Catch><Empty>|<Empty><Block>)", api.NCatch: "(<target>|<Empty>)<Block>", api.NSwitch: "<expr><Case>*", api.NLabel: "<stmt>",
		api.NNum: "", api.NText: "", api.NBool: "", api.NNull: "", api.NThis: "", api.NHole: "", api.NName: "", api.NTemplate: "<Text>(<expr><Text>)*", api.NArray: "(<expr>|<Hole>|<Spread>)*",
		api.NObject: "<Prop>*", api.NSpread: "<expr>", api.NUnary: "<expr>", api.NUpdate: "<simple>", api.NBinary: "<expr><expr>", api.NLogic: "<expr><expr>", api.NCond: "<expr><expr><expr>",
		api.NSeq: "<expr><expr><expr>*", api.NCall: "<expr>(<expr>|<Spread>)*", api.NNew: "<expr>(<expr>|<Spread>)*", api.NDot: "<expr>", api.NIndex: "<expr><expr>", api.NChain: "<link>",
		api.NArrPat: "(<target>|<Default>|<Hole>)*<Rest>?", api.NObjPat: "<PatProp>*<Rest>?", api.NDefault: "<target><expr>", api.NRest: "<target>",
	}
}

// rule is the row of the table for n itself.
func rule(n api.Node, table map[int]string) (string, bool) {
	key := "(<Text>|<Num>)"
	if n.M == 1 {
		key = "<expr>"
	}
	switch n.Op {
	case api.NFunc:
		return "<Params>" + map[bool]string{false: "<Block>", true: "<expr>"}[n.N&api.FShort != 0], true
	case api.NCase:
		return map[int]string{0: "<expr><stmt>*", 1: "<stmt>*"}[n.N], true
	case api.NProp:
		return []string{key + "<expr>", key + "<getter>", key + "<setter>", "<word>", "<expr>", key + "<method>", ""}[n.N], true
	case api.NAssign:
		return map[bool]string{true: "<target><expr>", false: "<simple><expr>"}[n.S == "="], true
	case api.NYield:
		return map[int]string{0: "<expr>?", 1: "<expr>"}[n.N], true
	case api.NPatProp:
		return key + "(<target>|<Default>)", true
	}
	s, known := table[n.Op]
	return s, known
}

// expand writes a rule for codes: one rune for each kind from 0x4000 on, and others for kinds of functions and optional links.
func expand(s string) string {
	set := func(ops ...int) string {
		out := ""
		for _, op := range ops {
			out += string(rune(0x4000 + op))
		}
		return out
	}
	span := func(from, to int) string { return set(from) + "-" + set(to) }
	simple := set(api.NName, api.NDot, api.NIndex)
	words := []string{
		"<stmt>", "[" + set(api.NVar, api.NSwitch, api.NLabel) + span(api.NBlock, api.NTry) + "D]",
		"<expr>", "[" + span(api.NNum, api.NObject) + span(api.NUnary, api.NYield) + "FOW]",
		"<simple>", "[" + simple + "]", "<target>", "[" + simple + set(api.NArrPat, api.NObjPat) + "]",
		"<link>", "[" + set(api.NCall, api.NDot, api.NIndex) + "O]", "<getter>", "G", "<setter>", "S", "<method>", "M", "<word>", "W", "<Text>", "[W" + set(api.NText) + "]",
	}
	for name, op := range kinds() {
		if name != "Text" {
			words = append(words, "<"+name+">", set(op))
		}
	}
	return strings.NewReplacer(words...).Replace(s)
}

// code is the rune that stands for a child.
func code(n api.Node) string {
	switch {
	case n.Op < 0 || n.Op > 99:
		return "!"
	case n.Op == api.NText && regexp.MustCompile(`^[a-zA-Z_$][a-zA-Z_$0-9]*$`).MatchString(n.S):
		return "W"
	case (n.Op == api.NCall || n.Op == api.NDot || n.Op == api.NIndex) && n.N != 0:
		return "O"
	case n.Op != api.NFunc:
		return string(rune(0x4000 + n.Op))
	case n.N&api.FDecl != 0:
		return "D"
	case n.N&api.FGet != 0 && len(n.Kids) > 0 && len(n.Kids[0].Kids) == 0:
		return "G"
	case n.N&api.FSet != 0 && len(n.Kids) > 0 && len(n.Kids[0].Kids) == 1 && n.Kids[0].Kids[0].Op != api.NRest:
		return "S"
	case n.N&api.FMethod != 0:
		return "M"
	case n.N&(api.FGet|api.FSet) != 0:
		return "!"
	}
	return "F"
}

// judge decides by the rules whether trees are well-formed.
type judge struct {
	table map[int]string
	known map[string]*regexp.Regexp
}

func newJudge() judge { return judge{rules(), map[string]*regexp.Regexp{}} }

func (j judge) right(n api.Node, depth int, spine bool) bool {
	if depth > api.MaxDepth || n.At < 0 || !plainRight(n) {
		return false
	}
	s, known := rule(n, j.table)
	if !known {
		return false
	}
	if j.known[s] == nil {
		j.known[s] = regexp.MustCompile("^(?:" + expand(s) + ")$")
	}
	codes := ""
	for _, k := range n.Kids {
		codes += code(k)
	}
	if !j.known[s].MatchString(codes) {
		return false
	}
	if (n.Op == api.NForIn || n.Op == api.NForOf) && n.Kids[0].Op == api.NVar {
		if l := n.Kids[0].Kids; len(l) != 1 || len(l[0].Kids) != 1 {
			return false
		}
	}
	link := n.Op == api.NCall || n.Op == api.NDot || n.Op == api.NIndex
	if link && n.N == 1 && !spine {
		return false
	}
	if n.Op == api.NChain && !strings.Contains(spineOf(n.Kids[0]), "O") {
		return false
	}
	for i, k := range n.Kids {
		if !j.right(k, depth+1, i == 0 && (n.Op == api.NChain || spine && link)) {
			return false
		}
	}
	return true
}

// spineOf is the codes of the spine from n on.
func spineOf(n api.Node) string {
	if n.Op != api.NCall && n.Op != api.NDot && n.Op != api.NIndex {
		return ""
	}
	if len(n.Kids) == 0 {
		return code(n)
	}
	return code(n) + spineOf(n.Kids[0])
}

// plainRight holds N, M and S of n against the table.
func plainRight(n api.Node) bool {
	const id = `[a-zA-Z_$][a-zA-Z_$0-9]*`
	most := map[int]int{api.NProgram: 1, api.NVar: 2, api.NFunc: 255, api.NCase: 1, api.NNum: api.MaxInt, api.NBool: 1, api.NProp: 5, api.NUpdate: 1, api.NCall: 1, api.NDot: 1, api.NIndex: 1, api.NYield: 1}
	text := map[int]string{
		api.NFunc: "(" + id + ")?", api.NBreak: "(" + id + ")?", api.NContinue: "(" + id + ")?", api.NLabel: id, api.NName: id, api.NDot: id, api.NText: `[\s\S]*`,
		api.NUnary: `delete|void|typeof|[-+!~]`, api.NUpdate: `\+\+|--`, api.NBinary: `[|^&<>+*/%-]|[=!]==?|[<>]=|<<|>>|instanceof|in`, api.NLogic: `&&|\|\||\?\?`, api.NAssign: `([-+*/%&|^]|<<|>>|&&|\|\||\?\?)?=`,
	}
	computed := n.Op == api.NPatProp || n.Op == api.NProp && n.N != api.PropShort && n.N != api.PropSpread
	if n.N < 0 || n.N > most[n.Op] || n.M != 0 && !(n.M == 1 && computed) || !regexp.MustCompile(`^(?:`+text[n.Op]+`)$`).MatchString(n.S) {
		return false
	}
	if n.Op != api.NFunc {
		return true
	}
	one := 0
	for _, f := range []int{api.FDecl, api.FArrow, api.FMethod, api.FGet, api.FSet} {
		if n.N&f != 0 {
			one++
		}
	}
	nameless := n.N&(api.FArrow|api.FMethod|api.FGet|api.FSet) != 0
	return one <= 1 && (n.N&api.FGen == 0 || n.N&(api.FArrow|api.FGet|api.FSet) == 0) && (n.N&api.FShort == 0 || n.N&api.FArrow != 0) &&
		(n.S == "" || !nameless) && (n.S != "" || n.N&api.FDecl == 0)
}

// change alters a tree somewhere.
func change(c *chance, n *api.Node, seeds []api.Node) {
	l := places(n)
	k := l[c.below(len(l))]
	other := Copy(seeds[c.below(len(seeds))])
	parts := places(&other)
	switch c.below(14) {
	case 0:
		k.N = []int{-1, 0, 1, 2, 3, 4, 5, 6, 8, 16, 32, 64, 128, 130, 255}[c.below(15)]
	case 1:
		k.M = c.below(3)
	case 2:
		k.S = []string{"", "x", "=", "+", "++", "&&", "+=", "1", "a b"}[c.below(9)]
	case 3:
		k.Op = c.below(70) - 2
	case 4:
		if len(k.Kids) > 0 {
			i := c.below(len(k.Kids))
			k.Kids = append(k.Kids[:i:i], k.Kids[i+1:]...)
		}
	case 5:
		i := c.below(len(k.Kids) + 1)
		k.Kids = append(append(append([]api.Node(nil), k.Kids[:i]...), *parts[c.below(len(parts))]), k.Kids[i:]...)
	case 6:
		if len(k.Kids) > 1 {
			k.Kids[0], k.Kids[1] = k.Kids[1], k.Kids[0]
		}
	case 7:
		*k = *parts[c.below(len(parts))]
	default:
		*k = other
	}
}

func TestRightByTheTable(t *testing.T) { // P4.1
	var seeds []api.Node
	for _, s := range goodTrees() {
		seeds = append(seeds, made(t, s))
	}
	j, c := newJudge(), chance(3)
	good, bad := 0, 0
	for range 20000 {
		n := Copy(seeds[c.below(len(seeds))])
		for range 1 + c.below(4) {
			was := Copy(n)
			change(&c, &n, seeds)
			want := j.right(n, 1, false)
			if Right(n) != want {
				t.Fatalf("%s: %v", Dump(n), !want)
			}
			if want {
				good++
				continue
			}
			bad++
			n = was
		}
	}
	if good < 5000 || bad < 5000 {
		t.Errorf("%d well-formed, %d not", good, bad)
	}
}
