package core_test

import (
	"testing"

	"wafer/api"
	"wafer/core"
)

// TestF161Value: what is a value, at each kind of expression and nested.
func TestF161Value(t *testing.T) {
	for _, s := range []string{
		"0", "7", "true", "false", "()", "x", "M.N.x", "Nil", "M.Red", "fn x => x", "fn (x, 1) => f x", "fn x => let val y = 1 in y end",
		"(1, 2)", "(x, (Nil, fn x => f x))", "((1, true), ())", "Cons 1", "M.Cons x", "Cons (1, Nil)", "Cons (1, Cons (2, Nil))", "Cons (fn x => f x)",
		"Cons (Cons Cons)", "(1 : int)", "((x : int) : bool)", "(Cons (1, (x : int)) : list)", "Cons (x : int)", "((1 : int), (fn x => f x : int))",
	} {
		if !core.Value(exp(s)) {
			t.Errorf("%s is a value", s)
		}
	}
	for _, s := range []string{
		"f x", "f 1 2", "Cons 1 2", "Cons x y", "(Cons : int) 1", "(fn x => x) 1", "M.f 1", "f Nil", "let in 1 end", "let val x = 1 in x end", "let in fn x => x end",
		"if true then 1 else 2", "if x then fn x => x else f", "case 1 of x => x end", "case x of Nil => Nil end", "1 + 2", "1 - 2", "2 * 3", "4 / 2", "1 = 1", "1 < 2", "x = y",
		"(f x, 1)", "(1, f x)", "(1, (2, (3, 1 + 1)))", "Cons (f x)", "Cons (1, f x)", "Cons (Cons (f x))", "(f x : int)", "((1 + 1 : int) : int)", "Cons (f x : int)", "(Cons (1, f x) : list)",
	} {
		if core.Value(exp(s)) {
			t.Errorf("%s is no value", s)
		}
	}
}

// TestF161ValueWild: any data may be asked for, however deep it is nested.
func TestF161ValueWild(t *testing.T) {
	for kind := -3; kind < 20; kind++ {
		for kids := range 5 {
			x := ex(kind)
			for range kids {
				x.Kids = append(x.Kids, made("C"))
			}
			want := kind >= api.EInt && kind <= api.EFn || kids == 2 && (kind == api.EPair || kind == api.EApp) || kids == 1 && kind == api.EAnn
			if got := core.Value(x); got != want {
				t.Errorf("kind %d with %d Kids: %v", kind, kids, got)
			}
		}
	}
	deep, other := num(1), apply(id("f"), num(1))
	for range 1 << 16 {
		deep, other = apply(made("C"), deep), both(num(1), other)
	}
	if !core.Value(deep) || core.Value(other) {
		t.Error("deep ones")
	}
}
