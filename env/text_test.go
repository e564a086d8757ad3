package env_test

import (
	"testing"

	"wafer/api"
	"wafer/env"
)

// wantText: the text has these lines, each with a byte 10 behind it.
func wantText(t *testing.T, a api.Abs, lines ...string) {
	t.Helper()
	want := ""
	for _, line := range lines {
		want += line + "\n"
	}
	if got := env.Text(a); got != want {
		t.Fatalf("Text of %s:\n%swant\n%s", brief(tell(a)), got, want)
	}
}

// TestP1306Members: each kind of member.
func TestP1306Members(t *testing.T) {
	wantText(t, abs(nil))
	wantText(t, abs(ints(1, 2)))
	wantText(t, abs(nil, typ("t", integer())), "type t = int")
	wantText(t, abs(nil, typ("t", fn(fn(integer(), boolean()), pair(unit(), stamp(3))))), "type t = (int -> bool) -> unit * #3")
	wantText(t, abs(nil, val("x", pair(pair(integer(), integer()), pair(integer(), stamp(0))))), "val x: int * int * (int * #0)")
	wantText(t, abs(nil, poly("f", 2, fn(gen(0), fn(gen(1), gen(0))))), "val f: 'a -> 'b -> 'a")
	wantText(t, abs(nil, typ("t", stamp(5), ctor("A"))), "data t = #5: A")
	wantText(t, abs(nil, typ("t", stamp(5), ctor("A", integer()))), "data t = #5: A of int")
	wantText(t, abs(ints(5), typ("t", stamp(5), ctor("Nil"), ctor("Cons", pair(integer(), stamp(5))), ctor("Last"))), "data t = ?1: Nil | Cons of int * ?1 | Last")
	wantText(t, abs(nil, typ("t", integer(), ctor("F", fn(integer(), stamp(5))), ctor("A"))), "data t = int: F of int -> #5 | A")
	wantText(t, abs(nil, sub("M")), "structure M")
	wantText(t, abs(nil, sub("M", val("x", unit()), typ("t", boolean()))), "structure M", "  type t = bool", "  val x: unit")
	wantText(t, abs(nil, functor("F", nil, str(), abs(nil))), "functor F", "  from", "  to")
	wantText(t, abs(nil, functor("F", ints(1), str(typ("t", stamp(1)), val("z", stamp(1))), abs(ints(2), typ("u", stamp(2)), val("f", fn(stamp(1), stamp(2)))))),
		"functor F", "  from", "    type t = ?1", "    val z: ?1", "  to", "    type u = ?2", "    val f: ?1 -> ?2")
	wantText(t, abs(nil, sig("S", nil)), "signature S")
	wantText(t, abs(nil, sig("S", ints(1), typ("t", stamp(1)), val("x", stamp(2)))), "signature S", "  type t = ?1", "  val x: #2")
}

// TestP1306Depth: two blanks for each structure, four for what stands in a functor, at each depth; kind by kind and in the order of names.
func TestP1306Depth(t *testing.T) {
	in := []any{val("y", stamp(2)), val("x", integer()), typ("u", stamp(1), ctor("B"), ctor("A", stamp(1))), typ("t", stamp(1))}
	a := abs(ints(1), append([]any{
		sig("S", ints(2), append([]any{sub("M", in...), functor("G", nil, str(sub("N", val("x", unit()))), abs(nil, sig("T", nil, val("x", unit()))))}, in...)...),
		functor("F", ints(3), str(sub("M", append([]any{functor("G", ints(1), str(in...), abs(ints(2), in...))}, in...)...)), abs(nil, sub("N", sub("O", in...)))),
		sub("B", sub("A", sub("C", in...))), sub("A"),
	}, in...)...)
	wantText(t, a,
		"type t = ?1",
		"data u = ?1: B | A of ?1",
		"val x: int",
		"val y: #2",
		"structure A",
		"structure B",
		"  structure A",
		"    structure C",
		"      type t = ?1",
		"      data u = ?1: B | A of ?1",
		"      val x: int",
		"      val y: #2",
		"functor F",
		"  from",
		"    structure M",
		"      type t = ?1",
		"      data u = ?1: B | A of ?1",
		"      val x: int",
		"      val y: #2",
		"      functor G",
		"        from",
		"          type t = ?2",
		"          data u = ?2: B | A of ?2",
		"          val x: int",
		"          val y: #2",
		"        to",
		"          type t = ?2",
		"          data u = ?2: B | A of ?2",
		"          val x: int",
		"          val y: ?3",
		"  to",
		"    structure N",
		"      structure O",
		"        type t = ?1",
		"        data u = ?1: B | A of ?1",
		"        val x: int",
		"        val y: #2",
		"signature S",
		"  type t = ?1",
		"  data u = ?1: B | A of ?1",
		"  val x: int",
		"  val y: ?4",
		"  structure M",
		"    type t = ?1",
		"    data u = ?1: B | A of ?1",
		"    val x: int",
		"    val y: ?4",
		"  functor G",
		"    from",
		"      structure N",
		"        val x: unit",
		"    to",
		"      signature T",
		"        val x: unit",
	)
}

// TestP1306Stamps: bound ones are told from 1 on, whatever numbers are free, free ones by their numbers.
func TestP1306Stamps(t *testing.T) {
	wantText(t, abs(ints(9, 8, 7), val("x", fn(stamp(0), fn(stamp(8), fn(stamp(1), fn(stamp(7), fn(stamp(3), stamp(9)))))))), "val x: #0 -> ?1 -> #1 -> ?2 -> #3 -> ?3")
	wantText(t, abs(nil, val("x", pair(stamp(-4), stamp(12)))), "val x: #-4 * #12")
	wantText(t, abs(ints(-4), val("x", pair(stamp(-4), stamp(12)))), "val x: ?1 * #12")
	// One that is left out is not counted; one that is bound here may be free there.
	wantText(t, abs(ints(1, 2), val("x", stamp(2)), sig("S", ints(3, 4, 5), val("x", stamp(4))), sig("T", ints(5), val("x", stamp(4)), val("y", stamp(5)))), "val x: ?1", "signature S", "  val x: ?2", "signature T", "  val x: #4", "  val y: ?3")
	// In the order of their numbers in Canon, not of their binders.
	wantText(t, abs(ints(1), sig("S", ints(2), val("x", fn(stamp(2), stamp(1))))), "signature S", "  val x: ?1 -> ?2")
	// More than ten.
	var many []any
	var bound []int
	var lines []string
	for i := range 12 {
		bound = append(bound, 30-i)
		many = append(many, val(string(rune('a'+i)), stamp(30-i)))
		lines = append(lines, "val "+string(rune('a'+i))+": ?"+[]string{"1", "2", "3", "4", "5", "6", "7", "8", "9", "10", "11", "12"}[i])
	}
	wantText(t, abs(bound, many...), lines...)
}

// TestP1306Wild: names and types that are none are told as they stand.
func TestP1306Wild(t *testing.T) {
	wantText(t, abs(ints(1), val("", node(api.TFn, 0, stamp(1))), val("a b", node(99, 0)), typ("T", node(api.TMeta, 7)), typ("U", gen(-1)), sub("")), "type T = ?7", "type U = '?", "val : ?", "val a b: ?", "structure ")
	// A stamp in what is told by `?` alone has its number all the same.
	wantText(t, abs(ints(1, 2), val("a", node(api.TFn, 0, stamp(1))), val("b", stamp(2)), val("c", stamp(1)), val("d", node(api.TStamp, 2, stamp(1)))), "val a: ?", "val b: ?2", "val c: ?1", "val d: ?2")
}

// TestP1306Chance: by chance, right and wild, against the chapter's words.
func TestP1306Chance(t *testing.T) {
	for seed := range int64(4000) {
		m := newMaker(seed)
		a := m.abs(1 + m.Intn(4))
		if got, want := env.Text(a), plainText(a); got != want {
			t.Fatalf("%d: Text of %s:\n%swant\n%s", seed, brief(tell(a)), got, want)
		}
	}
}
