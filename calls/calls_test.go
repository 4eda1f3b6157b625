// Package calls checks that the packages of all layers have the calls, types and constants that the chapters list.
package calls

import (
	"testing"

	"chisel/accum"
	"chisel/api"
	"chisel/atom"
	"chisel/build"
	"chisel/chars"
	"chisel/check"
	"chisel/coll"
	"chisel/console"
	"chisel/dbl"
	"chisel/dur"
	"chisel/eval"
	"chisel/expr"
	"chisel/fmtdate"
	"chisel/fmtnum"
	"chisel/groups"
	"chisel/item"
	"chisel/json"
	"chisel/keys"
	"chisel/lex"
	"chisel/lib"
	"chisel/maps"
	"chisel/merges"
	"chisel/modes"
	"chisel/num"
	"chisel/packs"
	"chisel/parts"
	"chisel/pattern"
	"chisel/posture"
	"chisel/pull"
	"chisel/regex"
	"chisel/reparse"
	"chisel/run"
	"chisel/scope"
	"chisel/serhtml"
	"chisel/serial"
	"chisel/serxml"
	"chisel/sheet"
	"chisel/simple"
	"chisel/sorts"
	"chisel/steps"
	"chisel/store"
	"chisel/stream"
	"chisel/streamable"
	"chisel/time"
	"chisel/tree"
	"chisel/types"
)

// The compiler checks the signatures: those of later layers must be there before they are built.
var (
	// 01: chars
	_ func(s string) bool                 = chars.IsText
	_ func(s string) bool                 = chars.IsName
	_ func(s string) bool                 = chars.IsSpace
	_ func(s string) string               = chars.Norm
	_ func(s string) ([]int, api.Errno)   = chars.Points
	_ func(l []int) (string, api.Errno)   = chars.From
	_ func(s string) int                  = chars.Len
	_ func(s string, from, to int) string = chars.Cut
	// 02: regex
	_ func(pattern, flags string) (*regex.Regex, api.Errno)         = regex.Compile
	_ func(r *regex.Regex, s string) bool                           = (*regex.Regex).Fits
	_ func(r *regex.Regex, s string, from int) (loc []int, ok bool) = (*regex.Regex).Find
	_ func(r *regex.Regex, s string) bool                           = (*regex.Regex).Match
	_ func(r *regex.Regex, s, with string) (string, api.Errno)      = (*regex.Regex).Replace
	_ func(r *regex.Regex, s string) ([]string, api.Errno)          = (*regex.Regex).Tokens
	_ func(r *regex.Regex, s string) ([]regex.Piece, api.Errno)     = (*regex.Regex).Pieces
	// 03: coll
	_ func(text string) (t *coll.Table, line int, e api.Errno) = coll.Parse
	_ func(t *coll.Table, s string) []byte                     = (*coll.Table).Key
	_ func(t *coll.Table, a, b string) int                     = (*coll.Table).Compare
	// 04: num
	_ func(s string) (string, api.Errno)                         = num.Parse
	_ func(a, b string) (string, api.Errno)                      = num.Add
	_ func(a, b string) (string, api.Errno)                      = num.Sub
	_ func(a, b string) (string, api.Errno)                      = num.Mul
	_ func(a, b string) (string, api.Errno)                      = num.Div
	_ func(a, b string) (string, api.Errno)                      = num.IDiv
	_ func(a, b string) (string, api.Errno)                      = num.Mod
	_ func(a string) (string, api.Errno)                         = num.Neg
	_ func(a, b string) (int, api.Errno)                         = num.Cmp
	_ func(a string, digits int, how string) (string, api.Errno) = num.Round
	_ func(a string) bool                                        = num.IsInt
	// 05: dbl
	_ func(s string) (float64, bool)                               = dbl.Parse
	_ func(f float64) string                                       = dbl.Text
	_ func(s string) (float64, api.Errno)                          = dbl.FromNum
	_ func(f float64) (string, api.Errno)                          = dbl.ToNum
	_ func(op string, a, b float64) (float64, bool)                = dbl.Op
	_ func(f float64, digits int, how string) (float64, api.Errno) = dbl.Round
	// 06: dur
	_ func(s string) (int, api.Errno)    = dur.ParseMonths
	_ func(n int) (string, api.Errno)    = dur.TextMonths
	_ func(s string) (string, api.Errno) = dur.ParseSeconds
	_ func(n string) (string, api.Errno) = dur.TextSeconds
	// 07: time
	_ func(kind int, s string) (time.Moment, api.Errno)                = time.Parse
	_ func(kind int, m time.Moment) (string, api.Errno)                = time.Text
	_ func(m time.Moment) (string, api.Errno)                          = time.Seconds
	_ func(m time.Moment, n int) (time.Moment, api.Errno)              = time.AddMonths
	_ func(m time.Moment, n string) (time.Moment, api.Errno)           = time.AddSeconds
	_ func(m time.Moment, zone int, has bool) (time.Moment, api.Errno) = time.Adjust
	_ func(m time.Moment) int                                          = time.Weekday
	// 08: atom
	_ func(a api.Atom) bool                                = atom.Valid
	_ func(a api.Atom, kind int) (api.Atom, api.Errno)     = atom.Cast
	_ func(op string, a, b api.Atom) (bool, api.Errno)     = atom.Compare
	_ func(op string, a, b api.Atom) (api.Atom, api.Errno) = atom.Arith
	_ func(a api.Atom) (api.Atom, api.Errno)               = atom.Neg
	_ func(a, b api.Atom) bool                             = atom.Same
	// 09: fmtnum
	_ func(n, picture string) (string, api.Errno) = fmtnum.Integer
	_ func(n, picture string) (string, api.Errno) = fmtnum.Number
	// 10: fmtdate
	_ func(a api.Atom, picture string) (string, api.Errno) = fmtdate.Format
	// 11: pull
	_ func(text string) (*pull.Parser, api.Errno)                   = pull.New
	_ func(p *pull.Parser) (api.Event, bool, api.Errno)             = (*pull.Parser).Next
	_ func(p *pull.Parser) (line, col int)                          = (*pull.Parser).Where
	_ func(text string) (l []api.Event, line, col int, e api.Errno) = pull.All
	// 12: tree
	_ func(l []api.Event) (api.Tree, api.Errno)         = tree.Build
	_ func(t api.Tree) api.Errno                        = tree.Check
	_ func(t api.Tree, node, axis int) []int            = tree.Axis
	_ func(t api.Tree, node, axis int, x api.Test) bool = tree.Test
	_ func(t api.Tree, node int) string                 = tree.Text
	_ func(t api.Tree, node int) []api.Event            = tree.Events
	_ func(t api.Tree, node int) api.Tree               = tree.Copy
	_ func(t api.Tree, a int, u api.Tree, b int) bool   = tree.Same
	// 13: simple
	_ func(t simple.Type) api.Errno                            = simple.Check
	_ func(t simple.Type, text string) ([]api.Atom, api.Errno) = simple.Values
	// 14: lex
	_ func(text string) (l []lex.Token, at int, e api.Errno) = lex.Tokens
	// 15: expr
	_ func(text string) (x api.Expr, at int, e api.Errno) = expr.Parse
	_ func(text string) (api.Type, api.Errno)             = expr.ParseType
	_ func(x api.Expr) api.Errno                          = expr.Check
	_ func(x api.Expr) (string, api.Errno)                = expr.Print
	_ func(t api.Type) (string, api.Errno)                = expr.PrintType
	_ func(x, y api.Expr) bool                            = expr.Same
	// 16: types
	_ func(t api.Type) api.Errno                                               = types.Check
	_ func(trees []api.Tree, l []api.Item, t api.Type) bool                    = types.Match
	_ func(t, u api.Type) bool                                                 = types.Sub
	_ func(trees []api.Tree, l []api.Item, t api.Type) ([]api.Item, api.Errno) = types.Convert
	// 17: item
	_ func(trees []api.Tree, l []api.Item) api.Errno               = item.Check
	_ func(trees []api.Tree, l []api.Item) ([]api.Atom, api.Errno) = item.Atomize
	_ func(l []api.Item) (bool, api.Errno)                         = item.Bool
	_ func(trees []api.Tree, x api.Item) (string, api.Errno)       = item.Text
	_ func(trees []api.Tree, l, m []api.Item) (bool, api.Errno)    = item.Deep
	_ func(l []api.Item) ([]api.Item, api.Errno)                   = item.Sort
	_ func(l []api.Item) (n, bytes int)                            = item.Size
	// 18: maps
	_ func(m api.Item, key api.Atom) ([]api.Item, bool)                      = maps.Get
	_ func(m api.Item, key api.Atom, value []api.Item) (api.Item, api.Errno) = maps.Put
	_ func(m api.Item, key api.Atom) (api.Item, api.Errno)                   = maps.Remove
	_ func(l []api.Item, how string) (api.Item, api.Errno)                   = maps.Merge
	_ func(a api.Item, i int) ([]api.Item, api.Errno)                        = maps.At
	_ func(a api.Item, i int, value []api.Item) (api.Item, api.Errno)        = maps.Insert
	_ func(a api.Item, i int) (api.Item, api.Errno)                          = maps.Delete
	_ func(l []api.Item) (api.Item, api.Errno)                               = maps.Join
	_ func(l []api.Item) []api.Item                                          = maps.Flatten
	// 19: lib
	_ func(name string, arity int) bool                                              = lib.Known
	_ func(trees []api.Tree, name string, args [][]api.Item) ([]api.Item, api.Errno) = lib.Call
	// 20: scope
	_ func(x api.Expr, vars []string, funcs []scope.Sig) api.Errno = scope.Check
	_ func(name string, arity int) bool                            = scope.Known
	_ func(x api.Expr) []string                                    = scope.Free
	// 21: eval
	_ func(x api.Expr, v *eval.Env) ([]api.Item, api.Errno)                    = eval.Eval
	_ func(f api.Item, args [][]api.Item, v *eval.Env) ([]api.Item, api.Errno) = eval.Apply
	// 22: parts
	_ func(text string) ([]api.Part, api.Errno)           = parts.Parse
	_ func(l []api.Part) (string, api.Errno)              = parts.Print
	_ func(l []api.Part, v *eval.Env) (string, api.Errno) = parts.Eval
	// 23: pattern
	_ func(text string) ([]api.Expr, api.Errno)                       = pattern.Parse
	_ func(p api.Expr) (string, api.Errno)                            = pattern.Priority
	_ func(p api.Expr, v *eval.Env, tree, node int) (bool, api.Errno) = pattern.Match
	// 24: sheet
	_ func(l []api.Event) (s api.Sheet, line, col int, e api.Errno) = sheet.Parse
	// 25: check
	_ func(s api.Sheet) (line, col int, e api.Errno) = check.Check
	_ func(s api.Sheet) []int                        = check.Order
	// 26: packs
	_ func(l []api.Sheet, main string) (s api.Sheet, line, col int, e api.Errno) = packs.Link
	// 27: modes
	_ func(s api.Sheet, v *eval.Env, tree, node int, mode string, after int) (i int, ok bool, e api.Errno) = modes.Choose
	_ func(prec int, priority string, index int, prec2 int, priority2 string, index2 int) bool             = modes.Before
	// 28: build
	_ func(trees []api.Tree, l []api.Item) (api.Tree, api.Errno)              = build.Complex
	_ func(trees []api.Tree, name string, l []api.Item) (api.Tree, api.Errno) = build.Element
	_ func(trees []api.Tree, l []api.Item, sep string) (string, api.Errno)    = build.Simple
	// 29: sorts
	_ func(rows [][]api.Atom, l []sorts.Spec) ([]int, api.Errno) = sorts.Order
	_ func(a, b []api.Atom, l []sorts.Spec) (int, api.Errno)     = sorts.Compare
	// 30: groups
	_ func(keys [][]api.Atom) (groups [][]int, of []api.Atom) = groups.By
	_ func(keys [][]api.Atom) [][]int                         = groups.Adjacent
	_ func(marked []bool) [][]int                             = groups.Starting
	_ func(marked []bool) [][]int                             = groups.Ending
	// 31: merges
	_ func(sources [][][]api.Atom, l []sorts.Spec) (groups [][]merges.Member, e api.Errno) = merges.Merge
	// 32: keys
	_ func(k api.Key, v *eval.Env, tree int) (api.KeyTable, api.Errno)                    = keys.Build
	_ func(l []api.KeyTable, name string, tree int, values []api.Atom) ([]int, api.Errno) = keys.Lookup
	// 33: accum
	_ func(a api.Accum, v *eval.Env, tree int) (api.AccTable, api.Errno) = accum.Values
	// 34: run
	_ func(s api.Sheet, source api.Tree, params []api.Binding) ([]api.Result, api.Fault) = run.Transform
	// 35: steps
	_ func(s api.Sheet, source api.Tree, params []api.Binding, most int) ([]steps.Stop, api.Fault) = steps.Trace
	_ func(l []steps.Stop, at int, how string, line int) int                                       = steps.Next
	// 36: posture
	_ func(x api.Expr, context int) (posture, sweep int)    = posture.Of
	_ func(l []api.Instr, context int) (posture, sweep int) = posture.Body
	// 37: streamable
	_ func(s api.Sheet) (l []streamable.Report, line, col int, e api.Errno) = streamable.Check
	_ func(l []streamable.Report, depth, long int) int                      = streamable.Bound
	// 38: stream
	_ func(s api.Sheet, mode string, params []api.Binding) (*stream.Run, api.Fault) = stream.New
	_ func(r *stream.Run, x api.Event) api.Fault                                    = (*stream.Run).Feed
	_ func(r *stream.Run) (api.Result, api.Fault)                                   = (*stream.Run).End
	_ func(r *stream.Run) int                                                       = (*stream.Run).Held
	_ func(r *stream.Run) []api.Event                                               = (*stream.Run).Sent
	// 39: json
	_ func(text string) (l []api.Item, at int, e api.Errno) = json.Parse
	_ func(l []api.Item, indent bool) (string, api.Errno)   = json.Text
	// 40: serxml
	_ func(t api.Tree, o api.Output, maps []api.CharMap) (string, api.Errno) = serxml.Write
	// 41: serhtml
	_ func(t api.Tree, o api.Output, maps []api.CharMap) (string, api.Errno) = serhtml.Write
	// 42: serial
	_ func(r api.Result, s api.Sheet) (string, api.Errno) = serial.Write
	// 43: reparse
	_ func(text string) (api.Tree, api.Errno)                           = reparse.HTML
	_ func(text, method string) (t api.Tree, l []api.Item, e api.Errno) = reparse.Back
	// 44: store
	_ func(s api.Sheet) ([]byte, api.Errno) = store.Encode
	_ func(b []byte) (api.Sheet, api.Errno) = store.Decode
	_ func(a, b api.Sheet) bool             = store.Same
	// 45: console
	_ func(text string) (string, int, api.Errno) = console.Run
)

// The types with the fields that the chapters list, in their order: the fields have no names here, so none may be missing or added.
var (
	_ = struct {
		Text   string
		Match  bool
		Groups []string
	}(regex.Piece{})
	_ = struct {
		Year, Month, Day, Hour, Minute int
		Second                         string
		Zone                           int
		Has                            bool
	}(time.Moment{})
	_ = struct {
		Base     int
		List     bool
		Enum     []string
		Pattern  string
		Min, Max string
		Short    int
		Long     int
	}(simple.Type{})
	_ = struct {
		Kind int
		Text string
		At   int
	}(lex.Token{})
	_ = struct {
		Name  string
		Arity int
	}(scope.Sig{})
	_ = struct {
		Descending, Number bool
		Table              *coll.Table
	}(sorts.Spec{})
	_ = struct{ Source, Index int }(merges.Member{})
	_ = struct {
		Line, Col, Depth int
		Kind             int
		Focus            string
		Pos, Len         int
	}(steps.Stop{})
	_ = struct {
		Mode    string
		Buffers int
	}(streamable.Report{})
)

// The fields of an environment: chapter 21 describes them and leaves it open whether there are others.
var _ = eval.Env{
	Trees: []api.Tree{}, Vars: []api.Binding{}, Base: 0, Defs: []api.Def{}, Keys: []api.KeyTable{}, Accs: []api.AccTable{},
	Has: false, Item: api.Item{}, Pos: 0, Len: 0, Group: []api.Item{}, GroupKey: []api.Item{}, Captures: []string{}, Steps: 0, Depth: 0,
}

// TestConstants checks the constants that the chapters list.
func TestConstants(t *testing.T) {
	for _, x := range []struct {
		name      string
		got, want int
	}{
		{"lex.Name", lex.Name, 0}, {"lex.Number", lex.Number, 1}, {"lex.String", lex.String, 2}, {"lex.Sign", lex.Sign, 3},
		{"expr.MaxExprs", expr.MaxExprs, 5000}, {"expr.MaxTokens", expr.MaxTokens, 50000}, {"expr.MaxOpen", expr.MaxOpen, 1000},
		{"sorts.None", sorts.None, -1},
		{"posture.Grounded", posture.Grounded, 0}, {"posture.Climbing", posture.Climbing, 1}, {"posture.Striding", posture.Striding, 2}, {"posture.Crawling", posture.Crawling, 3}, {"posture.Roaming", posture.Roaming, 4},
		{"posture.Motionless", posture.Motionless, 0}, {"posture.Consuming", posture.Consuming, 1}, {"posture.FreeRanging", posture.FreeRanging, 2},
		{"store.MaxStore", store.MaxStore, 1 << 24}, {"store.MaxNest", store.MaxNest, 1000},
	} {
		if x.got != x.want {
			t.Errorf("%s: %d, not %d", x.name, x.got, x.want)
		}
	}
}
