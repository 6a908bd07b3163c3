package plan_test

import (
	"fmt"
	"math"
	"reflect"
	"slices"
	"strconv"
	"strings"
	"testing"

	"hackle/api"
	"hackle/check"
	"hackle/class"
	"hackle/dfa"
	"hackle/mini"
	"hackle/octs"
	"hackle/plan"
	"hackle/rprint"
	"hackle/rules"
	"hackle/rx"
	"hackle/table"
)

// most is the greatest count of what follows.
const most = 1 << 40

// P16.1, Compile

func TestCompileByHand(t *testing.T) {
	f := read(t, "frag d /[0-9]/", "mode a limit 64 end", "rule x /x<d>*/ -> b", "rule n /y/ dec 99 /:/ count 1 max 100 -> a",
		"mode b limit 4096", "rule h // hex 9223372036854775807 // until \"\\r\\n\" max 7 -> b", "mode c limit 1", "rule o /z/ until own max 1099511627776 -> a", "rule x /z/ -> c")
	p, x, e := plan.Compile(f)
	if e != api.OK || x != (check.Fault{}) {
		t.Fatal(x, e)
	}
	tables := [][]api.Re{
		{f.Modes[0].Rules[0].Before, rx.Cat(rx.Text("y"), rx.Rep(rx.Byte(octs.Range('0', '9')), 1, -1), rx.Text(":"))},
		{rx.Rep(rx.Byte(octs.Any(octs.Range('0', '9'), octs.Any(octs.Range('a', 'f'), octs.Range('A', 'F')))), 1, -1)},
		{rx.Text("z"), rx.Text("z")},
	}
	want := plan.Plan{Modes: []plan.Mode{
		{Name: "a", End: true, Limit: 64, Rules: []plan.Rule{
			{Name: "x", Next: api.Next{Mode: 1}},
			{Name: "n", Base: 10, Most: 99, Next: api.Next{Kind: api.NextCount, Add: 1, Max: 100}},
		}},
		{Name: "b", Limit: 4096, Rules: []plan.Rule{{Name: "h", Base: 16, Most: api.MaxInt, Next: api.Next{Kind: api.NextUntil, Mode: 1, Max: 7, Delim: "\r\n"}}}},
		{Name: "c", Limit: 1, Rules: []plan.Rule{
			{Name: "o", Next: api.Next{Kind: api.NextUntil, Max: most, Own: true}},
			{Name: "x", Next: api.Next{Mode: 2}},
		}},
	}}
	for i, l := range tables {
		want.Modes[i].Table, _ = table.Make(l)
	}
	if !sameModel(p, want) {
		t.Errorf("%+v", p)
	}
	if !plan.May(p) || !plan.Same(p, want) {
		t.Error("may, or same")
	}
	for _, x := range []struct {
		mode, limit       int
		text              string
		far, longest, tag int
	}{
		{0, 9, "x12y", 3, 3, 0}, {0, 9, "y12:", 4, 4, 1}, {0, 9, "y:", 1, 0, -1}, {0, 9, "y1", 2, 0, -1}, {1, 4096, "fFg", 2, 2, 0}, {2, 1, "zz", 1, 1, 0},
	} {
		if far, longest, tag := table.Match(p.Modes[x.mode].Table, x.text, x.limit); far != x.far || longest != x.longest || tag != x.tag {
			t.Errorf("%+v: %d, %d, %d", x, far, longest, tag)
		}
	}
}

// The first fault is told, and no plan.
func TestCompileOfFaults(t *testing.T) {
	may := read(t, "mode a limit 5", "rule x /y/ -> a")
	mayNot := func(do func(f *api.File)) api.File {
		f := read(t, "mode a limit 5", "rule x /y/ -> a")
		do(&f)
		return f
	}
	for what, x := range map[string]struct {
		f    api.File
		want check.Fault
	}{
		"nothing":           {api.File{}, check.Fault{Mode: -1, Rule: -1, E: api.ErrArg}},
		"a limit":           {mayNot(func(f *api.File) { f.Modes[0].Limit = 0 }), check.Fault{Mode: -1, Rule: -1, E: api.ErrArg}},
		"a base":            {mayNot(func(f *api.File) { f.Modes[0].Rules[0].Base = 8 }), check.Fault{Mode: -1, Rule: -1, E: api.ErrArg}},
		"a fragment":        {mayNot(func(f *api.File) { f.Frags = []api.Frag{{Name: "?"}} }), check.Fault{Mode: -1, Rule: -1, E: api.ErrArg}},
		"no rule":           {read(t, "mode a limit 5"), check.Fault{Mode: 0, Rule: -1, E: api.ErrEmpty}},
		"no rule of a mode": {read(t, "mode a limit 5", "rule x /y/ -> a", "mode b limit 5"), check.Fault{Mode: 1, Rule: -1, E: api.ErrEmpty}},
		"the empty text":    {read(t, "mode a limit 5", "rule x /y/ -> a", "rule y /y*/ -> a"), check.Fault{Mode: 0, Rule: 1, E: api.ErrEmpty}},
		"a digit":           {read(t, "mode a limit 5", "rule x /1/ dec 9 // -> a"), check.Fault{E: api.ErrSplit}},
		"no number":         {read(t, "mode a limit 5", "rule x /1/ count 0 max 9 -> a"), check.Fault{E: api.ErrDigit}},
		"a limit of own":    {read(t, "mode a limit 65", "rule x /1/ until own max 9 -> a"), check.Fault{E: api.ErrRange}},
		"too many states":   {read(t, "mode a limit 5", "rule x /x/ -> a", "mode b limit 5", "rule x /(a|b)*a(a|b){9}/ -> a"), check.Fault{Mode: 1, Rule: -1, E: api.ErrMany}},
		"too many nodes": {mayNot(func(f *api.File) {
			f.Modes[0].Rules[0] = api.Rule{Name: "x", Before: rx.Text(strings.Repeat("x", 299)), Base: 10}
		}), check.Fault{E: api.ErrMany}},
		"two rules":           {read(t, "mode a limit 65", "rule x /y/ -> a", "rule y /1/ until own max 9 -> a", "rule z // -> a"), check.Fault{Mode: 0, Rule: 1, E: api.ErrRange}},
		"two modes":           {read(t, "mode a limit 65", "rule x /y/ -> a", "mode b limit 5", "mode c limit 5", "rule x // -> a"), check.Fault{Mode: 1, Rule: -1, E: api.ErrEmpty}},
		"one that isn't used": {read(t, "mode a limit 5", "rule x /y/ -> a", "mode b limit 5", "rule x // -> b"), check.Fault{Mode: 1, Rule: 0, E: api.ErrEmpty}},
	} {
		p, fault, e := plan.Compile(x.f)
		if len(p.Modes) != 0 || fault != x.want || e != x.want.E {
			t.Errorf("%s: %+v, %+v, %d", what, p, fault, e)
		}
	}
	if p, fault, e := plan.Compile(may); len(p.Modes) != 1 || fault != (check.Fault{}) || e != api.OK {
		t.Error("good:", p, fault, e)
	}
}

// Idle rules, and modes that aren't reached, are no faults.
func TestCompileOfIdleRules(t *testing.T) {
	p := made(t, "mode a limit 5", "rule x /[a-z]/ -> a", "rule y /a/ -> b", "mode b limit 5", "rule x /x/ -> b")
	if !plan.May(p) || len(p.Modes) != 2 || len(p.Modes[0].Rules) != 2 || slices.Contains(p.Modes[0].Table.Tag, 1) {
		t.Errorf("%+v", p)
	}
}

func TestCompileAgainstModel(t *testing.T) {
	c := newChance(1)
	told := map[bool]int{}
	for range 3000 {
		f := c.file()
		if c.Intn(20) == 0 {
			f.Modes[c.Intn(len(f.Modes))].Limit = of(c, 0, 4097)
		}
		p, fault, e := plan.Compile(f)
		want, wantFault, wantE := compileModel(f)
		if !sameModel(p, want) || fault != wantFault || e != wantE {
			t.Fatalf("%+v: %+v, %+v, %d", f, p, fault, e)
		}
		told[e == api.OK]++
	}
	if told[true] < 800 || told[false] < 800 {
		t.Error(told)
	}
}

// P16.1, May

// good is a plan that may be, with each kind of what follows.
func good(t *testing.T) plan.Plan {
	return made(t, "mode a limit 64 end", "rule x /x[0-9]*/ -> b", "rule n /y/ dec 99 /:/ count 1 max 100 -> a", "rule h /k/ hex 99 // -> a",
		"mode b limit 64", "rule u /u/ until \"--\" max 7 -> b", "rule o /o+/ until own max 8 -> a")
}

// asks asks what may be, of the program and of the model.
func asks(t *testing.T, what string, p plan.Plan, want bool) {
	t.Helper()
	if got := plan.May(p); got != want {
		t.Errorf("%s: %v", what, got)
	}
	if mayModel(p) != want {
		t.Errorf("%s: the model says %v", what, !want)
	}
}

func TestMay(t *testing.T) {
	asks(t, "good", good(t), true)
	asks(t, "nothing", plan.Plan{}, false)
	asks(t, "no modes", plan.Plan{Modes: []plan.Mode{}}, false)
	asks(t, "empty modes", plan.Plan{Modes: make([]plan.Mode, 3)}, false)
	for what, x := range map[string]struct {
		do   func(m *plan.Mode)
		want bool
	}{
		"as it was":         {func(m *plan.Mode) {}, true},
		"no end":            {func(m *plan.Mode) { m.End = false }, true},
		"another name":      {func(m *plan.Mode) { m.Name = "z9" }, true},
		"no name":           {func(m *plan.Mode) { m.Name = "" }, false},
		"a great letter":    {func(m *plan.Mode) { m.Name = "A" }, false},
		"a digit first":     {func(m *plan.Mode) { m.Name = "1a" }, false},
		"24 bytes":          {func(m *plan.Mode) { m.Name = strings.Repeat("m", 24) }, true},
		"25 bytes":          {func(m *plan.Mode) { m.Name = strings.Repeat("m", 25) }, false},
		"a mode's name":     {func(m *plan.Mode) { m.Name = "b" }, false},
		"a rule's name":     {func(m *plan.Mode) { m.Name = "x" }, true},
		"limit 1":           {func(m *plan.Mode) { m.Limit = 1 }, true},
		"limit 0":           {func(m *plan.Mode) { m.Limit = 0 }, false},
		"limit -1":          {func(m *plan.Mode) { m.Limit = -1 }, false},
		"the least limit":   {func(m *plan.Mode) { m.Limit = math.MinInt }, false},
		"limit 4096":        {func(m *plan.Mode) { m.Limit = 4096 }, true},
		"limit 4097":        {func(m *plan.Mode) { m.Limit = 4097 }, false},
		"the most":          {func(m *plan.Mode) { m.Limit = math.MaxInt }, false},
		"no rules":          {func(m *plan.Mode) { m.Rules = nil }, false},
		"rules cut to none": {func(m *plan.Mode) { m.Rules = m.Rules[:0] }, false},
		"too few rules":     {func(m *plan.Mode) { m.Rules = m.Rules[:2] }, false},
		"rules more":        {func(m *plan.Mode) { m.Rules = append(m.Rules, plan.Rule{Name: "more"}) }, true},
		"rules turned":      {func(m *plan.Mode) { slices.Reverse(m.Rules) }, true},
	} {
		p := good(t)
		x.do(&p.Modes[0])
		asks(t, what, p, x.want)
	}
}

func TestMayOfRules(t *testing.T) {
	for what, x := range map[string]struct {
		do   func(r *plan.Rule)
		want bool
	}{
		"as it was":         {func(r *plan.Rule) {}, true},
		"another name":      {func(r *plan.Rule) { r.Name = "q0" }, true},
		"no name":           {func(r *plan.Rule) { r.Name = "" }, false},
		"a great letter":    {func(r *plan.Rule) { r.Name = "nN" }, false},
		"24 bytes":          {func(r *plan.Rule) { r.Name = strings.Repeat("r", 24) }, true},
		"25 bytes":          {func(r *plan.Rule) { r.Name = strings.Repeat("r", 25) }, false},
		"a rule's name":     {func(r *plan.Rule) { r.Name = "h" }, false},
		"a mode's name":     {func(r *plan.Rule) { r.Name = "a" }, true},
		"one of another":    {func(r *plan.Rule) { r.Name = "u" }, true},
		"base 16":           {func(r *plan.Rule) { r.Base = 16 }, true},
		"base 0":            {func(r *plan.Rule) { r.Base, r.Most = 0, 0 }, false},
		"base 8":            {func(r *plan.Rule) { r.Base = 8 }, false},
		"base 2":            {func(r *plan.Rule) { r.Base = 2 }, false},
		"base -10":          {func(r *plan.Rule) { r.Base = -10 }, false},
		"base 10 and more":  {func(r *plan.Rule) { r.Base = 10 + 1<<32 }, false},
		"most 0":            {func(r *plan.Rule) { r.Most = 0 }, true},
		"the most":          {func(r *plan.Rule) { r.Most = api.MaxInt }, true},
		"more than that":    {func(r *plan.Rule) { r.Most = api.MaxInt + 1 }, false},
		"all bits":          {func(r *plan.Rule) { r.Most = math.MaxUint64 }, false},
		"no base":           {func(r *plan.Rule) { *r = plan.Rule{Name: "n"} }, true},
		"no base, most 1":   {func(r *plan.Rule) { *r = plan.Rule{Name: "n", Most: 1} }, false},
		"kind 3":            {func(r *plan.Rule) { r.Next.Kind = 3 }, false},
		"kind -1":           {func(r *plan.Rule) { r.Next.Kind = -1 }, false},
		"kind 0":            {func(r *plan.Rule) { r.Next.Kind = 0 }, false},
		"kind 2":            {func(r *plan.Rule) { r.Next.Kind = 2 }, false},
		"mode 1":            {func(r *plan.Rule) { r.Next.Mode = 1 }, true},
		"mode 2":            {func(r *plan.Rule) { r.Next.Mode = 2 }, false},
		"mode -1":           {func(r *plan.Rule) { r.Next.Mode = -1 }, false},
		"a great mode":      {func(r *plan.Rule) { r.Next.Mode = math.MaxInt }, false},
		"add 0":             {func(r *plan.Rule) { r.Next.Add = 0 }, true},
		"add beyond max":    {func(r *plan.Rule) { r.Next.Add = 101 }, true},
		"the greatest add":  {func(r *plan.Rule) { r.Next.Add = most }, true},
		"a greater add":     {func(r *plan.Rule) { r.Next.Add = most + 1 }, false},
		"add -1":            {func(r *plan.Rule) { r.Next.Add = -1 }, false},
		"max 0":             {func(r *plan.Rule) { r.Next.Max = 0 }, true},
		"the greatest max":  {func(r *plan.Rule) { r.Next.Max = most }, true},
		"a greater max":     {func(r *plan.Rule) { r.Next.Max = most + 1 }, false},
		"max -1":            {func(r *plan.Rule) { r.Next.Max = -1 }, false},
		"own of a count":    {func(r *plan.Rule) { r.Next.Own = true }, false},
		"delim of a count":  {func(r *plan.Rule) { r.Next.Delim = "-" }, false},
		"nothing":           {func(r *plan.Rule) { r.Next = api.Next{} }, true},
		"own of nothing":    {func(r *plan.Rule) { r.Next = api.Next{Own: true} }, false},
		"delim of nothing":  {func(r *plan.Rule) { r.Next = api.Next{Delim: "-"} }, false},
		"add of nothing":    {func(r *plan.Rule) { r.Next = api.Next{Add: 1} }, false},
		"max of nothing":    {func(r *plan.Rule) { r.Next = api.Next{Max: 1} }, false},
		"until":             {func(r *plan.Rule) { r.Next = api.Next{Kind: 2, Delim: "-", Max: most, Mode: 1} }, true},
		"until 64 bytes":    {func(r *plan.Rule) { r.Next = api.Next{Kind: 2, Delim: strings.Repeat("-", 64)} }, true},
		"until 65 bytes":    {func(r *plan.Rule) { r.Next = api.Next{Kind: 2, Delim: strings.Repeat("-", 65)} }, false},
		"until no bytes":    {func(r *plan.Rule) { r.Next = api.Next{Kind: 2} }, false},
		"until, add":        {func(r *plan.Rule) { r.Next = api.Next{Kind: 2, Delim: "-", Add: 1} }, false},
		"until, mode 2":     {func(r *plan.Rule) { r.Next = api.Next{Kind: 2, Delim: "-", Mode: 2} }, false},
		"until, more max":   {func(r *plan.Rule) { r.Next = api.Next{Kind: 2, Delim: "-", Max: most + 1} }, false},
		"until own":         {func(r *plan.Rule) { r.Next = api.Next{Kind: 2, Own: true, Max: 7} }, true},
		"until own, delim":  {func(r *plan.Rule) { r.Next = api.Next{Kind: 2, Own: true, Delim: "-"} }, false},
		"until own, add":    {func(r *plan.Rule) { r.Next = api.Next{Kind: 2, Own: true, Add: 1} }, false},
		"until own, no num": {func(r *plan.Rule) { *r = plan.Rule{Name: "n", Next: api.Next{Kind: 2, Own: true}} }, true},
	} {
		p := good(t)
		x.do(&p.Modes[0].Rules[1])
		asks(t, what, p, x.want)
	}
	for base, want := range map[int]bool{0: false, 10: true, 16: true} {
		p := good(t)
		p.Modes[0].Rules[2].Base, p.Modes[0].Rules[2].Most = base, 0
		p.Modes[0].Rules[2].Next = api.Next{Kind: 1, Max: 9}
		asks(t, fmt.Sprint("a count of base ", base), p, want)
	}
	for limit, want := range map[int]bool{1: true, 63: true, 64: true, 65: false, 4096: false} {
		p := good(t)
		p.Modes[1].Limit = limit
		asks(t, fmt.Sprint("own of limit ", limit), p, want)
		p.Modes[1].Rules[1].Next = api.Next{Kind: 2, Delim: "-"}
		asks(t, fmt.Sprint("delim of limit ", limit), p, true)
	}
}

func TestMayOfManyModesAndRules(t *testing.T) {
	one := made(t, "mode a limit 5", "rule x /x/ -> a").Modes[0]
	many := func(modes, rules int) plan.Plan {
		var p plan.Plan
		for i := range modes {
			m := one
			m.Name, m.Rules = fmt.Sprint("m", i), nil
			for k := range rules {
				m.Rules = append(m.Rules, plan.Rule{Name: fmt.Sprint("r", k), Next: api.Next{Mode: modes - 1}})
			}
			p.Modes = append(p.Modes, m)
		}
		return p
	}
	asks(t, "16 modes", many(16, 1), true)
	asks(t, "17 modes", many(17, 1), false)
	asks(t, "40 rules", many(1, 40), true)
	asks(t, "41 rules", many(1, 41), false)
	asks(t, "16 modes of 40 rules", many(16, 40), true)
	for _, i := range []int{0, 7, 15} {
		p := many(16, 40)
		p.Modes[i].Rules[39].Next.Mode = 16
		asks(t, fmt.Sprint("the last rule of mode ", i), p, false)
		p = many(16, 40)
		p.Modes[i].Rules[39].Name = "r3"
		asks(t, fmt.Sprint("a name in mode ", i), p, false)
		p = many(16, 40)
		p.Modes[i].Name = p.Modes[(i+3)%16].Name
		asks(t, fmt.Sprint("the name of mode ", i), p, false)
		p = many(16, 40)
		p.Modes[i].Rules = p.Modes[i].Rules[:0]
		asks(t, fmt.Sprint("no rule of mode ", i), p, false)
		p = many(16, 40)
		p.Modes[i].Table = table.Table{}
		asks(t, fmt.Sprint("no table of mode ", i), p, false)
	}
}

// Of each mode the table must be one, and tell none but its rules.
func TestMayOfTables(t *testing.T) {
	for what, x := range map[string]struct {
		do   func(x *table.Table)
		want bool
	}{
		"as it was":           {func(x *table.Table) {}, true},
		"nothing":             {func(x *table.Table) { *x = table.Table{} }, false},
		"no state":            {func(x *table.Table) { x.Next, x.Tag, x.Live = nil, nil, nil }, false},
		"no live":             {func(x *table.Table) { x.Live = nil }, false},
		"live turned":         {func(x *table.Table) { x.Live[1] = !x.Live[1] }, false},
		"live more":           {func(x *table.Table) { x.Live = append(x.Live, false) }, false},
		"the first with one":  {func(x *table.Table) { x.Tag[0] = 0 }, false},
		"no class":            {func(x *table.Table) { x.Classes = class.Classes{} }, false},
		"classes turned":      {func(x *table.Table) { x.Classes.Of[0] = 1 }, false},
		"a state too far":     {func(x *table.Table) { x.Next[0][0] = len(x.Next) }, false},
		"a tag of the last":   {func(x *table.Table) { setTag(x, 2) }, true},
		"a tag beyond":        {func(x *table.Table) { setTag(x, 3) }, false},
		"a tag far beyond":    {func(x *table.Table) { setTag(x, 39) }, false},
		"a tag that isn't":    {func(x *table.Table) { setTag(x, 40) }, false},
		"a tag below":         {func(x *table.Table) { setTag(x, -2) }, false},
		"a row too short":     {func(x *table.Table) { x.Next[1] = x.Next[1][1:] }, false},
		"a state twice":       {func(x *table.Table) { twice(x) }, false},
		"one of another mode": {func(x *table.Table) { *x = made(t, "mode a limit 1", "rule x /abc/ -> a").Modes[0].Table }, true},
		"one of more rules": {func(x *table.Table) {
			*x = made(t, "mode a limit 1", "rule x /a/ -> a", "rule y /b/ -> a", "rule z /c/ -> a", "rule w /d/ -> a").Modes[0].Table
		}, false},
	} {
		for i := range 2 {
			p := good(t)
			p.Modes[1].Rules = append(p.Modes[1].Rules, plan.Rule{Name: "more"})
			x.do(&p.Modes[i].Table)
			asks(t, fmt.Sprint(what, i), p, x.want)
		}
	}
}

// setTag makes the tag of a state another one, in a table that still may be.
func setTag(x *table.Table, tag int) {
	d := x.Dfa
	for i := range d.Tag {
		if d.Tag[i] == 1 {
			d.Tag[i] = tag
		}
	}
	if t, e := table.Of(d); e == api.OK {
		*x = t
	}
}

// twice adds a state that is alike the last one.
func twice(x *table.Table) {
	end := len(x.Next) - 1
	x.Next = append(x.Next, slices.Clone(x.Next[end]))
	x.Tag = append(x.Tag, x.Tag[end])
	x.Live = append(x.Live, x.Live[end])
	for k, to := range x.Next[0] {
		if to == end {
			x.Next[0][k] = end + 1
		}
	}
}

// wild is a number of which many may not be.
func (c chance) wild() int {
	return of(c, 0, 0, 1, 1, 2, 3, 9, 10, 16, 63, 64, 65, 4096, 4097, most, most+1, -1, -2, math.MaxInt, math.MinInt)
}

// spoilt changes something of p, after which it may be or not.
func (c chance) spoilt(p *plan.Plan) {
	if len(p.Modes) == 0 {
		return
	}
	m := &p.Modes[c.Intn(len(p.Modes))]
	switch c.Intn(9) {
	case 0:
		m.Name = of(c, "m0", "m1", "a", "", "M", "r0", "a b", "z9")
	case 1:
		m.Limit = c.wild()
	case 2:
		p.Modes = slices.Delete(p.Modes, 0, 1)
	case 3:
		m.Rules = append(m.Rules, plan.Rule{Name: of(c, "r0", "r9", "", "x")})
	case 4:
		m.Rules = m.Rules[:max(len(m.Rules)-1, 0)]
	case 5:
		c.spoiltTable(&m.Table)
	default:
		if len(m.Rules) > 0 {
			c.spoiltRule(&m.Rules[c.Intn(len(m.Rules))])
		}
	}
}

func (c chance) spoiltRule(r *plan.Rule) {
	switch n := &r.Next; c.Intn(9) {
	case 0:
		r.Name = of(c, "r0", "r1", "a", "", "R", "m0")
	case 1:
		r.Base = c.wild()
	case 2:
		r.Most = uint64(c.wild())
	case 3:
		n.Kind = c.wild()
	case 4:
		n.Mode = c.wild()
	case 5:
		n.Add = c.wild()
	case 6:
		n.Max = c.wild()
	case 7:
		n.Own = !n.Own
	case 8:
		n.Delim = of(c, "", "-", "--", strings.Repeat("-", 64), strings.Repeat("-", 65))
	}
}

func (c chance) spoiltTable(x *table.Table) {
	if len(x.Next) == 0 || len(x.Live) == 0 || len(x.Tag) == 0 {
		return
	}
	switch c.Intn(6) {
	case 0:
		x.Live[c.Intn(len(x.Live))] = c.Intn(2) == 0
	case 1:
		x.Tag[c.Intn(len(x.Tag))] = c.wild()
	case 2:
		if row := x.Next[c.Intn(len(x.Next))]; len(row) > 0 {
			row[c.Intn(len(row))] = c.wild()
		}
	case 3:
		x.Classes.Of[c.Intn(256)] = uint8(c.Intn(3))
	case 4:
		x.Classes.N = c.wild()
	case 5:
		twice(x)
	}
}

func TestMayAgainstModel(t *testing.T) {
	c := newChance(2)
	told := map[bool]int{}
	for range 4000 {
		p := c.plan()
		for range c.Intn(4) {
			c.spoilt(&p)
		}
		got := plan.May(p)
		if got != mayModel(p) {
			t.Fatalf("%+v: %v", p, got)
		}
		told[got]++
	}
	if told[true] < 1000 || told[false] < 1000 {
		t.Error(told)
	}
}

// P16.1, Same

// changes is what makes another plan of one with the modes of good.
func changes() map[string]func(p *plan.Plan) {
	return map[string]func(p *plan.Plan){
		"a mode less":    func(p *plan.Plan) { p.Modes = p.Modes[:1] },
		"no mode":        func(p *plan.Plan) { p.Modes = nil },
		"a mode more":    func(p *plan.Plan) { p.Modes = append(p.Modes, plan.Mode{}) },
		"modes turned":   func(p *plan.Plan) { slices.Reverse(p.Modes) },
		"a mode's name":  func(p *plan.Plan) { p.Modes[1].Name = "z" },
		"end":            func(p *plan.Plan) { p.Modes[1].End = true },
		"limit":          func(p *plan.Plan) { p.Modes[1].Limit = 63 },
		"a rule less":    func(p *plan.Plan) { p.Modes[1].Rules = p.Modes[1].Rules[:1] },
		"a rule more":    func(p *plan.Plan) { p.Modes[1].Rules = append(p.Modes[1].Rules, plan.Rule{}) },
		"rules turned":   func(p *plan.Plan) { slices.Reverse(p.Modes[0].Rules) },
		"a rule's name":  func(p *plan.Plan) { p.Modes[1].Rules[1].Name = "z" },
		"base":           func(p *plan.Plan) { p.Modes[0].Rules[1].Base = 16 },
		"most":           func(p *plan.Plan) { p.Modes[0].Rules[1].Most = 98 },
		"most, high":     func(p *plan.Plan) { p.Modes[0].Rules[1].Most += 1 << 63 },
		"kind":           func(p *plan.Plan) { p.Modes[0].Rules[1].Next.Kind = 2 },
		"mode":           func(p *plan.Plan) { p.Modes[0].Rules[1].Next.Mode = 1 },
		"add":            func(p *plan.Plan) { p.Modes[0].Rules[1].Next.Add = 2 },
		"max":            func(p *plan.Plan) { p.Modes[0].Rules[1].Next.Max = 1 },
		"own":            func(p *plan.Plan) { p.Modes[1].Rules[0].Next.Own = true },
		"delim":          func(p *plan.Plan) { p.Modes[1].Rules[0].Next.Delim = "-+" },
		"n of classes":   func(p *plan.Plan) { p.Modes[1].Table.Classes.N++ },
		"a class":        func(p *plan.Plan) { p.Modes[1].Table.Classes.Of[255]++ },
		"a next state":   func(p *plan.Plan) { p.Modes[1].Table.Next[1][0] = 7 },
		"a row less":     func(p *plan.Plan) { p.Modes[1].Table.Next = p.Modes[1].Table.Next[:1] },
		"a row more":     func(p *plan.Plan) { p.Modes[1].Table.Next = append(p.Modes[1].Table.Next, nil) },
		"a shorter row":  func(p *plan.Plan) { p.Modes[1].Table.Next[1] = p.Modes[1].Table.Next[1][:1] },
		"a longer row":   func(p *plan.Plan) { p.Modes[1].Table.Next[1] = append(p.Modes[1].Table.Next[1], 0) },
		"a tag":          func(p *plan.Plan) { p.Modes[1].Table.Tag[1] = 7 },
		"a tag less":     func(p *plan.Plan) { p.Modes[1].Table.Tag = p.Modes[1].Table.Tag[:1] },
		"a tag more":     func(p *plan.Plan) { p.Modes[1].Table.Tag = append(p.Modes[1].Table.Tag, 0) },
		"live":           func(p *plan.Plan) { p.Modes[1].Table.Live[1] = !p.Modes[1].Table.Live[1] },
		"a live less":    func(p *plan.Plan) { p.Modes[1].Table.Live = p.Modes[1].Table.Live[:1] },
		"a live more":    func(p *plan.Plan) { p.Modes[1].Table.Live = append(p.Modes[1].Table.Live, false) },
		"no live":        func(p *plan.Plan) { p.Modes[0].Table.Live = nil },
		"another table":  func(p *plan.Plan) { p.Modes[0].Table = p.Modes[1].Table },
		"the first mode": func(p *plan.Plan) { p.Modes[0].Rules[0].Next.Mode = 0 },
	}
}

func TestSame(t *testing.T) {
	a, b := good(t), good(t)
	if !plan.Same(a, a) || !plan.Same(a, b) || !plan.Same(a, hollow(b)) || !plan.Same(hollow(a), b) {
		t.Error("alike")
	}
	for what, do := range changes() {
		b := good(t)
		do(&b)
		if plan.Same(a, b) || plan.Same(b, a) {
			t.Error(what, "isn't seen")
		}
		if !plan.Same(b, b) || !plan.Same(b, copied(b)) {
			t.Error(what, "isn't the same as itself")
		}
	}
}

// Empty lists are nil.
func TestSameOfEmptyLists(t *testing.T) {
	zero := plan.Plan{}
	if !plan.Same(zero, plan.Plan{Modes: []plan.Mode{}}) || !plan.Same(plan.Plan{Modes: []plan.Mode{}}, zero) || !plan.Same(zero, zero) {
		t.Error("no modes")
	}
	hole := plan.Mode{Rules: []plan.Rule{}, Table: table.Table{Dfa: dfa.Dfa{Next: [][]int{{}, nil}, Tag: []int{}}, Live: []bool{}}}
	none := plan.Mode{Table: table.Table{Dfa: dfa.Dfa{Next: [][]int{nil, {}}}}}
	a, b := plan.Plan{Modes: []plan.Mode{hole}}, plan.Plan{Modes: []plan.Mode{none}}
	if !plan.Same(a, b) || !plan.Same(b, a) || plan.Same(a, zero) || plan.Same(zero, b) {
		t.Error("no rules, tags, and rows")
	}
}

func TestSameAgainstModel(t *testing.T) {
	c := newChance(3)
	told := map[bool]int{}
	for range 3000 {
		a := c.plan()
		b := copied(a)
		for range c.Intn(3) {
			c.spoilt(&b)
		}
		if c.Intn(3) == 0 {
			b = hollow(b)
		}
		got := plan.Same(a, b)
		if got != sameModel(a, b) || got != plan.Same(b, a) {
			t.Fatalf("%+v, %+v: %v", a, b, got)
		}
		told[got]++
	}
	if told[true] < 700 || told[false] < 700 {
		t.Error(told)
	}
}

// P16.1, Copy

// anyPlan is a plan that may be, or not.
func (c chance) anyPlan() plan.Plan {
	p := c.plan()
	for range c.Intn(4) {
		c.spoilt(&p)
	}
	if c.Intn(2) == 0 {
		p = hollow(p)
	}
	return p
}

func TestCopySharesNothing(t *testing.T) {
	c := newChance(4)
	for range 1000 {
		p := c.anyPlan()
		was, before := copied(p), rooms(p)
		one, two := plan.Copy(p), plan.Copy(p)
		if !sameModel(one, was) || !plan.Same(one, p) || plan.May(one) != plan.May(p) {
			t.Fatalf("%+v: %+v", p, one)
		}
		scribbled(one)
		if rooms(p) != before || !sameModel(two, was) {
			t.Fatalf("%+v shares memory with its copy", was)
		}
		scribbled(p)
		if !sameModel(two, was) {
			t.Fatalf("%+v is kept", was)
		}
	}
}

// Where one list stands twice in a plan, its copy has two.
func TestCopyPartsLists(t *testing.T) {
	p := good(t)
	row := []int{1, 2, 3}
	p.Modes[0].Table.Next = [][]int{row, row, row[:2], row[1:]}
	p.Modes[0].Table.Tag = row
	p.Modes[1].Rules = p.Modes[0].Rules
	p.Modes = append(p.Modes, p.Modes[0])
	was := copied(p)
	c := plan.Copy(p)
	fill(c.Modes[0].Table.Next[0], 77)
	fill(c.Modes[0].Table.Tag, 78)
	fill(c.Modes[0].Table.Live, true)
	fill(c.Modes[0].Rules, plan.Rule{})
	was.Modes[0] = plan.Mode{}
	next := c.Modes[0].Table.Next
	if !slices.Equal(next[1], row) || !slices.Equal(next[2], row[:2]) || !slices.Equal(next[3], row[1:]) {
		t.Error(next)
	}
	c.Modes[0] = plan.Mode{}
	if !sameModel(c, was) {
		t.Errorf("%+v", c)
	}
	// What is put behind a list comes into no other one.
	c = plan.Copy(p)
	was = copied(p)
	for i := range c.Modes[0].Table.Next {
		_ = append(c.Modes[0].Table.Next[i], 79, 79, 79)
	}
	if !sameModel(c, was) {
		t.Errorf("%+v", c)
	}
}

func TestCopyOfAnyPlan(t *testing.T) {
	wild := plan.Mode{Name: "?", Limit: -1, Table: table.Table{Dfa: dfa.Dfa{Classes: class.Classes{N: -7}, Next: [][]int{nil, {-9, math.MaxInt}, {}}, Tag: []int{9}}, Live: []bool{true, false, true, true}},
		Rules: []plan.Rule{{Base: 7, Most: math.MaxUint64, Next: api.Next{Kind: 9, Mode: -1, Add: -1, Max: math.MinInt, Own: true, Delim: "\xff"}}, {}, {}}}
	for _, p := range []plan.Plan{{}, {Modes: []plan.Mode{}}, {Modes: []plan.Mode{{}}}, {Modes: []plan.Mode{wild, {}, wild}}, {Modes: slices.Repeat([]plan.Mode{wild}, 1000)}} {
		c := plan.Copy(p)
		if !sameModel(c, p) || !plan.Same(c, p) || plan.May(c) {
			t.Errorf("%+v: %+v", p, c)
		}
	}
}

// P16.2, Number

func TestNumberByHand(t *testing.T) {
	long := strings.Repeat("0", 100000)
	for _, x := range []struct {
		base int
		most uint64
		text string
		n    uint64
		e    api.Errno
	}{
		{10, 99, "x07:", 7, api.OK}, {10, 99, "x100:", 0, api.ErrRange},
		// The first run alone counts.
		{10, 99, "7", 7, api.OK}, {10, 99, "7x8", 7, api.OK}, {10, 99, "x7y8z9", 7, api.OK}, {10, 99, "7 100", 7, api.OK}, {10, 99, "100 7", 0, api.ErrRange}, {10, 99, ":12\r\n", 12, api.OK},
		{10, 99, "0x17", 0, api.OK}, {10, 99, "-5", 5, api.OK}, {10, 99, "1.5", 1, api.OK}, {10, 99, "+1_000", 1, api.OK},
		// Bases.
		{10, 9999, "a1f", 1, api.OK}, {16, 9999, "a1f", 0xa1f, api.OK}, {16, 9999, "xA1fG2", 0xa1f, api.OK}, {16, 9999, "g@`G/:09aFg", 0x9af, api.OK}, {16, 9999, "feed", 0, api.ErrRange}, {16, 0xfeed, "feed", 0xfeed, api.OK},
		{0, 0, "7", 0, api.OK}, {0, 5, "7", 0, api.OK}, {0, math.MaxUint64, "", 0, api.OK}, {0, 0, "x", 0, api.OK},
		// No digit.
		{10, 99, "", 0, api.ErrDigit}, {10, 99, "x", 0, api.ErrDigit}, {10, 99, "abcdef", 0, api.ErrDigit}, {16, 99, "", 0, api.ErrDigit}, {16, 99, "xyz", 0, api.ErrDigit}, {10, 0, "::::", 0, api.ErrDigit}, {10, 99, "/:", 0, api.ErrDigit}, {16, 99, "/:@G`g", 0, api.ErrDigit},
		// The greatest numbers.
		{10, 0, "x0", 0, api.OK}, {10, 0, "x00", 0, api.OK}, {10, 0, "x1", 0, api.ErrRange}, {10, 7, "7", 7, api.OK}, {10, 7, "8", 0, api.ErrRange}, {16, 15, "f", 15, api.OK}, {16, 15, "10", 0, api.ErrRange},
		{10, api.MaxInt, "9223372036854775807", api.MaxInt, api.OK}, {10, api.MaxInt, "9223372036854775808", 0, api.ErrRange}, {10, math.MaxUint64, "9223372036854775807", api.MaxInt, api.OK}, {10, math.MaxUint64, "9223372036854775808", 0, api.ErrRange},
		{16, api.MaxInt, "7fffffffffffffff", api.MaxInt, api.OK}, {16, math.MaxUint64, "8000000000000000", 0, api.ErrRange}, {16, api.MaxInt - 1, "7fffffffffffffff", 0, api.ErrRange}, {16, math.MaxUint64, "10000000000000001", 0, api.ErrRange},
		{10, 99, "18446744073709551617", 0, api.ErrRange}, {10, 99, "x" + long + "17y", 17, api.OK}, {10, 99, "x" + long + "170", 0, api.ErrRange}, {10, math.MaxUint64, "1" + long, 0, api.ErrRange}, {10, 99, strings.Repeat("x", 1<<20) + "42", 42, api.OK},
		// Another base is told ahead of all else.
		{8, 99, "7", 0, api.ErrArg}, {8, 99, "", 0, api.ErrArg}, {8, 0, "99999999999999999999", 0, api.ErrArg}, {-1, 9, "7", 0, api.ErrArg}, {1, 9, "x", 0, api.ErrArg},
		{10 + 1<<32, 99, "7", 0, api.ErrArg}, {256 + 16, 99, "7", 0, api.ErrArg}, {math.MaxInt, 99, "7", 0, api.ErrArg}, {math.MinInt, 99, "7", 0, api.ErrArg}, {11, 99, "7", 0, api.ErrArg}, {2, 99, "1", 0, api.ErrArg}, {36, 99, "z", 0, api.ErrArg},
	} {
		if n, e := plan.Number(plan.Rule{Base: x.base, Most: x.most}, x.text); n != x.n || e != x.e {
			t.Errorf("%d, %d, %.40q: %d, %d", x.base, x.most, x.text, n, e)
		}
	}
}

// Nothing but base and greatest number of the rule counts.
func TestNumberOfWhateverFollows(t *testing.T) {
	for _, next := range []api.Next{{}, {Kind: 1, Max: 1}, {Kind: 2, Delim: "1"}, {Kind: 2, Own: true}, {Kind: 9, Mode: -1, Add: -1, Max: -1}} {
		if n, e := plan.Number(plan.Rule{Name: "?", Base: 10, Most: 99, Next: next}, "x12"); n != 12 || e != api.OK {
			t.Errorf("%+v: %d, %d", next, n, e)
		}
	}
}

// Each byte is a digit, or ends a run; bytes that aren't UTF-8, and those of characters, are no digits.
func TestNumberOfEachByte(t *testing.T) {
	for base, digits := range map[int]string{10: "0123456789", 16: "0123456789abcdefABCDEF"} {
		r := plan.Rule{Base: base, Most: api.MaxInt}
		for b := range 256 {
			s := string([]byte{byte(b)})
			for _, text := range []string{s, s + "1", "1" + s, "1" + s + "2", s + s + "3", "\xc3" + s + "4", "\xe2\x82" + s + "5", "\xf0\x90\x80" + s + "6"} {
				n, e := plan.Number(r, text)
				if wantN, wantE := numberModel(r, text); n != wantN || e != wantE {
					t.Errorf("%d, %q: %d, %d", base, text, n, e)
				}
			}
			if _, e := plan.Number(r, s); (e == api.OK) != strings.Contains(digits, string(rune(b))) {
				t.Errorf("%d, %q: %d", base, s, e)
			}
		}
		for _, s := range []string{"\u0130", "\u0131", "\u0661", "\uff11", "\U00010031", "\u0141", "\ufffd", "\u0661x", "\U00010031\u0130"} {
			if n, e := plan.Number(r, s); n != 0 || e != api.ErrDigit {
				t.Errorf("%q: %d, %d", s, n, e)
			}
			if n, e := plan.Number(r, "9"+s+"8"); n != 9 || e != api.OK {
				t.Errorf("%q: %d, %d", s, n, e)
			}
			if n, e := plan.Number(r, s+"8"+s+"7"); n != 8 || e != api.OK {
				t.Errorf("%q: %d, %d", s, n, e)
			}
		}
	}
}

func TestNumberAgainstModel(t *testing.T) {
	c := newChance(5)
	told := map[api.Errno]int{}
	letters := []string{"0123456789", "01xy", "0123456789abcdefABCDEF", "789fFgG", "xyz:;\xff\xc3\xb1", "9", "0x", "ÿ1é2"}
	for range 40000 {
		from := of(c, letters...)
		text := make([]byte, c.Intn(22))
		for i := range text {
			text[i] = from[c.Intn(len(from))]
		}
		if more := of(c, letters...); c.Intn(2) == 0 {
			text = append(text, more...)
		}
		r := plan.Rule{Base: of(c, 10, 16, 10, 16, 10, 16, 0, 8, c.wild()), Most: of[uint64](c, 0, 9, 99, 1<<40, api.MaxInt, math.MaxUint64)}
		n, e := plan.Number(r, string(text))
		if wantN, wantE := numberModel(r, string(text)); n != wantN || e != wantE {
			t.Fatalf("%+v, %q: %d, %d, want %d, %d", r, text, n, e, wantN, wantE)
		}
		told[e]++
	}
	for _, e := range []api.Errno{api.OK, api.ErrArg, api.ErrDigit, api.ErrRange} {
		if told[e] < 1000 {
			t.Error(told)
		}
	}
}

// P16.2, Body

func TestBodyByHand(t *testing.T) {
	for _, x := range []struct {
		next  api.Next
		n     uint64
		many  int
		delim string
		e     api.Errno
	}{
		{api.Next{Kind: 1, Add: 1, Max: 100}, 7, 8, "", api.OK}, {api.Next{Kind: 1, Add: 1, Max: 100}, 100, 0, "", api.ErrBody},
		{api.Next{Kind: 1, Add: 1, Max: 100}, 99, 100, "", api.OK}, {api.Next{Kind: 1, Add: 1, Max: 100}, 0, 1, "", api.OK}, {api.Next{Kind: 1, Add: 0, Max: 100}, 0, 0, "", api.OK},
		{api.Next{Kind: 1, Max: 0}, 0, 0, "", api.OK}, {api.Next{Kind: 1, Max: 0}, 1, 0, "", api.ErrBody}, {api.Next{Kind: 1, Add: 5, Max: 5}, 0, 5, "", api.OK}, {api.Next{Kind: 1, Add: 5, Max: 5}, 1, 0, "", api.ErrBody}, {api.Next{Kind: 1, Add: 6, Max: 5}, 0, 0, "", api.ErrBody},
		{api.Next{Kind: 1, Add: 6, Max: 5}, math.MaxUint64, 0, "", api.ErrBody}, {api.Next{Kind: 1, Add: 6, Max: 9}, math.MaxUint64 - 5, 0, "", api.ErrBody}, {api.Next{Kind: 1, Add: 6, Max: 9}, math.MaxUint64 - 4, 0, "", api.ErrBody}, {api.Next{Kind: 1, Max: most}, api.MaxInt, 0, "", api.ErrBody}, {api.Next{Kind: 1, Max: most}, api.MaxInt + 1, 0, "", api.ErrBody},
		{api.Next{Kind: 1, Max: most}, most, most, "", api.OK}, {api.Next{Kind: 1, Max: most}, most + 1, 0, "", api.ErrBody}, {api.Next{Kind: 1, Add: most, Max: most}, 0, most, "", api.OK}, {api.Next{Kind: 1, Add: most, Max: most}, 1, 0, "", api.ErrBody}, {api.Next{Kind: 1, Add: most, Max: most - 1}, 0, 0, "", api.ErrBody}, {api.Next{Kind: 1, Add: most - 1, Max: most}, 1, most, "", api.OK},
		// No body, and bodies until something.
		{api.Next{}, 0, -1, "", api.OK}, {api.Next{}, math.MaxUint64, -1, "", api.OK}, {api.Next{Mode: 3}, 9, -1, "", api.OK},
		{api.Next{Kind: 2, Delim: "--", Max: 9}, 0, -1, "--", api.OK}, {api.Next{Kind: 2, Delim: "\xff\x00", Max: 0}, math.MaxUint64, -1, "\xff\x00", api.OK}, {api.Next{Kind: 2, Own: true, Max: 9}, 10, -1, "text", api.OK},
		// Of what may not be in a plan.
		{api.Next{Kind: 2}, 5, -1, "", api.OK}, {api.Next{Kind: 2, Own: true, Delim: "--"}, 5, -1, "text", api.OK}, {api.Next{Kind: 2, Add: 5, Delim: "--"}, 5, -1, "--", api.OK}, {api.Next{Kind: 2, Delim: strings.Repeat("-", 65)}, 5, -1, strings.Repeat("-", 65), api.OK},
		{api.Next{Own: true, Delim: "--", Add: 3, Max: 2}, 5, -1, "", api.OK}, {api.Next{Kind: 1, Own: true, Delim: "--", Add: 3, Max: 9}, 5, 8, "", api.OK}, {api.Next{Kind: 1, Mode: -9, Max: 9}, 5, 5, "", api.OK}, {api.Next{Kind: 1, Mode: math.MaxInt, Max: 9}, 5, 5, "", api.OK},
		{api.Next{Kind: 3}, 0, 0, "", api.ErrArg}, {api.Next{Kind: -1}, 0, 0, "", api.ErrArg}, {api.Next{Kind: math.MaxInt}, 0, 0, "", api.ErrArg}, {api.Next{Kind: math.MinInt, Own: true, Delim: "--"}, 0, 0, "", api.ErrArg}, {api.Next{Kind: 1 << 32}, 0, 0, "", api.ErrArg},
		{api.Next{Add: -1}, 0, 0, "", api.ErrArg}, {api.Next{Max: -1}, 0, 0, "", api.ErrArg}, {api.Next{Add: most + 1}, 0, 0, "", api.ErrArg}, {api.Next{Max: most + 1}, 0, 0, "", api.ErrArg}, {api.Next{Add: most, Max: most}, 0, -1, "", api.OK},
		{api.Next{Kind: 1, Add: -1, Max: 9}, 5, 0, "", api.ErrArg}, {api.Next{Kind: 1, Max: most + 1}, 5, 0, "", api.ErrArg}, {api.Next{Kind: 1, Add: most + 1, Max: 9}, 5, 0, "", api.ErrArg}, {api.Next{Kind: 1, Max: -1}, 5, 0, "", api.ErrArg}, {api.Next{Kind: 1, Add: math.MinInt, Max: math.MaxInt}, 5, 0, "", api.ErrArg},
		{api.Next{Kind: 2, Add: -1, Delim: "--"}, 5, 0, "", api.ErrArg}, {api.Next{Kind: 2, Max: most + 1, Delim: "--"}, 5, 0, "", api.ErrArg}, {api.Next{Kind: 2, Max: -1, Own: true}, 5, 0, "", api.ErrArg}, {api.Next{Kind: 2, Max: most, Add: most, Own: true}, 5, -1, "text", api.OK},
		// What may not be is told ahead of a body that is too long.
		{api.Next{Kind: 1, Add: most + 1, Max: 0}, math.MaxUint64, 0, "", api.ErrArg}, {api.Next{Kind: 4, Add: 9, Max: 0}, math.MaxUint64, 0, "", api.ErrArg},
	} {
		if many, delim, e := plan.Body(plan.Rule{Next: x.next}, "text", x.n); many != x.many || delim != x.delim || e != x.e {
			t.Errorf("%+v, %d: %d, %q, %d", x.next, x.n, many, delim, e)
		}
	}
}

// Nothing but what follows counts; the text only where it is the delimiter.
func TestBodyOfAnyRule(t *testing.T) {
	for _, text := range []string{"", "x", "x7:", "\x00\xff", strings.Repeat("x", 5000)} {
		for _, r := range []plan.Rule{{}, {Base: 10, Most: 1}, {Name: "?", Base: -1, Most: math.MaxUint64}} {
			r.Next = api.Next{Kind: 1, Add: 1, Max: 9}
			if many, delim, e := plan.Body(r, text, 5); many != 6 || delim != "" || e != api.OK {
				t.Errorf("%+v: %d, %q, %d", r, many, delim, e)
			}
			r.Next = api.Next{Kind: 2, Own: true}
			if many, delim, e := plan.Body(r, text, 5); many != -1 || delim != text || e != api.OK {
				t.Errorf("%+v: %d, %q, %d", r, many, delim, e)
			}
		}
	}
}

func TestBodyAgainstModel(t *testing.T) {
	c := newChance(6)
	told := map[api.Errno]int{}
	for range 40000 {
		next := api.Next{Kind: of(c, 0, 1, 1, 1, 1, 2, 2, c.wild()), Mode: c.wild(), Add: of(c, c.Intn(9), most-c.Intn(3), 0, c.wild()), Max: of(c, c.Intn(20), most-c.Intn(3), c.wild()), Own: c.Intn(2) == 0, Delim: of(c, "", "-", "--")}
		r := plan.Rule{Name: of(c, "x", ""), Base: c.wild(), Most: uint64(c.wild()), Next: next}
		n := of(c, uint64(c.Intn(20)), uint64(most-c.Intn(20)), uint64(c.wild()), math.MaxUint64-uint64(c.Intn(20)))
		text := of(c, "", "x", "x7", "\xff")
		many, delim, e := plan.Body(r, text, n)
		if wantMany, wantDelim, wantE := bodyModel(r, text, n); many != wantMany || delim != wantDelim || e != wantE {
			t.Fatalf("%+v, %q, %d: %d, %q, %d", r, text, n, many, delim, e)
		}
		told[e]++
	}
	for _, e := range []api.Errno{api.OK, api.ErrArg, api.ErrBody} {
		if told[e] < 1000 {
			t.Error(told)
		}
	}
}

// P16.3

// near is texts of the table, what they begin with, and texts that are nearly so.
func (c chance) near(x table.Table) []string {
	l := []string{"", "x", "7", "x7"}
	for _, s := range table.Texts(x, 12) {
		if len(s) > 24 {
			continue
		}
		at := c.Intn(len(s) + 1)
		l = append(l, s, s[:at], s+s[:at], s[:at]+of(c, "x", "y", ":", "0", "9", "a", "A", "Z")+s[at:], s[:at]+of(c, "x", "7", "F")+s[min(len(s), at+1):])
	}
	return l
}

func TestTablesTagWithTheFirstRule(t *testing.T) {
	c := newChance(7)
	told := map[int]int{}
	for range 1500 {
		f := c.file()
		p, _, e := plan.Compile(f)
		if e != api.OK {
			continue
		}
		if !plan.May(p) || !mayModel(p) {
			t.Fatalf("%+v may not be", p)
		}
		for i, m := range p.Modes {
			if !table.May(m.Table) || !dfa.Same(m.Table.Dfa, mini.Min(m.Table.Dfa)) {
				t.Fatalf("%+v: no table", m)
			}
			for _, s := range c.near(m.Table) {
				want := tagModel(f.Modes[i].Rules, s)
				if tag := dfa.Tag(m.Table.Dfa, s); tag != want {
					t.Fatalf("%+v: %q: %d, want %d", f.Modes[i], s, tag, want)
				}
				told[want]++
			}
		}
	}
	if told[-1] < 5000 || told[0] < 5000 || told[1] < 2000 || told[2] < 500 || told[3] < 100 {
		t.Error(told)
	}
}

// The number that stands in a token is told, whatever stands about it.
func TestNumbersOfTokens(t *testing.T) {
	c := newChance(8)
	told := map[api.Errno]int{}
	for range 2000 {
		x := c.rule(0, 1)
		p, _, e := plan.Compile(api.File{Modes: []api.Mode{{Name: "a", Limit: 9, Rules: []api.Rule{x}}}})
		if e != api.OK || x.Base == 0 {
			continue
		}
		for _, s := range table.Texts(p.Modes[0].Table, 20) {
			want := c.Int63() >> c.Intn(63)
			run := runs[x.Base].FindStringIndex(s)
			s = s[:run[0]] + strings.Repeat("0", c.Intn(3)) + strconv.FormatInt(want, x.Base) + s[run[1]:]
			if tag := dfa.Tag(p.Modes[0].Table.Dfa, s); tag != 0 {
				t.Fatalf("%+v: %q: %d", x, s, tag)
			}
			n, e := plan.Number(p.Modes[0].Rules[0], s)
			if uint64(want) <= x.Most && (n != uint64(want) || e != api.OK) || uint64(want) > x.Most && (n != 0 || e != api.ErrRange) {
				t.Fatalf("%+v: %q: %d, %d", x, s, n, e)
			}
			told[e]++
		}
	}
	if told[api.OK] < 1000 || told[api.ErrRange] < 1000 {
		t.Error(told)
	}
}

// A file that is read, written and read again makes the same plan.
func TestWrittenAndReadAgain(t *testing.T) {
	c := newChance(9)
	some := 0
	for range 1000 {
		f := c.file()
		s, e := rprint.Print(f)
		if e != api.OK {
			continue
		}
		again, _, e := rules.Parse(s)
		if e != api.OK {
			t.Fatalf("%s: %d", s, e)
		}
		one, oneFault, _ := plan.Compile(f)
		two, twoFault, _ := plan.Compile(again)
		if !plan.Same(one, two) || oneFault != twoFault {
			t.Fatalf("%s: other plans", s)
		}
		some += len(one.Modes)
	}
	if some < 300 {
		t.Error("too few plans:", some)
	}
}

// Rules that hold everywhere

// fileRooms is f's lists with all that stands in them, and in their spare room.
func fileRooms(f api.File) string {
	text := fmt.Sprintf("%+v %+v", f.Frags[:cap(f.Frags)], f.Modes[:cap(f.Modes)])
	for _, m := range f.Modes {
		text += fmt.Sprintf("%+v", m.Rules[:cap(m.Rules)])
	}
	return text
}

// roomyFile is f with spare room that is known again.
func roomyFile(f api.File) api.File {
	f.Frags, f.Modes = roomy(f.Frags, api.Frag{Name: "room"}), roomy(f.Modes, api.Mode{Name: "room"})
	for i := range f.Modes {
		f.Modes[i].Rules = roomy(f.Modes[i].Rules, api.Rule{Name: "room"})
	}
	return f
}

func TestCompileChangesAndKeepsNothing(t *testing.T) {
	c := newChance(10)
	for range 500 {
		f := roomyFile(c.file())
		before := fileRooms(f)
		one, _, _ := plan.Compile(f)
		was := copied(one)
		two, _, _ := plan.Compile(f)
		scribbled(two)
		if fileRooms(f) != before || !sameModel(one, was) {
			t.Fatalf("%s is changed, or two plans of it share memory", before)
		}
		for i, m := range f.Modes {
			for k := range m.Rules {
				for _, set := range []*api.Re{&m.Rules[k].Before, &m.Rules[k].After} {
					fill(set.Sub, api.Re{Kind: 77})
				}
			}
			fill(m.Rules, api.Rule{Name: "scribble"})
			f.Modes[i] = api.Mode{}
		}
		if !sameModel(one, was) {
			t.Fatalf("%s is kept", before)
		}
	}
}

// No two lists of a plan share memory.
func TestCompilePartsLists(t *testing.T) {
	p := made(t, "mode a limit 5", "rule x /xyz/ -> a", "mode b limit 5", "rule x /xyz/ -> a")
	was := copied(p)
	for _, row := range p.Modes[0].Table.Next {
		for k := range row {
			row[k]++
		}
		_ = append(row, 5, 5, 5)
	}
	for i, row := range was.Modes[0].Table.Next {
		for k := range row {
			if p.Modes[0].Table.Next[i][k] != row[k]+1 {
				t.Error("two rows share memory")
			}
		}
	}
	fill(p.Modes[0].Table.Tag, 7)
	fill(p.Modes[0].Rules, plan.Rule{})
	p.Modes[0], was.Modes[0] = plan.Mode{}, plan.Mode{}
	if !sameModel(p, was) {
		t.Error("two modes share memory")
	}
}

func TestNothingIsChanged(t *testing.T) {
	c := newChance(11)
	for range 500 {
		p := c.anyPlan()
		was, before := copied(p), rooms(p)
		for range 2 {
			if plan.May(p) != plan.May(was) || !plan.Same(p, was) || !plan.Same(was, p) || !plan.Same(plan.Copy(p), p) {
				t.Fatalf("%+v: other answers", was)
			}
		}
		if !reflect.DeepEqual(copied(p), was) || rooms(p) != before {
			t.Fatalf("%+v is changed", was)
		}
	}
}

// The greatest plans are made, and asked, soon.
func TestTheGreatest(t *testing.T) {
	var f api.File
	for i := range 16 {
		m := api.Mode{Name: fmt.Sprint("m", i), Limit: 4096}
		for k := range 11 {
			re := rx.Cat(rx.Byte(octs.Of(byte(k))), rx.Rep(rx.Byte(octs.Range(byte(k), byte(200+k))), 49, 49))
			m.Rules = append(m.Rules, api.Rule{Name: fmt.Sprint("r", k), Before: re, Next: api.Next{Mode: 15}})
		}
		f.Modes = append(f.Modes, m)
	}
	p, _, e := plan.Compile(f)
	if e != api.OK || !plan.May(p) || len(p.Modes[15].Table.Next) < 500 {
		t.Fatal(e)
	}
	c := plan.Copy(p)
	if !plan.Same(p, c) {
		t.Error("same")
	}
	c.Modes[15].Rules[10].Next.Mode = 16
	if plan.Same(p, c) || plan.May(c) {
		t.Error("the last rule")
	}
}
