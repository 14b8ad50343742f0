package record

import (
	"strings"

	"bolide/api"
)

const (
	mark     = "bol1" // with which all bytes of files begin
	width    = 8      // how many bytes a number has
	maxItems = 5000   // how many items a list of bytes can have
)

// writer collects the bytes of numbers.
type writer struct {
	bytes []byte
}

// numbers writes numbers, the highest byte of each first.
func (w *writer) numbers(l ...int64) {
	for _, n := range l {
		for i := range width {
			w.bytes = append(w.bytes, byte(n>>(8*(width-1-i))))
		}
	}
}

// flag writes true or false.
func (w *writer) flag(is bool) {
	n := int64(0)
	if is {
		n = 1
	}
	w.numbers(n)
}

// writeList writes how many items a list has, and the items.
func writeList[T any](w *writer, l []T, item func(T)) {
	w.numbers(int64(len(l)))
	for _, x := range l {
		item(x)
	}
}

func (w *writer) span(s api.Span) {
	w.numbers(s.Lo, s.Hi)
}

func (w *writer) vec(v api.Vec) {
	w.numbers(v.X, v.Y)
}

func (w *writer) body(b api.Body) {
	w.numbers(b.Mu, b.Radius)
	writeList(w, b.Track, w.vec)
}

func (w *writer) station(o api.Station) {
	w.numbers(int64(o.ID))
	w.vec(o.Off)
}

func (w *writer) catalog(c api.Catalog) {
	w.numbers(int64(c.Version))
	w.span(c.Bias)
}

func (w *writer) drift(d api.Drift) {
	w.span(d.Light)
	w.span(d.Heat)
	w.numbers(d.Gas)
}

func (w *writer) box(b api.Box) {
	for _, s := range [...]api.Span{b.X, b.Y, b.U, b.V} {
		w.span(s)
	}
}

func (w *writer) sight(x api.Sight) {
	w.numbers(int64(x.Kind), int64(x.Station), int64(x.Catalog), x.Tick)
	w.vec(x.Dir)
	w.numbers(x.Err, x.Lo, x.Hi)
}

func (w *writer) entry(x api.Entry) {
	w.numbers(int64(x.Kind), x.Known)
	w.flag(x.Exercise)
	switch x.Kind {
	case api.EntrySight:
		w.sight(x.Sight)
	case api.EntryDrift:
		w.drift(x.Drift)
	case api.EntryBack:
		w.numbers(int64(x.Back))
	case api.EntryDecide:
		o := x.Outcome
		w.numbers(int64(x.Ahead), int64(o.Out), int64(o.Left), int64(o.Miss), int64(o.Hit))
	}
}

func (w *writer) file(f api.File) {
	writeList(w, f.Sky.World.Bodies, w.body)
	w.numbers(int64(f.Sky.World.Home))
	writeList(w, f.Sky.Stations, w.station)
	writeList(w, f.Sky.Catalogs, w.catalog)
	w.drift(f.Drift)
	w.numbers(f.Tick)
	writeList(w, f.Set, w.box)
	writeList(w, f.Entries, w.entry)
}

// Write returns the bytes of a file.
func Write(f api.File) (string, api.Errno) {
	if e := Check(f); e != api.OK {
		return "", e
	}
	w := writer{bytes: []byte(mark)}
	w.file(f)
	return string(w.bytes), api.OK
}

// reader reads what is left of bytes, number by number. From the first part on that is not built as it should be it is bad, and all numbers are 0.
type reader struct {
	left string
	bad  bool
}

// number reads a number.
func (r *reader) number() int64 {
	if len(r.left) < width {
		r.bad = true
	}
	if r.bad {
		return 0
	}
	n := uint64(0)
	for i := range width {
		n = n<<8 | uint64(r.left[i])
	}
	r.left = r.left[width:]
	return int64(n)
}

// asInt reads a number that is an int in package api.
func (r *reader) asInt() int {
	return int(r.number())
}

// flag reads true or false.
func (r *reader) flag() bool {
	n := r.number()
	if n != 0 && n != 1 {
		r.bad = true
	}
	return n == 1
}

// readList reads how many items a list has, and the items.
func readList[T any](r *reader, item func() T) []T {
	n := r.number()
	if n < 0 || n > maxItems {
		r.bad = true
	}
	var l []T
	for i := int64(0); i < n && !r.bad; i++ {
		l = append(l, item())
	}
	return l
}

func (r *reader) span() api.Span {
	return api.Span{Lo: r.number(), Hi: r.number()}
}

func (r *reader) vec() api.Vec {
	return api.Vec{X: r.number(), Y: r.number()}
}

func (r *reader) body() api.Body {
	return api.Body{Mu: r.number(), Radius: r.number(), Track: readList(r, r.vec)}
}

func (r *reader) station() api.Station {
	return api.Station{ID: r.asInt(), Off: r.vec()}
}

func (r *reader) catalog() api.Catalog {
	return api.Catalog{Version: r.asInt(), Bias: r.span()}
}

func (r *reader) drift() api.Drift {
	return api.Drift{Light: r.span(), Heat: r.span(), Gas: r.number()}
}

func (r *reader) box() api.Box {
	return api.Box{X: r.span(), Y: r.span(), U: r.span(), V: r.span()}
}

func (r *reader) sight() api.Sight {
	return api.Sight{
		Kind: r.asInt(), Station: r.asInt(), Catalog: r.asInt(), Tick: r.number(),
		Dir: r.vec(), Err: r.number(), Lo: r.number(), Hi: r.number(),
	}
}

func (r *reader) outcome() api.Outcome {
	return api.Outcome{Out: r.asInt(), Left: r.asInt(), Miss: r.asInt(), Hit: r.asInt()}
}

func (r *reader) entry() api.Entry {
	x := api.Entry{Kind: r.asInt(), Known: r.number(), Exercise: r.flag()}
	switch x.Kind {
	case api.EntrySight:
		x.Sight = r.sight()
	case api.EntryDrift:
		x.Drift = r.drift()
	case api.EntryBack:
		x.Back = r.asInt()
	case api.EntryDecide:
		x.Ahead, x.Outcome = r.asInt(), r.outcome()
	default:
		r.bad = true
	}
	return x
}

func (r *reader) world() api.World {
	return api.World{Bodies: readList(r, r.body), Home: r.asInt()}
}

func (r *reader) sky() api.Sky {
	return api.Sky{World: r.world(), Stations: readList(r, r.station), Catalogs: readList(r, r.catalog)}
}

func (r *reader) file() api.File {
	return api.File{Sky: r.sky(), Drift: r.drift(), Tick: r.number(), Set: readList(r, r.box), Entries: readList(r, r.entry)}
}

// Read returns the file that is written in a string.
func Read(b string) (api.File, api.Errno) {
	numbers, ok := strings.CutPrefix(b, mark)
	r := reader{left: numbers, bad: !ok}
	f := r.file()
	if r.bad || r.left != "" {
		return api.File{}, api.ErrForm
	}
	if e := Check(f); e != api.OK {
		return api.File{}, e
	}
	return f, api.OK
}
