package lower_test

import (
	"strings"
	"testing"

	"postbag/api"
	"postbag/bench"
)

// most is how many choices a script comes to its end by.
const most = 400000

// A scene is a program, and what it tells by whatever script.
type scene struct {
	name, src string
	told      string
	c         api.Conf // where it is not that of most scenes
}

// roomy is a config in which memory is not full so soon.
func roomy() api.Conf { return api.Conf{Harts: 1, Actors: 8, Blocks: 8, Words: 64, Budget: 3} }

// told tells what was told, and how it ended.
func (w *telling) told() string {
	s := strings.Join(w.outs, " ")
	switch {
	case w.great:
		s += " great"
	case w.full:
		s += " full"
	}
	return strings.TrimSpace(s)
}

// plain tells a telling of one hart that is done, by the plainest script.
func plain(t testing.TB, src string, c api.Conf) *telling {
	t.Helper()
	w := begun(t, compiled(t, src, c))
	if !w.plays(bench.Script{Row: 1, Style: bench.Oldest}, most) {
		w.Fatalf("it goes on for too long")
	}
	return w
}

// plays plays scenes on one to four harts, by scripts of all styles.
func plays(t *testing.T, seed int, scripts int, l []scene) {
	t.Helper()
	for _, s := range l {
		t.Run(s.name, func(t *testing.T) {
			t.Parallel()
			r := bench.Row(seed)
			if s.c == (api.Conf{}) {
				s.c = roomy()
			}
			for harts := 1; harts <= 4; harts++ {
				s.c.Harts = harts
				i := compiled(t, s.src, s.c)
				for _, script := range bench.Scripts(&r, scripts) {
					w := begun(t, i)
					if !w.plays(script, most) {
						w.Fatalf("it goes on for too long, and has told %s", w.told())
					}
					if got := w.told(); got != s.told {
						w.Fatalf("told %s, not %s", got, s.told)
					}
				}
			}
		})
	}
}

// actor tells a program of one actor, of no variables.
func actor(body string) string { return "actor A() { " + body + " } main A()" }
