package lower_test

import (
	"testing"

	"postbag/api"
	"postbag/bench"
	"postbag/model"
	"postbag/thrown"
	"postbag/tree"
	"postbag/value"
)

// anyConf tells a config, mostly with little room.
func anyConf(r *bench.Row, harts int) api.Conf {
	c := api.Conf{Harts: harts, Actors: 64, Blocks: 40, Words: 400, Budget: []int{1, 2, 3, 5, 100}[r.Next(5)]}
	if r.Next(4) == 0 {
		c.Actors = 1 + r.Next(12)
	}
	if r.Next(4) == 0 {
		c.Blocks = 1 + r.Next(16)
	}
	if r.Next(2) == 0 {
		c.Words = []int{8, 9, 12, 16, 24, 40, 64}[r.Next(7)]
	}
	return c
}

// alone tells a thrown program of one actor that neither sends nor receives nor spawns, and what the model tells of it: all, or up to a value that is too great.
func alone(r *bench.Row) (src string, told []string, whole bool) {
	p := thrown.Program(r, thrown.Style{Alone: true, Rounds: 1 + r.Next(8), Deep: 1 + r.Next(3)})
	m, e := model.New(p)
	for e == api.OK && m.Next(0) != model.None {
		var v api.Value
		var tells bool
		if v, tells, e = m.Do(model.Move{Kind: model.Run}); tells {
			told = append(told, value.Text(v))
		}
	}
	return tree.Print(p), told, e == api.OK
}

// P25.2, P25.4: thrown programs by thrown scripts on one to four harts: the model does move by move what the machine does.
func TestThrown(t *testing.T) {
	r := bench.Row(1)
	count := map[string]int{}
	for n := range 160 {
		p := thrown.Program(&r, thrown.Style{Rounds: 1 + r.Next(5), Spawns: []int{0, 0, 0, 1}[r.Next(4)], Deep: 1 + r.Next(3)})
		i := compiled(t, tree.Print(p), anyConf(&r, 1+n%4))
		for _, s := range bench.Scripts(&r, 4) {
			w := begun(t, i)
			if w.plays(s, 40000) {
				count["ended"]++
			}
			if w.full {
				count["full"]++
			}
			count["told"] += len(w.outs)
			if len(w.values) < 4 {
				found, whole := model.Explain(i.Program, w.values, 1000)
				if !found && whole {
					w.Fatalf("no moves of the model tell %s", w.told())
				}
				if found && len(w.values) > 0 {
					count["explained"]++
				}
			}
			for k, n := range w.count {
				count[k] += n
			}
		}
	}
	for what, least := range map[string]int{"ended": 300, "full": 100, "told": 2000, "made": 2000, "sent": 1000, "took": 700, "fit0": 100, "fit1": 100, "fit2": 50, "late": 500, "explained": 50} {
		if count[what] < least {
			t.Errorf("%s: %d times", what, count[what])
		}
	}
	t.Log(count)
}
