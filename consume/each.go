package consume

import (
	"campanile/api"
	"campanile/produce"
)

// object tells one by its number; nil: there is none.
func (c *Consumer) object(i int) *object {
	if c == nil || i < 0 || i >= len(c.objects) {
		return nil
	}
	return &c.objects[i]
}

// may: one is received as one may be sent, so a producer is asked; without Maps it finds no other fault.
func (c *Consumer) may(m produce.Comm) bool {
	return produce.New(c.d).Set(0, m, nil) == 0
}

// each does something with all objects that are on, in order, while the consumer goes.
func (c *Consumer) each(do func(i int, o *object)) {
	if c == nil || !c.goes {
		return
	}
	for i := range c.objects {
		if o := &c.objects[i]; o.On {
			do(i, o)
		}
	}
}

// results tells what became of each object's bytes, by a code; false: there is no Result of it.
func (c *Consumer) results(do func(o *object) (api.Abort, bool)) []Result {
	var all []Result
	c.each(func(i int, o *object) {
		if code, some := do(o); some {
			all = append(all, Result{Number: i, Code: code})
		}
	})
	return all
}
