package wire

import "marchpast/api"

// valueBytes are as many as a value of 64 bits has.
const valueBytes = 8

// writer wants what is right: then each number but a value fits into a byte.
type writer struct{ written []byte }

func (w *writer) plan(p api.Plan) {
	w.number(p.Shards)
	writeList(w, p.Txns, w.txn)
}

func (w *writer) txn(x api.Txn) {
	writeList(w, x.Reads, w.number)
	writeList(w, x.Guards, w.guard)
	writeList(w, x.Sets, w.set)
}

func (w *writer) guard(g api.Guard) {
	w.number(g.Kind)
	w.operand(g.A)
	w.operand(g.B)
}

func (w *writer) set(x api.Set) {
	w.number(x.Key)
	w.number(x.Op)
	w.operand(x.A)
	w.operand(x.B)
}

func (w *writer) operand(o api.Operand) {
	w.number(o.Kind)
	w.value(o.N)
}

func (w *writer) value(v int) {
	for i := valueBytes - 1; i >= 0; i-- {
		w.written = append(w.written, byte(uint64(v)>>(8*i)))
	}
}

func (w *writer) number(n int) { w.written = append(w.written, byte(n)) }

// writeList tells how many there are ahead of them, so that no byte need stand for an end.
func writeList[T any](w *writer, l []T, write func(T)) {
	w.number(len(l))
	for _, x := range l {
		write(x)
	}
}
