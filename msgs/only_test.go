package msgs_test

import (
	"fmt"
	"math"
	"reflect"
	"testing"

	"gavel/api"
	"gavel/msgs"
)

// P6.1: Only

func TestOnlyKeepsWhatTheKindNames(t *testing.T) {
	for kind := 1; kind <= kinds; kind++ {
		for i, m := range shapes(kind) {
			if got, want := msgs.Only(m), onlyNamed(m); !same(got, want) {
				t.Errorf("kind %d, shape %d: %s, want %s", kind, i, brief(got), brief(want))
			}
		}
	}
}

// Each field of a message, put alone into a message of each kind: it stays just where the kind names it.
func TestOnlyOfEachFieldAlone(t *testing.T) {
	seen := 0
	for kind := 1; kind <= kinds; kind++ {
		whole := reflect.ValueOf(full(kind, 2))
		for i := range whole.NumField() {
			m := api.Msg{Kind: kind}
			reflect.ValueOf(&m).Elem().Field(i).Set(whole.Field(i))
			got := msgs.Only(m)
			if !same(got, onlyNamed(m)) {
				t.Errorf("kind %d, %s alone: %s", kind, whole.Type().Field(i).Name, brief(got))
			}
			if i > 2 && !same(got, api.Msg{Kind: kind}) {
				seen++
			}
		}
	}
	if seen != 18 {
		t.Errorf("%d fields stayed, want 18: twelve of one name each, MReceipt's and MReply's two, MClose's three", seen)
	}
}

func TestOnlyOfAKindThatThereIsNot(t *testing.T) {
	for _, kind := range noKinds() {
		for i, m := range shapes(kind) {
			if got := msgs.Only(m); !same(got, api.Msg{}) {
				t.Errorf("kind %d, shape %d: %s", kind, i, brief(got))
			}
		}
	}
	if got := msgs.Only(api.Msg{}); !same(got, api.Msg{}) {
		t.Errorf("of nothing: %s", brief(got))
	}
}

// Bounds are those of bytes: Only keeps numbers, lists and rows past them as they are.
func TestOnlyKeepsWhatIsPastTheBounds(t *testing.T) {
	for kind := 1; kind <= kinds; kind++ {
		for _, n := range edges() {
			m := full(kind, 2)
			for _, at := range ints(&m) {
				*at = n
			}
			if got := msgs.Only(m); !same(got, onlyNamed(m)) || got.From != n || got.To != n {
				t.Errorf("kind %d, ints of %d: %s", kind, n, brief(got))
			}
		}
	}
	long := make([]byte, api.MaxText+1)
	for _, m := range []api.Msg{
		{Kind: api.MCert, Cert: api.Cert{Stamps: make([]api.Stamp, 101)}},
		{Kind: api.MPromise, Promise: api.Promise{Floor: math.MaxUint64, Certs: make([]api.Cert, 1001)}},
		{Kind: api.MOpening, Opening: api.Opening{Payload: long}},
		{Kind: api.MReply, Reply: string(long)},
		{Kind: api.MProposal, Proposal: api.Proposal{Valid: math.MinInt, Batch: api.Batch{Openings: []api.Opening{{Payload: long}}}}},
		{Kind: api.MDecided, Decided: api.Decided{Votes: make([]api.Vote, 101), Batch: api.Batch{Tombs: make([]api.Tomb, 300)}}},
	} {
		if got := msgs.Only(m); !same(got, m) {
			t.Errorf("kind %d, past the bounds: %s", m.Kind, brief(got))
		}
	}
}

func TestOnlyOfOnly(t *testing.T) {
	for kind := 1; kind <= kinds; kind++ {
		for i, m := range shapes(kind) {
			once := msgs.Only(m)
			if got := msgs.Only(once); !same(got, once) {
				t.Errorf("kind %d, shape %d: %s, want %s", kind, i, brief(got), brief(once))
			}
		}
	}
}

// overwrite turns all that v has to zero, lists to the end of their memory, and what they have within first.
func overwrite(v reflect.Value) {
	switch v.Kind() {
	case reflect.Struct:
		for i := range v.NumField() {
			overwrite(v.Field(i))
		}
	case reflect.Slice:
		l := v.Slice(0, v.Cap())
		for i := range l.Len() {
			overwrite(l.Index(i))
			l.Index(i).SetZero()
		}
	}
}

// memory is all of a message told, with what lies behind its lists.
func memory(m api.Msg) string {
	return fmt.Sprintf("%+v", m) + listsOf(reflect.ValueOf(m))
}

func listsOf(v reflect.Value) string {
	switch v.Kind() {
	case reflect.Struct:
		s := ""
		for i := range v.NumField() {
			s += listsOf(v.Field(i))
		}
		return s
	case reflect.Slice:
		l := v.Slice(0, v.Cap())
		s := fmt.Sprintf("%+v", l.Interface())
		for i := range l.Len() {
			s += listsOf(l.Index(i))
		}
		return s
	}
	return ""
}

func TestOnlyIsNewMemory(t *testing.T) {
	for kind := 1; kind <= kinds; kind++ {
		m := full(kind, 2)
		got := msgs.Only(m)
		overwrite(reflect.ValueOf(&m).Elem())
		if !same(got, onlyNamed(full(kind, 2))) {
			t.Errorf("kind %d: the answer hangs on what became of the message: %s", kind, brief(got))
		}
		m = full(kind, 2)
		before := memory(m)
		got = msgs.Only(m)
		overwrite(reflect.ValueOf(&got).Elem())
		if memory(m) != before {
			t.Errorf("kind %d: the message was changed: %s", kind, brief(m))
		}
	}
}
