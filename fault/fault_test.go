package fault

import (
	"testing"

	"marchpast/api"
)

func TestLeaveByTheFirstError(t *testing.T) {
	for _, c := range []struct {
		errs []api.Errno
		want api.Errno
	}{
		{nil, api.OK},
		{[]api.Errno{api.OK, api.OK}, api.OK},
		{[]api.Errno{api.ErrLeft}, api.ErrLeft},
		{[]api.Errno{api.OK, api.ErrKind, api.ErrForm}, api.ErrKind},
		{[]api.Errno{api.ErrForm, api.ErrKind, api.OK}, api.ErrForm},
	} {
		behind := false
		v, e := Caught(func() int {
			Leave(c.errs...)
			behind = true
			return 7
		})
		wantValue := 7
		if c.want != api.OK {
			wantValue = 0
		}
		if e != c.want || v != wantValue || behind != (c.want == api.OK) {
			t.Errorf("Leave(%v): %d, %d, behind it %v", c.errs, v, e, behind)
		}
	}
}

func TestGot(t *testing.T) {
	v, e := Caught(func() string { return Got("a", api.OK) + Got("b", api.OK) })
	if v != "ab" || e != api.OK {
		t.Errorf("without errors: %q, %d", v, e)
	}
	v, e = Caught(func() string { return Got("a", api.OK) + Got("b", api.ErrNone) })
	if v != "" || e != api.ErrNone {
		t.Errorf("with an error: %q, %d", v, e)
	}
}

func TestOtherPanicsAreNotHidden(t *testing.T) {
	defer func() {
		if recover() == nil {
			t.Error("a panic that is no error's number was hidden")
		}
	}()
	Caught(func() int { panic("a fault of the program") })
}
