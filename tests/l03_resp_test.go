package tests

import (
	"fmt"
	"math"
	"testing"

	"loop.example/g00842/impl"
)

// What a response tells, each written out.
func TestRespText(t *testing.T) {
	cases := []struct {
		resp impl.Resp
		want string
	}{
		{impl.Resp{}, "ok"},
		{impl.Resp{Token: 11, Next: 12}, "ok 11 12"},
		{impl.Resp{Token: 991, Next: 992}, "ok 991 992"},
		{impl.Resp{Token: 5}, "ok 5 0"},
		{impl.Resp{Next: 12}, "ok"},
		{impl.Resp{Yes: true}, "ok yes"},
		{impl.Resp{Next: 12, Yes: true}, "ok yes"},
		{impl.Resp{Token: 11, Next: 12, Yes: true}, "ok 11 12 yes"},
		{impl.Resp{Token: 1, Yes: true}, "ok 1 0 yes"},
		{impl.Resp{Token: -1, Next: -2}, "ok -1 -2"},
		{impl.Resp{Token: math.MaxInt64, Next: math.MinInt64}, "ok 9223372036854775807 -9223372036854775808"},
	}
	for _, c := range cases {
		same(t, fmt.Sprintf("%+v", c.resp), impl.RespText(c.resp), c.want)
	}
}

// Beside a code nothing else is told, whatever the code is.
func TestRespTextOfCodes(t *testing.T) {
	for code, want := range map[int64]string{
		impl.ErrForm: "error 1", impl.ErrNone: "error 6", impl.ErrThere: "error 7", impl.ErrState: "error 10",
		11: "error 11", 100: "error 100", -1: "error -1", math.MaxInt64: "error 9223372036854775807", math.MinInt64: "error -9223372036854775808",
	} {
		same(t, want, impl.RespText(impl.Resp{Code: code}), want)
		same(t, want+", with all", impl.RespText(impl.Resp{Code: code, Token: 11, Next: 12, Yes: true}), want)
	}
}
