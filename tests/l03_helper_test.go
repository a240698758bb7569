package tests

import (
	"fmt"
	"regexp"
	"strconv"
	"strings"

	"loop.example/g00842/impl"
)

// The kinds by their words, in the order of their numbers.
var kindWords = []string{"issue", "redeem", "refresh", "revoke", "ask", "tick"}

// rightReqs is a right request of each kind, by its text.
func rightReqs() map[string]impl.Req {
	return map[string]impl.Req{
		"kind=issue&client=1&proof=ab":          {No: 1, Kind: impl.RqIssue, Client: 1, Proof: "ab"},
		"kind=redeem&client=2&code=34&proof=zy": {No: 2, Kind: impl.RqRedeem, Client: 2, Code: 34, Proof: "zy"},
		"kind=refresh&client=3&token=12":        {No: 3, Kind: impl.RqRefresh, Client: 3, Token: 12},
		"kind=revoke&client=1&token=345":        {No: 4, Kind: impl.RqRevoke, Client: 1, Token: 345},
		"kind=ask&client=2&token=6":             {No: 5, Kind: impl.RqAsk, Client: 2, Token: 6},
		"kind=tick&by=70":                       {No: 6, Kind: impl.RqTick, By: 70},
	}
}

// reqPatterns is what the texts of requests look like, with what they name in parentheses.
var reqPatterns = map[int64]*regexp.Regexp{
	impl.RqIssue:   regexp.MustCompile(`^kind=issue&client=(?P<client>[1-3])&proof=(?P<proof>[a-z]{1,8})$`),
	impl.RqRedeem:  regexp.MustCompile(`^kind=redeem&client=(?P<client>[1-3])&code=(?P<code>[1-9][0-9]?)&proof=(?P<proof>[a-z]{1,8})$`),
	impl.RqRefresh: regexp.MustCompile(`^kind=refresh&client=(?P<client>[1-3])&token=(?P<token>[1-9][0-9]{0,2})$`),
	impl.RqRevoke:  regexp.MustCompile(`^kind=revoke&client=(?P<client>[1-3])&token=(?P<token>[1-9][0-9]{0,2})$`),
	impl.RqAsk:     regexp.MustCompile(`^kind=ask&client=(?P<client>[1-3])&token=(?P<token>[1-9][0-9]{0,2})$`),
	impl.RqTick:    regexp.MustCompile(`^kind=tick&by=(?P<by>[1-9][0-9]{0,2}|1000)$`),
}

// readReqSlowly is what ReqRead has to tell of a text of at most MaxBytes bytes, told in another way.
func readReqSlowly(no int64, text string) impl.ReqOut {
	if form := readSlowly(text); form.Code != impl.OK {
		return impl.ReqOut{Code: form.Code}
	}
	for kind, pattern := range reqPatterns {
		found := pattern.FindStringSubmatch(text)
		if found == nil || no < 1 || no > 99 {
			continue
		}
		r := impl.Req{No: no, Kind: kind}
		for i, name := range pattern.SubexpNames() {
			n, _ := strconv.ParseInt(found[i], 10, 64)
			switch name {
			case "client":
				r.Client = n
			case "code":
				r.Code = n
			case "token":
				r.Token = n
			case "by":
				r.By = n
			case "proof":
				r.Proof = found[i]
			}
		}
		return impl.ReqOut{Req: r}
	}
	return impl.ReqOut{Code: impl.ErrSyntax}
}

// writeReqSlowly is the text of a right request, and the empty one of another, told in another way.
func writeReqSlowly(r impl.Req) string {
	if r.No < 1 || r.No > 99 || r.Kind < 1 || r.Kind > 6 {
		return ""
	}
	names := [][]string{{"client", "proof"}, {"client", "code", "proof"}, {"client", "token"}, {"client", "token"}, {"client", "token"}, {"by"}}[r.Kind-1]
	most := map[string]int64{"client": 3, "code": 99, "token": 999, "by": 1000}
	parts := []string{"kind=" + kindWords[r.Kind-1]}
	nums := map[string]int64{"client": r.Client, "code": r.Code, "token": r.Token, "by": r.By}
	proof := r.Proof
	for _, name := range names {
		if name == "proof" {
			if len(proof) < 1 || len(proof) > 8 || strings.Trim(proof, "abcdefghijklmnopqrstuvwxyz") != "" {
				return ""
			}
			parts, proof = append(parts, "proof="+proof), ""
			continue
		}
		if nums[name] < 1 || nums[name] > most[name] {
			return ""
		}
		parts = append(parts, fmt.Sprintf("%s=%d", name, nums[name]))
		delete(nums, name)
	}
	for _, n := range nums {
		if n != 0 {
			return ""
		}
	}
	if proof != "" {
		return ""
	}
	return strings.Join(parts, "&")
}
