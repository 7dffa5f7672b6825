package script

import (
	"strconv"
	"strings"

	"lodger/api"
)

// Print is the text of a script.
func Print(s Script) (string, api.Errno) {
	if len(s.Events) > api.MaxSteps {
		return "", api.ErrLong
	}
	if !mayBeSet(s) {
		return "", api.ErrArg
	}
	var b strings.Builder
	line := func(words ...string) { b.WriteString(strings.Join(words, " ") + "\n") }
	line("tenants", decimal(s.Tenants))
	line("capacity", decimal(s.Capacity))
	line("types", decimal(s.Types))
	q := s.Quota
	line("quota", decimal(q.Files), decimal(q.Bytes), decimal(q.Sessions), strconv.FormatUint(q.Ttl, 10), strconv.FormatUint(q.Steps, 10))
	for _, e := range s.Events {
		words, is := eventWords(e)
		if !is {
			return "", api.ErrArg
		}
		line(words...)
	}
	return b.String(), api.OK
}

func within(n, least, most int) bool {
	return least <= n && n <= most
}

func mayBeSet(s Script) bool {
	q := s.Quota
	return within(s.Tenants, 1, api.MaxTenants) && within(s.Capacity, 0, maxCapacity) && within(s.Types, 0, maxCapacity) &&
		within(q.Files, 0, api.MaxFiles) && within(q.Bytes, 0, maxBytes) && within(q.Sessions, 0, maxSessions) &&
		q.Ttl <= maxNumber && q.Steps <= maxNumber
}

// eventWords are the words of the line that is an event, if there is one.
func eventWords(e api.Event) ([]string, bool) {
	a, ofConnection, ofTenant := decimal(e.A), within(e.A, 0, connections-1), within(e.A, 0, api.MaxTenants-1)
	switch e.Kind {
	case api.EvBytes:
		return []string{"bytes", a, hex(e.Data)}, ofConnection && within(len(e.Data), 1, maxData)
	case api.EvNonce:
		return []string{"nonce", a, quoted(e.Data)}, ofTenant && len(e.Data) <= maxNonce
	case api.EvTick:
		return []string{"tick", a}, ofTenant && e.Data == ""
	case api.EvPick:
		return []string{"pick", a}, ofTenant && e.Data == ""
	case api.EvAsk:
		_, is := Ask(e.Data)
		return []string{"ask", a, e.Data}, ofConnection && is
	case api.EvDrain:
		return []string{"drain"}, e.A == 0 && e.Data == ""
	}
	return nil, false
}
