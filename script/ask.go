package script

import "lodger/api"

// Ask is the request that words say, as they are printed.
func Ask(words string) (api.Request, bool) {
	l := all(words)
	if printed(l) != words {
		return api.Request{}, false
	}
	return request(l)
}

// request is the request that words say.
func request(l []word) (api.Request, bool) {
	if len(l) == 0 || l[0].quoted {
		return api.Request{}, false
	}
	texts := l[1:]
	kind, limits := form(l[0].text, len(texts))
	if kind == 0 || len(texts) != len(limits) {
		return api.Request{}, false
	}
	for i, w := range texts {
		if !w.isText(limits[i]) {
			return api.Request{}, false
		}
	}
	r := api.Request{Kind: kind}
	switch {
	case len(texts) == 2:
		r.Path, r.Text = texts[0].text, texts[1].text
	case len(texts) == 1 && kind == api.RqLogin:
		r.Text = texts[0].text
	case len(texts) == 1:
		r.Path = texts[0].text
	}
	return r, true
}

// form is the kind of request that a word begins, and how many bytes each of its texts has at most. A login may have a text, or none.
func form(word string, texts int) (kind int, limits []int) {
	switch word {
	case "login":
		return api.RqLogin, []int{maxText}[:min(texts, 1)]
	case "logout":
		return api.RqLogout, nil
	case "write":
		return api.RqWrite, []int{maxPath, maxText}
	case "delete":
		return api.RqDelete, []int{maxPath}
	case "rename":
		return api.RqRename, []int{maxPath, maxText}
	case "read":
		return api.RqRead, []int{maxPath}
	case "list":
		return api.RqList, nil
	case "check":
		return api.RqCheck, nil
	case "show":
		return api.RqShow, []int{maxPath, maxText}
	}
	return 0, nil
}
