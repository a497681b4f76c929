package update

import "signet/api"

// refusal: the code of a reply, by which what is being asked or done ends.
type refusal int

// refuseIf ends what is being asked or done with that code, if so.
func refuseIf(so bool, code int) {
	if so {
		panic(refusal(code))
	}
}

// codeOf: the code with which do ends. Nothing but a refusal is meant to end
// it early; whatever else does, is a failure of the server.
func codeOf(do func()) (code int) {
	defer func() {
		switch end := recover().(type) {
		case nil:
		case refusal:
			code = int(end)
		default:
			code = api.CodeServ
		}
	}()
	do()
	return api.CodeOk
}
