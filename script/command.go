package script

import "farebox/api"

// command is how an operation is written: its word, and which of the operation's fields follow it, from the left.
type command struct {
	word   string
	kind   int
	fields []field
}

// commands are all that there are. They are made anew each time, so that a row that is handed on is a part of no table that others read.
func commands() []command {
	return []command{
		{"buy", api.OpBuy, []field{node, count, price}},
		{"ride", api.OpRide, []field{node, count, other}},
		{"gossip", api.OpGossip, []field{node, other}},
		{"sync", api.OpSync, []field{node, other}},
		{"freeze", api.OpFreeze, []field{count}},
		{"pay", api.OpPay, []field{count}},
		{"revoke", api.OpRevoke, []field{count}},
		{"floor", api.OpFloor, []field{count}},
		{"deliver", api.OpDeliver, []field{count}},
		{"drop", api.OpDrop, []field{count}},
		{"double", api.OpDouble, []field{count}},
		{"inject", api.OpInject, []field{node, body}},
		{"crash", api.OpCrash, []field{node, count, other}},
		{"restart", api.OpRestart, []field{node}},
		{"head", api.OpHead, nil},
		{"row", api.OpRow, []field{node, count}},
		{"carnet", api.OpCarnet, []field{count}},
		{"purse", api.OpPurse, []field{node, count}},
		{"money", api.OpMoney, nil},
		{"bag", api.OpBag, nil},
		{"state", api.OpState, nil},
	}
}

// byWord is the command that begins with a word.
func byWord(word string) (command, bool) {
	for _, c := range commands() {
		if c.word == word {
			return c, true
		}
	}
	return command{}, false
}

// byKind is the command that an operation of a kind is.
func byKind(kind int) (command, bool) {
	for _, c := range commands() {
		if c.kind == kind {
			return c, true
		}
	}
	return command{}, false
}
