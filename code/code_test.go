package code_test

import (
	"bytes"
	"math"
	"slices"
	"strconv"
	"strings"
	"testing"

	"sheafer/api"
	"sheafer/code"
)

// mostBytes is how many bytes a program has at most.
const mostBytes = 200

// some are programs, by their names.
func some() map[string][]byte {
	all := map[string][]byte{
		"none":                        nil,
		"none, and empty":             {},
		"the chapter's first":         unhex("60 05 01 fe 0c"),
		"the chapter's second":        unhex("60 5b 5b"),
		"a place to jump to":          unhex("5b"),
		"it twice":                    unhex("5b 5b"),
		"as the last byte":            unhex("01 02 5b"),
		"ahead of data":               unhex("5b 60 01"),
		"behind data":                 unhex("60 01 5b"),
		"within data":                 unhex("61 5b 5b 01"),
		"within data, and behind":     unhex("62 00 5b 00 5b 01"),
		"within data that is cut off": unhex("7f 5b 5b 5b"),
		"a PUSH within data":          unhex("60 60 5b 61 61 60 5b"),
		"a PUSH as data, cut off":     unhex("61 60"),
		"no names":                    unhex("05 0c 5b ff 5e 5f a0"),
		"all data cut off":            unhex("01 60"),
		"some of it":                  unhex("01 62 0a 0b"),
		"as many as may be":           bytes.Repeat(unhex("5b"), mostBytes),
		"as many, of data":            bytes.Repeat(unhex("60 5b"), mostBytes/2),
		"as many, cut off":            append(bytes.Repeat(unhex("00"), mostBytes-1), 0x7f),
		"as many, in part":            append(bytes.Repeat(unhex("00"), mostBytes-32), append([]byte{0x7f}, bytes.Repeat(unhex("5b"), 31)...)...),
		"as many, not cut off":        append(bytes.Repeat(unhex("00"), mostBytes-33), append([]byte{0x7f}, bytes.Repeat(unhex("5b"), 32)...)...),
	}
	for c := range 256 {
		all["the byte "+strconv.Itoa(c)] = []byte{byte(c)}
		all["places behind the byte "+strconv.Itoa(c)] = append([]byte{byte(c)}, bytes.Repeat(unhex("5b"), 40)...)
	}
	d := dice{seed: 7}
	for i := range 150 {
		all["thrown "+strconv.Itoa(i)] = d.program(mostBytes)
	}
	return all
}

// tooLong are bytes that are no program.
func tooLong() map[string][]byte {
	return map[string][]byte{
		"one too many":                    bytes.Repeat(unhex("5b"), mostBytes+1),
		"one too many, of data":           append(bytes.Repeat(unhex("60 5b"), mostBytes/2), 0x5b),
		"one too many, all of it no name": bytes.Repeat(unhex("0c"), mostBytes+1),
		"one too many, data alone":        append(bytes.Repeat(unhex("5b"), mostBytes-1), 0x60, 0x5b),
		"very many":                       bytes.Repeat(unhex("5b 60 01"), 100000),
	}
}

// P11.1: of each of the 256 bytes, and by its name, the operation that the chapter has, or ErrNone.
func TestOf(t *testing.T) {
	ops := tableOps()
	if len(ops) != 114 {
		t.Fatalf("the chapter has %d operations", len(ops))
	}
	for c := range 256 {
		want, there := ops[byte(c)]
		wantErr := api.ErrNone
		if there {
			wantErr = api.OK
		}
		if op, err := code.Of(byte(c)); op != want || err != wantErr {
			t.Errorf("Of(%x): %v, %d; should be %v, %d", c, op, err, want, wantErr)
		}
		if !there {
			continue
		}
		if op, err := code.Named(want.Name); op != want || err != api.OK {
			t.Errorf("Named(%q): %v, %d; should be %v", want.Name, op, err, want)
		}
	}
}

// P11.1: the numbers of package api are those of the operations of these names.
func TestNumbers(t *testing.T) {
	for name, c := range map[string]byte{
		"STOP": api.OpStop, "ADD": api.OpAdd, "MUL": api.OpMul, "SUB": api.OpSub, "DIV": api.OpDiv, "MOD": api.OpMod,
		"LT": api.OpLt, "GT": api.OpGt, "EQ": api.OpEq, "ISZERO": api.OpIsZero, "AND": api.OpAnd, "OR": api.OpOr,
		"XOR": api.OpXor, "NOT": api.OpNot, "SHL": api.OpShl, "SHR": api.OpShr, "HASH": api.OpHash,
		"ADDRESS": api.OpAddress, "BALANCE": api.OpBalance, "ORIGIN": api.OpOrigin, "CALLER": api.OpCaller,
		"CALLVALUE": api.OpCallValue, "DATALOAD": api.OpDataLoad, "DATASIZE": api.OpDataSize, "DATACOPY": api.OpDataCopy,
		"RETURNSIZE": api.OpReturnSize, "RETURNCOPY": api.OpReturnCopy, "TIME": api.OpTime, "NUMBER": api.OpNumber,
		"SELFBALANCE": api.OpSelfBalance, "BASEFEE": api.OpBaseFee, "POP": api.OpPop, "MLOAD": api.OpMLoad,
		"MSTORE": api.OpMStore, "MSTORE8": api.OpMStore8, "SLOAD": api.OpSLoad, "SSTORE": api.OpSStore,
		"JUMP": api.OpJump, "JUMPI": api.OpJumpI, "GAS": api.OpGas, "JUMPDEST": api.OpJumpDest, "TLOAD": api.OpTLoad,
		"TSTORE": api.OpTStore, "CALL": api.OpCall, "RETURN": api.OpReturn, "DELEGATECALL": api.OpDelegateCall,
		"CREATE2": api.OpCreate2, "STATICCALL": api.OpStaticCall, "REVERT": api.OpRevert, "INVALID": api.OpInvalid,
		"PUSH1": api.OpPush1, "PUSH32": api.OpPush32, "DUP1": api.OpDup1, "DUP16": api.OpDup16,
		"SWAP1": api.OpSwap1, "SWAP16": api.OpSwap16,
	} {
		op, err := code.Named(name)
		same, errOf := code.Of(c)
		if op.Code != c || op != same || err != api.OK || errOf != api.OK {
			t.Errorf("%s: %v, %d; of its number: %v, %d", name, op, err, same, errOf)
		}
	}
}

// noNames are names of no operation.
func noNames() []string {
	names := []string{
		"", " ", ".", ".0c", ".01", "0", "1", "16", "32", "01", "0c", "\x00", "\xff", "É", "ＡＤＤ", "ADD\x00", "AD\xff",
		"PUSH", "PUSH0", "PUSH33", "PUSH01", "PUSH001", "PUSH+1", "PUSH-1", "PUSH 1", "PUSH1 ", "PUSH1 00", "PUSH1.", "PUSH0x1", "PUSH1_0", "PUSHA", "PUSH1a",
		"PUSH10000", "PUSH257", "PUSH4294967297", "PUSH18446744073709551617", "PUSH" + strings.Repeat("0", 500) + "1", "PUSH１", "PUSHPUSH1",
		"DUP", "DUP0", "DUP17", "DUP32", "DUP01", "DUP016", "DUP+1", "DUP-1", "DUP257", "DUPSWAP1",
		"SWAP", "SWAP0", "SWAP17", "SWAP32", "SWAP01", "SWAP016", "SWAP+16", "SWAP-1", "SWAP257",
		"MSTORE1", "MSTORE32", "CREATE", "CREATE1", "CREATE02", "SHA3", "KECCAK256", "SDIV", "BYTE", "SAR", "GASPRICE", "LOG0", "CALLCODE", "SELFDESTRUCT",
		"UNKNOWN", "NONE", "JUMPDES", "JUMPDESTS", "RETURNDATASIZE", "CALLDATALOAD", "TIMESTAMP", "ADD ADD", "ADD,", strings.Repeat("ADD", 100000),
	}
	for _, op := range tableOps() {
		name := op.Name
		names = append(names, strings.ToLower(name), name[:1]+strings.ToLower(name[1:]), strings.ToLower(name[:1])+name[1:],
			" "+name, name+" ", name+"\n", "\t"+name, name+name, "."+name, name+"\x00", name+"\u0301")
	}
	return names
}

// P11.1: Named of no operation's name.
func TestNamedOfNone(t *testing.T) {
	for _, name := range noNames() {
		if op, err := code.Named(name); op != (api.Op{}) || err != api.ErrNone {
			t.Errorf("Named(%.50q): %v, %d", name, op, err)
		}
	}
	names := map[string]bool{}
	for _, op := range tableOps() {
		names[op.Name] = true
	}
	for name := range names {
		for i := range name {
			for _, other := range []string{name[:i], name[i+1:], name[:i] + name[i+1:], name[:i] + "X" + name[i:], name[:i] + " " + name[i:], name[:i] + "0" + name[i:], name[:i] + "1" + name[i+1:]} {
				if op, err := code.Named(other); (err == api.OK) != names[other] || err == api.OK && op.Name != other {
					t.Errorf("Named(%q): %v, %d", other, op, err)
				}
			}
		}
	}
}

// P11.1: Check, of as many bytes as may be, and of one more.
func TestCheck(t *testing.T) {
	for n := range 3 * mostBytes {
		want := api.OK
		if n > mostBytes {
			want = api.ErrLong
		}
		for _, c := range []byte{0x00, 0x0c, 0x5b, 0x7f} {
			if err := code.Check(bytes.Repeat([]byte{c}, n)); err != want {
				t.Errorf("Check of %d bytes: %d, should be %d", n, err, want)
			}
		}
	}
	for name, b := range some() {
		if err := code.Check(b); err != api.OK {
			t.Errorf("%s: %d", name, err)
		}
	}
	for name, b := range tooLong() {
		if err := code.Check(b); err != api.ErrLong {
			t.Errorf("%s: %d", name, err)
		}
	}
}

// P11.1 to P11.3: the chapter's examples.
func TestExamples(t *testing.T) {
	if text, err := code.Text(unhex("60 05 01 fe 0c")); text != "PUSH1 05 ADD INVALID .0c" || err != api.OK {
		t.Errorf("Text: %q, %d", text, err)
	}
	b := unhex("60 5b 5b")
	if places := code.Jumps(b); !slices.Equal(places, []int{2}) || code.Jump(b, 1) || !code.Jump(b, 2) || code.Jump(b, 0) {
		t.Errorf("Jumps: %v", places)
	}
	for text, want := range map[string][]byte{"PUSH2 01": unhex("61 01"), "PUSH2 01 ADD": nil, ".01": nil} {
		wantErr := api.OK
		if want == nil {
			wantErr = api.ErrCode
		}
		if b, err := code.Parse(text); !bytes.Equal(b, want) || err != wantErr {
			t.Errorf("Parse(%q): %x, %d", text, b, err)
		}
	}
	if data := code.Data(unhex("61 01"), 0); !bytes.Equal(data, unhex("01 00")) {
		t.Errorf("Data: %x", data)
	}
	if data := code.Data(unhex("61 01"), 1); len(data) != 0 {
		t.Errorf("Data of data: %x", data)
	}
}

// places are such as a program of n bytes has, and such as it has not.
func places(n int) []int {
	all := []int{math.MinInt, math.MinInt + 1, math.MinInt32, -200, math.MaxInt32, math.MaxInt32 + 1, 1 << 32, 1<<32 + 1, math.MaxInt - 200, math.MaxInt - 1, math.MaxInt}
	for at := -40; at < n+40; at++ {
		all = append(all, at)
	}
	return all
}

// P11.2: Jumps, Jump and Data of programs, at all of their places, and at others.
func TestJumpsAndData(t *testing.T) {
	p := newPlain()
	for name, b := range some() {
		jumps := p.jumps(b)
		if have := code.Jumps(b); !slices.Equal(have, jumps) {
			t.Errorf("%s: Jumps: %v, should be %v", name, have, jumps)
		}
		for _, at := range places(len(b)) {
			if have, want := code.Jump(b, uint64(at)), slices.Contains(jumps, at); have != want {
				t.Errorf("%s: Jump at %d: %v", name, at, have)
			}
			if have, want := code.Data(b, at), p.data(b, at); !bytes.Equal(have, want) {
				t.Errorf("%s: Data at %d: %x, should be %x", name, at, have, want)
			}
		}
		for _, at := range []uint64{1 << 32, 1<<32 + 2, 1 << 63, 1<<63 + 2, math.MaxUint64} {
			if code.Jump(b, at) {
				t.Errorf("%s: Jump at %d", name, at)
			}
		}
	}
}

// P11.2: data of each length, of which all, some or none are there, filled with noughts.
func TestDataCutOff(t *testing.T) {
	for n := 1; n <= 32; n++ {
		for there := range n + 3 {
			b := []byte{0x01, byte(0x5f + n)}
			for i := range there {
				b = append(b, byte(0x5b+i))
			}
			want := append(slices.Clone(b[2:]), make([]byte, 32)...)[:n]
			if data := code.Data(b, 1); !bytes.Equal(data, want) {
				t.Errorf("Data of PUSH%d, %d bytes: %x, should be %x", n, there, data, want)
			}
			for at := range b[2:min(2+n, len(b))] {
				if data := code.Data(b, 2+at); len(data) != 0 || code.Jump(b, uint64(2+at)) {
					t.Errorf("at %d behind PUSH%d, %d bytes: %x", at, n, there, data)
				}
			}
		}
	}
}

// P11.2: of what is no program there is nothing.
func TestOfNoProgram(t *testing.T) {
	for name, b := range tooLong() {
		if places := code.Jumps(b); len(places) != 0 {
			t.Errorf("%s: Jumps: %v", name, places)
		}
		for _, at := range places(mostBytes) {
			if data := code.Data(b, at); len(data) != 0 || code.Jump(b, uint64(at)) {
				t.Errorf("%s: at %d: %x, or a place to jump to", name, at, data)
			}
		}
	}
}
