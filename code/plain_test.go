package code_test

import (
	"fmt"
	"regexp"
	"strconv"
	"strings"

	"sheafer/api"
)

// table is the chapter's table of operations: of each its byte to the base 16, its name, what it takes, what it lays.
const table = `
00 STOP 0, 0; 01 ADD 2, 1; 02 MUL 2, 1; 03 SUB 2, 1; 04 DIV 2, 1;
06 MOD 2, 1; 10 LT 2, 1; 11 GT 2, 1; 14 EQ 2, 1; 15 ISZERO 1, 1;
16 AND 2, 1; 17 OR 2, 1; 18 XOR 2, 1; 19 NOT 1, 1; 1B SHL 2, 1;
1C SHR 2, 1; 20 HASH 2, 1; 30 ADDRESS 0, 1; 31 BALANCE 1, 1; 32 ORIGIN 0, 1;
33 CALLER 0, 1; 34 CALLVALUE 0, 1; 35 DATALOAD 1, 1; 36 DATASIZE 0, 1; 37 DATACOPY 3, 0;
3D RETURNSIZE 0, 1; 3E RETURNCOPY 3, 0; 42 TIME 0, 1; 43 NUMBER 0, 1; 47 SELFBALANCE 0, 1;
48 BASEFEE 0, 1; 50 POP 1, 0; 51 MLOAD 1, 1; 52 MSTORE 2, 0; 53 MSTORE8 2, 0;
54 SLOAD 1, 1; 55 SSTORE 2, 0; 56 JUMP 1, 0; 57 JUMPI 2, 0; 5A GAS 0, 1;
5B JUMPDEST 0, 0; 5C TLOAD 1, 1; 5D TSTORE 2, 0; F1 CALL 7, 1; F3 RETURN 2, 0;
F4 DELEGATECALL 6, 1; F5 CREATE2 4, 1; FA STATICCALL 6, 1; FD REVERT 2, 0; FE INVALID 0, 0`

// tableOps are all operations as the chapter has them, by their bytes.
func tableOps() map[byte]api.Op {
	all := map[byte]api.Op{}
	for _, line := range strings.Split(table, ";") {
		var op api.Op
		if _, err := fmt.Sscanf(strings.TrimSpace(line), "%X %s %d, %d", &op.Code, &op.Name, &op.Takes, &op.Lays); err != nil {
			panic(err)
		}
		all[op.Code] = op
	}
	for n := 1; n <= 32; n++ {
		all[byte(0x5f+n)] = api.Op{Code: byte(0x5f + n), Name: "PUSH" + strconv.Itoa(n), Lays: 1, Data: n}
	}
	for n := 1; n <= 16; n++ {
		all[byte(0x7f+n)] = api.Op{Code: byte(0x7f + n), Name: "DUP" + strconv.Itoa(n), Takes: n, Lays: n + 1}
		all[byte(0x8f+n)] = api.Op{Code: byte(0x8f + n), Name: "SWAP" + strconv.Itoa(n), Takes: n + 1, Lays: n + 1}
	}
	return all
}

// plain reads programs and their texts another way than the package does: it marks which bytes are data, and takes texts to pieces by a pattern.
type plain struct {
	ops    map[byte]api.Op
	codes  map[string]byte
	whole  *regexp.Regexp
	pieces *regexp.Regexp
}

func newPlain() plain {
	p := plain{ops: tableOps(), codes: map[string]byte{}}
	var pieces, cut []string
	for c := range 256 {
		op, there := p.ops[byte(c)]
		p.codes[op.Name] = byte(c)
		switch {
		case !there:
			pieces = append(pieces, fmt.Sprintf(`\.%02x`, c))
		case op.Data == 0:
			pieces = append(pieces, op.Name)
		default:
			pieces = append(pieces, fmt.Sprintf(`%s (?:[0-9a-f]{2}){%d}`, op.Name, op.Data))
			cut = append(cut, fmt.Sprintf(`%s (?:[0-9a-f]{2}){0,%d}`, op.Name, op.Data-1))
		}
	}
	piece, last := "(?:"+strings.Join(pieces, "|")+")", "(?:"+strings.Join(cut, "|")+")"
	p.whole = regexp.MustCompile(`\A(?:|` + last + `|` + piece + `(?: ` + piece + `)*(?: ` + last + `)?)\z`)
	p.pieces = regexp.MustCompile(`[^ ]+`)
	return p
}

// parse is what Parse has to answer.
func (p plain) parse(text string) ([]byte, api.Errno) {
	if !p.whole.MatchString(text) {
		return nil, api.ErrCode
	}
	var b []byte
	for _, piece := range p.pieces.FindAllString(text, -1) {
		if code, there := p.codes[piece]; there {
			b = append(b, code)
			continue
		}
		b = append(b, unhex(strings.TrimPrefix(piece, "."))...)
	}
	if len(b) > 200 {
		return nil, api.ErrCode
	}
	return b, api.OK
}

// isData marks the bytes that are data.
func (p plain) isData(b []byte) []bool {
	marks := make([]bool, len(b))
	for at, c := range b {
		for n := 1; !marks[at] && n <= p.ops[c].Data && at+n < len(b); n++ {
			marks[at+n] = true
		}
	}
	return marks
}

// text is what Text has to answer of a program.
func (p plain) text(b []byte) string {
	text, marks := "", p.isData(b)
	for at, c := range b {
		op, there := p.ops[c]
		switch {
		case marks[at]:
			text += fmt.Sprintf("%02x", c)
		case !there:
			text += fmt.Sprintf(" .%02x", c)
		case op.Data > 0:
			text += " " + op.Name + " "
		default:
			text += " " + op.Name
		}
	}
	return strings.TrimPrefix(text, " ")
}

// jumps is what Jumps has to answer of a program.
func (p plain) jumps(b []byte) []int {
	var places []int
	for at, data := range p.isData(b) {
		if b[at] == 0x5b && !data {
			places = append(places, at)
		}
	}
	return places
}

// data is what Data has to answer of a program.
func (p plain) data(b []byte, at int) []byte {
	if at < 0 || at >= len(b) || p.isData(b)[at] {
		return nil
	}
	long := append(append([]byte{}, b...), make([]byte, 32)...)
	return long[at+1:][:p.ops[b[at]].Data]
}

// unhex are the bytes of digits, of blanks between them nothing.
func unhex(digits string) []byte {
	var b []byte
	if _, err := fmt.Sscanf(strings.ReplaceAll(digits, " ", ""), "%x", &b); err != nil && digits != "" {
		panic(digits)
	}
	return b
}

// dice tells numbers by a fixed rule.
type dice struct{ seed uint64 }

func (d *dice) below(n int) int {
	d.seed = d.seed*6364136223846793005 + 1442695040888963407
	return int((d.seed >> 33) % uint64(n))
}

// program is one of at most that many bytes: of any, or of such as are told apart.
func (d *dice) program(most int) []byte {
	b := make([]byte, d.below(most+1))
	kind := d.below(3)
	for i := range b {
		switch {
		case kind == 0 || d.below(8) == 0:
			b[i] = byte(d.below(256))
		case kind == 1:
			b[i] = []byte{0x5b, 0x60, 0x61, 0x62, 0x7f, 0x5a, 0x01}[d.below(7)]
		default:
			b[i] = []byte{0x5b, 0x5c, 0x60, 0x0c, 0xfe, 0x80, 0x9f}[d.below(7)]
		}
	}
	return b
}
