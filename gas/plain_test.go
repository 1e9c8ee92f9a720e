package gas_test

import (
	"math/big"
	"strings"

	"sheafer/api"
	"sheafer/word"
)

// inAnyCase is what operations cost in any case, as the chapter tells it: a cost, and the names of those that cost it, but for PUSH, DUP and SWAP, which stand by their families.
const inAnyCase = `
0: STOP RETURN REVERT INVALID
1: JUMPDEST
2: ADDRESS ORIGIN CALLER CALLVALUE DATASIZE RETURNSIZE TIME NUMBER BASEFEE POP GAS
3: ADD SUB LT GT EQ ISZERO AND OR XOR NOT SHL SHR DATALOAD DATACOPY RETURNCOPY MLOAD MSTORE MSTORE8 PUSH DUP SWAP
5: MUL DIV MOD SELFBALANCE
8: JUMP
10: JUMPI
30: HASH
10: TLOAD TSTORE
0: BALANCE SLOAD SSTORE CALL DELEGATECALL STATICCALL CREATE2`

// numbers are the operations' numbers, to the base 16, by their names.
const numbers = `
00 STOP 01 ADD 02 MUL 03 SUB 04 DIV 06 MOD 10 LT 11 GT 14 EQ 15 ISZERO 16 AND 17 OR 18 XOR 19 NOT 1b SHL 1c SHR 20 HASH
30 ADDRESS 31 BALANCE 32 ORIGIN 33 CALLER 34 CALLVALUE 35 DATALOAD 36 DATASIZE 37 DATACOPY 3d RETURNSIZE 3e RETURNCOPY
42 TIME 43 NUMBER 47 SELFBALANCE 48 BASEFEE 50 POP 51 MLOAD 52 MSTORE 53 MSTORE8 54 SLOAD 55 SSTORE 56 JUMP 57 JUMPI
5a GAS 5b JUMPDEST 5c TLOAD 5d TSTORE f1 CALL f3 RETURN f4 DELEGATECALL f5 CREATE2 fa STATICCALL fd REVERT fe INVALID`

// noGas is more than there ever is.
const noGas = 1 << 40

// costsOfAll are the costs in any case of all operations that there are, by their numbers.
func costsOfAll() map[byte]uint64 {
	byName, all := map[string]uint64{}, map[byte]uint64{}
	for _, line := range strings.Split(strings.TrimSpace(inAnyCase), "\n") {
		cost, names, _ := strings.Cut(line, ":")
		for _, name := range strings.Fields(names) {
			byName[name] = number(cost, 10)
		}
	}
	words := strings.Fields(numbers)
	for i := 0; i < len(words); i += 2 {
		all[byte(number(words[i], 16))] = byName[words[i+1]]
	}
	for name, row := range map[string][2]int{"PUSH": {0x60, 0x7f}, "DUP": {0x80, 0x8f}, "SWAP": {0x90, 0x9f}} {
		for op := row[0]; op <= row[1]; op++ {
			all[byte(op)] = byName[name]
		}
	}
	return all
}

// number reads a number to that base.
func number(text string, base int) uint64 {
	n, ok := new(big.Int).SetString(text, base)
	if !ok {
		panic(text)
	}
	return n.Uint64()
}

// great answers n as a number that never runs over.
func great(n uint64) *big.Int { return new(big.Int).SetUint64(n) }

// greatWord answers a word as one.
func greatWord(w api.Word) *big.Int { return new(big.Int).SetBytes(word.Bytes(w)) }

// plus and times are the sum and the product of numbers.
func plus(l ...*big.Int) *big.Int {
	sum := new(big.Int)
	for _, n := range l {
		sum.Add(sum, n)
	}
	return sum
}

func times(a, b *big.Int) *big.Int { return new(big.Int).Mul(a, b) }

// cost answers a number as a cost: NoGas, if it is that, or more.
func cost(n *big.Int) uint64 {
	if n.Cmp(great(noGas)) >= 0 {
		return noGas
	}
	return n.Uint64()
}

// plainWords is how many times 32 hold n bytes.
func plainWords(n uint64) *big.Int {
	return new(big.Int).Div(plus(great(n), great(31)), great(32))
}

// plainHeld is what memory of the words of n bytes costs.
func plainHeld(n uint64) *big.Int {
	w := plainWords(n)
	return plus(times(great(3), w), new(big.Int).Div(times(w, w), great(512)))
}

func plainMemory(from, to uint64) uint64 {
	switch {
	case to <= from:
		return 0
	case to > 1024:
		return noGas
	}
	return new(big.Int).Sub(plainHeld(to), plainHeld(from)).Uint64()
}

func plainEnd(at, n api.Word) uint64 {
	if n == (api.Word{}) {
		return 0
	}
	return cost(plus(greatWord(at), greatWord(n)))
}

// plainSpend is what Spend has to answer.
func plainSpend(left uint64, l ...uint64) (uint64, bool) {
	rest := great(left)
	for _, n := range l {
		rest.Sub(rest, great(n))
	}
	if rest.Sign() < 0 {
		return 0, false
	}
	return rest.Uint64(), true
}

// dice throw numbers that are the same each time.
type dice struct{ seed uint64 }

func (d *dice) next() uint64 {
	d.seed = d.seed*6364136223846793005 + 1442695040888963407
	return d.seed>>33 ^ d.seed<<31
}

// upTo throws a number from 0 to most.
func (d *dice) upTo(most uint64) uint64 { return d.next() % (most + 1) }

// any throws a number of any length, often near one of those at which something changes.
func (d *dice) any() uint64 {
	switch d.next() % 4 {
	case 0:
		return d.next() >> (d.next() % 64)
	case 1:
		return 1<<(d.next()%64) - 3 + d.next()%6
	case 2:
		return edges()[d.next()%uint64(len(edges()))]
	}
	return d.next() % 2000
}

// word throws a word, often one whose upper limbs are 0.
func (d *dice) word() api.Word {
	w := api.Word{d.any()}
	for i := 1; i < len(w) && d.next()%3 == 0; i++ {
		w[i] = d.any()
	}
	return w
}

// edges are numbers at which something changes, one less and one more.
func edges() []uint64 {
	var all []uint64
	for _, n := range []uint64{
		1, 32, 64, 1000, 1024, noGas,
		// As many bytes as cost NoGas when they are hashed, copied, laid, created from.
		noGas / 6 * 32, noGas / 3 * 32, noGas / 20, (noGas - 3200) / 6 * 32, noGas * 32,
		// Bytes whose product with a cost runs over, and whose sum does.
		1<<64/20 + 1, 1 << 63, 1<<64 - 32, 1<<64 - 2,
	} {
		for near := n - 1; near != n+2; near++ {
			all = append(all, near)
		}
		for _, step := range []uint64{31, 32, 33} {
			all = append(all, n+step, n-step)
		}
	}
	return all
}
