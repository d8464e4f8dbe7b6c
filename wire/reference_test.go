package wire_test

import (
	"encoding/hex"
	"fmt"
	"math"
	"math/big"
	"regexp"
	"strconv"
	"strings"

	"chordmail/api"
)

// The reference has forms as texts of hexadecimal digits. It takes a real apart, and lays it together, by powers of 2, and reads by patterns that leave out what may not be, so that it shares no step with the package.

// A real's digits: not all of the exponent's bits are ones; or they are, and it is infinite; or it is the one pattern of what is no number.
const realDigits = `(?:[0-689a-e]..|[7f][0-9a-e].|[7f]f[0-9a-e]).{13}|[7f]ff0{13}|7ff8000000000001`

var (
	intForm  = regexp.MustCompile(`^01(.{16})`)
	realForm = regexp.MustCompile(`^02(` + realDigits + `)`)
	compForm = regexp.MustCompile(`^03(` + realDigits + `)(` + realDigits + `)`)
	textHead = regexp.MustCompile(`^04(00..|0100)`)
	listHead = regexp.MustCompile(`^0([0-6])`)
	mailHead = regexp.MustCompile(`^000(.{5})(0[1-9a-f]|1.|20)`)
)

func refReal(f float64) string {
	sign, size := 0, math.Abs(f)
	if math.Signbit(f) {
		sign = 1
	}
	power, part := 0, 0.0
	switch fraction, exponent := math.Frexp(size); {
	case f != f:
		return "7ff8000000000001"
	case size > math.MaxFloat64:
		power = 2047
	case size < math.Ldexp(1, -1022):
		part = math.Ldexp(math.Ldexp(size, 537), 537)
	default:
		power, part = exponent+1022, math.Ldexp(2*fraction-1, 52)
	}
	return fmt.Sprintf("%03x%013x", sign*2048+power, int64(part))
}

func refRealOf(digits string) float64 {
	if digits == "7ff8000000000001" {
		return math.NaN()
	}
	head, _ := strconv.ParseInt(digits[:3], 16, 64)
	part, _ := strconv.ParseInt(digits[3:], 16, 64)
	size := 0.0
	switch power := int(head % 2048); power {
	case 0:
		size = math.Ldexp(float64(part), -1074)
	case 2047:
		size = math.Inf(1)
	default:
		size = math.Ldexp(float64(part+1<<52), power-1075)
	}
	if head >= 2048 {
		return -size
	}
	return size
}

// past is 2 to the power 64.
var past = new(big.Int).Lsh(big.NewInt(1), 64)

func refInt(n int64) string {
	return fmt.Sprintf("%016x", new(big.Int).Mod(big.NewInt(n), past))
}

func refIntOf(digits string) int64 {
	n, _ := new(big.Int).SetString(digits, 16)
	if n.Bit(63) == 1 {
		n.Sub(n, past)
	}
	return n.Int64()
}

// refValue is a value's form; false, if it has none.
func refValue(v api.Value) (string, bool) {
	switch {
	case v.Kind == 1:
		return "01" + refInt(v.Int), true
	case v.Kind == 2:
		return "02" + refReal(v.Real), true
	case v.Kind == 3:
		return "03" + refReal(real(v.Comp)) + refReal(imag(v.Comp)), true
	case v.Kind == 4 && len(v.Text) <= 256:
		return fmt.Sprintf("04%04x%x", len(v.Text), v.Text), true
	}
	return "", false
}

func refSize(v api.Value) int {
	return map[int]int{1: 8, 2: 8, 3: 16, 4: len(v.Text)}[v.Kind]
}

func refPayload(l []api.Value) (string, bool) {
	forms, size := []string{fmt.Sprintf("%02x", len(l))}, 0
	for _, v := range l {
		form, ok := refValue(v)
		if !ok {
			return "", false
		}
		forms = append(forms, form)
		size += refSize(v)
	}
	return strings.Join(forms, ""), len(l) <= 6 && size <= 1024
}

func refMessage(m api.Message) (string, bool) {
	list, ok := refPayload(m.Payload)
	return fmt.Sprintf("%08x%02x%x", m.ID, len(m.Tag), m.Tag) + list, ok && m.ID >= 0 && m.ID <= 1048575 && m.Tag != "" && len(m.Tag) <= 32
}

// refPlain is a value with nothing in the fields that its kind does not name.
func refPlain(v api.Value) api.Value {
	one := func(f float64) float64 {
		if f != f {
			return math.NaN()
		}
		return f
	}
	switch v.Kind {
	case 1:
		return whole(v.Int)
	case 2:
		return scaled(one(v.Real))
	case 3:
		return pair(one(real(v.Comp)), one(imag(v.Comp)))
	}
	return said(v.Text)
}

func refPlainPayload(l []api.Value) []api.Value {
	var plain []api.Value
	for _, v := range l {
		plain = append(plain, refPlain(v))
	}
	return plain
}

func refPlainMessage(m api.Message) api.Message {
	return mail(m.ID, m.Tag, refPlainPayload(m.Payload)...)
}

// refText is the text whose bytes these digits are the first of; false, if there are fewer.
func refText(digits string, many int) (string, bool) {
	if len(digits) < 2*many {
		return "", false
	}
	text, err := hex.DecodeString(digits[:2*many])
	return string(text), err == nil
}

// refReadValue is the value with whose form the digits begin, and how many digits that has; false, if they begin with none.
func refReadValue(digits string) (api.Value, int, bool) {
	if m := intForm.FindStringSubmatch(digits); m != nil {
		return whole(refIntOf(m[1])), len(m[0]), true
	}
	if m := realForm.FindStringSubmatch(digits); m != nil {
		return scaled(refRealOf(m[1])), len(m[0]), true
	}
	if m := compForm.FindStringSubmatch(digits); m != nil {
		return pair(refRealOf(m[1]), refRealOf(m[2])), len(m[0]), true
	}
	if m := textHead.FindStringSubmatch(digits); m != nil {
		many := int(refIntOf(m[1]))
		text, ok := refText(digits[len(m[0]):], many)
		return said(text), len(m[0]) + 2*many, ok
	}
	return api.Value{}, 0, false
}

func refReadPayload(digits string) ([]api.Value, int, bool) {
	m := listHead.FindStringSubmatch(digits)
	if m == nil {
		return nil, 0, false
	}
	var l []api.Value
	at, size := 2, 0
	for range refIntOf(m[1]) {
		v, many, ok := refReadValue(digits[at:])
		if !ok {
			return nil, 0, false
		}
		l = append(l, v)
		at += many
		size += refSize(v)
	}
	return l, at, size <= 1024
}

func refReadMessage(digits string) (api.Message, int, bool) {
	m := mailHead.FindStringSubmatch(digits)
	if m == nil {
		return api.Message{}, 0, false
	}
	many := int(refIntOf(m[2]))
	tag, ok := refText(digits[len(m[0]):], many)
	if !ok {
		return api.Message{}, 0, false
	}
	at := len(m[0]) + 2*many
	l, size, ok := refReadPayload(digits[at:])
	return mail(int(refIntOf(m[1])), tag, l...), at + size, ok
}

// row is a message and the place behind it.
type row struct {
	m  api.Message
	at int
}

func (r row) String() string {
	return fmt.Sprintf("%d: %d %.40q %.200q", r.at, r.m.ID, r.m.Tag, fmt.Sprint(r.m.Payload))
}

func refRows(b []byte) []row {
	var l []row
	for digits, at := hex.EncodeToString(b), 0; ; {
		m, many, ok := refReadMessage(digits[at:])
		if !ok {
			return l
		}
		at += many
		l = append(l, row{m, at / 2})
	}
}

// bytesOf are the bytes that hexadecimal digits are; blanks between them are not looked at.
func bytesOf(digits string) []byte {
	b, err := hex.DecodeString(strings.ReplaceAll(digits, " ", ""))
	if err != nil {
		panic(digits)
	}
	return b
}
