package bigsize

import (
	"bytes"
	"testing"

	"tollhouse/api"
)

// forms are numbers at the document's edges, and their bytes.
func forms() map[uint64][]byte {
	return map[uint64][]byte{
		0:                  {0},
		1:                  {1},
		0xFC:               {0xFC},
		0xFD:               {0xFD, 0, 0xFD},
		0xFE:               {0xFD, 0, 0xFE},
		0xFF:               {0xFD, 0, 0xFF},
		0x100:              {0xFD, 1, 0},
		0xABCD:             {0xFD, 0xAB, 0xCD},
		0xFFFF:             {0xFD, 0xFF, 0xFF},
		0x10000:            {0xFE, 0, 1, 0, 0},
		0x01020304:         {0xFE, 1, 2, 3, 4},
		0xFFFFFFFF:         {0xFE, 0xFF, 0xFF, 0xFF, 0xFF},
		0x100000000:        {0xFF, 0, 0, 0, 1, 0, 0, 0, 0},
		0x0102030405060708: {0xFF, 1, 2, 3, 4, 5, 6, 7, 8},
		1 << 63:            {0xFF, 0x80, 0, 0, 0, 0, 0, 0, 0},
		1<<64 - 1:          {0xFF, 0xFF, 0xFF, 0xFF, 0xFF, 0xFF, 0xFF, 0xFF, 0xFF},
	}
}

// P1.1: a number has one form, which Put writes, Size counts and Read reads, whatever stands behind.
func TestNumbers(t *testing.T) {
	for x, form := range forms() {
		if got := Put(nil, x); !bytes.Equal(got, form) {
			t.Errorf("Put(nil, %d) = % X, want % X", x, got, form)
		}
		if got := Put([]byte("ab"), x); !bytes.Equal(got, append([]byte("ab"), form...)) {
			t.Errorf("Put(ab, %d) = % X", x, got)
		}
		if got := Size(x); got != len(form) {
			t.Errorf("Size(%d) = %d, want %d", x, got, len(form))
		}
		for _, tail := range []string{"", "\x00", "\xFF\xFF"} {
			got, n, e := Read(append(bytes.Clone(form), tail...))
			if got != x || n != len(form) || e != api.OK {
				t.Errorf("Read(% X and %q) = %d, %d, %d", form, tail, got, n, e)
			}
		}
	}
}

// P1.1: where a number ends too soon, Read answers ErrCode and zeros.
func TestReadShort(t *testing.T) {
	for _, form := range forms() {
		for n := range form {
			wantNoNumber(t, form[:n])
		}
	}
}

// P1.1: where a number is longer than it must be, likewise.
func TestReadLonger(t *testing.T) {
	for _, b := range [][]byte{
		{0xFD, 0, 0},
		{0xFD, 0, 0x10},
		{0xFD, 0, 0xFC},
		{0xFE, 0, 0, 0, 0},
		{0xFE, 0, 0, 0, 0xFD},
		{0xFE, 0, 0, 0xFF, 0xFF},
		{0xFF, 0, 0, 0, 0, 0, 0, 0, 0},
		{0xFF, 0, 0, 0, 0, 0, 0, 0xFF, 0xFF},
		{0xFF, 0, 0, 0, 0, 0xFF, 0xFF, 0xFF, 0xFF},
	} {
		wantNoNumber(t, b)
	}
}

func wantNoNumber(t *testing.T, b []byte) {
	t.Helper()
	if x, n, e := Read(b); x != 0 || n != 0 || e != api.ErrCode {
		t.Errorf("Read(% X) = %d, %d, %d, want 0, 0, ErrCode", b, x, n, e)
	}
}

// P1.1, R3: Put answers new memory, and leaves alone what lies behind its argument's end.
func TestPutTakesNewMemory(t *testing.T) {
	room := []byte("abXXXXXXXXXXXX")
	for x := range forms() {
		got := Put(room[:2], x)
		for i := range got {
			got[i] = '?'
		}
		got = got[:cap(got)]
		for i := range got {
			got[i] = '?'
		}
		if string(room) != "abXXXXXXXXXXXX" {
			t.Fatalf("Put(ab, %d) shares memory with its argument: %q", x, room)
		}
	}
}
